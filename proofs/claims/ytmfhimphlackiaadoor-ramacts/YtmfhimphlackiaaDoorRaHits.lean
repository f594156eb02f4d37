/-
  The document's hits: the pages in their order; then none.
-/
import Derived.Test.YtmfhimphlackiaaDoorRaPure
import Derived.Test.YtmfhimphlackiaaDoorDHit
import Derived.Test.YtmfhimphlackiaaDoorRow
namespace Go.Proofs.YtmfhimphlackiaaDoor
open Go.RowKit Go.Maps
open Num
set_option linter.unusedVariables false
theorem infoIntD : (Tryd.prog.info? 3).map (fun i => (i.zero, i.size, i.bytes)) = some (some (.int .i64 0), 1, 8) := by kernel_rfl
theorem DMem.unhit {w : World} {rb gb kb hb : Nat} {m : Nat → Int} {wt ht : Int → Bool} (D : DMem w rb gb kb hb m wt ht) (j : Nat) (hj : j < 64) (ht' : Int → Bool) (h : ∀ p : Nat, p < 64 → ht' p = if p = j then false else ht p) : DMem (w.setCell ⟨hb, j, none⟩ (.bool false)) rb gb kb hb m wt ht' :=
  (D.flagH j hj false ht' h).blk fun k _ => rfl
theorem own_shape {w : World} {base t n : Nat} {v : Value} {xs : List Value} (h : w.ownsRow base t 1 v n xs) : ∃ ao cap, v = .slice ao n cap := by
  rcases h.2 with ⟨e, h0⟩ | ⟨g, cap, cur, e, _⟩
  · exact ⟨none, 0, by rw [e, h0]⟩
  · exact ⟨_, cap, e⟩
set_option maxRecDepth 100000 in
set_option maxHeartbeats 4000000 in
theorem hitsD_any {w : World} {rb gb kb hb : Nat} {m : Nat → Int} {wt ht : Int → Bool} (D : DMem w rb gb kb hb m wt ht) :
    Calls Tryd.prog 23 #[.pointer (some ⟨rb, 0, none⟩)] w fun e w' => ∃ v, e = .returned v ∧ w'.ownsRow w.heap.size 3 1 v (hitL ht 64).length ((hitL ht 64).map encZ) ∧ Kept w w' (· = hb) ∧ DMem w' rb gb kb hb m wt (fun _ => false) := by
  obtain ⟨i0, hi, iz0, iz1, iz2⟩ := info_parts infoIntD
  have DH : Hid (DMem w rb gb kb hb m wt ht) := D
  have hlt : hb < w.heap.size := D.lts (by simp)
  clear D
  go_enter Tryd.func23, Tryd.ntmps23
  go_wp2_with fail
  go_loopw [3, 4] (fun v i wr => ∃ (j : Nat), j ≤ 64 ∧ i = .int .i64 j ∧ Hid (wr.ownsRow w.heap.size 3 1 v (hitL ht j).length ((hitL ht j).map encZ)) ∧ Hid (DMem wr rb gb kb hb m wt (fun p => decide ((j : Int) ≤ p) && ht p)) ∧ Hid (Kept w wr (· = hb))) (fun _ i _ => 64 - (intOf i).toNat)
  case atStart =>
    refine ⟨0, by omega, rfl, World.ownsRow_nil _ _ _ _, DH.out.same (fun _ _ => rfl) (fun p hp => ?_), Kept.refl _ _⟩
    show ht p = (decide (((0 : Nat) : Int) ≤ (p : Int)) && ht p)
    rw [show decide (((0 : Nat) : Int) ≤ (p : Int)) = true by simp]; simp
  case round =>
    obtain ⟨j, hj, rfl, OR, DR, KR⟩ := hrel
    by_cases hlt64 : j < 64
    · have c2 := DR.out.c2
      have hc := DR.out.hc j hlt64
      have hf := DR.out.fh j
      have ed : (decide ((j : Int) ≤ (j : Int)) && ht j) = ht j := by simp
      rw [ed] at hc
      have hlt' : (j : Int) < 64 := by omega
      clear ed
      obtain ⟨ao, cap, hv⟩ := own_shape OR.out
      subst hv
      cases hh : ht j with
      | false =>
        rw [hh] at hc
        have hn : hitL ht (j + 1) = hitL ht j := by simp [hitL, hh]
        have D2 : Hid (DMem wr rb gb kb hb m wt (fun p => decide (((j + 1 : Nat) : Int) ≤ p) && ht p)) := DR.out.same (fun _ _ => rfl) (fun p hp => by
          by_cases e : p = j
          · subst e; rw [hh]; simp
          · have : decide ((j : Int) ≤ (p : Int)) = decide (((j + 1 : Nat) : Int) ≤ (p : Int)) := by simp; omega
            rw [this])
        clear hh
        go_wp2
        go_roundw
        case rel => exact ⟨j + 1, by omega, by go_num, by rw [hn]; exact OR.out, D2.out, KR.out⟩
        case measure => simp [intOf]; omega
      | true =>
        rw [hh] at hc
        have hn : hitL ht (j + 1) = hitL ht j ++ [(j : Int)] := by simp [hitL, hh]
        have hle := hitL_len ht j
        have hz : w.heap.size ≤ wr.heap.size := KR.out.size
        have hal := (Below.refl wr.heap.size wr).alloc (Nat.le_refl _) (.cells #[.int .i64 (j : Int)] 3)
        have O2 : Hid ((wr.alloc (.cells #[.int .i64 (j : Int)] 3)).ownsRow w.heap.size 3 1 (.slice ao (hitL ht j).length cap) (hitL ht j).length ((hitL ht j).map encZ)) := OR.out.alloc _
        have hnews : ∀ (q : Nat) (u : Value), [Value.int .i64 (j : Int)][q]? = some u → (wr.alloc (.cells #[.int .i64 (j : Int)] 3)).cell? ((⟨wr.heap.size, 0, none⟩ : Addr).add q) = some u := by
          intro q u hq
          have : q = 0 := by
            have := (List.getElem?_eq_some_iff.1 hq).1; simp at this; omega
          subst this
          simp at hq; subst hq; simp [Addr.add]
        have fin : ∀ (v2 : Value) (w2 : World), w2.ownsRow w.heap.size 3 1 v2 ((hitL ht j).length + 1) ((hitL ht j).map encZ ++ [.int .i64 (j : Int)]) → (wr.alloc (.cells #[.int .i64 (j : Int)] 3)).grownBy w2 (Value.slice ao (hitL ht j).length cap).ownBlock → (∃ a2 c2, v2 = .slice a2 ((hitL ht j).length + 1) c2) ∧ DMem w2 rb gb kb hb m wt (fun p => decide ((j : Int) ≤ p) && ht p) ∧ Kept w w2 (· = hb) := by
          intro v2 w2 ho hg
          have hb2 : ∀ k, k < w.heap.size → w2.heap[k]? = wr.heap[k]? := fun k hk => (hg.block k (by simp; omega) (fun e => by have := (OR.out.lt k e.symm).1; omega)).trans (Below.heap_alloc wr _ k (by omega))
          refine ⟨own_shape ho, DR.out.blk (fun k hk => hb2 k (DH.out.lts hk)), ⟨hg.os.trans KR.out.os, hg.tape.trans KR.out.tape, hg.output.trans KR.out.output, by have := hg.size; simp at this; omega, fun k hk hx => (hb2 k hk).trans (KR.out.block k hk hx)⟩⟩
        have hs5 : w.heap.size ≤ (wr.alloc (.cells #[.int .i64 (j : Int)] 3)).heap.size := by simp; omega
        generalize hxs : (hitL ht j).map encZ = xs at *
        generalize hq : (hitL ht j).length = q at *
        clear hh
        go_upto_region 7 with (at_builtin; refine wpList_append_moved rfl _ _ 52 rfl w.heap.size 3 i0 _ 1 8 Tryd.underlying52 hi iz0 iz1 iz2 rfl (by decide) (.slice ao q cap) q xs rfl O2.out ⟨wr.heap.size, 0, none⟩ 1 1 [.int .i64 (j : Int)] rfl rfl hnews (by simp [Value.oneCell']) (by unfold maxLen; omega) (by omega) hs5 ?_; intro v2 w2 ho hg hm; obtain ⟨⟨a2, cp2, hv2⟩, D2, K2⟩ := fin v2 w2 ho hg; subst hv2; clear hm)
        have OW : Hid (w2.ownsRow w.heap.size 3 1 (.slice a2 (q + 1) cp2) (q + 1) (xs ++ [.int .i64 (j : Int)])) := ho
        have D2H : Hid _ := D2
        have K2H : Hid _ := K2
        clear ho hg fin O2 hnews DR KR OR c2 hc hf D2 K2 hs5 hal hz
        have c2 := D2H.out.c2
        have hc := D2H.out.hc j hlt64
        have hf := D2H.out.fh j
        have D3 : Hid (DMem (w2.setCell ⟨hb, j, none⟩ (.bool false)) rb gb kb hb m wt (fun p => decide (((j + 1 : Nat) : Int) ≤ p) && ht p)) := D2H.out.unhit j hlt64 _ (fun p hp => by
          by_cases e : p = j
          · subst e; rw [if_pos rfl]
            show (decide (((p + 1 : Nat) : Int) ≤ (p : Int)) && ht p) = false
            rw [show decide (((p + 1 : Nat) : Int) ≤ (p : Int)) = false by simp; omega]; rfl
          · rw [if_neg e]
            have : decide ((j : Int) ≤ (p : Int)) = decide (((j + 1 : Nat) : Int) ≤ (p : Int)) := by simp; omega
            rw [this])
        have K3 : Hid (Kept w (w2.setCell ⟨hb, j, none⟩ (.bool false)) (· = hb)) := K2H.out.put j _
        have O3 : Hid ((w2.setCell ⟨hb, j, none⟩ (.bool false)).ownsRow w.heap.size 3 1 (.slice a2 (q + 1) cp2) (q + 1) (xs ++ [.int .i64 (j : Int)])) := owns_blocks OW.out (fun k e => Below.heap_setCell w2 ⟨hb, j, none⟩ _ k (fun e2 => by have := (OW.out.lt k e).1; simp at e2; omega))
        go_wp2
        go_roundw
        case rel => exact ⟨j + 1, by omega, by go_num, by rw [hn, List.length_append, List.map_append, hq, hxs]; exact O3.out, D3.out, K3.out⟩
        case measure => simp [intOf]; omega
    · have hlt' : ¬ (j : Int) < 64 := by omega
      obtain rfl : j = 64 := by omega
      obtain ⟨ao, cap, hv⟩ := own_shape OR.out
      subst hv
      go_wp2
      go_ret
      refine ⟨_, rfl, OR.out, KR.out, DR.out.same (fun _ _ => rfl) (fun p hp => ?_)⟩
      show (decide (((64 : Nat) : Int) ≤ (p : Int)) && ht p) = false
      rw [show decide (((64 : Nat) : Int) ≤ (p : Int)) = false by simp; omega]; rfl
end Go.Proofs.YtmfhimphlackiaaDoor
