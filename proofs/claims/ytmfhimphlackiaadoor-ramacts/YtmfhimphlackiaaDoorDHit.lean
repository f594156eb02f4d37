/-
  A store into the document's memory, of which pages may be watched.
-/
import Derived.Test.YtmfhimphlackiaaDoorDCopy
import Derived.Test.YtmfhimphlackiaaDoorKeptW
namespace Go.Proofs.YtmfhimphlackiaaDoor
open Go.RowKit Go.Maps
open Num
set_option linter.unusedVariables false
def hitN (wt ht : Int → Bool) (a : Int) : Int → Bool := fun p => ht p || (wt p && decide (p = a / 256))
theorem DMem.blk {w w' : World} {rb gb kb hb : Nat} {m : Nat → Int} {wt ht : Int → Bool} (D : DMem w rb gb kb hb m wt ht) (h : ∀ k, k = rb ∨ k = gb ∨ k = kb ∨ k = hb → w'.heap[k]? = w.heap[k]?) : DMem w' rb gb kb hb m wt ht := by
  have c : ∀ (k j : Nat) (v : Value), k = rb ∨ k = gb ∨ k = kb ∨ k = hb → w.cell? ⟨k, j, none⟩ = some v → w'.cell? ⟨k, j, none⟩ = some v := fun k j v hk e => (World.cell?_of_block (a := ⟨k, j, none⟩) (h k hk)).trans e
  have f : ∀ (k j : Nat), k = rb ∨ k = gb ∨ k = kb ∨ k = hb → w.frozen? ⟨k, j, none⟩ = false → w'.frozen? ⟨k, j, none⟩ = false := fun k j hk e => (World.frozen?_of_block (a := ⟨k, j, none⟩) (h k hk)).trans e
  exact ⟨D.d.blocks (fun k hk => h k (by rcases hk with h | h | h <;> simp [h])), c _ _ _ (by simp) D.c2, fun p hp => c _ _ _ (by simp) (D.hc p hp), fun p => f _ _ (by simp) (D.fk p), fun p => f _ _ (by simp) (D.fh p), D.ng, D.nr, D.nk, D.kr, fun p => f _ _ (by simp) (D.fr p)⟩
theorem DMem.lts {w : World} {rb gb kb hb : Nat} {m : Nat → Int} {wt ht : Int → Bool} (D : DMem w rb gb kb hb m wt ht) {k : Nat} (h : k = rb ∨ k = gb ∨ k = kb ∨ k = hb) : k < w.heap.size := by
  rcases h with h | h | h | h
  · exact D.d.lt (Or.inl h)
  · exact D.d.lt (Or.inr (Or.inl h))
  · exact D.d.lt (Or.inr (Or.inr h))
  · subst h; exact World.block_lt_of_cell? _ _ (D.hc 0 (by omega))
/-- the words alone are turned -/
theorem DMem.words {w w' : World} {rb gb kb hb : Nat} {m m' : Nat → Int} {wt ht : Int → Bool} (D : DMem w rb gb kb hb m wt ht) (d : DRam w' rb gb kb m' wt) (g : w.grownBy w' (some gb)) : DMem w' rb gb kb hb m' wt ht := by
  have h : ∀ k, k = rb ∨ k = kb ∨ k = hb → w'.heap[k]? = w.heap[k]? := fun k hk => g.block k (D.lts (by rcases hk with h | h | h <;> simp [h])) (by
    have a1 := D.d.nr; have a2 := D.d.nk; have a3 := D.ng
    rcases hk with rfl | rfl | rfl <;> simp <;> omega)
  have c : ∀ (k j : Nat) (v : Value), k = rb ∨ k = kb ∨ k = hb → w.cell? ⟨k, j, none⟩ = some v → w'.cell? ⟨k, j, none⟩ = some v := fun k j v hk e => (World.cell?_of_block (a := ⟨k, j, none⟩) (h k hk)).trans e
  have f : ∀ (k j : Nat), k = rb ∨ k = kb ∨ k = hb → w.frozen? ⟨k, j, none⟩ = false → w'.frozen? ⟨k, j, none⟩ = false := fun k j hk e => (World.frozen?_of_block (a := ⟨k, j, none⟩) (h k hk)).trans e
  exact ⟨d, c _ _ _ (by simp) D.c2, fun p hp => c _ _ _ (by simp) (D.hc p hp), fun p => f _ _ (by simp) (D.fk p), fun p => f _ _ (by simp) (D.fh p), D.ng, D.nr, D.nk, D.kr, fun p => f _ _ (by simp) (D.fr p)⟩
theorem kept_grown {w w' : World} {g : Nat} (h : w.grownBy w' (some g)) : Kept w w' (· = g) := ⟨h.os, h.tape, h.output, h.size, fun k hk hx => h.block k hk (by intro e; exact hx (Option.some.inj e))⟩
theorem DMem.hit {w : World} {rb gb kb hb : Nat} {m : Nat → Int} {wt ht : Int → Bool} (D : DMem w rb gb kb hb m wt ht) (j : Nat) (hj : j < 64) (ht' : Int → Bool) (h : ∀ p : Nat, p < 64 → ht' p = if p = j then true else ht p) : DMem (w.setCell ⟨hb, j, none⟩ (.bool true)) rb gb kb hb m wt ht' :=
  (D.flagH j hj true ht' h).blk fun k _ => rfl
set_option maxRecDepth 100000 in
set_option maxHeartbeats 1000000 in
theorem dstoreH_ok {w : World} {rb gb kb hb : Nat} {m : Nat → Int} {wt ht : Int → Bool} (M : DMem w rb gb kb hb m wt ht) (a s v : Int) (h0 : 0 ≤ a) (h1 : a < 4294967296) (v0 : 0 ≤ v) (v1 : v < 4294967296) (hc : chk a s = 0) : Calls Tryd.prog 19 #[.pointer (some ⟨rb, 0, none⟩), .int .u32 a, .int .i64 s, .int .u32 v] w fun e w' => e = .returned (.int .i64 0) ∧ DMem w' rb gb kb hb (upd m a s v) wt (hitN wt ht a) ∧ Kept w w' (fun k => k = gb ∨ k = hb) := by
  obtain ⟨hs, hm, hf⟩ := chk_ok hc
  have hre := reach_any a s h0 h1 (by omega) (by omega) w
  rw [rc_ok hc] at hre
  have s0 : 1 ≤ s := by omega
  have s1 : s ≤ 4 := by omega
  have hgo : a + s ≤ 16384 := by rcases hs with rfl | rfl | rfl <;> omega
  have HP : Hid (puts m a s v s.toNat = upd m a s v) := puts_all m a s v h0 hs hm v0 v1 M.d.mb
  have DH : Hid (DRam w rb gb kb m wt) := M.d
  have MH : Hid (DMem w rb gb kb hb m wt ht) := M
  clear M hc hm hs
  go_enter Tryd.func19, Tryd.ntmps19
  go_wp2_with fail
  refine hre.mono ?_
  rintro e w' ⟨rfl, rfl⟩
  clear hre
  go_wp2_with fail
  go_loopw [10] (fun i wr => ∃ j : Nat, (j : Int) ≤ s ∧ i = .int .i64 j ∧ Hid (DRam wr rb gb kb (puts m a s v j) wt) ∧ Hid (w'.grownBy wr (some gb))) (fun i _ => s.toNat - (intOf i).toNat)
  case atStart => exact ⟨0, by omega, rfl, DH.out, dgrown_refl _ _⟩
  case round =>
    obtain ⟨j, hj, rfl, DR, GR⟩ := hrel
    by_cases hlt : (j : Int) < s
    · have hpa := part_any v (8 * (s - 1 - j)) 8 v0 v1 (by omega) (by omega) (by omega) (by omega) wr
      rw [pw8, pw_b s j (by omega) (by omega)] at hpa
      have hb : 0 ≤ bOf v s j ∧ bOf v s j < 256 := by unfold bOf; omega
      have hpu := put_any DR.out (a + j) (bOf v s j) (by omega) (by omega) hb.1 hb.2
      have e : v / 2 ^ (8 * (s - 1 - (j : Int))).toNat % 256 = bOf v s j := rfl
      rw [e] at hpa
      have HN : Hid (puts m a s v (j + 1) = upd (puts m a s v j) (a + j) 1 (bOf v s j)) := rfl
      clear e
      generalize bOf v s j = bo at *
      obtain ⟨b0, b1⟩ := hb
      go_wp2_with fail
      refine hpa.mono ?_
      rintro e w'' ⟨rfl, rfl⟩
      clear hpa
      go_wp2_with fail
      refine hpu.mono ?_
      rintro e w2 ⟨rfl, D2, G2⟩
      clear hpu
      go_wp2
      go_roundw
      case rel => exact ⟨j + 1, by omega, by go_num, by show DRam _ _ _ _ _ _; rw [HN.out]; exact D2, dgrown_trans GR.out G2⟩
      case measure => simp [intOf]; omega
    · have hjn : j = s.toNat := by omega
      have D2 : Hid (DRam wr rb gb kb (upd m a s v) wt) := by show DRam _ _ _ _ _ _; rw [← HP.out, ← hjn]; exact DR.out
      have M2 : Hid (DMem wr rb gb kb hb (upd m a s v) wt ht) := MH.out.words D2.out GR.out
      have c1 := D2.out.c1
      have c2 := M2.out.c2
      have hw := D2.out.wc (a / 256).toNat (by omega)
      have hh := M2.out.hc (a / 256).toNat (by omega)
      have hz := M2.out.fh (a / 256).toNat
      rw [show (((a / 256).toNat : Nat) : Int) = a / 256 by omega] at hw hh
      have KR : Hid (Kept w' wr (fun k => k = gb ∨ k = hb)) := (kept_grown GR.out).mono fun k h => Or.inl h
      have hb1 : (a / 256).toNat < 64 := by omega
      clear DR hjn HP GR D2 DH
      cases hwt : wt (a / 256) with
      | false =>
        rw [hwt] at hw
        have F : Hid (DMem wr rb gb kb hb (upd m a s v) wt (hitN wt ht a)) := M2.out.same (fun _ _ => rfl) (fun p hp => by
          unfold hitN
          by_cases e : (p : Int) = a / 256
          · rw [e, hwt]; simp
          · simp [e])
        clear hwt
        go_wp2
        go_ret
        exact ⟨rfl, F.out, KR.out⟩
      | true =>
        rw [hwt] at hw
        have F : Hid (DMem (wr.setCell ⟨hb, (a / 256).toNat, none⟩ (.bool true)) rb gb kb hb (upd m a s v) wt (hitN wt ht a)) := M2.out.hit (a / 256).toNat hb1 _ (fun p hp => by
          unfold hitN
          by_cases e : p = (a / 256).toNat
          · rw [if_pos e, show (p : Int) = a / 256 by omega, hwt]; simp
          · rw [if_neg e, show decide ((p : Int) = a / 256) = false by simp; omega]; simp)
        have K2 : Hid (Kept w' (wr.setCell ⟨hb, (a / 256).toNat, none⟩ (.bool true)) (fun k => k = gb ∨ k = hb)) := KR.out.trans (Kept.setCell wr ⟨hb, (a / 256).toNat, none⟩ _ (· = hb) rfl) (fun k _ h => Or.inr h)
        clear hwt
        go_wp2
        go_ret
        exact ⟨rfl, F.out, K2.out⟩
end Go.Proofs.YtmfhimphlackiaaDoor
