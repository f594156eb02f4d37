/-
  The document's keep: Put.
-/
import Derived.Test.YtcccaejjhodnkabGreatDoorQKmOwn
namespace Go.Proofs.YtcccaejjhodnkabGreatDoor
open Go.RowKit Go.Maps
open Num
set_option linter.unusedVariables false
theorem kept_news (w : World) (x : Kx) : ∀ (k : Nat) (u : Value), (kC x)[k]? = some u → (w.alloc (.cells #[.int .u32 x.pc, .int .i64 x.many, .slice x.ra x.rn x.rc, .slice x.ga x.gn x.gc] 51)).cell? ((⟨w.heap.size, 0, none⟩ : Addr).add k) = some u := by
  intro k u hk
  rw [add_lit, World.cell?_alloc_at _ _ _ _ rfl]
  rw [List.getElem?_toArray]; exact hk
theorem kC_one (x : Kx) : ∀ u ∈ kC x, u.oneCell' = true := by
  have := kL_one [x]
  rwa [show kL [x] = kC x by unfold kL; simp] at this
structure CkKm (W : World) (mb g o bx : Nat) (v : Value) (a b : Int) : Prop where
  m : W.cell? ⟨mb, 1, none⟩ = some v
  l : W.cell? ⟨g, o, none⟩ = some (.int .u32 a)
  b : W.cell? ⟨bx, 0, none⟩ = some (.int .u32 b)
set_option maxRecDepth 100000 in
set_option maxHeartbeats 4000000 in
theorem mput_any {w : World} {mb : Nat} {many : Int} {v : Value} {l : List Kx} (M : MRow w mb many v l) (hl : l.length ≤ 900) (x : Kx) :
    Calls Tryz.prog 12 #[.pointer (some ⟨mb, 0, none⟩), .agg #[.int .u32 x.pc, .int .i64 x.many, .slice x.ra x.rn x.rc, .slice x.ga x.gn x.gc]] w fun e w' => e = .returned (.tuple #[]) ∧ (∃ v', MRow w' mb many v' (cutK many (l.filter (othK x.pc) ++ [x])) ∧ ∀ k, v'.ownBlock = some k → w.heap.size ≤ k) ∧ w.grownBy w' (some mb) := by
  obtain ⟨i0, hi, iz0, iz1, iz2⟩ := info_parts infoKeptM
  obtain ⟨V, hV⟩ : ∃ V, w.alloc (.cells #[.int .u32 x.pc, .int .i64 x.many, .slice x.ra x.rn x.rc, .slice x.ga x.gn x.gc] 51) = V := ⟨_, rfl⟩
  have hbV : Below w.heap.size w V := by rw [← hV]; exact (Below.refl _ _).alloc (Nat.le_refl _) _
  have RV : RowIs V w.heap.size 51 4 (fun j => if j = 0 then .int .u32 x.pc else if j = 1 then .int .i64 x.many else if j = 2 then .slice x.ra x.rn x.rc else .slice x.ga x.gn x.gc) := by
    rw [← hV]
    exact ⟨#[.int .u32 x.pc, .int .i64 x.many, .slice x.ra x.rn x.rc, .slice x.ga x.gn x.gc], heap_alloc_new w _, rfl, fun j hj => by rcases (by omega : j = 0 ∨ j = 1 ∨ j = 2 ∨ j = 3) with rfl | rfl | rfl | rfl <;> rfl⟩
  have zV : w.heap.size < V.heap.size := RV.lt
  obtain ⟨ao, cap, rfl, hc, hh⟩ := M.l
  have HM : Hid (MRow w mb many (.slice ao l.length cap) l) := M
  have HV : Hid (Below w.heap.size w V) := hbV
  have HR : Hid (RowIs V w.heap.size 51 4 (fun j => if j = 0 then .int .u32 x.pc else if j = 1 then .int .i64 x.many else if j = 2 then .slice x.ra x.rn x.rc else .slice x.ga x.gn x.gc)) := RV
  have zm := M.lt
  clear M hh hbV RV
  go_enter Tryz.func12, Tryz.ntmps12
  go_wp2
  clear hV
  go_loopw [4, 5] (fun out i wr => ∃ j : Nat, j ≤ l.length ∧ i = .int .i64 j ∧ wr.ownsRow V.heap.size 51 4 out ((l.take j).filter (othK x.pc)).length (kL ((l.take j).filter (othK x.pc))) ∧ Below V.heap.size V wr) (fun _ i _ => l.length - (intOf i).toNat)
  case atStart => exact ⟨0, Nat.zero_le _, rfl, World.ownsRow_nil _ _ _ _, Below.refl _ _⟩
  case round =>
    obtain ⟨j, hj, rfl, ho, hB⟩ := hrel
    have hB0 : Below w.heap.size w wr := HV.out.trans (hB.mono (by omega))
    have MW := HM.out.stays hB0
    have RW := HR.out.stays hB
    have k1 := MW.c1
    have zk := MW.lt
    have zW := RW.lt
    have hs1 := hB.size
    by_cases hlt : j < l.length
    · obtain ⟨y, hy⟩ : ∃ y, l[j]? = some y := ⟨_, List.getElem?_eq_getElem hlt⟩
      obtain ⟨ao2, cap2, e2, _, hh⟩ := MW.l
      injection e2 with e3 _ e4
      subst e3
      subst e4
      obtain ⟨g, off, rfl, hgm, hcell⟩ := hh (by omega)
      obtain ⟨x0, x1, x2, x3⟩ := kept_cells (hcell j y hy)
      have zb := World.block_lt_of_cell? _ _ x0
      have hlt' : (j : Int) < l.length := by omega
      have b0 : wr.cell? ⟨w.heap.size, 0, none⟩ = some (.int .u32 x.pc) := RW.cell (j := 0) (by omega)
      have ck : CkKm wr mb g (off + j * 4) w.heap.size (.slice (some ⟨g, off, none⟩) l.length cap) y.pc x.pc := ⟨k1, x0, b0⟩
      have hfs := filt_snoc (othK x.pc) hy
      have HO : Hid (wr.ownsRow V.heap.size 51 4 u4 ((l.take j).filter (othK x.pc)).length (kL ((l.take j).filter (othK x.pc)))) := ho
      have HB : Hid (Below V.heap.size V wr) := hB
      have hn1 : ((l.take j).filter (othK x.pc)).length ≤ 900 := Nat.le_trans (List.length_filter_le _ _) (by rw [List.length_take]; omega)
      clear ho hB hh hcell hy MW RW hB0
      go_wp2
      refine wp_region_phase 11 [(0, 0), (1, 0), (2, 0), (3, 1), (4, 0), (5, 0), (6, 0), (7, 1), (8, 0), (9, 1), (10, 0)] (fun W => CkKm W mb g (off + j * 4) w.heap.size (.slice (some ⟨g, off, none⟩) l.length cap) y.pc x.pc) (by kernel_rfl) (by kernel_rfl) (fun _ _ _ d _ h => by cases d <;> exact h) ⟨by simpa using ck.m, by simpa using ck.l, by simpa using ck.b⟩ ?_
      repeat (first | (refine wpPlanZ_free (by rfl) (by rfl) (fun W => by (go_simp; try with_reducible rfl)) (fun K hK => ?_); go_simp; refine hK _ ?_; clear hK K) | (refine wpPlanZ_quiet (by rfl) (by rfl) (fun W hW => by (obtain ⟨s0, s1, s2⟩ := hW; go_simp; try with_reducible rfl)) (fun K hK => ?_); go_simp; refine hK _ ?_; clear hK K))
      refine wpPlanZ_nil ?_
      clear ck
      have k1d : wr.drew.cell? ⟨mb, 1, none⟩ = some (.slice (some ⟨g, off, none⟩) l.length cap) := k1
      have x0d : wr.drew.cell? ⟨g, off + j * 4, none⟩ = some (.int .u32 y.pc) := x0
      have x1d : wr.drew.cell? ⟨g, off + j * 4 + 1, none⟩ = some (.int .i64 y.many) := x1
      have x2d : wr.drew.cell? ⟨g, off + j * 4 + 2, none⟩ = some (.slice y.ra y.rn y.rc) := x2
      have x3d : wr.drew.cell? ⟨g, off + j * 4 + 3, none⟩ = some (.slice y.ga y.gn y.gc) := x3
      have hdr : Below wr.heap.size wr wr.drew := (Below.refl _ _).drew
      have hsd : wr.drew.heap.size = wr.heap.size := rfl
      by_cases hp : y.pc = x.pc
      · have hp' : (y.pc != x.pc) = false := by simpa using hp
        have HN : Hid (wr.drew.ownsRow V.heap.size 51 4 u4 ((l.take (j + 1)).filter (othK x.pc)).length (kL ((l.take (j + 1)).filter (othK x.pc)))) := by
          show World.ownsRow _ _ _ _ _ _ _
          have : othK x.pc y = false := by simp [othK, hp]
          rw [hfs, this]; simp only [Bool.false_eq_true, if_false, List.append_nil]; exact owns_blocks HO.out fun k _ => rfl
        clear HO k1 x0 x1 x2 x3
        go_wp2
        go_roundw
        case rel => exact ⟨j + 1, by omega, by go_num, HN.out, HB.out.drew⟩
        case measure => simp [intOf]; omega
      · have hp' : (y.pc != x.pc) = true := by simpa using hp
        have hoy : othK x.pc y = true := by simp [othK, hp]
        have hbA : Below wr.heap.size wr (wr.drew.alloc (.cells #[.int .u32 y.pc, .int .i64 y.many, .slice y.ra y.rn y.rc, .slice y.ga y.gn y.gc] 51)) := hdr.alloc (by rw [hsd]; exact Nat.le_refl _) _
        have ho2 := owns_blocks HO.out fun k e => hbA.block k (own_lt HO.out k e).1
        have hn := kept_news wr.drew y
        have hs2 : V.heap.size ≤ (wr.drew.alloc (.cells #[.int .u32 y.pc, .int .i64 y.many, .slice y.ra y.rn y.rc, .slice y.ga y.gn y.gc] 51)).heap.size := Nat.le_trans hs1 hbA.size
        have HN : Hid (∀ v1 w2, w2.ownsRow V.heap.size 51 4 v1 (((l.take j).filter (othK x.pc)).length + 1) (kL ((l.take j).filter (othK x.pc)) ++ kC y) → (wr.drew.alloc (.cells #[.int .u32 y.pc, .int .i64 y.many, .slice y.ra y.rn y.rc, .slice y.ga y.gn y.gc] 51)).grownBy w2 u4.ownBlock → w2.ownsRow V.heap.size 51 4 v1 ((l.take (j + 1)).filter (othK x.pc)).length (kL ((l.take (j + 1)).filter (othK x.pc))) ∧ Below V.heap.size V w2) := fun v1 w2 h1 h2 => by
          refine ⟨?_, (HB.out.trans (hbA.mono hs1)).grown h2 hs2 fun k e => (own_lt HO.out k e).2⟩
          rw [hfs, hoy]; simp only [if_true]; rw [List.length_append, kL_snoc]; exact h1
        have hone := kC_one y
        have HO2 : Hid ((wr.drew.alloc (.cells #[.int .u32 y.pc, .int .i64 y.many, .slice y.ra y.rn y.rc, .slice y.ga y.gn y.gc] 51)).ownsRow V.heap.size 51 4 u4 ((l.take j).filter (othK x.pc)).length (kL ((l.take j).filter (othK x.pc)))) := ho2
        clear HO ho2 hbA k1 x0 x1 x2 x3
        go_wp2_with (at_builtin; refine wpList_append_moved rfl _ _ 31 rfl V.heap.size 51 i0 _ 4 64 Tryz.underlying31 hi iz0 iz1 iz2 rfl (by decide) u4 _ _ rfl HO2.out ⟨wr.heap.size, 0, none⟩ 1 1 (kC y) rfl rfl hn hone (by unfold maxLen; omega) (by omega) hs2 ?_; intro v1 w2 ho1 hg1 hm1; have KN : Hid _ := HN.out v1 w2 ho1 hg1; clear ho1 hg1 hm1 HN HO2 hn hone hs2)
        go_roundw
        case rel => exact ⟨j + 1, by omega, by go_num, KN.out.1, KN.out.2⟩
        case measure => simp [intOf]; omega
    · obtain rfl : j = l.length := by omega
      rw [List.take_length] at ho
      obtain ⟨l1, hl1⟩ : ∃ l1, l.filter (othK x.pc) = l1 := ⟨_, rfl⟩
      rw [hl1] at ho
      have HL1 : Hid (l.filter (othK x.pc) = l1) := hl1
      have hn1 : l1.length ≤ 900 := by rw [← hl1]; exact Nat.le_trans (List.length_filter_le _ _) (by omega)
      have b0 := RW.cell (j := 0) (by omega)
      have b1 := RW.cell (j := 1) (by omega)
      have b2 := RW.cell (j := 2) (by omega)
      have b3 := RW.cell (j := 3) (by omega)
      simp only [if_true, Nat.reduceEqDiff, if_false] at b0 b1 b2 b3
      have hbA : Below wr.heap.size wr (wr.alloc (.cells #[.int .u32 x.pc, .int .i64 x.many, .slice x.ra x.rn x.rc, .slice x.ga x.gn x.gc] 51)) := (Below.refl _ _).alloc (Nat.le_refl _) _
      have ho2 := owns_blocks ho fun k e => hbA.block k (own_lt ho k e).1
      have hn := kept_news wr x
      have hs2 : V.heap.size ≤ (wr.alloc (.cells #[.int .u32 x.pc, .int .i64 x.many, .slice x.ra x.rn x.rc, .slice x.ga x.gn x.gc] 51)).heap.size := Nat.le_trans hs1 hbA.size
      have hone := kC_one x
      have HN : Hid (∀ v7 w7, w7.ownsRow V.heap.size 51 4 v7 (l1.length + 1) (kL l1 ++ kC x) → (wr.alloc (.cells #[.int .u32 x.pc, .int .i64 x.many, .slice x.ra x.rn x.rc, .slice x.ga x.gn x.gc] 51)).grownBy w7 u4.ownBlock → w7.ownsRow V.heap.size 51 4 v7 (l1 ++ [x]).length (kL (l1 ++ [x])) ∧ Below V.heap.size V w7 ∧ MRow w7 mb many (.slice ao l.length cap) l) := fun v7 w7 h1 h2 => by
        have hb7 : Below V.heap.size V w7 := (hB.trans (hbA.mono hs1)).grown h2 hs2 fun k e => (own_lt ho k e).2
        refine ⟨by rw [List.length_append, kL_snoc]; exact h1, hb7, HM.out.stays (HV.out.trans (hb7.mono (by omega)))⟩
      have HO2 : Hid ((wr.alloc (.cells #[.int .u32 x.pc, .int .i64 x.many, .slice x.ra x.rn x.rc, .slice x.ga x.gn x.gc] 51)).ownsRow V.heap.size 51 4 u4 l1.length (kL l1)) := ho2
      clear ho ho2 hbA hB hB0 MW RW hl1
      go_upto_region 8 with (at_builtin; refine wpList_append_moved rfl _ _ 31 rfl V.heap.size 51 i0 _ 4 64 Tryz.underlying31 hi iz0 iz1 iz2 rfl (by decide) u4 _ _ rfl HO2.out ⟨wr.heap.size, 0, none⟩ 1 1 (kC x) rfl rfl hn hone (by unfold maxLen; omega) (by omega) hs2 ?_; intro v7 w7 ho1 hg1 hm1; have KN : Hid _ := HN.out v7 w7 ho1 hg1; obtain ⟨g7, cap7, hv7⟩ := own_pos ho1; subst hv7; clear ho1 hg1 hm1 HN HO2 hn hone hs2 b0 b1 b2 b3 k1)
      obtain ⟨hO7, hB7, hM7⟩ := KN.out
      have c0 := hM7.c0
      have c1 := hM7.c1
      have z7 := hM7.lt
      have f1 := hM7.fz 1
      have hgw : w.heap.size < g7 := by have := (own_lt hO7 g7 rfl).2; omega
      have hBw : Below w.heap.size w w7 := HV.out.trans (hB7.mono (by omega))
      have HG : ∀ v', w.grownBy (w7.setCell ⟨mb, 1, none⟩ v') (some mb) := fun v' => ⟨hBw.os, hBw.tape, hBw.output, by rw [World.size_setCell]; exact hBw.size, fun k hk hne => by rw [Below.heap_setCell _ _ _ _ (by intro e; apply hne; rw [show k = mb from e])]; exact hBw.block k hk⟩
      have HGH : Hid (∀ v', w.grownBy (w7.setCell ⟨mb, 1, none⟩ v') (some mb)) := HG
      by_cases hrm : many < (l1.length : Int) + 1
      · obtain ⟨y, r, hyr⟩ : ∃ y r, l1 ++ [x] = y :: r := by cases h : l1 ++ [x] with
          | nil => simp at h
          | cons y r => exact ⟨y, r, rfl⟩
        have hrl : r.length = l1.length := by have := congrArg List.length hyr; simpa using this.symm
        have HCU : Hid (cutK many (l1 ++ [x]) = r) := by show _ = _; unfold cutK; rw [if_pos (by simp; omega), hyr]; rfl
        have hO8 : w7.ownsRow V.heap.size 51 4 (.slice (some ⟨g7, 0, none⟩) (r.length + 1) cap7) (r.length + 1) (kL (y :: r)) := by have := hO7; rw [hyr] at this; rw [hrl]; simpa [hrl] using this
        have hcap := own_cap hO8
        obtain ⟨ad, had⟩ : ∃ ad : Addr, (if cap7 = 1 then some (⟨g7, 0, none⟩ : Addr) else some ⟨g7, 4, none⟩) = some ad := by by_cases h : cap7 = 1 <;> simp [h]
        have hadb : ad.block = g7 := by by_cases h : cap7 = 1 <;> simp [h] at had <;> rw [← had]
        have HK : Hid (MRow (w7.setCell ⟨mb, 1, none⟩ (.slice (some ad) r.length (cap7 - 1))) mb many (.slice (some ad) r.length (cap7 - 1)) r) := MRow.mk2 hM7.st (kept_tail hO8 (by omega) had) (by simp [Value.ownBlock, hadb]; omega)
        have HVB : Hid (∀ k, (Value.slice (some ad) r.length (cap7 - 1)).ownBlock = some k → w.heap.size ≤ k) := fun k e => by simp [Value.ownBlock, hadb] at e; omega
        rw [show l1.length = r.length from hrl.symm] at hrm ⊢
        have h1r : (1 : Int) ≤ (r.length : Int) + 1 := by omega
        clear hO7 hB7 hM7 KN hO8 hyr hrl hBw HG
        go_wp2
        go_end0
        exact ⟨rfl, ⟨_, by rw [HL1.out, HCU.out]; exact HK.out, HVB.out⟩, HGH.out _⟩
      · have HCU : Hid (cutK many (l1 ++ [x]) = l1 ++ [x]) := by show _ = _; unfold cutK; rw [if_neg (by simp; omega)]
        have HK : Hid (MRow (w7.setCell ⟨mb, 1, none⟩ (.slice (some ⟨g7, 0, none⟩) (l1.length + 1) cap7)) mb many (.slice (some ⟨g7, 0, none⟩) (l1.length + 1) cap7) (l1 ++ [x])) := MRow.mk2 hM7.st (kept_of_own hO7 (by omega)) (by simp [Value.ownBlock]; omega)
        have HVB : Hid (∀ k, (Value.slice (some ⟨g7, 0, none⟩) (l1.length + 1) cap7).ownBlock = some k → w.heap.size ≤ k) := fun k e => by simp [Value.ownBlock] at e; omega
        clear hO7 hB7 hM7 KN hBw HG
        go_wp2
        go_end0
        exact ⟨rfl, ⟨_, by rw [HL1.out, HCU.out]; exact HK.out, HVB.out⟩, HGH.out _⟩
end Go.Proofs.YtcccaejjhodnkabGreatDoor
