/-
  Package keep: who asks for a place; PCs, in order.
-/
import Derived.Deep.RegionLaw
import Derived.Lib.SliceRun
import Derived.Lib.LazyBuf
import Derived.Deep.Upon
import Derived.Test.YtcccaejjhodnkabGreatDoorQKpTake
namespace Go.Proofs.YtcccaejjhodnkabGreatDoor
open Go.RowKit
open Num
set_option linter.unusedVariables false
set_option maxRecDepth 100000 in
set_option maxHeartbeats 2000000 in
theorem isAt_any (w : World) (pc : Int) :
    Calls Tryz.prog 30 #[.int .u32 pc] w fun e w' => e = .returned (.func (.func 46) #[] #[.pointer (some ⟨w.heap.size, 0, none⟩)]) ∧ w' = w.alloc (.cells #[.int .u32 pc] 34) := by
  have hmf : ∀ (fn : Fn) (first cap : Array Value) (w : World), (Instr.makeFunc fn first cap).run Tryz.prog w = .ok (.func fn first cap) w := fun _ _ _ _ => rfl
  go_enter Tryz.func30, Tryz.ntmps30
  go_wp2
  go_ret
  exact ⟨rfl, rfl⟩
set_option maxRecDepth 100000 in
set_option maxHeartbeats 2000000 in
theorem keepIsOf_any (w : World) (page : Int) :
    Calls Tryz.prog 37 #[.int .i64 page] w fun e w' => e = .returned (.func (.func 51) #[] #[.pointer (some ⟨w.heap.size, 0, none⟩)]) ∧ w' = w.alloc (.cells #[.int .i64 page] 3) := by
  have hmf : ∀ (fn : Fn) (first cap : Array Value) (w : World), (Instr.makeFunc fn first cap).run Tryz.prog w = .ok (.func fn first cap) w := fun _ _ _ _ => rfl
  go_enter Tryz.func37, Tryz.ntmps37
  go_wp2
  go_ret
  exact ⟨rfl, rfl⟩
set_option maxRecDepth 100000 in
set_option maxHeartbeats 2000000 in
theorem isAt1_any {w : World} {c : Nat} {pc : Int} (hc : w.cell? ⟨c, 0, none⟩ = some (.int .u32 pc)) (x : Kx) :
    Calls Tryz.prog 46 #[.agg #[.int .u32 x.pc, .int .i64 x.many, .slice x.ra x.rn x.rc, .slice x.ga x.gn x.gc], .pointer (some ⟨c, 0, none⟩)] w fun e w' => e = .returned (.bool (decide (x.pc = pc))) ∧ Below w.heap.size w w' := by
  have zc := World.block_lt_of_cell? _ _ hc
  have hb : Below w.heap.size w (w.alloc (.cells #[.int .u32 x.pc, .int .i64 x.many, .slice x.ra x.rn x.rc, .slice x.ga x.gn x.gc] 81)) := (Below.refl _ _).alloc (Nat.le_refl _) _
  have HB : Hid _ := hb
  clear hb
  have hd : decide (x.pc = pc) = (x.pc == pc) := by rw [Bool.eq_iff_iff]; simp
  rw [hd]
  go_enter Tryz.func46, Tryz.ntmps46
  go_wp2
  go_ret
  exact ⟨rfl, HB.out⟩
theorem infoU32 : (Tryz.prog.info? 34).map (fun i => (i.zero, i.size, i.bytes)) = some (some (.int .u32 0), 1, 4) := by kernel_rfl
/-- PCs of a row -/
def pcL (l : List Kx) : List Value := l.map fun x => .int .u32 x.pc
set_option maxRecDepth 100000 in
set_option maxHeartbeats 4000000 in
theorem pcsOf_any {w : World} {base : Nat} {v : Value} {l : List Kx} (K : w.ownsRow base 81 4 v l.length (kL l)) (hl : l.length ≤ 1000) :
    Calls Tryz.prog 36 #[v] w fun e w' => ∃ v', e = .returned v' ∧ w'.ownsRow w.heap.size 34 1 v' l.length (pcL l) ∧ Below w.heap.size w w' := by
  obtain ⟨i0, hi, iz0, iz1, iz2⟩ := info_parts infoU32
  have HK : Hid (w.ownsRow base 81 4 v l.length (kL l)) := K
  have hfm : ∃ ao cap, v = .slice ao l.length cap ∧ (0 < l.length → ∃ g, ao = some ⟨g, 0, none⟩) := by
    rcases K.2 with ⟨rfl, h⟩ | ⟨g, cap, cur, rfl, _⟩
    · exact ⟨none, 0, by rw [h], fun hp => by omega⟩
    · exact ⟨_, cap, rfl, fun _ => ⟨g, rfl⟩⟩
  obtain ⟨ao, cap, rfl, hao⟩ := hfm
  have HA : Hid (0 < l.length → ∃ g, ao = some ⟨g, 0, none⟩) := hao
  clear hao K
  go_enter Tryz.func36, Tryz.ntmps36
  go_wp2
  go_loopw [3, 8] (fun out i wr => ∃ j : Nat, j ≤ l.length ∧ i = .int .i64 j ∧ wr.ownsRow w.heap.size 34 1 out j (pcL (l.take j)) ∧ Below w.heap.size w wr) (fun _ i _ => l.length - (intOf i).toNat)
  case atStart => exact ⟨0, Nat.zero_le _, rfl, World.ownsRow_nil _ _ _ _, Below.refl _ _⟩
  case round =>
    obtain ⟨j, hj, rfl, ho, hB⟩ := hrel
    by_cases hlt : j < l.length
    · obtain ⟨x, hx⟩ : ∃ x, l[j]? = some x := ⟨_, List.getElem?_eq_getElem hlt⟩
      obtain ⟨g, rfl⟩ := HA.out (by omega)
      obtain ⟨x0, x1, x2, x3⟩ := row_cells (owns_blocks HK.out fun k e => hB.block k (own_lt HK.out k e).1) hx
      have zb := World.block_lt_of_cell? _ _ x0
      have hlt' : (j : Int) < l.length := by omega
      have hw1 : Below wr.heap.size wr ((wr.alloc (.cells #[.int .u32 x.pc, .int .i64 x.many, .slice x.ra x.rn x.rc, .slice x.ga x.gn x.gc] 81)).alloc (.cells #[.int .u32 x.pc] 34)) := ((Below.refl _ _).alloc (Nat.le_refl _) _).alloc (by rw [World.size_alloc]; omega) _
      have ho2 := owns_blocks ho fun k e => hw1.block k (own_lt ho k e).1
      have hn : ∀ (k : Nat) (u : Value), [Value.int .u32 x.pc][k]? = some u → ((wr.alloc (.cells #[.int .u32 x.pc, .int .i64 x.many, .slice x.ra x.rn x.rc, .slice x.ga x.gn x.gc] 81)).alloc (.cells #[.int .u32 x.pc] 34)).cell? ((⟨wr.heap.size + 1, 0, none⟩ : Addr).add k) = some u := by
        intro k u hk
        rw [add_lit, World.cell?_alloc_at _ _ _ _ (by simp)]
        simpa using hk
      have hs2 : w.heap.size ≤ ((wr.alloc (.cells #[.int .u32 x.pc, .int .i64 x.many, .slice x.ra x.rn x.rc, .slice x.ga x.gn x.gc] 81)).alloc (.cells #[.int .u32 x.pc] 34)).heap.size := Nat.le_trans hB.size hw1.size
      have hs5 := hB.size
      have HN : Hid (∀ v1 w2, w2.ownsRow w.heap.size 34 1 v1 (j + 1) (pcL (l.take j) ++ [.int .u32 x.pc]) → ((wr.alloc (.cells #[.int .u32 x.pc, .int .i64 x.many, .slice x.ra x.rn x.rc, .slice x.ga x.gn x.gc] 81)).alloc (.cells #[.int .u32 x.pc] 34)).grownBy w2 u3.ownBlock → w2.ownsRow w.heap.size 34 1 v1 (j + 1) (pcL (l.take (j + 1))) ∧ Below w.heap.size w w2) := fun v1 w2 h1 h2 => by
        refine ⟨?_, (hB.trans (hw1.mono hB.size)).grown h2 hs2 fun k e => (own_lt ho k e).2⟩
        rw [tk_snoc hx]; unfold pcL at h1 ⊢; rw [List.map_append]; exact h1
      have HO : Hid _ := ho2
      clear ho ho2 hB hw1
      go_wp2_with (at_builtin; refine wpList_append_moved rfl _ _ 57 rfl w.heap.size 34 i0 _ 1 4 Tryz.underlying57 hi iz0 iz1 iz2 rfl (by decide) u3 _ _ rfl HO.out ⟨wr.heap.size + 1, 0, none⟩ 1 1 [.int .u32 x.pc] rfl rfl hn (by simp [Value.oneCell']) (by unfold maxLen; omega) (by omega) hs2 ?_; intro v1 w2 ho1 hg1 hm1; have KN : Hid _ := HN.out v1 w2 ho1 hg1; clear ho1 hg1 hm1 HN HO hn hs2 x0 x1 x2 x3)
      go_roundw
      case rel => exact ⟨j + 1, by omega, by go_num, KN.out.1, KN.out.2⟩
      case measure => simp [intOf]; omega
    · obtain rfl : j = l.length := by omega
      have HF : Hid (wr.ownsRow w.heap.size 34 1 u3 l.length (pcL l)) := by show World.ownsRow _ _ _ _ _ _ _; have := ho; rwa [List.take_length] at this
      have HB : Hid _ := hB
      clear ho hB
      go_wp2
      go_ret
      exact ⟨_, rfl, HF.out, HB.out⟩
set_option maxRecDepth 100000 in
set_option maxHeartbeats 2000000 in
theorem pcs_any {w : World} {kb : Nat} {room : Int} {v : Value} {l : List Kx} (K : KRow w kb room v l) (hl : l.length ≤ 1000) :
    Calls Tryz.prog 19 #[.pointer (some ⟨kb, 0, none⟩)] w fun e w' => ∃ v', e = .returned v' ∧ w'.ownsRow w.heap.size 34 1 v' l.length (pcL l) ∧ Below w.heap.size w w' := by
  have hp := pcsOf_any K.own hl
  have k1 := K.c1
  have zk := K.lt
  clear K
  go_enter Tryz.func19, Tryz.ntmps19
  go_wp2_with fail
  refine hp.mono ?_
  rintro e w1 ⟨v', rfl, ho, hb⟩
  have HO : Hid _ := ho
  have HB : Hid _ := hb
  clear hp ho hb
  go_wp2
  go_ret
  exact ⟨_, rfl, HO.out, HB.out⟩
end Go.Proofs.YtcccaejjhodnkabGreatDoor
/-
  Package keep: the first one goes (slices.Delete at a row of what is kept).
-/
namespace Go.Proofs.YtcccaejjhodnkabGreatDoor
open Go.RowKit
open Num
set_option linter.unusedVariables false
theorem RowIs.eq {w : World} {b : Nat} {t : TypeId} {n : Nat} {f g : Nat → Value} (h : RowIs w b t n f) (e : ∀ j, j < n → g j = f j) : RowIs w b t n g := by
  obtain ⟨cur, h1, h2, h3⟩ := h
  exact ⟨cur, h1, h2, fun j hj => by rw [e j hj]; exact h3 j hj⟩
theorem RowIs.puts {b : Nat} {t : TypeId} {n : Nat} : ∀ (vs : List Value) (o : Nat) (w : World) (f : Nat → Value), RowIs w b t n f → RowIs (w.setCells b o vs) b t n (fun j => if o ≤ j then (vs[j - o]?).getD (f j) else f j)
  | [], o, w, f, h => h.eq fun j _ => by simp
  | v :: r, o, w, f, h => by
    have h1 := h.put o v (fun j => if j = o then v else f j) (by simp) (fun j _ hne => by simp [hne])
    refine (RowIs.puts r (o + 1) _ _ h1).eq fun j _ => ?_
    by_cases e : j = o
    · subst e; simp [show ¬ j + 1 ≤ j by omega]
    · by_cases ho : o ≤ j
      · have h2 : o + 1 ≤ j := by omega
        obtain ⟨i, hi⟩ : ∃ i, j - o = i + 1 := ⟨j - o - 1, by omega⟩
        have h3 : j - (o + 1) = i := by omega
        simp [ho, h2, hi, h3, e]
      · have h2 : ¬ o + 1 ≤ j := by omega
        simp [ho, h2, e]
theorem run_clear_kept {P : Program} (w : World) (t e ty : TypeId) (zs : Array Value) (ht : P.underlying t = some (.slice e)) (hv : ∀ w, (zeroValue e).run P w = .ok (.agg zs) w) (hz : (Value.agg zs).cells = zs) (h1 : ∀ v ∈ zs.toList, v.oneCell' = true) (b o c : Nat)
    (hc : ∀ j, j < zs.size → (w.cell? ⟨b, o + j, none⟩).isSome = true) (hf : ∀ j, j < zs.size → w.frozen? ⟨b, o + j, none⟩ = false) :
    (Builtin.clear_ #[t] ty #[.slice (some ⟨b, o, none⟩) 1 c]).run P w = .ok (.tuple #[]) (w.setCells b o zs.toList) := by
  have hzc : (Builtin.zeroCells (Value.agg zs).cells 1).toList = zs.toList := by
    rw [hz]
    apply List.ext_getElem
    · simp [Builtin.zeroCells]
    · intro i h1 h2
      have : i < zs.size := by simpa using h2
      simp [Builtin.zeroCells, Nat.mod_eq_of_lt this, getElem!_pos zs i this]
  have hst := run_storeCells_cells (P := P) b o zs.toList 0 w (by simpa using hc) (by simpa using hf) h1
  simp only [Nat.add_zero] at hst
  simp [Builtin.clear_, run_underlying ht, hv, hzc, hst]
theorem zeroKept : ∀ w, (zeroValue 81).run Tryz.prog w = .ok (.agg #[.int .u32 0, .int .i64 0, .slice none 0 0, .slice none 0 0]) w := fun w => by go_simp
set_option maxRecDepth 1000000 in
set_option maxHeartbeats 4000000 in
theorem delete_any {w : World} {base g cap : Nat} {x : Kx} {r : List Kx} (h : w.ownsRow base 81 4 (.slice (some ⟨g, 0, none⟩) (r.length + 1) cap) (r.length + 1) (kL (x :: r))) (hr : r.length ≤ 1000) :
    Calls Tryz.prog 33 #[.slice (some ⟨g, 0, none⟩) (r.length + 1) cap, .int .i64 0, .int .i64 1] w fun e w' => e = .returned (.slice (some ⟨g, 0, none⟩) r.length cap) ∧ w'.ownsRow base 81 4 (.slice (some ⟨g, 0, none⟩) r.length cap) r.length (kL r) ∧ w.grownBy w' (some g) := by
  obtain ⟨i0, hi, iz0, iz1, iz2⟩ := info_parts infoKept
  rcases h.2 with ⟨e, _⟩ | ⟨g', cap', cur, e, hbg, hg, hnc, hcm, hcs, htk⟩
  · cases e
  injection e with e1 e2 e3
  injection e1 with e1
  injection e1 with e1
  subst e1
  subst e3
  have R0 : RowIs w g 81 (cap * 4) (fun j => cur[j]?.getD undef) := ⟨cur, hg, hcs, fun j hj => by simp [Array.getElem?_eq_getElem (show j < cur.size by omega)]⟩
  have hcell : ∀ j u, (kL r)[j]? = some u → w.cell? ⟨g, 4 + j, none⟩ = some u := fun j u hj => by
    have := h.cells (g := g) rfl (4 + j) u (by show (kC x ++ kL r)[4 + j]? = _; rw [List.getElem?_append_right (by simp [kC])]; simpa [kC] using hj)
    rwa [add_lit] at this
  obtain ⟨A, hA, hsrc⟩ : ∃ A : Addr, (if cap = 1 then some (⟨g, 0, none⟩ : Addr) else some ⟨g, 4, none⟩) = some A ∧ Hid (∀ t u, (kL r)[t]? = some u → w.drew.cell? (A.add t) = some u) := by
    by_cases hc : cap = 1
    · refine ⟨⟨g, 0, none⟩, by simp [hc], fun t u hu => ?_⟩
      have h0 : r = [] := List.length_eq_zero_iff.1 (by omega)
      subst h0; simp [kL] at hu
    · refine ⟨⟨g, 4, none⟩, by simp [hc], fun t u hu => ?_⟩
      have ha : (⟨g, 4, none⟩ : Addr).add t = ⟨g, 4 + t, none⟩ := by unfold Addr.add; split <;> simp_all
      rw [ha]; exact hcell t u hu
  have s1 : Hid ((kL r).length = r.length * 4) := kL_len r
  have s2 : Hid (∀ u ∈ kL r, u.oneCell' = true) := kL_one r
  have hin : ∀ j, j < cap * 4 → (w.cell? ⟨g, j, none⟩).isSome = true := fun j hj => by rw [R0.cell hj]; rfl
  have s3 : Hid (∀ t, t < (kL r).length → (w.drew.cell? ⟨g, 0 + 0 * 4 + t, none⟩).isSome = true ∧ w.drew.frozen? ⟨g, 0 + 0 * 4 + t, none⟩ = false) := fun t ht => by
    rw [kL_len] at ht
    refine ⟨?_, R0.fz _⟩
    rw [show 0 + 0 * 4 + t = t by omega]
    exact hin t (by omega)
  obtain ⟨W1, hW1⟩ : ∃ W1, W1 = w.drew.setCells g (0 + 0 * 4) (kL r) := ⟨_, rfl⟩
  have R1 : RowIs W1 g 81 (cap * 4) (fun j => if 0 + 0 * 4 ≤ j then ((kL r)[j - (0 + 0 * 4)]?).getD (cur[j]?.getD undef) else cur[j]?.getD undef) := by
    rw [hW1]; exact RowIs.puts _ _ _ _ (show RowIs w.drew g 81 (cap * 4) _ from R0)
  have hcl : ∀ ty, (Builtin.clear_ #[65] ty #[.slice (some ⟨g, r.length * 4, none⟩) 1 (cap - r.length)]).run Tryz.prog W1 = .ok (.tuple #[]) (W1.setCells g (r.length * 4) [.int .u32 0, .int .i64 0, .slice none 0 0, .slice none 0 0]) :=
    fun ty => run_clear_kept W1 _ _ ty _ Tryz.underlying65 zeroKept rfl (by simp [Value.oneCell']) g (r.length * 4) _ (fun t ht => by have ht' : t < 4 := ht; rw [R1.cell (j := r.length * 4 + t) (by omega)]; rfl) (fun t ht => R1.fz _)
  have HF : Hid ((W1.setCells g (r.length * 4) [.int .u32 0, .int .i64 0, .slice none 0 0, .slice none 0 0]).ownsRow base 81 4 (.slice (some ⟨g, 0, none⟩) r.length cap) r.length (kL r) ∧ w.grownBy (W1.setCells g (r.length * 4) [.int .u32 0, .int .i64 0, .slice none 0 0, .slice none 0 0]) (some g)) := by
    have R2 := RowIs.puts [.int .u32 0, .int .i64 0, .slice none 0 0, .slice none 0 0] (r.length * 4) W1 _ R1
    have B1 : Below 0 w W1 := by rw [hW1]; exact Go.below_setCells (B := 0) (Nat.zero_le _) _ _ _ (Below.refl 0 w).drew
    have B2 : Below 0 w (W1.setCells g (r.length * 4) [.int .u32 0, .int .i64 0, .slice none 0 0, .slice none 0 0]) := Go.below_setCells (B := 0) (Nat.zero_le _) _ _ _ B1
    refine ⟨⟨kL_len r, ?_⟩, B2.os, B2.tape, B2.output, B2.size, fun k hk hne => ?_⟩
    · obtain ⟨cur2, a1, a2, a3⟩ := R2
      refine .inr ⟨g, cap, cur2, rfl, hbg, a1, by omega, hcm, a2, ?_⟩
      apply List.ext_getElem?
      intro j
      by_cases hj : j < r.length * 4
      · rw [List.getElem?_take, if_pos hj, Array.getElem?_toList, a3 j (by omega)]
        have hlt : j < (kL r).length := by rw [kL_len]; exact hj
        simp only [Nat.zero_add, Nat.zero_mul, Nat.zero_le, if_true, Nat.sub_zero, List.getElem?_eq_getElem hlt, Option.getD_some]
        rw [if_neg (by omega)]
      · rw [List.getElem?_eq_none (by rw [List.length_take]; omega), List.getElem?_eq_none (by rw [kL_len]; omega)]
    · have hkg : k ≠ g := fun e => hne (by rw [e])
      have z1 := B1.size
      rw [World.heap_setCells_other _ _ _ _ (by omega) hkg, hW1, World.heap_setCells_other w.drew _ _ _ (show k < w.heap.size from hk) hkg]
      rfl
  have hW : Hid (W1 = w.drew.setCells g (0 + 0 * 4) (kL r)) := hW1
  have hzg := R0.lt
  have h1r : (1 : Int) ≤ (r.length : Int) + 1 := by omega
  clear hW1 R1 R0 hcell hin htk h hg
  go_enter Tryz.func33, Tryz.ntmps33
  go_wp2_with fail
  go_region_law (refine step_append_room rfl (.tmp 22) (.tmp 25) 65 rfl 81 i0 4 Tryz.underlying65 hi iz1 g 0 0 cap (by simp [Act.eval, Act.put]) A r.length (cap - 1) (kL r) (by simp [Act.eval, Act.put]) s1.out hsrc.out s2.out (by omega) s3.out ?_; rw [← hW.out])
  go_wp2
  go_ret
  exact ⟨rfl, HF.out⟩
end Go.Proofs.YtcccaejjhodnkabGreatDoor
