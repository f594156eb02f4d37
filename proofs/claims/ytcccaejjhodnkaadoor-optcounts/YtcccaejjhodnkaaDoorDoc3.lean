/-
  The document's isKnown and KnownOf.
-/
import Derived.Test.YtcccaejjhodnkaaDoorDoc2
import Derived.Test.YtcccaejjhodnkaaDoorIrChk2
import Derived.Test.YtcccaejjhodnkaaDoorPhase
import Derived.Test.YtcccaejjhodnkaaDoorOptPass
namespace Go.Proofs.YtcccaejjhodnkaaDoor
open Go.RowKit Go.Maps
open Num
set_option linter.unusedVariables false
set_option maxRecDepth 100000 in
set_option maxHeartbeats 2000000 in
theorem isKnown_any {w : World} {v : Value} {l : List Opx} (A : OpsIn w v l) (hl : (l.length : Int) ≤ 1000000) (n : Int) :
    Calls Tryd.prog 52 #[v, .int .i64 n] w fun e w' => e = .returned (.bool (knw l n)) ∧ Below w.heap.size w w' := by
  obtain ⟨ao, cap, rfl, hc, hh⟩ := A.sh
  have HH : Hid (0 < l.length → ∃ b off : Nat, ao = some ⟨b, off, none⟩ ∧ ∀ (i : Nat) (o : Opx), l[i]? = some o → ∀ (j : Nat) (u : Value), (opC o)[j]? = some u → w.cell? ⟨b, off + i * 6 + j, none⟩ = some u) := hh
  clear A hh
  by_cases hn : n = 0
  · subst hn
    have HK : Hid (knw l 0 = true) := knw_zero l
    go_enter Tryd.func52, Tryd.ntmps52
    go_wp2
    go_ret
    exact ⟨by rw [HK.out]; rfl, Below.refl _ _⟩
  · have hn' : (n == 0) = false := by simpa using hn
    have HN : Hid (n ≠ 0) := hn
    clear hn
    go_enter Tryd.func52, Tryd.ntmps52
    go_wp2
    go_loopw [5] (fun i wr => ∃ k : Nat, k ≤ l.length ∧ i = .int .i64 ((k : Int) - 1) ∧ knw l n = knw (l.take k) n ∧ Below w.heap.size w wr) (fun i _ => (intOf i + 1).toNat)
    case atStart => exact ⟨l.length, Nat.le_refl _, rfl, by rw [List.take_length], Below.refl _ _⟩
    case round =>
      obtain ⟨k, hk, rfl, hkn, hB⟩ := hrel
      have HKN : Hid (knw l n = knw (l.take k) n) := hkn
      clear hkn
      cases k with
      | zero =>
        have HF : Hid (knw l n = false) := by show _ = _; rw [HKN.out]; exact knw_nil HN.out
        go_wp2
        go_ret
        exact ⟨by rw [HF.out]; rfl, hB⟩
      | succ j =>
        have ej : ((j + 1 : Nat) : Int) - 1 = j := by omega
        rw [ej]
        have hlt : j < l.length := by omega
        have ho : l[j]? = some l[j] := List.getElem?_eq_getElem hlt
        obtain ⟨b, off, rfl, hcell⟩ := HH.out (by omega)
        obtain ⟨x0, x1, x2, x3, x4, x5⟩ := op_cells (w := wr) (fun k u hk => by rw [hB.cell (World.block_lt_of_cell? _ _ (hcell j _ ho k u hk))]; exact hcell j _ ho k u hk)
        have hb := World.block_lt_of_cell? _ _ x0
        have h1 := kn_eq l[j].s 1 (by omega) (by omega)
        have HS : Hid (knw l n = if wrX l[j] = n then decide (l[j].k = 1) else knw (l.take j) n) := by
          show _ = _; rw [HKN.out, take_snoc' ho, knw_snoc _ _ HN.out]
        have hlt' : (j : Int) < l.length := by omega
        clear ho hcell HKN ej
        generalize l[j] = o at *
        have hwr := writeOf_any o wr
        unfold opV at hwr
        generalize wrX o = d at *
        go_wp2_with fail
        refine hwr.mono ?_
        rintro e w1 ⟨rfl, hb1⟩
        have y0 := (hb1.cell (p := ⟨b, off + j * 6, none⟩) hb).trans x0
        have hb' : b < w1.heap.size := by have := hb1.size; omega
        have HB1 : Hid (Below w.heap.size w w1) := hB.trans (hb1.mono hB.size)
        clear hwr hb1 x0 x1 x2 x3 x4 x5 hB
        by_cases hd : d = n
        · have hd' : (d == n) = true := by simpa using hd
          have h1' : Hid ((o.s.toList == [115, 101, 116]) = decide (o.k = 1)) := h1
          have HS2 : Hid (knw l n = (o.s.toList == [115, 101, 116])) := by show _ = _; rw [HS.out, if_pos hd, h1'.out]
          clear h1 hd
          go_wp2
          go_ret
          exact ⟨by rw [HS2.out]; rfl, HB1.out⟩
        · have hd' : (d == n) = false := by simpa using hd
          have HS2 : Hid (knw l n = knw (l.take j) n) := by show _ = _; rw [HS.out, if_neg hd]
          clear h1 hd
          go_wp2
          go_roundw
          case rel => exact ⟨j, by omega, rfl, HS2.out, HB1.out⟩
          case measure => simp [intOf]
theorem OpsIn.take {w : World} {b off cap : Nat} {l : List Opx} (C : ∀ (i : Nat) (o : Opx), l[i]? = some o → ∀ (j : Nat) (u : Value), (opC o)[j]? = some u → w.cell? ⟨b, off + i * 6 + j, none⟩ = some u) (ok : ∀ o ∈ l, o.ok) (j : Nat) (hj : j ≤ l.length) (hc : l.length ≤ cap) : OpsIn w (.slice (some ⟨b, off, none⟩) j cap) (l.take j) := by
  have hlen : (l.take j).length = j := by rw [List.length_take]; omega
  refine ⟨⟨some ⟨b, off, none⟩, cap, by rw [hlen], by omega, fun _ => ⟨b, off, rfl, fun i o hi k u hk => C i o ?_ k u hk⟩⟩, fun o ho => ok o (List.mem_of_mem_take ho)⟩
  rw [List.getElem?_take] at hi
  split at hi
  · exact hi
  · cases hi
set_option maxRecDepth 100000 in
set_option maxHeartbeats 4000000 in
theorem knownOf_any {w : World} {v : Value} {l : List Opx} (A : OpsIn w v l) (hl : (l.length : Int) ≤ 1000000) :
    Calls Tryd.prog 20 #[v] w fun e w' => e = .returned (.int .i64 (knownC fx0 l)) ∧ Below w.heap.size w w' := by
  have AH : Hid (OpsIn w v l) := A
  obtain ⟨ao, cap, rfl, hc, hh⟩ := A.sh
  have HH : Hid (0 < l.length → ∃ b off : Nat, ao = some ⟨b, off, none⟩ ∧ ∀ (i : Nat) (o : Opx), l[i]? = some o → ∀ (j : Nat) (u : Value), (opC o)[j]? = some u → w.cell? ⟨b, off + i * 6 + j, none⟩ = some u) := hh
  have OK : Hid (∀ o ∈ l, o.ok) := A.ok
  clear A hh
  go_enter Tryd.func20, Tryd.ntmps20
  go_wp2
  go_loopw [3, 4] (fun n i wr => ∃ j : Nat, j ≤ l.length ∧ i = .int .i64 j ∧ n = .int .i64 (knownC fx0 (l.take j)) ∧ Below w.heap.size w wr) (fun _ i _ => l.length - (intOf i).toNat)
  case atStart => exact ⟨0, Nat.zero_le _, rfl, rfl, Below.refl _ _⟩
  case round =>
    obtain ⟨j, hj, rfl, rfl, hB⟩ := hrel
    have HB : Hid (Below w.heap.size w wr) := hB
    have hkl := knownC_le (l.take j) fx0
    have hkl2 : (l.take j).length ≤ j := List.length_take_le _ _
    by_cases hlt : j < l.length
    · obtain ⟨o, ho⟩ : ∃ o, l[j]? = some o := ⟨_, List.getElem?_eq_getElem hlt⟩
      obtain ⟨b, off, rfl, hcell⟩ := HH.out (by omega)
      obtain ⟨x0, x1, x2, x3, x4, x5⟩ := op_cells (w := wr) (fun k u hk => by rw [hB.cell (World.block_lt_of_cell? _ _ (hcell j _ ho k u hk))]; exact hcell j _ ho k u hk)
      have hbl : b < w.heap.size := World.block_lt_of_cell? _ _ (hcell j o ho 0 _ rfl)
      have hbr : b < wr.heap.size := World.block_lt_of_cell? _ _ x0
      have HI : Hid (∀ W, Below w.heap.size w W → OpsIn W (.slice (some ⟨b, off, none⟩) j cap) (l.take j)) := fun W hW => OpsIn.take (fun i o hi k u hk => (hW.cell (p := ⟨b, off + i * 6 + k, none⟩) hbl).trans (hcell i o hi k u hk)) OK.out j hj hc
      have HS : Hid (knownC fx0 (l.take (j + 1)) = knownC fx0 (l.take j) + (if (decide (3 ≤ o.k ∧ o.k ≤ 20) && !dvB o.k && knw (l.take j) o.a && knw (l.take j) o.b) = true then 1 else 0)) := by
        show _ = _
        rw [take_snoc' ho, knownC_snoc, tell_knw]
        congr 2
        have : decide (3 ≤ o.k ∧ o.k ≤ 16) = (decide (3 ≤ o.k ∧ o.k ≤ 20) && !dvB o.k) := by
          unfold dvB
          rw [Bool.eq_iff_iff]
          simp only [Bool.and_eq_true, decide_eq_true_eq, Bool.not_eq_true', decide_eq_false_iff_not]
          omega
        rw [this]
      have hlt' : (j : Int) < l.length := by omega
      have hlt2 : (j : Int) ≤ cap := by omega
      have hdv := fun W => isDiv_any o.s W
      have hsm := fun W => isSum_any o.s W
      have HTL : Hid ((l.take j).length = j) := by show _ = _; rw [List.length_take]; omega
      clear ho hcell hB hc
      unfold Opx.k at HS
      generalize decide (3 ≤ kn o.s ∧ kn o.s ≤ 20) = sm at *
      generalize dvB (kn o.s) = dv at *
      generalize knownC fx0 (l.take j) = kc at *
      have hBa : Below wr.heap.size wr (wr.alloc (.cells #[.string o.s, .int .i64 o.d, .int .i64 o.a, .int .i64 o.b, .int .u32 o.i, .int .i64 o.t] 60)) := (Below.refl _ _).alloc (Nat.le_refl _) _
      have bx := BoxO.new wr o
      have BA : Hid (Below w.heap.size w (wr.alloc (.cells #[.string o.s, .int .i64 o.d, .int .i64 o.a, .int .i64 o.b, .int .u32 o.i, .int .i64 o.t] 60))) := HB.out.trans (hBa.mono HB.out.size)
      have hzb : wr.heap.size < (wr.alloc (.cells #[.string o.s, .int .i64 o.d, .int .i64 o.a, .int .i64 o.b, .int .u32 o.i, .int .i64 o.t] 60)).heap.size := by simp
      go_upto_region 6 with fail
      generalize wr.alloc (.cells #[.string o.s, .int .i64 o.d, .int .i64 o.a, .int .i64 o.b, .int .u32 o.i, .int .i64 o.t] 60) = V at *
      obtain ⟨c0, c1, c2, c3, c4, c5⟩ := bx
      go_wp2_with fail
      refine (hdv _).mono ?_
      rintro e w1 ⟨rfl, hw⟩
      rw [hw]
      clear hw w1
      go_wp2_with fail
      refine (hsm _).mono ?_
      rintro e w1 ⟨rfl, hw⟩
      rw [hw]
      clear hw w1 hdv hsm x0 x1 x2 x3 x4 x5 hBa
      by_cases hsd : (sm && !dv) = true
      · obtain ⟨rfl, rfl⟩ : sm = true ∧ dv = false := by simpa using hsd
        clear hsd
        go_wp2
        refine wp_region_phase 7 [(0, 0), (1, 0), (2, 0), (3, 0), (4, 1), (5, 2), (6, 0)] (fun W => W.cell? ⟨wr.heap.size, 2, none⟩ = some (.int .i64 o.a)) (by kernel_rfl) (by kernel_rfl) (fun _ _ _ d _ h => by cases d <;> exact h) (by simpa using c2) ?_
        repeat (first | (refine wpPlanZ_free (by rfl) (by rfl) (fun W => by (go_simp; try with_reducible rfl)) (fun K hK => ?_); go_simp; refine hK _ ?_; clear hK K) | (refine wpPlanZ_quiet (by rfl) (by rfl) (fun W hW => by (have z0 := hW; go_simp; try with_reducible rfl)) (fun K hK => ?_); go_simp; refine hK _ ?_; clear hK K))
        refine wpPlanZ_serial (by rfl) (by rfl) (fun K hK => ?_)
        go_simp
        have ka := isKnown_any (HI.out _ BA.out.drew) (by rw [HTL.out]; omega) o.a
        refine ka.mono ?_
        rintro e w2 ⟨rfl, hb2⟩
        have B2 : Hid (Below w.heap.size w w2) := BA.out.drew.trans (hb2.mono BA.out.size)
        have d2 : w2.cell? ⟨wr.heap.size, 2, none⟩ = some (.int .i64 o.a) := (hb2.cell (p := ⟨wr.heap.size, 2, none⟩) hzb).trans c2
        have d3 : w2.cell? ⟨wr.heap.size, 3, none⟩ = some (.int .i64 o.b) := (hb2.cell (p := ⟨wr.heap.size, 3, none⟩) hzb).trans c3
        have hz2 : wr.heap.size < w2.heap.size := Nat.lt_of_lt_of_le hzb hb2.size
        refine hK _ _ (fun _ => d2) ?_
        generalize knw (l.take j) o.a = ya at *
        clear hK K ka hb2 c0 c1 c2 c3 c4 c5 d2
        repeat (refine wpPlanZ_free (by rfl) (by rfl) (fun W => by (go_simp; try with_reducible rfl)) (fun K hK => ?_); go_simp; refine hK _ ?_; clear hK K)
        refine wpPlanZ_nil ?_
        go_wp2
        refine wp_region_phase 7 [(0, 0), (1, 0), (2, 0), (3, 0), (4, 1), (5, 2), (6, 0)] (fun W => W.cell? ⟨wr.heap.size, 3, none⟩ = some (.int .i64 o.b)) (by kernel_rfl) (by kernel_rfl) (fun _ _ _ d _ h => by cases d <;> exact h) (by simpa using d3) ?_
        repeat (first | (refine wpPlanZ_free (by rfl) (by rfl) (fun W => by (go_simp; try with_reducible rfl)) (fun K hK => ?_); go_simp; refine hK _ ?_; clear hK K) | (refine wpPlanZ_quiet (by rfl) (by rfl) (fun W hW => by (have z0 := hW; go_simp; try with_reducible rfl)) (fun K hK => ?_); go_simp; refine hK _ ?_; clear hK K))
        refine wpPlanZ_serial (by rfl) (by rfl) (fun K hK => ?_)
        go_simp
        have kb := isKnown_any (HI.out _ B2.out.drew) (by rw [HTL.out]; omega) o.b
        refine kb.mono ?_
        rintro e w3 ⟨rfl, hb3⟩
        have B3 : Hid (Below w.heap.size w w3) := B2.out.drew.trans (hb3.mono B2.out.size)
        have d3' : w3.cell? ⟨wr.heap.size, 3, none⟩ = some (.int .i64 o.b) := (hb3.cell (p := ⟨wr.heap.size, 3, none⟩) hz2).trans d3
        refine hK _ _ (fun _ => d3') ?_
        generalize knw (l.take j) o.b = yb at *
        clear hK K kb hb3 d3 d3' BA B2 HI
        repeat (refine wpPlanZ_free (by rfl) (by rfl) (fun W => by (go_simp; try with_reducible rfl)) (fun K hK => ?_); go_simp; refine hK _ ?_; clear hK K)
        refine wpPlanZ_nil ?_
        cases ya <;> cases yb
        all_goals
          go_wp2
          go_roundw
          case rel => exact ⟨j + 1, by omega, by go_num, by rw [HS.out]; simp, B3.out⟩
          case measure => simp [intOf]; omega
      · have HS2 : Hid (knownC fx0 (l.take (j + 1)) = kc) := by show _ = _; rw [HS.out, show (sm && !dv) = false by simpa using hsd]; simp
        have hcs : sm = false ∨ (sm = true ∧ dv = true) := by revert hsd; cases sm <;> cases dv <;> simp
        clear HS hsd
        rcases hcs with rfl | ⟨rfl, rfl⟩
        all_goals
          go_wp2
          go_roundw
          case rel => exact ⟨j + 1, by omega, by go_num, by rw [HS2.out], BA.out⟩
          case measure => simp [intOf]; omega
    · obtain rfl : j = l.length := by omega
      rw [List.take_length]
      go_wp2
      go_ret
      exact ⟨rfl, HB.out⟩
end Go.Proofs.YtcccaejjhodnkaaDoor
