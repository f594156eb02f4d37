/-
  The document's PlanFault.
-/
import Derived.Test.YtcccaejjhodnkabGreatDoorQPl6
import Derived.Test.YtcccaejjhodnkabGreatDoorKSameOps
import Derived.Test.YtcccaejjhodnkabGreatDoorQPl7
namespace Go.Proofs.YtcccaejjhodnkabGreatDoor
open Go.RowKit Go.Maps
open Num
set_option linter.unusedVariables false
set_option maxRecDepth 100000 in
set_option maxHeartbeats 4000000 in
theorem planFault_any {w : World} {v : Value} {rs : List (List Opx)} (R : RowsI w v rs) (F : Few rs) (many : Int) (m0 : -9223372036854775808 ≤ many) (m1 : many ≤ 9223372036854775807) :
    Calls Tryz.prog 8 #[.int .i64 many, v] w fun e w' => e = .returned (.agg #[.int .i64 (planF many rs).1, .int .i64 (planF many rs).2]) ∧ Below w.heap.size w w' := by
  have B0 : Below w.heap.size w (w.alloc (.cells #[.int .i64 0, .int .i64 0] 42)) := (Below.refl _ _).alloc (Nat.le_refl _) _
  have F0 := FBox.new w
  have R1 := R.stays B0
  obtain ⟨ao, cap, rfl, hc, _⟩ := R
  have hF := F.1
  have FH : Hid (Few rs) := F
  obtain ⟨P, hP⟩ : ∃ P, planF many rs = P := ⟨_, rfl⟩
  have HP : Hid (planF many rs = P) := hP
  rw [hP]
  clear hP F
  go_enter Tryz.func8, Tryz.ntmps8
  go_upto_region 1 with fail
  generalize w.alloc (.cells #[.int .i64 0, .int .i64 0] 42) = V at *
  have RH : Hid (RowsI V (.slice ao rs.length cap) rs) := R1
  clear R1
  by_cases hm1 : many < 1
  · have HF : Hid (P = (2, -1)) := by show _ = _; rw [← HP.out]; unfold planF; rw [if_pos (Or.inl hm1)]
    clear HP
    have HB0 : Hid (Below w.heap.size w V) := B0
    have HF0 : Hid (FBox V w.heap.size) := F0
    go_wp2_with fail
    refine (bare_any 2 _).mono ?_
    rintro e w2 ⟨rfl, hb2⟩
    obtain ⟨⟨u0, z0⟩, ⟨u1, z1⟩, f0, f1⟩ := HF0.out.stays hb2
    have HB2 : Hid (Below w.heap.size w w2) := HB0.out.trans (hb2.mono HB0.out.size)
    have HF2 : Hid (FBox w2 w.heap.size) := HF0.out.stays hb2
    clear hb2 HB0 HF0
    go_wp2
    obtain ⟨q1, q2⟩ := fault_put HB2.out HF2.out 2 (-1)
    refine bodyPost_ret (results_one_cell (A := ⟨w.heap.size, 0, none⟩) rfl _ _ _ rfl q1) rfl ?_
    exact ⟨by rw [HF.out], q2⟩
  by_cases hm2 : 24 < many
  · have HF : Hid (P = (2, -1)) := by show _ = _; rw [← HP.out]; unfold planF; rw [if_pos (Or.inr hm2)]
    clear HP
    have HB0 : Hid (Below w.heap.size w V) := B0
    have HF0 : Hid (FBox V w.heap.size) := F0
    go_wp2_with fail
    refine (bare_any 2 _).mono ?_
    rintro e w2 ⟨rfl, hb2⟩
    obtain ⟨⟨u0, z0⟩, ⟨u1, z1⟩, f0, f1⟩ := HF0.out.stays hb2
    have HB2 : Hid (Below w.heap.size w w2) := HB0.out.trans (hb2.mono HB0.out.size)
    have HF2 : Hid (FBox w2 w.heap.size) := HF0.out.stays hb2
    clear hb2 HB0 HF0
    go_wp2
    obtain ⟨q1, q2⟩ := fault_put HB2.out HF2.out 2 (-1)
    refine bodyPost_ret (results_one_cell (A := ⟨w.heap.size, 0, none⟩) rfl _ _ _ rfl q1) rfl ?_
    exact ⟨by rw [HF.out], q2⟩
  have hm : Hid (¬ (many < 1 ∨ 24 < many)) := by show ¬ _; omega
  by_cases hl2 : 200 < rs.length
  · have HF : Hid (P = (8, -1)) := by show _ = _; rw [← HP.out]; unfold planF; rw [if_neg hm.out, if_pos hl2]
    have hl2' : (200 : Int) < rs.length := by omega
    clear HP
    have HB0 : Hid (Below w.heap.size w V) := B0
    have HF0 : Hid (FBox V w.heap.size) := F0
    go_wp2_with fail
    refine (bare_any 8 _).mono ?_
    rintro e w2 ⟨rfl, hb2⟩
    obtain ⟨⟨u0, z0⟩, ⟨u1, z1⟩, f0, f1⟩ := HF0.out.stays hb2
    have HB2 : Hid (Below w.heap.size w w2) := HB0.out.trans (hb2.mono HB0.out.size)
    have HF2 : Hid (FBox w2 w.heap.size) := HF0.out.stays hb2
    clear hb2 HB0 HF0
    go_wp2
    obtain ⟨q1, q2⟩ := fault_put HB2.out HF2.out 8 (-1)
    refine bodyPost_ret (results_one_cell (A := ⟨w.heap.size, 0, none⟩) rfl _ _ _ rfl q1) rfl ?_
    exact ⟨by rw [HF.out], q2⟩
  have hl2' : ¬ (200 : Int) < rs.length := by omega
  have HL2 : Hid (¬ 200 < rs.length) := hl2
  by_cases hnil : rs = []
  · have HF : Hid (P = (3, -1)) := by show _ = _; rw [← HP.out]; unfold planF; rw [if_neg hm.out, if_neg hl2, if_pos hnil]
    subst hnil
    clear HP
    have HB0 : Hid (Below w.heap.size w V) := B0
    have HF0 : Hid (FBox V w.heap.size) := F0
    go_wp2_with fail
    refine (bare_any 3 _).mono ?_
    rintro e w2 ⟨rfl, hb2⟩
    obtain ⟨⟨u0, z0⟩, ⟨u1, z1⟩, f0, f1⟩ := HF0.out.stays hb2
    have HB2 : Hid (Below w.heap.size w w2) := HB0.out.trans (hb2.mono HB0.out.size)
    have HF2 : Hid (FBox w2 w.heap.size) := HF0.out.stays hb2
    clear hb2 HB0 HF0
    go_wp2
    obtain ⟨q1, q2⟩ := fault_put HB2.out HF2.out 3 (-1)
    refine bodyPost_ret (results_one_cell (A := ⟨w.heap.size, 0, none⟩) rfl _ _ _ rfl q1) rfl ?_
    exact ⟨by rw [HF.out], q2⟩
  have hpos : 0 < rs.length := List.length_pos_iff.2 hnil
  have hp0 : ((rs.length : Int) == 0) = false := by simp; exact hnil
  have HNE : Hid (rs ≠ []) := hnil
  have hr2 : (rs.length : Int) ≤ 200 := by omega
  have hr3 : (0 : Int) < rs.length := by omega
  obtain ⟨ao', cap', ee, _, hh⟩ := RH.out
  injection ee with ee1 ee2 ee3
  subst ee1 ee3
  obtain ⟨b, off, rfl, hcell⟩ := hh hpos
  have HH : Hid (∀ (i : Nat) (row : List Opx), rs[i]? = some row → ∃ u, V.cell? ⟨b, off + i, none⟩ = some u ∧ OpsIn V u row) := hcell
  have HV : Hid (Below w.heap.size w V ∧ FBox V w.heap.size) := ⟨B0, F0⟩
  clear hh hcell hnil hl2 ee2 B0 F0
  go_wp2
  go_loopw [5, 6] (fun n i wr => ∃ j : Nat, j ≤ rs.length ∧ i = .int .i64 j ∧ n = .int .i64 (strR (rs.take j) : Int) ∧ Hid (∀ k q, k < j → rs[k]? = some q → rowE many (decide (k + 1 = rs.length)) q = 0) ∧ Below V.heap.size V wr) (fun _ i _ => rs.length - (intOf i).toNat)
  case atStart => exact ⟨0, Nat.zero_le _, rfl, rfl, (by intro k q hk; omega), Below.refl _ _⟩
  case round =>
    obtain ⟨j, hj, rfl, rfl, HN, hB⟩ := hrel
    have HB : Hid (Below V.heap.size V wr) := hB
    have hsz := hB.size
    by_cases hlt : j < rs.length
    · obtain ⟨row, hrow⟩ : ∃ r, rs[j]? = some r := ⟨_, List.getElem?_eq_getElem hlt⟩
      obtain ⟨u, hu, hO⟩ := HH.out j row hrow
      have hr1 := FH.out.2 row (List.mem_of_getElem? hrow)
      have hu2 : wr.cell? ⟨b, off + j, none⟩ = some u := (hB.cell (p := ⟨b, off + j, none⟩) (World.block_lt_of_cell? _ _ hu)).trans hu
      have hO2 := hO.stays hB
      have zb : b < wr.heap.size := World.block_lt_of_cell? _ _ hu2
      have hlt' : (j : Int) < rs.length := by omega
      have hle := last_eq j rs.length hpos
      have hck := rowError_any hO2 (by omega) many (decide (j + 1 = rs.length))
      have hk := strR_le (FH.out.take j)
      have hkt : (rs.take j).length ≤ j := List.length_take_le _ _
      have hkk : strR (rs.take j) ≤ 1000000 := by omega
      have HS : Hid (strR (rs.take (j + 1)) = strR (rs.take j) + strs row) := by show _ = _; rw [take_snoc' hrow, strR_snoc]
      have hsr := strs_le row
      obtain ⟨a1, k1, rfl, _, _⟩ := hO.sh
      clear hk hkt
      generalize strR (rs.take j) = base at *
      by_cases hbad : rowE many (decide (j + 1 = rs.length)) row ≠ 0
      · have HF : Hid (P = (rowE many (decide (j + 1 = rs.length)) row, (j : Int))) := by
          show _ = _; rw [← HP.out]; exact planF_bad hm.out HL2.out hrow HN.out hbad
        have hv : 0 < rowE many (decide (j + 1 = rs.length)) row := by have := rowE_vals many (decide (j + 1 = rs.length)) row; omega
        clear hrow hu hO hO2 hB HN HH hbad HP HS
        generalize rowE many (decide (j + 1 = rs.length)) row = er at *
        generalize decide (j + 1 = rs.length) = lb at *
        go_wp2_with fail
        refine hck.mono ?_
        rintro e w1 ⟨rfl, hb1⟩
        have hbb := HB.out.trans (hb1.mono hsz)
        have HB2 : Hid (Below w.heap.size w w1) := HV.out.1.trans (hbb.mono HV.out.1.size)
        have HF2 : Hid (FBox w1 w.heap.size) := HV.out.2.stays hbb
        obtain ⟨⟨u0, z0⟩, ⟨u1, z1⟩, f0, f1⟩ := HV.out.2.stays hbb
        clear hck hb1 hu2 zb hbb HB HV
        go_wp2
        obtain ⟨q1, q2⟩ := fault_put HB2.out HF2.out er j
        refine bodyPost_ret (results_one_cell (A := ⟨w.heap.size, 0, none⟩) rfl _ _ _ rfl q1) rfl ?_
        exact ⟨by rw [HF.out], q2⟩
      · have hgood : rowE many (decide (j + 1 = rs.length)) row = 0 := by simpa using hbad
        have HN2 : Hid (∀ k q, k < j + 1 → rs[k]? = some q → rowE many (decide (k + 1 = rs.length)) q = 0) := by
          intro k q hk hq
          by_cases hkj : k = j
          · subst hkj
            rw [hrow] at hq
            obtain rfl := Option.some.inj hq
            exact hgood
          · exact HN.out k q (by omega) hq
        rw [hgood] at hck
        have HO : Hid (OpsIn V (.slice a1 row.length k1) row) := hO
        clear hrow hu hO hO2 hB HN hbad hgood
        generalize decide (j + 1 = rs.length) = lb at *
        go_wp2_with fail
        refine hck.mono ?_
        rintro e w1 ⟨rfl, hb1⟩
        have hu3 : w1.cell? ⟨b, off + j, none⟩ = some (.slice a1 row.length k1) := (hb1.cell (p := ⟨b, off + j, none⟩) zb).trans hu2
        have HB1 : Hid (Below V.heap.size V w1) := HB.out.trans (hb1.mono hsz)
        have zb1 : b < w1.heap.size := World.block_lt_of_cell? _ _ hu3
        have hst := storesD_any (HO.out.stays HB1.out) (by omega)
        clear hck hb1 hu2 zb hle HB
        go_wp2_with fail
        refine hst.mono ?_
        rintro e w3 ⟨rfl, hw3⟩
        rw [hw3]
        clear hst hw3 w3 hu3 zb1 HO
        go_wp2
        go_roundw
        case rel => exact ⟨j + 1, by omega, by go_num, by rw [HS.out]; go_num, HN2.out, HB1.out⟩
        case measure => simp [intOf]; omega
    · obtain rfl : j = rs.length := by omega
      have HFX : Hid (P = if 8 < strR rs then (8, -1) else (0, -1)) := by
        show _ = _; rw [← HP.out]
        exact planF_good hm.out HL2.out HNE.out fun k q hq => HN.out k q (List.getElem?_eq_some_iff.1 hq).1 hq
      have hsb := strR_le FH.out.2
      have B0 : Below w.heap.size w wr := HV.out.1.trans (hB.mono HV.out.1.size)
      have F0 : FBox wr w.heap.size := HV.out.2.stays hB
      rw [List.take_length]
      clear hB HN HH HP HV
      generalize strR rs = st at *
      generalize wr = V2 at *
      by_cases h8 : 8 < st
      · have h8' : (8 : Int) < st := by omega
        have HF : Hid (P = (8, -1)) := by show _ = _; rw [HFX.out, if_pos h8]
        clear HFX
        have HB0 : Hid (Below w.heap.size w V2) := B0
        have HF0 : Hid (FBox V2 w.heap.size) := F0
        go_wp2_with fail
        refine (bare_any 8 _).mono ?_
        rintro e w2 ⟨rfl, hb2⟩
        obtain ⟨⟨u0, z0⟩, ⟨u1, z1⟩, f0, f1⟩ := HF0.out.stays hb2
        have HB2 : Hid (Below w.heap.size w w2) := HB0.out.trans (hb2.mono HB0.out.size)
        have HF2 : Hid (FBox w2 w.heap.size) := HF0.out.stays hb2
        clear hb2 HB0 HF0
        go_wp2
        obtain ⟨q1, q2⟩ := fault_put HB2.out HF2.out 8 (-1)
        refine bodyPost_ret (results_one_cell (A := ⟨w.heap.size, 0, none⟩) rfl _ _ _ rfl q1) rfl ?_
        exact ⟨by rw [HF.out], q2⟩
      · have h8' : ¬ (8 : Int) < st := by omega
        have HF : Hid (P = (0, -1)) := by show _ = _; rw [HFX.out, if_neg h8]
        clear HFX
        have HB0 : Hid (Below w.heap.size w V2) := B0
        have HF0 : Hid (FBox V2 w.heap.size) := F0
        go_wp2_with fail
        refine (fine_any _).mono ?_
        rintro e w2 ⟨rfl, hb2⟩
        obtain ⟨⟨u0, z0⟩, ⟨u1, z1⟩, f0, f1⟩ := HF0.out.stays hb2
        have HB2 : Hid (Below w.heap.size w w2) := HB0.out.trans (hb2.mono HB0.out.size)
        have HF2 : Hid (FBox w2 w.heap.size) := HF0.out.stays hb2
        clear hb2 HB0 HF0
        go_wp2
        obtain ⟨q1, q2⟩ := fault_put HB2.out HF2.out 0 (-1)
        refine bodyPost_ret (results_one_cell (A := ⟨w.heap.size, 0, none⟩) rfl _ _ _ rfl q1) rfl ?_
        exact ⟨by rw [HF.out], q2⟩
end Go.Proofs.YtcccaejjhodnkabGreatDoor
