/-
  Package plan: Check.
-/
import Derived.Test.YtcccaejjhodnkabGreatDoorQPl5
namespace Go.Proofs.YtcccaejjhodnkabGreatDoor
open Go.RowKit Go.Maps
open Num
set_option linter.unusedVariables false
theorem planF_bad {many : Int} {rs : List (List Opx)} (h1 : ¬ (many < 1 ∨ 24 < many)) (h2 : ¬ 200 < rs.length) {j : Nat} {r : List Opx} (hr : rs[j]? = some r) (hN : ∀ k q, k < j → rs[k]? = some q → rowE many (decide (k + 1 = rs.length)) q = 0) (hb : rowE many (decide (j + 1 = rs.length)) r ≠ 0) : planF many rs = (rowE many (decide (j + 1 = rs.length)) r, (j : Int)) := by
  have hj : j < rs.length := (List.getElem?_eq_some_iff.1 hr).1
  have h := rowsF_at many rs 0 j r hr (fun k q hk hq => by have := hN k q hk hq; rwa [decide_eq_false (by omega)] at this) hb
  have hne : rs ≠ [] := by rintro rfl; simp at hr
  unfold planF
  rw [if_neg h1, if_neg h2, if_neg hne, h, if_pos hb]
  simp
theorem planF_good {many : Int} {rs : List (List Opx)} (h1 : ¬ (many < 1 ∨ 24 < many)) (h2 : ¬ 200 < rs.length) (hne : rs ≠ []) (hN : ∀ k q, rs[k]? = some q → rowE many (decide (k + 1 = rs.length)) q = 0) : planF many rs = if 8 < strR rs then (8, -1) else (0, -1) := by
  unfold planF
  rw [if_neg h1, if_neg h2, if_neg hne, rowsF_none many rs 0 hN, if_neg (by simp)]
theorem last_eq (j n : Nat) (h : 0 < n) : ((j : Int) == (n : Int) - 1) = decide (j + 1 = n) := by
  rw [Bool.eq_iff_iff]; simp only [beq_iff_eq, decide_eq_true_eq]; omega
structure CkP (w W : World) (many : Int) (v : Value) : Prop where
  b : Below w.heap.size w W
  c1 : W.cell? ⟨w.heap.size, 1, none⟩ = some (.int .i64 many)
  c2 : W.cell? ⟨w.heap.size, 2, none⟩ = some v
theorem CkP.stays {w W W' : World} {many : Int} {v : Value} (C : CkP w W many v) (h : Below W.heap.size W W') : CkP w W' many v :=
  ⟨C.b.trans (h.mono C.b.size), (h.cell (p := ⟨w.heap.size, 1, none⟩) (World.block_lt_of_cell? _ _ C.c1)).trans C.c1, (h.cell (p := ⟨w.heap.size, 2, none⟩) (World.block_lt_of_cell? _ _ C.c2)).trans C.c2⟩
set_option maxRecDepth 100000 in
set_option maxHeartbeats 4000000 in
theorem checkP_any (pe : Nat → Addr) {w : World} (E : Ep pe w) {v : Value} {rs : List (List Opx)} (R : RowsI w v rs) (F : Few rs) (pc many : Int) (m0 : -9223372036854775808 ≤ many) (m1 : many ≤ 9223372036854775807) :
    Calls Tryz.prog 28 #[.agg #[.int .u32 pc, .int .i64 many, v]] w fun e w' => (∃ x, e = .returned x ∧ CErr pe w' (planF many rs) x) ∧ Below w.heap.size w w' := by
  have B0 : Below w.heap.size w (w.alloc (.cells #[.int .u32 pc, .int .i64 many, v] 48)) := (Below.refl _ _).alloc (Nat.le_refl _) _
  have E1 := E.stays B0
  have R1 := R.stays B0
  obtain ⟨ao, cap, rfl, hc, _⟩ := R
  have C0 : CkP w (w.alloc (.cells #[.int .u32 pc, .int .i64 many, .slice ao rs.length cap] 48)) many (.slice ao rs.length cap) := ⟨B0, by simp, by simp⟩
  have hF := F.1
  obtain ⟨P, hP⟩ : ∃ P, planF many rs = P := ⟨_, rfl⟩
  have HP : Hid (planF many rs = P) := hP
  rw [hP]
  clear hP E
  have FH : Hid (Few rs) := F
  clear F
  go_enter Tryz.func28, Tryz.ntmps28
  go_upto_region 1 with fail
  generalize w.alloc (.cells #[.int .u32 pc, .int .i64 many, .slice ao rs.length cap] 48) = V at *
  obtain ⟨_, c1, c2⟩ := id C0
  have HC : Hid (CkP w V many (.slice ao rs.length cap)) := C0
  have EH : Hid (Ep pe V) := E1
  have RH : Hid (RowsI V (.slice ao rs.length cap) rs) := R1
  obtain ⟨z2, z3, z4, z8⟩ := E1.e.size
  obtain ⟨⟨e2, e3, e4, e8⟩, e7, _⟩ := E1
  have zc := World.block_lt_of_cell? _ _ c1
  clear C0 R1 B0
  by_cases hm1 : many < 1
  · have HF : Hid (P = (2, -1)) := by show _ = _; rw [← HP.out]; unfold planF; rw [if_pos (Or.inl hm1)]
    clear HP
    go_wp2
    go_ret
    exact ⟨⟨_, rfl, .inl ⟨by rw [HF.out], by rw [HF.out]; rfl⟩⟩, HC.out.b⟩
  by_cases hm2 : 24 < many
  · have HF : Hid (P = (2, -1)) := by show _ = _; rw [← HP.out]; unfold planF; rw [if_pos (Or.inr hm2)]
    clear HP
    go_wp2
    go_ret
    exact ⟨⟨_, rfl, .inl ⟨by rw [HF.out], by rw [HF.out]; rfl⟩⟩, HC.out.b⟩
  have hm : Hid (¬ (many < 1 ∨ 24 < many)) := by show ¬ _; omega
  by_cases hl2 : 200 < rs.length
  · have HF : Hid (P = (8, -1)) := by show _ = _; rw [← HP.out]; unfold planF; rw [if_neg hm.out, if_pos hl2]
    have hl2' : (200 : Int) < rs.length := by omega
    clear HP
    go_wp2
    go_ret
    exact ⟨⟨_, rfl, .inl ⟨by rw [HF.out], by rw [HF.out]; rfl⟩⟩, HC.out.b⟩
  have hl2' : ¬ (200 : Int) < rs.length := by omega
  have HL2 : Hid (¬ 200 < rs.length) := hl2
  by_cases hnil : rs = []
  · have HF : Hid (P = (3, -1)) := by show _ = _; rw [← HP.out]; unfold planF; rw [if_neg hm.out, if_neg hl2, if_pos hnil]
    subst hnil
    clear HP
    go_wp2
    go_ret
    exact ⟨⟨_, rfl, .inl ⟨by rw [HF.out], by rw [HF.out]; rfl⟩⟩, HC.out.b⟩
  have hpos : 0 < rs.length := List.length_pos_iff.2 hnil
  have hp0 : ((rs.length : Int) == 0) = false := by simp; exact hnil
  have HNE : Hid (rs ≠ []) := hnil
  have hr2 : (rs.length : Int) ≤ 200 := by omega
  have hr3 : (0 : Int) < rs.length := by omega
  obtain ⟨ao', cap', ee, _, hh⟩ := RH.out
  injection ee with ee1 ee2 ee3
  subst ee1 ee3
  obtain ⟨b, off, rfl, hcell⟩ := hh hpos
  have HH : Hid (∀ (i : Nat) (row : List Opx), rs[i]? = some row → ∃ u, V.cell? ⟨b, off + i, none⟩ = some u ∧ OpsIn V u row) := hcell
  have HV : V.heap.size = V.heap.size := rfl
  clear hh hcell hnil hl2 e2 e3 e4 e7 e8 HV ee2
  go_wp2
  go_loopw [31] (fun i wr => ∃ j : Nat, j ≤ rs.length ∧ i = .int .i64 j ∧ Hid (∀ k q, k < j → rs[k]? = some q → rowE many (decide (k + 1 = rs.length)) q = 0) ∧ Below V.heap.size V wr) (fun i _ => rs.length - (intOf i).toNat)
  case atStart => exact ⟨0, Nat.zero_le _, rfl, (by intro k q hk; omega), Below.refl _ _⟩
  case round =>
    obtain ⟨j, hj, rfl, HN, hB⟩ := hrel
    have HB : Hid (Below V.heap.size V wr) := hB
    have hsz := hB.size
    obtain ⟨bw, d1, d2⟩ := HC.out.stays hB
    have HBW : Hid (Below w.heap.size w wr) := bw
    have zw := World.block_lt_of_cell? _ _ d1
    clear bw c1 c2
    by_cases hlt : j < rs.length
    · obtain ⟨row, hrow⟩ : ∃ r, rs[j]? = some r := ⟨_, List.getElem?_eq_getElem hlt⟩
      obtain ⟨u, hu, hO⟩ := HH.out j row hrow
      have hr1 := FH.out.2 row (List.mem_of_getElem? hrow)
      have hu2 : wr.cell? ⟨b, off + j, none⟩ = some u := (hB.cell (p := ⟨b, off + j, none⟩) (World.block_lt_of_cell? _ _ hu)).trans hu
      have hO2 := hO.stays hB
      have zb : b < wr.heap.size := World.block_lt_of_cell? _ _ hu2
      have hlt' : (j : Int) < rs.length := by omega
      have hle := last_eq j rs.length hpos
      have hck := checkRow_any pe (EH.out.stays hB) hO2 (by omega) many (decide (j + 1 = rs.length))
      obtain ⟨a1, k1, rfl, _, _⟩ := hO.sh
      by_cases hbad : rowE many (decide (j + 1 = rs.length)) row ≠ 0
      · have HF : Hid (P = (rowE many (decide (j + 1 = rs.length)) row, (j : Int))) := by
          show _ = _; rw [← HP.out]; exact planF_bad hm.out HL2.out hrow HN.out hbad
        have HNZ : Hid (rowE many (decide (j + 1 = rs.length)) row ≠ 0) := hbad
        have HVV : Hid (erV pe (rowE many (decide (j + 1 = rs.length)) row) = .iface 171 (.pointer (some (pe (rowE many (decide (j + 1 = rs.length)) row).toNat)))) := erV_some hbad
        rw [HVV.out] at hck
        clear hrow hu hO hO2 hB HN HH hbad HP EH
        generalize rowE many (decide (j + 1 = rs.length)) row = er at *
        generalize decide (j + 1 = rs.length) = lb at *
        go_wp2_with fail
        refine hck.mono ?_
        rintro e w1 ⟨rfl, hb1⟩
        have HB1 : Hid (Below w.heap.size w w1) := HBW.out.trans (hb1.mono HBW.out.size)
        have hs1 := HB1.out.size
        clear hck hb1 hu2 zb d1 d2 HBW
        go_wp2
        go_ret
        refine ⟨⟨_, rfl, .inr ⟨by rw [HF.out]; show (0 : Int) ≤ j; omega, by rw [HF.out]; exact HNZ.out, w1.heap.size, rfl, by rw [HF.out]; simp, by rw [HF.out]; show _ = some (erV pe er); rw [HVV.out]; simp⟩⟩, HB1.out.alloc (by omega) _⟩
      · have hgood : rowE many (decide (j + 1 = rs.length)) row = 0 := by simpa using hbad
        have HN2 : Hid (∀ k q, k < j + 1 → rs[k]? = some q → rowE many (decide (k + 1 = rs.length)) q = 0) := by
          intro k q hk hq
          by_cases hkj : k = j
          · subst hkj
            rw [hrow] at hq
            obtain rfl := Option.some.inj hq
            exact hgood
          · exact HN.out k q (by omega) hq
        rw [hgood, show erV pe 0 = .nilIface from rfl] at hck
        clear hrow hu hO hO2 hB HN hbad hgood
        generalize decide (j + 1 = rs.length) = lb at *
        go_wp2_with fail
        refine hck.mono ?_
        rintro e w1 ⟨rfl, hb1⟩
        have HB1 : Hid (Below V.heap.size V w1) := HB.out.trans (hb1.mono hsz)
        clear hck hb1 hu2 zb d1 d2 HBW hle
        go_wp2
        go_roundw
        case rel => exact ⟨j + 1, by omega, by go_num, HN2.out, HB1.out⟩
        case measure => simp [intOf]; omega
    · obtain rfl : j = rs.length := by omega
      have HF : Hid (P = if 8 < strR rs then (8, -1) else (0, -1)) := by
        show _ = _; rw [← HP.out]
        exact planF_good hm.out HL2.out HNE.out fun k q hq => HN.out k q (List.getElem?_eq_some_iff.1 hq).1 hq
      have hst := storesR_any (RH.out.stays hB) FH.out
      have hsb := strR_le FH.out.2
      clear hB HN HH HP
      generalize strR rs = st at *
      go_wp2_with fail
      refine hst.mono ?_
      rintro e w1 ⟨rfl, hb1⟩
      have HB1 : Hid (Below w.heap.size w w1) := HBW.out.trans (hb1.mono HBW.out.size)
      obtain ⟨⟨e2, e3, e4, e8⟩, e7, _⟩ := EH.out.stays (HB.out.trans (hb1.mono hsz))
      have zz := World.block_lt_of_cell? _ _ e8
      clear hst hb1 d1 d2 HBW HB
      by_cases h8 : 8 < st
      · have h8' : (8 : Int) < st := by omega
        have HF2 : Hid (P = (8, -1)) := by show _ = _; rw [HF.out, if_pos h8]
        clear HF
        go_wp2
        go_ret
        exact ⟨⟨_, rfl, .inl ⟨by rw [HF2.out], by rw [HF2.out]; rfl⟩⟩, HB1.out⟩
      · have h8' : ¬ (8 : Int) < st := by omega
        have HF2 : Hid (P = (0, -1)) := by show _ = _; rw [HF.out, if_neg h8]
        clear HF
        go_wp2
        go_ret
        exact ⟨⟨_, rfl, .inl ⟨by rw [HF2.out], by rw [HF2.out]; rfl⟩⟩, HB1.out⟩
end Go.Proofs.YtcccaejjhodnkabGreatDoor
