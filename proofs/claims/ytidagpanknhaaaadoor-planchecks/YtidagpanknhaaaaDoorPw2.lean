/-
  PlanChecks: the walk.
-/
import Derived.Test.YtidagpanknhaaaaDoorPw1
import Derived.Test.YtidagpanknhaaaaDoorPl8
namespace Go.Proofs.YtidagpanknhaaaaDoor
open Go.RowKit Go.Maps
open Num
set_option linter.unusedVariables false
theorem longO_len {l : List Opx} {m : Int} (h : longO l m = false) (hm : m ≤ 200) : l.length ≤ 201 := by
  unfold longO at h
  rw [Bool.or_eq_false_iff, Bool.and_eq_false_iff] at h
  rcases h.1 with h1 | h1
  · simp at h1; omega
  · simp at h1; omega
theorem planF_ok (many : Int) (rs : List (List Opx)) : planF many rs = (0, -1) ∨ (1 ≤ (planF many rs).1 ∧ (planF many rs).1 ≤ 10) := by
  rcases planF_vals many rs with h | h | h | h | ⟨k, e, he, _, h⟩
  · exact .inl h
  all_goals
    right
    rw [h]
    simp only
    omega
theorem CErr.stays {pe : Nat → Addr} {w w' : World} {f : Int × Int} {v : Value} (C : CErr pe w f v) (h : Below w.heap.size w w') : CErr pe w' f v := by
  rcases C with h1 | ⟨h1, h2, fb, h3, h4, h5⟩
  · exact .inl h1
  · exact .inr ⟨h1, h2, fb, h3, (h.cell (p := ⟨fb, 0, none⟩) (World.block_lt_of_cell? _ _ h4)).trans h4, (h.cell (p := ⟨fb, 1, none⟩) (World.block_lt_of_cell? _ _ h5)).trans h5⟩
set_option maxRecDepth 100000 in
set_option maxHeartbeats 8000000 in
theorem planChecks_any (S : Nat → Addr) {w : World} (EE : Errs S w) (E : Ep (peS S) w) {v : Value} {rs : List (List Opx)} (R : RowsI w v rs) (hl : (rs.length : Int) ≤ 9223372036854775807) (hrl : ∀ r ∈ rs, (r.length : Int) ≤ 9223372036854775807 ∧ ∀ o ∈ r, (o.s.size : Int) ≤ 9223372036854775807) (pc many : Int) (m0 : -9223372036854775808 ≤ many) (m1 : many ≤ 9223372036854775807) :
    Calls Tryd.prog 3 #[.int .u32 pc, .int .i64 many, v] w fun e w' => e = .returned (.bool true) ∧ Below w.heap.size w w' := by
  have RH : Hid (RowsI w v rs) := R
  have EH : Hid (Ep (peS S) w) := E
  have SH : Hid (Errs S w) := EE
  have HRL : Hid (∀ r ∈ rs, (r.length : Int) ≤ 9223372036854775807 ∧ ∀ o ∈ r, (o.s.size : Int) ≤ 9223372036854775807) := hrl
  have hpd := planned_any (peS S) E.e E.m
  obtain ⟨ao, cap, rfl, hc, hh⟩ := R
  have HH : Hid (0 < rs.length → ∃ b off : Nat, ao = some ⟨b, off, none⟩ ∧ ∀ (i : Nat) (row : List Opx), rs[i]? = some row → ∃ u, w.cell? ⟨b, off + i, none⟩ = some u ∧ OpsIn w u row) := hh
  clear E EE hh hrl
  go_enter Tryd.func3, Tryd.ntmps3
  go_wp2_with fail
  refine hpd.mono ?_
  rintro e w1 ⟨rfl, hb1⟩
  have HB1 : Hid (Below w.heap.size w w1) := hb1
  clear hpd hb1
  by_cases hlong : 20 < rs.length ∧ rs.length ≠ 201
  · have g1 : (20 : Int) < rs.length := by omega
    have g2 : ((rs.length : Int) != 201) = true := by simp; omega
    clear HH hlong
    go_wp2
    go_ret
    exact ⟨rfl, HB1.out⟩
  have hL : rs.length ≤ 201 := by omega
  have HGO : Hid (∀ (K : Prop), ((20 : Int) < rs.length → ((rs.length : Int) != 201) = false → K) → (¬ (20 : Int) < rs.length → K) → K) := by
    intro K k1 k2
    by_cases h : (20 : Int) < rs.length
    · exact k1 h (by simp; omega)
    · exact k2 h
  clear hlong
  by_cases hg : (20 : Int) < rs.length
  · have hg2 : ((rs.length : Int) != 201) = false := by
      refine HGO.out _ (fun _ h => h) (fun h => absurd hg h)
    clear HGO
    go_wp2
    go_loopw [8, 9, 10] (fun n wd i wr => ∃ j : Nat, j ≤ rs.length ∧ i = .int .i64 j ∧ n = .int .i64 (lenR (rs.take j) : Int) ∧ wd = .int .i64 (widR (rs.take j) : Int) ∧ Hid (∀ r ∈ rs.take j, r.length ≤ 201) ∧ wr = w1) (fun _ _ i _ => rs.length - (intOf i).toNat)
    case atStart => exact ⟨0, Nat.zero_le _, rfl, rfl, rfl, (by intro r hr; simp at hr), rfl⟩
    case round =>
      obtain ⟨j, hj, rfl, rfl, rfl, HN, rfl⟩ := hrel
      have hk1 : lenR (rs.take j) ≤ 1000 * (rs.take j).length := lenR_le (fun r hr => by have := HN.out r hr; omega)
      have hk2 : widR (rs.take j) ≤ 1000 := widR_le (fun r hr => by have := HN.out r hr; omega)
      have hkt : (rs.take j).length ≤ j := List.length_take_le _ _
      by_cases hlt : j < rs.length
      · obtain ⟨row, hrow⟩ : ∃ r, rs[j]? = some r := ⟨_, List.getElem?_eq_getElem hlt⟩
        obtain ⟨b, off, rfl, hcell⟩ := HH.out (by omega)
        obtain ⟨u, hu, hO⟩ := hcell j row hrow
        have hu2 : wr.cell? ⟨b, off + j, none⟩ = some u := (HB1.out.cell (p := ⟨b, off + j, none⟩) (World.block_lt_of_cell? _ _ hu)).trans hu
        have hrr := HRL.out row (List.mem_of_getElem? hrow)
        have hlo := longOps_any (hO.stays HB1.out) hrr.1 hrr.2 8
        have zb : b < wr.heap.size := World.block_lt_of_cell? _ _ hu2
        have hlt' : (j : Int) < rs.length := by omega
        have HS1 : Hid (lenR (rs.take (j + 1)) = lenR (rs.take j) + row.length) := by show _ = _; rw [take_snoc' hrow, lenR_snoc]
        have HS2 : Hid (widR (rs.take (j + 1)) = max (widR (rs.take j)) row.length) := by show _ = _; rw [take_snoc' hrow, widR_snoc]
        have HS3 : Hid (rs.take (j + 1) = rs.take j ++ [row]) := take_snoc' hrow
        obtain ⟨a1, k1, rfl, _, _⟩ := hO.sh
        clear hrow hcell hu hO HH hrr
        generalize lenR (rs.take j) = ln at *
        generalize widR (rs.take j) = wd at *
        cases hlg : longO row 8 with
        | true =>
          rw [hlg, if_pos rfl] at hlo
          go_wp2_with fail
          refine hlo.mono ?_
          rintro e w2 ⟨rfl, hw⟩
          rw [hw]
          clear hlo hw w2
          go_wp2
          go_ret
          exact ⟨rfl, HB1.out⟩
        | false =>
          have hr201 := longO_len hlg (by omega)
          rw [hlg, if_neg (by simp)] at hlo
          have HN2 : Hid (∀ r ∈ rs.take (j + 1), r.length ≤ 201) := by
            intro r hr
            rw [HS3.out] at hr
            rcases List.mem_append.1 hr with h | h
            · exact HN.out r h
            · simp at h; subst h; exact hr201
          clear hlg
          go_wp2_with fail
          refine hlo.mono ?_
          rintro e w2 ⟨rfl, hw⟩
          rw [hw]
          clear hlo hw w2
          by_cases hwd : wd < row.length
          · have hwd' : (wd : Int) < row.length := by omega
            have HS4 : Hid (widR (rs.take (j + 1)) = row.length) := by show _ = _; rw [HS2.out]; omega
            clear hwd HS2
            go_wp2
            go_roundw
            case rel => exact ⟨j + 1, by omega, by go_num, by rw [HS1.out]; go_num, by rw [HS4.out], HN2.out, by first | rfl | trivial⟩
            case measure => simp [intOf]; omega
          · have hwd' : ¬ (wd : Int) < row.length := by omega
            have HS4 : Hid (widR (rs.take (j + 1)) = wd) := by show _ = _; rw [HS2.out]; omega
            clear hwd HS2
            go_wp2
            go_roundw
            case rel => exact ⟨j + 1, by omega, by go_num, by rw [HS1.out]; go_num, by rw [HS4.out], HN2.out, by first | rfl | trivial⟩
            case measure => simp [intOf]; omega
      · obtain rfl : j = rs.length := by omega
        rw [List.take_length] at HN hk1 hk2 ⊢
        have HFW : Hid (Few rs) := ⟨by omega, fun r hr => by have := HN.out r hr; omega⟩
        have hor := ownRows_any (RH.out.stays HB1.out) HFW.out
        clear HH HN hkt
        go_wp2_with fail
        refine hor.mono ?_
        rintro e w2 ⟨u, rfl, hRu, hb2⟩
        have B2 : Hid (Below w.heap.size w w2) := HB1.out.trans (hb2.mono HB1.out.size)
        have BA : Below w2.heap.size w2 (w2.alloc (.cells #[.int .u32 pc, .int .i64 many, u] 29)) := (Below.refl _ _).alloc (Nat.le_refl _) _
        have R3 : Hid (RowsI (w2.alloc (.cells #[.int .u32 pc, .int .i64 many, u] 29)) u rs) := hRu.stays BA
        have B3 : Hid (Below w.heap.size w (w2.alloc (.cells #[.int .u32 pc, .int .i64 many, u] 29))) := B2.out.trans (BA.mono B2.out.size)
        obtain ⟨au, cu, rfl, _, _⟩ := hRu
        have y0 : (w2.alloc (.cells #[.int .u32 pc, .int .i64 many, .slice au rs.length cu] 29)).cell? ⟨w2.heap.size, 0, none⟩ = some (.int .u32 pc) := by simp
        have y1 : (w2.alloc (.cells #[.int .u32 pc, .int .i64 many, .slice au rs.length cu] 29)).cell? ⟨w2.heap.size, 1, none⟩ = some (.int .i64 many) := by simp
        have y2 : (w2.alloc (.cells #[.int .u32 pc, .int .i64 many, .slice au rs.length cu] 29)).cell? ⟨w2.heap.size, 2, none⟩ = some (.slice au rs.length cu) := by simp
        clear hor hb2 B2 BA HB1
        go_upto_region 15 with fail
        generalize w2.alloc (.cells #[.int .u32 pc, .int .i64 many, .slice au rs.length cu] 29) = W3 at *
        generalize w2.heap.size = pb at *
        have z3 := World.block_lt_of_cell? _ _ y0
        have hck := checkP_any (peS S) (EH.out.stays B3.out) R3.out HFW.out pc many m0 m1
        go_wp2_with fail
        refine hck.mono ?_
        rintro e w4 ⟨⟨x, rfl, hx⟩, hb4⟩
        have B4 : Hid (Below w.heap.size w w4) := B3.out.trans (hb4.mono B3.out.size)
        have R4 : Hid (RowsI w4 (.slice au rs.length cu) rs) := R3.out.stays hb4
        have y0 := (hb4.cell (p := ⟨pb, 0, none⟩) z3).trans y0
        have y1 := (hb4.cell (p := ⟨pb, 1, none⟩) z3).trans y1
        have y2 := (hb4.cell (p := ⟨pb, 2, none⟩) z3).trans y2
        have z4 := World.block_lt_of_cell? _ _ y0
        have HX : Hid (CErr (peS S) w4 (planF many rs) x) := hx
        have hpf := planFault_any (RH.out.stays B4.out) HFW.out many m0 m1
        clear hck hb4 R3 B3 z3 hx
        go_wp2_with fail
        refine hpf.mono ?_
        rintro e w5 ⟨rfl, hb5⟩
        have B5 : Hid (Below w.heap.size w w5) := B4.out.trans (hb5.mono B4.out.size)
        have R5 : Hid (RowsI w5 (.slice au rs.length cu) rs) := R4.out.stays hb5
        have y0 := (hb5.cell (p := ⟨pb, 0, none⟩) z4).trans y0
        have y1 := (hb5.cell (p := ⟨pb, 1, none⟩) z4).trans y1
        have y2 := (hb5.cell (p := ⟨pb, 2, none⟩) z4).trans y2
        have z5 := World.block_lt_of_cell? _ _ y0
        have hx5 : CErr (peS S) w5 (planF many rs) x := HX.out.stays hb5
        have hfa := faulted_any S (SH.out.stays B5.out) (planF many rs) x hx5 (planF_ok many rs)
        clear hpf hb5 R4 B4 z4 hx5 HX
        generalize (planF many rs).1 = f1 at *
        generalize (planF many rs).2 = f2 at *
        go_wp2_with fail
        refine hfa.mono ?_
        rintro e w6 ⟨rfl, hb6⟩
        have B6 : Hid (Below w.heap.size w w6) := B5.out.trans (hb6.mono B5.out.size)
        have R6 : Hid (RowsI w6 (.slice au rs.length cu) rs) := R5.out.stays hb6
        have y0 := (hb6.cell (p := ⟨pb, 0, none⟩) z5).trans y0
        have y1 := (hb6.cell (p := ⟨pb, 1, none⟩) z5).trans y1
        have y2 := (hb6.cell (p := ⟨pb, 2, none⟩) z5).trans y2
        have z6 := World.block_lt_of_cell? _ _ y0
        have hop := opsR_any R6.out HFW.out pc many
        clear hfa hb6 R5 B5 z5
        generalize lenR rs = ln at *
        go_wp2_with fail
        refine hop.mono ?_
        rintro e w7 ⟨rfl, hb7⟩
        have B7 : Hid (Below w.heap.size w w7) := B6.out.trans (hb7.mono B6.out.size)
        have R7 : Hid (RowsI w7 (.slice au rs.length cu) rs) := R6.out.stays hb7
        have y0 := (hb7.cell (p := ⟨pb, 0, none⟩) z6).trans y0
        have y1 := (hb7.cell (p := ⟨pb, 1, none⟩) z6).trans y1
        have y2 := (hb7.cell (p := ⟨pb, 2, none⟩) z6).trans y2
        have z7 := World.block_lt_of_cell? _ _ y0
        have hwi := wideR_any R7.out HFW.out pc many
        clear hop hb7 R6 B6 z6
        generalize widR rs = wd at *
        go_wp2_with fail
        refine hwi.mono ?_
        rintro e w8 ⟨rfl, hb8⟩
        have B8 : Hid (Below w.heap.size w w8) := B7.out.trans (hb8.mono B7.out.size)
        clear hwi hb8 R7 B7 z7
        go_wp2
        go_ret
        exact ⟨rfl, B8.out⟩
  · clear HGO
    go_wp2
    go_loopw [8, 9, 10] (fun n wd i wr => ∃ j : Nat, j ≤ rs.length ∧ i = .int .i64 j ∧ n = .int .i64 (lenR (rs.take j) : Int) ∧ wd = .int .i64 (widR (rs.take j) : Int) ∧ Hid (∀ r ∈ rs.take j, r.length ≤ 201) ∧ wr = w1) (fun _ _ i _ => rs.length - (intOf i).toNat)
    case atStart => exact ⟨0, Nat.zero_le _, rfl, rfl, rfl, (by intro r hr; simp at hr), rfl⟩
    case round =>
      obtain ⟨j, hj, rfl, rfl, rfl, HN, rfl⟩ := hrel
      have hk1 : lenR (rs.take j) ≤ 1000 * (rs.take j).length := lenR_le (fun r hr => by have := HN.out r hr; omega)
      have hk2 : widR (rs.take j) ≤ 1000 := widR_le (fun r hr => by have := HN.out r hr; omega)
      have hkt : (rs.take j).length ≤ j := List.length_take_le _ _
      by_cases hlt : j < rs.length
      · obtain ⟨row, hrow⟩ : ∃ r, rs[j]? = some r := ⟨_, List.getElem?_eq_getElem hlt⟩
        obtain ⟨b, off, rfl, hcell⟩ := HH.out (by omega)
        obtain ⟨u, hu, hO⟩ := hcell j row hrow
        have hu2 : wr.cell? ⟨b, off + j, none⟩ = some u := (HB1.out.cell (p := ⟨b, off + j, none⟩) (World.block_lt_of_cell? _ _ hu)).trans hu
        have hrr := HRL.out row (List.mem_of_getElem? hrow)
        have hlo := longOps_any (hO.stays HB1.out) hrr.1 hrr.2 8
        have zb : b < wr.heap.size := World.block_lt_of_cell? _ _ hu2
        have hlt' : (j : Int) < rs.length := by omega
        have HS1 : Hid (lenR (rs.take (j + 1)) = lenR (rs.take j) + row.length) := by show _ = _; rw [take_snoc' hrow, lenR_snoc]
        have HS2 : Hid (widR (rs.take (j + 1)) = max (widR (rs.take j)) row.length) := by show _ = _; rw [take_snoc' hrow, widR_snoc]
        have HS3 : Hid (rs.take (j + 1) = rs.take j ++ [row]) := take_snoc' hrow
        obtain ⟨a1, k1, rfl, _, _⟩ := hO.sh
        clear hrow hcell hu hO HH hrr
        generalize lenR (rs.take j) = ln at *
        generalize widR (rs.take j) = wd at *
        cases hlg : longO row 8 with
        | true =>
          rw [hlg, if_pos rfl] at hlo
          go_wp2_with fail
          refine hlo.mono ?_
          rintro e w2 ⟨rfl, hw⟩
          rw [hw]
          clear hlo hw w2
          go_wp2
          go_ret
          exact ⟨rfl, HB1.out⟩
        | false =>
          have hr201 := longO_len hlg (by omega)
          rw [hlg, if_neg (by simp)] at hlo
          have HN2 : Hid (∀ r ∈ rs.take (j + 1), r.length ≤ 201) := by
            intro r hr
            rw [HS3.out] at hr
            rcases List.mem_append.1 hr with h | h
            · exact HN.out r h
            · simp at h; subst h; exact hr201
          clear hlg
          go_wp2_with fail
          refine hlo.mono ?_
          rintro e w2 ⟨rfl, hw⟩
          rw [hw]
          clear hlo hw w2
          by_cases hwd : wd < row.length
          · have hwd' : (wd : Int) < row.length := by omega
            have HS4 : Hid (widR (rs.take (j + 1)) = row.length) := by show _ = _; rw [HS2.out]; omega
            clear hwd HS2
            go_wp2
            go_roundw
            case rel => exact ⟨j + 1, by omega, by go_num, by rw [HS1.out]; go_num, by rw [HS4.out], HN2.out, by first | rfl | trivial⟩
            case measure => simp [intOf]; omega
          · have hwd' : ¬ (wd : Int) < row.length := by omega
            have HS4 : Hid (widR (rs.take (j + 1)) = wd) := by show _ = _; rw [HS2.out]; omega
            clear hwd HS2
            go_wp2
            go_roundw
            case rel => exact ⟨j + 1, by omega, by go_num, by rw [HS1.out]; go_num, by rw [HS4.out], HN2.out, by first | rfl | trivial⟩
            case measure => simp [intOf]; omega
      · obtain rfl : j = rs.length := by omega
        rw [List.take_length] at HN hk1 hk2 ⊢
        have HFW : Hid (Few rs) := ⟨by omega, fun r hr => by have := HN.out r hr; omega⟩
        have hor := ownRows_any (RH.out.stays HB1.out) HFW.out
        clear HH HN hkt
        go_wp2_with fail
        refine hor.mono ?_
        rintro e w2 ⟨u, rfl, hRu, hb2⟩
        have B2 : Hid (Below w.heap.size w w2) := HB1.out.trans (hb2.mono HB1.out.size)
        have BA : Below w2.heap.size w2 (w2.alloc (.cells #[.int .u32 pc, .int .i64 many, u] 29)) := (Below.refl _ _).alloc (Nat.le_refl _) _
        have R3 : Hid (RowsI (w2.alloc (.cells #[.int .u32 pc, .int .i64 many, u] 29)) u rs) := hRu.stays BA
        have B3 : Hid (Below w.heap.size w (w2.alloc (.cells #[.int .u32 pc, .int .i64 many, u] 29))) := B2.out.trans (BA.mono B2.out.size)
        obtain ⟨au, cu, rfl, _, _⟩ := hRu
        have y0 : (w2.alloc (.cells #[.int .u32 pc, .int .i64 many, .slice au rs.length cu] 29)).cell? ⟨w2.heap.size, 0, none⟩ = some (.int .u32 pc) := by simp
        have y1 : (w2.alloc (.cells #[.int .u32 pc, .int .i64 many, .slice au rs.length cu] 29)).cell? ⟨w2.heap.size, 1, none⟩ = some (.int .i64 many) := by simp
        have y2 : (w2.alloc (.cells #[.int .u32 pc, .int .i64 many, .slice au rs.length cu] 29)).cell? ⟨w2.heap.size, 2, none⟩ = some (.slice au rs.length cu) := by simp
        clear hor hb2 B2 BA HB1
        go_upto_region 15 with fail
        generalize w2.alloc (.cells #[.int .u32 pc, .int .i64 many, .slice au rs.length cu] 29) = W3 at *
        generalize w2.heap.size = pb at *
        have z3 := World.block_lt_of_cell? _ _ y0
        have hck := checkP_any (peS S) (EH.out.stays B3.out) R3.out HFW.out pc many m0 m1
        go_wp2_with fail
        refine hck.mono ?_
        rintro e w4 ⟨⟨x, rfl, hx⟩, hb4⟩
        have B4 : Hid (Below w.heap.size w w4) := B3.out.trans (hb4.mono B3.out.size)
        have R4 : Hid (RowsI w4 (.slice au rs.length cu) rs) := R3.out.stays hb4
        have y0 := (hb4.cell (p := ⟨pb, 0, none⟩) z3).trans y0
        have y1 := (hb4.cell (p := ⟨pb, 1, none⟩) z3).trans y1
        have y2 := (hb4.cell (p := ⟨pb, 2, none⟩) z3).trans y2
        have z4 := World.block_lt_of_cell? _ _ y0
        have HX : Hid (CErr (peS S) w4 (planF many rs) x) := hx
        have hpf := planFault_any (RH.out.stays B4.out) HFW.out many m0 m1
        clear hck hb4 R3 B3 z3 hx
        go_wp2_with fail
        refine hpf.mono ?_
        rintro e w5 ⟨rfl, hb5⟩
        have B5 : Hid (Below w.heap.size w w5) := B4.out.trans (hb5.mono B4.out.size)
        have R5 : Hid (RowsI w5 (.slice au rs.length cu) rs) := R4.out.stays hb5
        have y0 := (hb5.cell (p := ⟨pb, 0, none⟩) z4).trans y0
        have y1 := (hb5.cell (p := ⟨pb, 1, none⟩) z4).trans y1
        have y2 := (hb5.cell (p := ⟨pb, 2, none⟩) z4).trans y2
        have z5 := World.block_lt_of_cell? _ _ y0
        have hx5 : CErr (peS S) w5 (planF many rs) x := HX.out.stays hb5
        have hfa := faulted_any S (SH.out.stays B5.out) (planF many rs) x hx5 (planF_ok many rs)
        clear hpf hb5 R4 B4 z4 hx5 HX
        generalize (planF many rs).1 = f1 at *
        generalize (planF many rs).2 = f2 at *
        go_wp2_with fail
        refine hfa.mono ?_
        rintro e w6 ⟨rfl, hb6⟩
        have B6 : Hid (Below w.heap.size w w6) := B5.out.trans (hb6.mono B5.out.size)
        have R6 : Hid (RowsI w6 (.slice au rs.length cu) rs) := R5.out.stays hb6
        have y0 := (hb6.cell (p := ⟨pb, 0, none⟩) z5).trans y0
        have y1 := (hb6.cell (p := ⟨pb, 1, none⟩) z5).trans y1
        have y2 := (hb6.cell (p := ⟨pb, 2, none⟩) z5).trans y2
        have z6 := World.block_lt_of_cell? _ _ y0
        have hop := opsR_any R6.out HFW.out pc many
        clear hfa hb6 R5 B5 z5
        generalize lenR rs = ln at *
        go_wp2_with fail
        refine hop.mono ?_
        rintro e w7 ⟨rfl, hb7⟩
        have B7 : Hid (Below w.heap.size w w7) := B6.out.trans (hb7.mono B6.out.size)
        have R7 : Hid (RowsI w7 (.slice au rs.length cu) rs) := R6.out.stays hb7
        have y0 := (hb7.cell (p := ⟨pb, 0, none⟩) z6).trans y0
        have y1 := (hb7.cell (p := ⟨pb, 1, none⟩) z6).trans y1
        have y2 := (hb7.cell (p := ⟨pb, 2, none⟩) z6).trans y2
        have z7 := World.block_lt_of_cell? _ _ y0
        have hwi := wideR_any R7.out HFW.out pc many
        clear hop hb7 R6 B6 z6
        generalize widR rs = wd at *
        go_wp2_with fail
        refine hwi.mono ?_
        rintro e w8 ⟨rfl, hb8⟩
        have B8 : Hid (Below w.heap.size w w8) := B7.out.trans (hb8.mono B7.out.size)
        clear hwi hb8 R7 B7 z7
        go_wp2
        go_ret
        exact ⟨rfl, B8.out⟩
end Go.Proofs.YtidagpanknhaaaaDoor
