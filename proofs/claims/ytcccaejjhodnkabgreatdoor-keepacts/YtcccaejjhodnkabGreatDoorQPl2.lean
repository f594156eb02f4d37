/-
  Package plan: whether a row's parts fit; whether it has room.
-/
import Derived.Test.YtcccaejjhodnkabGreatDoorQPl1
namespace Go.Proofs.YtcccaejjhodnkabGreatDoor
open Go.RowKit Go.Maps
open Num
set_option linter.unusedVariables false
/-- how many each part may have -/
structure Mst (w : World) : Prop where
  c0 : w.cell? ⟨11, 0, none⟩ = some (.int .i64 3)
  c1 : w.cell? ⟨11, 1, none⟩ = some (.int .i64 1)
  c2 : w.cell? ⟨11, 2, none⟩ = some (.int .i64 1)
theorem Mst.lt {w : World} (M : Mst w) : 11 < w.heap.size := World.block_lt_of_cell? _ _ M.c0
theorem Mst.stays {w w' : World} (M : Mst w) (h : Below w.heap.size w w') : Mst w' := ⟨(h.cell (p := ⟨11, 0, none⟩) M.lt).trans M.c0, (h.cell (p := ⟨11, 1, none⟩) M.lt).trans M.c1, (h.cell (p := ⟨11, 2, none⟩) M.lt).trans M.c2⟩
theorem idx3 (x y z : Value) (W : World) : (Instr.index 120 (.agg #[x, y, z]) (.int .i64 0)).run Tryz.prog W = .ok x W ∧ (Instr.index 120 (.agg #[x, y, z]) (.int .i64 1)).run Tryz.prog W = .ok y W ∧ (Instr.index 120 (.agg #[x, y, z]) (.int .i64 2)).run Tryz.prog W = .ok z W := by
  have e1 : (sizeOf 3).run Tryz.prog W = .ok 1 W := by kernel_rfl
  refine ⟨?_, ?_, ?_⟩ <;> simp [Instr.index, run_underlying Tryz.underlying120, e1, part, go_sem]
set_option maxRecDepth 100000 in
set_option maxHeartbeats 2000000 in
theorem fit_any {w : World} (M : Mst w) (a b c : Nat) (ha : a ≤ 1000000) (hb : b ≤ 1000000) (hc : c ≤ 1000000) :
    Calls Tryz.prog 64 #[.agg #[.int .i64 (a : Int), .int .i64 (b : Int), .int .i64 (c : Int)]] w fun e w' => e = .returned (.bool (fitC a b c)) ∧ Below w.heap.size w w' := by
  have B0 : Below w.heap.size w (w.alloc (.cells #[.int .i64 (a : Int), .int .i64 (b : Int), .int .i64 (c : Int)] 120)) := (Below.refl _ _).alloc (Nat.le_refl _) _
  have M1 := M.stays B0
  have C1 := C3.new w a b c
  have hz := M.lt
  have hi0 : ∀ W, (Instr.index 120 (.agg #[.int .i64 (a : Int), .int .i64 (b : Int), .int .i64 (c : Int)]) (.int .i64 0)).run Tryz.prog W = .ok (.int .i64 (a : Int)) W := fun W => (idx3 _ _ _ W).1
  have hi1 : ∀ W, (Instr.index 120 (.agg #[.int .i64 (a : Int), .int .i64 (b : Int), .int .i64 (c : Int)]) (.int .i64 1)).run Tryz.prog W = .ok (.int .i64 (b : Int)) W := fun W => (idx3 _ _ _ W).2.1
  have hi2 : ∀ W, (Instr.index 120 (.agg #[.int .i64 (a : Int), .int .i64 (b : Int), .int .i64 (c : Int)]) (.int .i64 2)).run Tryz.prog W = .ok (.int .i64 (c : Int)) W := fun W => (idx3 _ _ _ W).2.2
  obtain ⟨R, hR⟩ : ∃ R, fitC a b c = R := ⟨_, rfl⟩
  have HR : Hid (fitC a b c = R) := hR
  rw [hR]
  clear hR M
  go_enter Tryz.func64, Tryz.ntmps64
  go_upto_region 1 with fail
  generalize w.alloc (.cells #[.int .i64 (a : Int), .int .i64 (b : Int), .int .i64 (c : Int)] 120) = V at *
  obtain ⟨m0, m1, m2⟩ := M1
  obtain ⟨y0, y1, y2, yf⟩ := C1
  have HB : Hid (Below w.heap.size w V) := B0
  clear B0
  go_wp2
  go_loop [3, 7] (fun n i => (i = .int .i64 0 ∧ n = .int .i64 0) ∨ (i = .int .i64 1 ∧ n = .int .i64 (a : Int) ∧ Hid (a ≤ 3)) ∨ (i = .int .i64 2 ∧ n = .int .i64 ((a : Int) + b) ∧ Hid (a ≤ 3 ∧ b ≤ 1)) ∨ (i = .int .i64 3 ∧ n = .int .i64 ((a : Int) + b + c) ∧ Hid (a ≤ 3 ∧ b ≤ 1 ∧ c ≤ 1))) (fun _ i => 3 - (intOf i).toNat)
  case atStart => exact .inl ⟨rfl, rfl⟩
  case round =>
    rcases hrel with ⟨rfl, rfl⟩ | ⟨rfl, rfl, HI⟩ | ⟨rfl, rfl, HI⟩ | ⟨rfl, rfl, HI⟩
    · by_cases hx : (3 : Int) < a
      · have E : Hid (R = false) := by
          show _ = _; rw [← HR.out]; unfold fitC
          rw [show decide (a ≤ 3) = false by simp only [decide_eq_false_iff_not]; omega]; simp
        clear HR
        go_wp2
        go_ret
        exact ⟨by rw [E.out]; rfl, HB.out⟩
      · have hx2 : Hid (a ≤ 3) := by show _ ≤ _; omega
        go_wp2
        go_round
        case rel => exact .inr (.inl ⟨rfl, by first | rfl | go_num, hx2.out⟩)
        case measure => simp [intOf]
    · by_cases hx : (1 : Int) < b
      · have E : Hid (R = false) := by
          show _ = _; rw [← HR.out]; unfold fitC
          rw [show decide (b ≤ 1) = false by simp only [decide_eq_false_iff_not]; omega]; simp
        clear HR
        go_wp2
        go_ret
        exact ⟨by rw [E.out]; rfl, HB.out⟩
      · have hx2 : Hid (b ≤ 1) := by show _ ≤ _; omega
        go_wp2
        go_round
        case rel => exact .inr (.inr (.inl ⟨rfl, by first | rfl | go_num, ⟨HI.out, hx2.out⟩⟩))
        case measure => simp [intOf]
    · by_cases hx : (1 : Int) < c
      · have E : Hid (R = false) := by
          show _ = _; rw [← HR.out]; unfold fitC
          rw [show decide (c ≤ 1) = false by simp only [decide_eq_false_iff_not]; omega]; simp
        clear HR
        go_wp2
        go_ret
        exact ⟨by rw [E.out]; rfl, HB.out⟩
      · have hx2 : Hid (c ≤ 1) := by show _ ≤ _; omega
        go_wp2
        go_round
        case rel => exact .inr (.inr (.inr ⟨rfl, by first | rfl | go_num, ⟨HI.out.1, HI.out.2, hx2.out⟩⟩))
        case measure => simp [intOf]
    · obtain ⟨h1, h2, h3⟩ := HI.out
      have E : Hid (R = decide ((a : Int) + b + c ≤ 4)) := by
        show _ = _; rw [← HR.out]; unfold fitC
        simp only [h1, h2, h3, decide_true, Bool.true_and]
        by_cases h : a + b + c ≤ 4
        · rw [decide_eq_true h, decide_eq_true (by omega)]
        · rw [decide_eq_false h, decide_eq_false (by omega)]
      clear HR h1 h2 h3 HI
      go_wp2
      go_ret
      exact ⟨by rw [E.out]; rfl, HB.out⟩
end Go.Proofs.YtcccaejjhodnkabGreatDoor
