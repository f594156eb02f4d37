/-
  What the verifier's matches answers: is a word of a row of the document's table.
-/
import Derived.Test.YtccnliihdhnckaaGreatDoorQOper
import Derived.Test.YtccnliihdhnckaaGreatDoorQRowOf
namespace Go.Proofs.YtccnliihdhnckaaGreatDoor
open Go.RowKit Go.Extern.Stop Go.Stop Go.Extern
open Num Tab Fm
set_option linter.unusedVariables false
theorem lt_le : ∀ n, n < 12 → (lt n).length ≤ 10 := by decide
theorem isOf_lt (n : Nat) (hn : n < 12) (c : Int) (w : World) : Calls Tryz.prog 32 #[.string ⟨(lt n).toArray⟩, .int .u8 c] w fun e w' => e = .returned (.bool (hasB (lt n) c)) ∧ w' = w := isOf_any _ _ (lt_le n hn) w
/-- parts of a word -/
theorem p26 (v : Int) : v / pw 26 % pw 6 = v / 67108864 % 64 := rfl
theorem p21 (v : Int) : v / pw 21 % pw 5 = v / 2097152 % 32 := rfl
theorem p16 (v : Int) : v / pw 16 % pw 5 = v / 65536 % 32 := rfl
theorem p11 (v : Int) : v / pw 11 % pw 5 = v / 2048 % 32 := rfl
theorem p6 (v : Int) : v / pw 6 % pw 5 = v / 64 % 32 := rfl
theorem p0 (v : Int) : v / pw 0 % pw 6 = v % 64 := by show v / 1 % 64 = _; rw [Int.ediv_one]
theorem p0i (v : Int) : v / pw 0 % pw 16 = v % 65536 := by show v / 1 % 65536 = _; rw [Int.ediv_one]
theorem p0j (v : Int) : v / pw 0 % pw 26 = v % 67108864 := by show v / 1 % 67108864 = _; rw [Int.ediv_one]
set_option maxHeartbeats 2000000 in
theorem match_0 (x y z : ByteArray) (N v : Int) (h0 : 0 ≤ v) (h1 : v < 4294967296) (w : World) :
    Calls Tryz.prog 77 #[.int .u32 v, .agg #[.string x, .int .i64 0, .int .i64 N, .string ⟨(lt 0).toArray⟩, .string y, .string z]] w fun e w' => e = .returned (.bool (decide (v / 67108864 % 64 = 0 ∧ v / 2097152 % 32 = 0 ∧ v / 65536 % 32 = 0 ∧ v / 2048 % 32 = 0 ∧ v / 64 % 32 = 0 ∧ v % 64 = N))) ∧ Below w.heap.size w w' := by
  have f83 : hasB (lt 0) 83 = false := by decide
  have f84 : hasB (lt 0) 84 = false := by decide
  have f68 : hasB (lt 0) 68 = false := by decide
  have f97 : hasB (lt 0) 97 = false := by decide
  have f105 : hasB (lt 0) 105 = false := by decide
  have f106 : hasB (lt 0) 106 = false := by decide
  have q26 := p26 v
  have q21 := p21 v
  have q16 := p16 v
  have q11 := p11 v
  have q6 := p6 v
  have q0 := p0 v
  go_enter Tryz.func77, Tryz.ntmps77
  go_wp2_with fail
  go_quiet ((go_at_call 78; exact Calls.quiet_of_same (part_any v 26 6 h0 h1 (by omega) (by omega) (by omega) (by omega) _)))
  go_wp2_with (first | (go_at_call 32; refine (isOf_lt 0 (by decide) _ _).mono ?_; rintro e w' ⟨rfl, rfl⟩) | (go_at_call 78; refine (part_any v _ _ h0 h1 (by decide) (by decide) (by decide) (by decide) _).mono ?_; rintro e w' ⟨rfl, rfl⟩))
  all_goals go_ret
  all_goals refine ⟨ret_bool ?_, by first | exact below_drewN ((Below.refl _ _).alloc (Nat.le_refl _) _) _ | exact (Below.refl _ _).alloc (Nat.le_refl _) _⟩
  all_goals simp only [bne_iff_ne, ne_eq, bne_eq_false_iff_eq] at *
  all_goals first | (rw [eq_comm, decide_eq_true_eq]; omega) | (rw [eq_comm, decide_eq_false_iff_not]; omega) | (rw [Bool.eq_iff_iff]; simp; omega)
set_option maxHeartbeats 2000000 in
theorem match_1 (x y z : ByteArray) (N v : Int) (h0 : 0 ≤ v) (h1 : v < 4294967296) (w : World) :
    Calls Tryz.prog 77 #[.int .u32 v, .agg #[.string x, .int .i64 0, .int .i64 N, .string ⟨(lt 1).toArray⟩, .string y, .string z]] w fun e w' => e = .returned (.bool (decide (v / 67108864 % 64 = 0 ∧ v / 2097152 % 32 = 0 ∧ v % 64 = N))) ∧ Below w.heap.size w w' := by
  have f83 : hasB (lt 1) 83 = false := by decide
  have f84 : hasB (lt 1) 84 = true := by decide
  have f68 : hasB (lt 1) 68 = true := by decide
  have f97 : hasB (lt 1) 97 = true := by decide
  have f105 : hasB (lt 1) 105 = false := by decide
  have f106 : hasB (lt 1) 106 = false := by decide
  have q26 := p26 v
  have q21 := p21 v
  have q16 := p16 v
  have q11 := p11 v
  have q6 := p6 v
  have q0 := p0 v
  go_enter Tryz.func77, Tryz.ntmps77
  go_wp2_with fail
  go_quiet ((go_at_call 78; exact Calls.quiet_of_same (part_any v 26 6 h0 h1 (by omega) (by omega) (by omega) (by omega) _)))
  go_wp2_with (first | (go_at_call 32; refine (isOf_lt 1 (by decide) _ _).mono ?_; rintro e w' ⟨rfl, rfl⟩) | (go_at_call 78; refine (part_any v _ _ h0 h1 (by decide) (by decide) (by decide) (by decide) _).mono ?_; rintro e w' ⟨rfl, rfl⟩))
  all_goals go_ret
  all_goals refine ⟨ret_bool ?_, by first | exact below_drewN ((Below.refl _ _).alloc (Nat.le_refl _) _) _ | exact (Below.refl _ _).alloc (Nat.le_refl _) _⟩
  all_goals simp only [bne_iff_ne, ne_eq, bne_eq_false_iff_eq] at *
  all_goals first | (rw [eq_comm, decide_eq_true_eq]; omega) | (rw [eq_comm, decide_eq_false_iff_not]; omega) | (rw [Bool.eq_iff_iff]; simp; omega)
set_option maxHeartbeats 2000000 in
theorem match_2 (x y z : ByteArray) (N v : Int) (h0 : 0 ≤ v) (h1 : v < 4294967296) (w : World) :
    Calls Tryz.prog 77 #[.int .u32 v, .agg #[.string x, .int .i64 0, .int .i64 N, .string ⟨(lt 2).toArray⟩, .string y, .string z]] w fun e w' => e = .returned (.bool (decide (v / 67108864 % 64 = 0 ∧ v / 64 % 32 = 0 ∧ v % 64 = N))) ∧ Below w.heap.size w w' := by
  have f83 : hasB (lt 2) 83 = true := by decide
  have f84 : hasB (lt 2) 84 = true := by decide
  have f68 : hasB (lt 2) 68 = true := by decide
  have f97 : hasB (lt 2) 97 = false := by decide
  have f105 : hasB (lt 2) 105 = false := by decide
  have f106 : hasB (lt 2) 106 = false := by decide
  have q26 := p26 v
  have q21 := p21 v
  have q16 := p16 v
  have q11 := p11 v
  have q6 := p6 v
  have q0 := p0 v
  go_enter Tryz.func77, Tryz.ntmps77
  go_wp2_with fail
  go_quiet ((go_at_call 78; exact Calls.quiet_of_same (part_any v 26 6 h0 h1 (by omega) (by omega) (by omega) (by omega) _)))
  go_wp2_with (first | (go_at_call 32; refine (isOf_lt 2 (by decide) _ _).mono ?_; rintro e w' ⟨rfl, rfl⟩) | (go_at_call 78; refine (part_any v _ _ h0 h1 (by decide) (by decide) (by decide) (by decide) _).mono ?_; rintro e w' ⟨rfl, rfl⟩))
  all_goals go_ret
  all_goals refine ⟨ret_bool ?_, by first | exact below_drewN ((Below.refl _ _).alloc (Nat.le_refl _) _) _ | exact (Below.refl _ _).alloc (Nat.le_refl _) _⟩
  all_goals simp only [bne_iff_ne, ne_eq, bne_eq_false_iff_eq] at *
  all_goals first | (rw [eq_comm, decide_eq_true_eq]; omega) | (rw [eq_comm, decide_eq_false_iff_not]; omega) | (rw [Bool.eq_iff_iff]; simp; omega)
set_option maxHeartbeats 2000000 in
theorem match_3 (x y z : ByteArray) (N v : Int) (h0 : 0 ≤ v) (h1 : v < 4294967296) (w : World) :
    Calls Tryz.prog 77 #[.int .u32 v, .agg #[.string x, .int .i64 0, .int .i64 N, .string ⟨(lt 3).toArray⟩, .string y, .string z]] w fun e w' => e = .returned (.bool (decide (v / 67108864 % 64 = 0 ∧ v / 65536 % 32 = 0 ∧ v / 2048 % 32 = 0 ∧ v / 64 % 32 = 0 ∧ v % 64 = N))) ∧ Below w.heap.size w w' := by
  have f83 : hasB (lt 3) 83 = true := by decide
  have f84 : hasB (lt 3) 84 = false := by decide
  have f68 : hasB (lt 3) 68 = false := by decide
  have f97 : hasB (lt 3) 97 = false := by decide
  have f105 : hasB (lt 3) 105 = false := by decide
  have f106 : hasB (lt 3) 106 = false := by decide
  have q26 := p26 v
  have q21 := p21 v
  have q16 := p16 v
  have q11 := p11 v
  have q6 := p6 v
  have q0 := p0 v
  go_enter Tryz.func77, Tryz.ntmps77
  go_wp2_with fail
  go_quiet ((go_at_call 78; exact Calls.quiet_of_same (part_any v 26 6 h0 h1 (by omega) (by omega) (by omega) (by omega) _)))
  go_wp2_with (first | (go_at_call 32; refine (isOf_lt 3 (by decide) _ _).mono ?_; rintro e w' ⟨rfl, rfl⟩) | (go_at_call 78; refine (part_any v _ _ h0 h1 (by decide) (by decide) (by decide) (by decide) _).mono ?_; rintro e w' ⟨rfl, rfl⟩))
  all_goals go_ret
  all_goals refine ⟨ret_bool ?_, by first | exact below_drewN ((Below.refl _ _).alloc (Nat.le_refl _) _) _ | exact (Below.refl _ _).alloc (Nat.le_refl _) _⟩
  all_goals simp only [bne_iff_ne, ne_eq, bne_eq_false_iff_eq] at *
  all_goals first | (rw [eq_comm, decide_eq_true_eq]; omega) | (rw [eq_comm, decide_eq_false_iff_not]; omega) | (rw [Bool.eq_iff_iff]; simp; omega)
set_option maxHeartbeats 2000000 in
theorem match_4 (x y z : ByteArray) (N v : Int) (h0 : 0 ≤ v) (h1 : v < 4294967296) (w : World) :
    Calls Tryz.prog 77 #[.int .u32 v, .agg #[.string x, .int .i64 0, .int .i64 N, .string ⟨(lt 4).toArray⟩, .string y, .string z]] w fun e w' => e = .returned (.bool (decide (v / 67108864 % 64 = 0 ∧ v / 65536 % 32 = 0 ∧ v / 64 % 32 = 0 ∧ v % 64 = N))) ∧ Below w.heap.size w w' := by
  have f83 : hasB (lt 4) 83 = true := by decide
  have f84 : hasB (lt 4) 84 = false := by decide
  have f68 : hasB (lt 4) 68 = true := by decide
  have f97 : hasB (lt 4) 97 = false := by decide
  have f105 : hasB (lt 4) 105 = false := by decide
  have f106 : hasB (lt 4) 106 = false := by decide
  have q26 := p26 v
  have q21 := p21 v
  have q16 := p16 v
  have q11 := p11 v
  have q6 := p6 v
  have q0 := p0 v
  go_enter Tryz.func77, Tryz.ntmps77
  go_wp2_with fail
  go_quiet ((go_at_call 78; exact Calls.quiet_of_same (part_any v 26 6 h0 h1 (by omega) (by omega) (by omega) (by omega) _)))
  go_wp2_with (first | (go_at_call 32; refine (isOf_lt 4 (by decide) _ _).mono ?_; rintro e w' ⟨rfl, rfl⟩) | (go_at_call 78; refine (part_any v _ _ h0 h1 (by decide) (by decide) (by decide) (by decide) _).mono ?_; rintro e w' ⟨rfl, rfl⟩))
  all_goals go_ret
  all_goals refine ⟨ret_bool ?_, by first | exact below_drewN ((Below.refl _ _).alloc (Nat.le_refl _) _) _ | exact (Below.refl _ _).alloc (Nat.le_refl _) _⟩
  all_goals simp only [bne_iff_ne, ne_eq, bne_eq_false_iff_eq] at *
  all_goals first | (rw [eq_comm, decide_eq_true_eq]; omega) | (rw [eq_comm, decide_eq_false_iff_not]; omega) | (rw [Bool.eq_iff_iff]; simp; omega)
set_option maxHeartbeats 2000000 in
theorem match_5 (x y z : ByteArray) (N v : Int) (h0 : 0 ≤ v) (h1 : v < 4294967296) (w : World) :
    Calls Tryz.prog 77 #[.int .u32 v, .agg #[.string x, .int .i64 0, .int .i64 N, .string ⟨(lt 5).toArray⟩, .string y, .string z]] w fun e w' => e = .returned (.bool (decide (v / 67108864 % 64 = 0 ∧ v / 2097152 % 32 = 0 ∧ v / 65536 % 32 = 0 ∧ v / 64 % 32 = 0 ∧ v % 64 = N))) ∧ Below w.heap.size w w' := by
  have f83 : hasB (lt 5) 83 = false := by decide
  have f84 : hasB (lt 5) 84 = false := by decide
  have f68 : hasB (lt 5) 68 = true := by decide
  have f97 : hasB (lt 5) 97 = false := by decide
  have f105 : hasB (lt 5) 105 = false := by decide
  have f106 : hasB (lt 5) 106 = false := by decide
  have q26 := p26 v
  have q21 := p21 v
  have q16 := p16 v
  have q11 := p11 v
  have q6 := p6 v
  have q0 := p0 v
  go_enter Tryz.func77, Tryz.ntmps77
  go_wp2_with fail
  go_quiet ((go_at_call 78; exact Calls.quiet_of_same (part_any v 26 6 h0 h1 (by omega) (by omega) (by omega) (by omega) _)))
  go_wp2_with (first | (go_at_call 32; refine (isOf_lt 5 (by decide) _ _).mono ?_; rintro e w' ⟨rfl, rfl⟩) | (go_at_call 78; refine (part_any v _ _ h0 h1 (by decide) (by decide) (by decide) (by decide) _).mono ?_; rintro e w' ⟨rfl, rfl⟩))
  all_goals go_ret
  all_goals refine ⟨ret_bool ?_, by first | exact below_drewN ((Below.refl _ _).alloc (Nat.le_refl _) _) _ | exact (Below.refl _ _).alloc (Nat.le_refl _) _⟩
  all_goals simp only [bne_iff_ne, ne_eq, bne_eq_false_iff_eq] at *
  all_goals first | (rw [eq_comm, decide_eq_true_eq]; omega) | (rw [eq_comm, decide_eq_false_iff_not]; omega) | (rw [Bool.eq_iff_iff]; simp; omega)
set_option maxHeartbeats 2000000 in
theorem match_6 (x y z : ByteArray) (N v : Int) (h0 : 0 ≤ v) (h1 : v < 4294967296) (w : World) :
    Calls Tryz.prog 77 #[.int .u32 v, .agg #[.string x, .int .i64 0, .int .i64 N, .string ⟨(lt 6).toArray⟩, .string y, .string z]] w fun e w' => e = .returned (.bool (decide (v / 67108864 % 64 = 0 ∧ v / 2048 % 32 = 0 ∧ v / 64 % 32 = 0 ∧ v % 64 = N))) ∧ Below w.heap.size w w' := by
  have f83 : hasB (lt 6) 83 = true := by decide
  have f84 : hasB (lt 6) 84 = true := by decide
  have f68 : hasB (lt 6) 68 = false := by decide
  have f97 : hasB (lt 6) 97 = false := by decide
  have f105 : hasB (lt 6) 105 = false := by decide
  have f106 : hasB (lt 6) 106 = false := by decide
  have q26 := p26 v
  have q21 := p21 v
  have q16 := p16 v
  have q11 := p11 v
  have q6 := p6 v
  have q0 := p0 v
  go_enter Tryz.func77, Tryz.ntmps77
  go_wp2_with fail
  go_quiet ((go_at_call 78; exact Calls.quiet_of_same (part_any v 26 6 h0 h1 (by omega) (by omega) (by omega) (by omega) _)))
  go_wp2_with (first | (go_at_call 32; refine (isOf_lt 6 (by decide) _ _).mono ?_; rintro e w' ⟨rfl, rfl⟩) | (go_at_call 78; refine (part_any v _ _ h0 h1 (by decide) (by decide) (by decide) (by decide) _).mono ?_; rintro e w' ⟨rfl, rfl⟩))
  all_goals go_ret
  all_goals refine ⟨ret_bool ?_, by first | exact below_drewN ((Below.refl _ _).alloc (Nat.le_refl _) _) _ | exact (Below.refl _ _).alloc (Nat.le_refl _) _⟩
  all_goals simp only [bne_iff_ne, ne_eq, bne_eq_false_iff_eq] at *
  all_goals first | (rw [eq_comm, decide_eq_true_eq]; omega) | (rw [eq_comm, decide_eq_false_iff_not]; omega) | (rw [Bool.eq_iff_iff]; simp; omega)
set_option maxHeartbeats 2000000 in
theorem match_7 (x y z : ByteArray) (M : Int) (hM0 : M ≠ 0) (hM1 : M ≠ 16) (v : Int) (h0 : 0 ≤ v) (h1 : v < 4294967296) (w : World) :
    Calls Tryz.prog 77 #[.int .u32 v, .agg #[.string x, .int .i64 M, .int .i64 0, .string ⟨(lt 7).toArray⟩, .string y, .string z]] w fun e w' => e = .returned (.bool (decide (v / 67108864 % 64 = M))) ∧ Below w.heap.size w w' := by
  have f83 : hasB (lt 7) 83 = false := by decide
  have f84 : hasB (lt 7) 84 = false := by decide
  have f68 : hasB (lt 7) 68 = false := by decide
  have f97 : hasB (lt 7) 97 = false := by decide
  have f105 : hasB (lt 7) 105 = false := by decide
  have f106 : hasB (lt 7) 106 = true := by decide
  have q26 := p26 v
  have q21 := p21 v
  have q16 := p16 v
  have q11 := p11 v
  have q6 := p6 v
  have q0 := p0 v
  have g0 : (M == 0) = false := by simpa using hM0
  have g16 : (M == 16) = false := by simpa using hM1
  go_enter Tryz.func77, Tryz.ntmps77
  go_wp2_with fail
  go_quiet ((go_at_call 78; exact Calls.quiet_of_same (part_any v 26 6 h0 h1 (by omega) (by omega) (by omega) (by omega) _)))
  go_wp2_with (first | (go_at_call 32; refine (isOf_lt 7 (by decide) _ _).mono ?_; rintro e w' ⟨rfl, rfl⟩) | (go_at_call 78; refine (part_any v _ _ h0 h1 (by decide) (by decide) (by decide) (by decide) _).mono ?_; rintro e w' ⟨rfl, rfl⟩))
  all_goals go_ret
  all_goals refine ⟨ret_bool ?_, by first | exact below_drewN ((Below.refl _ _).alloc (Nat.le_refl _) _) _ | exact (Below.refl _ _).alloc (Nat.le_refl _) _⟩
  all_goals simp only [bne_iff_ne, ne_eq, bne_eq_false_iff_eq] at *
  all_goals first | (rw [eq_comm, decide_eq_true_eq]; omega) | (rw [eq_comm, decide_eq_false_iff_not]; omega) | (rw [Bool.eq_iff_iff]; simp; omega)
set_option maxHeartbeats 2000000 in
theorem match_8 (x y z : ByteArray) (M : Int) (hM0 : M ≠ 0) (hM1 : M ≠ 16) (v : Int) (h0 : 0 ≤ v) (h1 : v < 4294967296) (w : World) :
    Calls Tryz.prog 77 #[.int .u32 v, .agg #[.string x, .int .i64 M, .int .i64 0, .string ⟨(lt 8).toArray⟩, .string y, .string z]] w fun e w' => e = .returned (.bool (decide (v / 67108864 % 64 = M))) ∧ Below w.heap.size w w' := by
  have f83 : hasB (lt 8) 83 = true := by decide
  have f84 : hasB (lt 8) 84 = true := by decide
  have f68 : hasB (lt 8) 68 = false := by decide
  have f97 : hasB (lt 8) 97 = false := by decide
  have f105 : hasB (lt 8) 105 = true := by decide
  have f106 : hasB (lt 8) 106 = false := by decide
  have q26 := p26 v
  have q21 := p21 v
  have q16 := p16 v
  have q11 := p11 v
  have q6 := p6 v
  have q0 := p0 v
  have g0 : (M == 0) = false := by simpa using hM0
  have g16 : (M == 16) = false := by simpa using hM1
  go_enter Tryz.func77, Tryz.ntmps77
  go_wp2_with fail
  go_quiet ((go_at_call 78; exact Calls.quiet_of_same (part_any v 26 6 h0 h1 (by omega) (by omega) (by omega) (by omega) _)))
  go_wp2_with (first | (go_at_call 32; refine (isOf_lt 8 (by decide) _ _).mono ?_; rintro e w' ⟨rfl, rfl⟩) | (go_at_call 78; refine (part_any v _ _ h0 h1 (by decide) (by decide) (by decide) (by decide) _).mono ?_; rintro e w' ⟨rfl, rfl⟩))
  all_goals go_ret
  all_goals refine ⟨ret_bool ?_, by first | exact below_drewN ((Below.refl _ _).alloc (Nat.le_refl _) _) _ | exact (Below.refl _ _).alloc (Nat.le_refl _) _⟩
  all_goals simp only [bne_iff_ne, ne_eq, bne_eq_false_iff_eq] at *
  all_goals first | (rw [eq_comm, decide_eq_true_eq]; omega) | (rw [eq_comm, decide_eq_false_iff_not]; omega) | (rw [Bool.eq_iff_iff]; simp; omega)
set_option maxHeartbeats 2000000 in
theorem match_9 (x y z : ByteArray) (M : Int) (hM0 : M ≠ 0) (hM1 : M ≠ 16) (v : Int) (h0 : 0 ≤ v) (h1 : v < 4294967296) (w : World) :
    Calls Tryz.prog 77 #[.int .u32 v, .agg #[.string x, .int .i64 M, .int .i64 0, .string ⟨(lt 9).toArray⟩, .string y, .string z]] w fun e w' => e = .returned (.bool (decide (v / 67108864 % 64 = M ∧ v / 65536 % 32 = 0))) ∧ Below w.heap.size w w' := by
  have f83 : hasB (lt 9) 83 = true := by decide
  have f84 : hasB (lt 9) 84 = false := by decide
  have f68 : hasB (lt 9) 68 = false := by decide
  have f97 : hasB (lt 9) 97 = false := by decide
  have f105 : hasB (lt 9) 105 = true := by decide
  have f106 : hasB (lt 9) 106 = false := by decide
  have q26 := p26 v
  have q21 := p21 v
  have q16 := p16 v
  have q11 := p11 v
  have q6 := p6 v
  have q0 := p0 v
  have g0 : (M == 0) = false := by simpa using hM0
  have g16 : (M == 16) = false := by simpa using hM1
  go_enter Tryz.func77, Tryz.ntmps77
  go_wp2_with fail
  go_quiet ((go_at_call 78; exact Calls.quiet_of_same (part_any v 26 6 h0 h1 (by omega) (by omega) (by omega) (by omega) _)))
  go_wp2_with (first | (go_at_call 32; refine (isOf_lt 9 (by decide) _ _).mono ?_; rintro e w' ⟨rfl, rfl⟩) | (go_at_call 78; refine (part_any v _ _ h0 h1 (by decide) (by decide) (by decide) (by decide) _).mono ?_; rintro e w' ⟨rfl, rfl⟩))
  all_goals go_ret
  all_goals refine ⟨ret_bool ?_, by first | exact below_drewN ((Below.refl _ _).alloc (Nat.le_refl _) _) _ | exact (Below.refl _ _).alloc (Nat.le_refl _) _⟩
  all_goals simp only [bne_iff_ne, ne_eq, bne_eq_false_iff_eq] at *
  all_goals first | (rw [eq_comm, decide_eq_true_eq]; omega) | (rw [eq_comm, decide_eq_false_iff_not]; omega) | (rw [Bool.eq_iff_iff]; simp; omega)
set_option maxHeartbeats 2000000 in
theorem match_10 (x y z : ByteArray) (M : Int) (hM0 : M ≠ 0) (hM1 : M ≠ 16) (v : Int) (h0 : 0 ≤ v) (h1 : v < 4294967296) (w : World) :
    Calls Tryz.prog 77 #[.int .u32 v, .agg #[.string x, .int .i64 M, .int .i64 0, .string ⟨(lt 10).toArray⟩, .string y, .string z]] w fun e w' => e = .returned (.bool (decide (v / 67108864 % 64 = M ∧ v / 2097152 % 32 = 0))) ∧ Below w.heap.size w w' := by
  have f83 : hasB (lt 10) 83 = false := by decide
  have f84 : hasB (lt 10) 84 = true := by decide
  have f68 : hasB (lt 10) 68 = false := by decide
  have f97 : hasB (lt 10) 97 = false := by decide
  have f105 : hasB (lt 10) 105 = true := by decide
  have f106 : hasB (lt 10) 106 = false := by decide
  have q26 := p26 v
  have q21 := p21 v
  have q16 := p16 v
  have q11 := p11 v
  have q6 := p6 v
  have q0 := p0 v
  have g0 : (M == 0) = false := by simpa using hM0
  have g16 : (M == 16) = false := by simpa using hM1
  go_enter Tryz.func77, Tryz.ntmps77
  go_wp2_with fail
  go_quiet ((go_at_call 78; exact Calls.quiet_of_same (part_any v 26 6 h0 h1 (by omega) (by omega) (by omega) (by omega) _)))
  go_wp2_with (first | (go_at_call 32; refine (isOf_lt 10 (by decide) _ _).mono ?_; rintro e w' ⟨rfl, rfl⟩) | (go_at_call 78; refine (part_any v _ _ h0 h1 (by decide) (by decide) (by decide) (by decide) _).mono ?_; rintro e w' ⟨rfl, rfl⟩))
  all_goals go_ret
  all_goals refine ⟨ret_bool ?_, by first | exact below_drewN ((Below.refl _ _).alloc (Nat.le_refl _) _) _ | exact (Below.refl _ _).alloc (Nat.le_refl _) _⟩
  all_goals simp only [bne_iff_ne, ne_eq, bne_eq_false_iff_eq] at *
  all_goals first | (rw [eq_comm, decide_eq_true_eq]; omega) | (rw [eq_comm, decide_eq_false_iff_not]; omega) | (rw [Bool.eq_iff_iff]; simp; omega)
set_option maxHeartbeats 2000000 in
theorem match_11 (x y z : ByteArray) (N : Int) (hN : N ≠ 16) (v : Int) (h0 : 0 ≤ v) (h1 : v < 4294967296) (w : World) :
    Calls Tryz.prog 77 #[.int .u32 v, .agg #[.string x, .int .i64 16, .int .i64 N, .string ⟨(lt 11).toArray⟩, .string y, .string z]] w fun e w' => e = .returned (.bool (decide (v / 67108864 % 64 = 16 ∧ v / 2097152 % 32 = N ∧ v / 64 % 32 = 0 ∧ v % 64 = 0))) ∧ Below w.heap.size w w' := by
  have f83 : hasB (lt 11) 83 = false := by decide
  have f84 : hasB (lt 11) 84 = true := by decide
  have f68 : hasB (lt 11) 68 = true := by decide
  have f97 : hasB (lt 11) 97 = false := by decide
  have f105 : hasB (lt 11) 105 = false := by decide
  have f106 : hasB (lt 11) 106 = false := by decide
  have q26 := p26 v
  have q21 := p21 v
  have q16 := p16 v
  have q11 := p11 v
  have q6 := p6 v
  have q0 := p0 v
  have g16 : (N == 16) = false := by simpa using hN
  go_enter Tryz.func77, Tryz.ntmps77
  go_wp2_with fail
  go_quiet ((go_at_call 78; exact Calls.quiet_of_same (part_any v 26 6 h0 h1 (by omega) (by omega) (by omega) (by omega) _)))
  go_wp2_with (first | (go_at_call 32; refine (isOf_lt 11 (by decide) _ _).mono ?_; rintro e w' ⟨rfl, rfl⟩) | (go_at_call 78; refine (part_any v _ _ h0 h1 (by decide) (by decide) (by decide) (by decide) _).mono ?_; rintro e w' ⟨rfl, rfl⟩))
  all_goals go_ret
  all_goals refine ⟨ret_bool ?_, by first | exact below_drewN ((Below.refl _ _).alloc (Nat.le_refl _) _) _ | exact (Below.refl _ _).alloc (Nat.le_refl _) _⟩
  all_goals simp only [bne_iff_ne, ne_eq, bne_eq_false_iff_eq] at *
  all_goals first | (rw [eq_comm, decide_eq_true_eq]; omega) | (rw [eq_comm, decide_eq_false_iff_not]; omega) | (rw [Bool.eq_iff_iff]; simp; omega)
set_option maxHeartbeats 2000000 in
theorem match_e (x y z : ByteArray) (v : Int) (h0 : 0 ≤ v) (h1 : v < 4294967296) (w : World) :
    Calls Tryz.prog 77 #[.int .u32 v, .agg #[.string x, .int .i64 16, .int .i64 16, .string ⟨(lt 0).toArray⟩, .string y, .string z]] w fun e w' => e = .returned (.bool (decide (v / 67108864 % 64 = 16 ∧ v / 2097152 % 32 = 16 ∧ v / 65536 % 32 = 0 ∧ v / 2048 % 32 = 0 ∧ v / 64 % 32 = 0 ∧ v % 64 = 24))) ∧ Below w.heap.size w w' := by
  have f83 : hasB (lt 0) 83 = false := by decide
  have f84 : hasB (lt 0) 84 = false := by decide
  have f68 : hasB (lt 0) 68 = false := by decide
  have f97 : hasB (lt 0) 97 = false := by decide
  have f105 : hasB (lt 0) 105 = false := by decide
  have f106 : hasB (lt 0) 106 = false := by decide
  have q26 := p26 v
  have q21 := p21 v
  have q16 := p16 v
  have q11 := p11 v
  have q6 := p6 v
  have q0 := p0 v
  go_enter Tryz.func77, Tryz.ntmps77
  go_wp2_with fail
  go_quiet ((go_at_call 78; exact Calls.quiet_of_same (part_any v 26 6 h0 h1 (by omega) (by omega) (by omega) (by omega) _)))
  go_wp2_with (first | (go_at_call 32; refine (isOf_lt 0 (by decide) _ _).mono ?_; rintro e w' ⟨rfl, rfl⟩) | (go_at_call 78; refine (part_any v _ _ h0 h1 (by decide) (by decide) (by decide) (by decide) _).mono ?_; rintro e w' ⟨rfl, rfl⟩))
  all_goals go_ret
  all_goals refine ⟨ret_bool ?_, by first | exact below_drewN ((Below.refl _ _).alloc (Nat.le_refl _) _) _ | exact (Below.refl _ _).alloc (Nat.le_refl _) _⟩
  all_goals simp only [bne_iff_ne, ne_eq, bne_eq_false_iff_eq] at *
  all_goals first | (rw [eq_comm, decide_eq_true_eq]; omega) | (rw [eq_comm, decide_eq_false_iff_not]; omega) | (rw [Bool.eq_iff_iff]; simp; omega)
end Go.Proofs.YtccnliihdhnckaaGreatDoor
