/-
  Package ir: what a kind makes of two registers.
-/
import Derived.Test.YtkehhlibkebomaaDoorKNum
import Derived.Test.YtkehhlibkebomaaDoorKPure
namespace Go.Proofs.YtkehhlibkebomaaDoor
open Go.RowKit
open Num
set_option linter.unusedVariables false
set_option maxHeartbeats 400000 in
theorem bit_any (y : Bool) (w : World) : Calls Tryd.prog 58 #[.bool y] w fun e w' => e = .returned (.int .u32 (if y = true then 1 else 0)) ∧ w' = w := by
  cases y
  all_goals
    go_enter Tryd.func58, Tryd.ntmps58
    go_wp2
    go_ret
    exact ⟨rfl, rfl⟩
set_option maxHeartbeats 1000000 in
theorem result_3 (a b : Int) (h0 : 0 ≤ a) (h1 : a < 4294967296) (g0 : 0 ≤ b) (g1 : b < 4294967296) (w : World) : Calls Tryd.prog 46 #[.string ⟨#[97, 100, 100]⟩, .int .u32 a, .int .u32 b] w fun e w' => e = .returned (.int .u32 (lo (a + b))) ∧ w' = w := by
  go_enter Tryd.func46, Tryd.ntmps46
  go_wp2
  all_goals
    go_ret
    exact ⟨ret_int (by unfold lo; rfl), rfl⟩
set_option maxHeartbeats 1000000 in
theorem result_4 (a b : Int) (h0 : 0 ≤ a) (h1 : a < 4294967296) (g0 : 0 ≤ b) (g1 : b < 4294967296) (w : World) : Calls Tryd.prog 46 #[.string ⟨#[115, 117, 98]⟩, .int .u32 a, .int .u32 b] w fun e w' => e = .returned (.int .u32 (lo (a - b))) ∧ w' = w := by
  go_enter Tryd.func46, Tryd.ntmps46
  go_wp2
  all_goals
    go_ret
    exact ⟨ret_int (by unfold lo; rfl), rfl⟩
set_option maxHeartbeats 1000000 in
theorem result_5 (a b : Int) (h0 : 0 ≤ a) (h1 : a < 4294967296) (g0 : 0 ≤ b) (g1 : b < 4294967296) (w : World) : Calls Tryd.prog 46 #[.string ⟨#[97, 110, 100]⟩, .int .u32 a, .int .u32 b] w fun e w' => e = .returned (.int .u32 (bits .and .u32 a b)) ∧ w' = w := by
  go_enter Tryd.func46, Tryd.ntmps46
  go_wp2
  all_goals
    go_ret
    exact ⟨rfl, rfl⟩
set_option maxHeartbeats 1000000 in
theorem result_6 (a b : Int) (h0 : 0 ≤ a) (h1 : a < 4294967296) (g0 : 0 ≤ b) (g1 : b < 4294967296) (w : World) : Calls Tryd.prog 46 #[.string ⟨#[111, 114]⟩, .int .u32 a, .int .u32 b] w fun e w' => e = .returned (.int .u32 (bits .or .u32 a b)) ∧ w' = w := by
  go_enter Tryd.func46, Tryd.ntmps46
  go_wp2
  all_goals
    go_ret
    exact ⟨rfl, rfl⟩
set_option maxHeartbeats 1000000 in
theorem result_7 (a b : Int) (h0 : 0 ≤ a) (h1 : a < 4294967296) (g0 : 0 ≤ b) (g1 : b < 4294967296) (w : World) : Calls Tryd.prog 46 #[.string ⟨#[120, 111, 114]⟩, .int .u32 a, .int .u32 b] w fun e w' => e = .returned (.int .u32 (bits .xor .u32 a b)) ∧ w' = w := by
  go_enter Tryd.func46, Tryd.ntmps46
  go_wp2
  all_goals
    go_ret
    exact ⟨rfl, rfl⟩
set_option maxHeartbeats 1000000 in
theorem result_8 (a b : Int) (h0 : 0 ≤ a) (h1 : a < 4294967296) (g0 : 0 ≤ b) (g1 : b < 4294967296) (w : World) : Calls Tryd.prog 46 #[.string ⟨#[110, 111, 114]⟩, .int .u32 a, .int .u32 b] w fun e w' => e = .returned (.int .u32 (bits .xor .u32 4294967295 (bits .or .u32 a b))) ∧ w' = w := by
  go_enter Tryd.func46, Tryd.ntmps46
  go_wp2
  all_goals
    go_ret
    exact ⟨rfl, rfl⟩
set_option maxHeartbeats 1000000 in
theorem result_9 (a b : Int) (h0 : 0 ≤ a) (h1 : a < 4294967296) (g0 : 0 ≤ b) (g1 : b < 4294967296) (w : World) : Calls Tryd.prog 46 #[.string ⟨#[115, 108, 116]⟩, .int .u32 a, .int .u32 b] w fun e w' => e = .returned (.int .u32 (if lessB a b true = true then 1 else 0)) ∧ w' = w := by
  have hl := less_any a b true h0 h1 g0 g1
  generalize lessB a b true = y at *
  go_enter Tryd.func46, Tryd.ntmps46
  go_wp2_with (first | (go_at_call 59; refine (hl _).mono ?_; rintro e w' ⟨rfl, rfl⟩) | (go_at_call 58; refine (bit_any _ _).mono ?_; rintro e w' ⟨rfl, rfl⟩))
  all_goals
    go_ret
    exact ⟨rfl, rfl⟩
set_option maxHeartbeats 1000000 in
theorem result_10 (a b : Int) (h0 : 0 ≤ a) (h1 : a < 4294967296) (g0 : 0 ≤ b) (g1 : b < 4294967296) (w : World) : Calls Tryd.prog 46 #[.string ⟨#[115, 108, 116, 117]⟩, .int .u32 a, .int .u32 b] w fun e w' => e = .returned (.int .u32 (if lessB a b false = true then 1 else 0)) ∧ w' = w := by
  have hl := less_any a b false h0 h1 g0 g1
  generalize lessB a b false = y at *
  go_enter Tryd.func46, Tryd.ntmps46
  go_wp2_with (first | (go_at_call 59; refine (hl _).mono ?_; rintro e w' ⟨rfl, rfl⟩) | (go_at_call 58; refine (bit_any _ _).mono ?_; rintro e w' ⟨rfl, rfl⟩))
  all_goals
    go_ret
    exact ⟨rfl, rfl⟩
set_option maxHeartbeats 1000000 in
theorem result_11 (a b : Int) (h0 : 0 ≤ a) (h1 : a < 4294967296) (g0 : 0 ≤ b) (g1 : b < 4294967296) (w : World) : Calls Tryd.prog 46 #[.string ⟨#[115, 104, 108]⟩, .int .u32 a, .int .u32 b] w fun e w' => e = .returned (.int .u32 (shf 60 a b)) ∧ w' = w := by
  go_enter Tryd.func46, Tryd.ntmps46
  go_wp2_with (first | (go_at_call 56; refine (shift_any _ _ _ h0 h1 g0 _).mono ?_; rintro e w' ⟨rfl, rfl⟩))
  all_goals
    go_ret
    exact ⟨rfl, rfl⟩
set_option maxHeartbeats 1000000 in
theorem result_12 (a b : Int) (h0 : 0 ≤ a) (h1 : a < 4294967296) (g0 : 0 ≤ b) (g1 : b < 4294967296) (w : World) : Calls Tryd.prog 46 #[.string ⟨#[115, 104, 114]⟩, .int .u32 a, .int .u32 b] w fun e w' => e = .returned (.int .u32 (shf 62 a b)) ∧ w' = w := by
  go_enter Tryd.func46, Tryd.ntmps46
  go_wp2_with (first | (go_at_call 56; refine (shift_any _ _ _ h0 h1 g0 _).mono ?_; rintro e w' ⟨rfl, rfl⟩))
  all_goals
    go_ret
    exact ⟨rfl, rfl⟩
set_option maxHeartbeats 1000000 in
theorem result_13 (a b : Int) (h0 : 0 ≤ a) (h1 : a < 4294967296) (g0 : 0 ≤ b) (g1 : b < 4294967296) (w : World) : Calls Tryd.prog 46 #[.string ⟨#[115, 97, 114]⟩, .int .u32 a, .int .u32 b] w fun e w' => e = .returned (.int .u32 (shf 126 a b)) ∧ w' = w := by
  go_enter Tryd.func46, Tryd.ntmps46
  go_wp2_with (first | (go_at_call 56; refine (shift_any _ _ _ h0 h1 g0 _).mono ?_; rintro e w' ⟨rfl, rfl⟩))
  all_goals
    go_ret
    exact ⟨rfl, rfl⟩
set_option maxHeartbeats 1000000 in
theorem result_14 (a b : Int) (h0 : 0 ≤ a) (h1 : a < 4294967296) (g0 : 0 ≤ b) (g1 : b < 4294967296) (w : World) : Calls Tryd.prog 46 #[.string ⟨#[109, 117, 108]⟩, .int .u32 a, .int .u32 b] w fun e w' => e = .returned (.int .u32 (lo (a * b))) ∧ w' = w := by
  go_enter Tryd.func46, Tryd.ntmps46
  go_wp2_with (first | (go_at_call 60; refine (mul_any _ _ _ h0 h1 g0 g1 _).mono ?_; rintro e w' ⟨rfl, rfl⟩))
  all_goals
    go_ret
    exact ⟨rfl, rfl⟩
set_option maxHeartbeats 1000000 in
theorem result_15 (a b : Int) (h0 : 0 ≤ a) (h1 : a < 4294967296) (g0 : 0 ≤ b) (g1 : b < 4294967296) (w : World) : Calls Tryd.prog 46 #[.string ⟨#[109, 117, 108, 104]⟩, .int .u32 a, .int .u32 b] w fun e w' => e = .returned (.int .u32 (hi (nm a true * nm b true))) ∧ w' = w := by
  go_enter Tryd.func46, Tryd.ntmps46
  go_wp2_with (first | (go_at_call 60; refine (mul_any _ _ _ h0 h1 g0 g1 _).mono ?_; rintro e w' ⟨rfl, rfl⟩))
  all_goals
    go_ret
    exact ⟨rfl, rfl⟩
set_option maxHeartbeats 1000000 in
theorem result_16 (a b : Int) (h0 : 0 ≤ a) (h1 : a < 4294967296) (g0 : 0 ≤ b) (g1 : b < 4294967296) (w : World) : Calls Tryd.prog 46 #[.string ⟨#[109, 117, 108, 104, 117]⟩, .int .u32 a, .int .u32 b] w fun e w' => e = .returned (.int .u32 (hi (a * b))) ∧ w' = w := by
  go_enter Tryd.func46, Tryd.ntmps46
  go_wp2_with (first | (go_at_call 60; refine (mul_any _ _ _ h0 h1 g0 g1 _).mono ?_; rintro e w' ⟨rfl, rfl⟩))
  all_goals
    go_ret
    exact ⟨rfl, rfl⟩
theorem result_any (k : Nat) (hk : 3 ≤ k ∧ k ≤ 16) (a b d i : Int) (h0 : 0 ≤ a) (h1 : a < 4294967296) (g0 : 0 ≤ b) (g1 : b < 4294967296) (w : World) : Calls Tryd.prog 46 #[.string (kindS k), .int .u32 a, .int .u32 b] w fun e w' => e = .returned (.int .u32 (valV k a b d i)) ∧ w' = w := by
  have h : k = 3 ∨ k = 4 ∨ k = 5 ∨ k = 6 ∨ k = 7 ∨ k = 8 ∨ k = 9 ∨ k = 10 ∨ k = 11 ∨ k = 12 ∨ k = 13 ∨ k = 14 ∨ k = 15 ∨ k = 16 := by omega
  rcases h with rfl | rfl | rfl | rfl | rfl | rfl | rfl | rfl | rfl | rfl | rfl | rfl | rfl | rfl
  · exact result_3 a b h0 h1 g0 g1 w
  · exact result_4 a b h0 h1 g0 g1 w
  · exact result_5 a b h0 h1 g0 g1 w
  · exact result_6 a b h0 h1 g0 g1 w
  · exact result_7 a b h0 h1 g0 g1 w
  · exact result_8 a b h0 h1 g0 g1 w
  · exact result_9 a b h0 h1 g0 g1 w
  · exact result_10 a b h0 h1 g0 g1 w
  · exact result_11 a b h0 h1 g0 g1 w
  · exact result_12 a b h0 h1 g0 g1 w
  · exact result_13 a b h0 h1 g0 g1 w
  · exact result_14 a b h0 h1 g0 g1 w
  · exact result_15 a b h0 h1 g0 g1 w
  · exact result_16 a b h0 h1 g0 g1 w
end Go.Proofs.YtkehhlibkebomaaDoor
