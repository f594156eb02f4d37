/-
  What package word's Shift and Wide, and the document's answer to Wide, answer, in whole numbers; memory stays as it is.
-/
import Derived.Test.YtckcbnfobjmhpaaDoorProg
import Derived.Test.YtckcbnfobjmhpaaDoorNum
import Derived.WalkKit
import Derived.Below
import Derived.Deep.QuietTactic
import Derived.BigQuiet
namespace Go.Proofs.YtckcbnfobjmhpaaDoor
open Go.RowKit
open Num
set_option linter.unusedVariables false
theorem ret_int {k : IntKind} {a b : Int} (h : a = b) : Ending.returned (.int k a) = .returned (.int k b) := by rw [h]
theorem ret_bool {a b : Bool} (h : a = b) : Ending.returned (.bool a) = .returned (.bool b) := by rw [h]
theorem ret_two {k l : IntKind} {a b c d : Int} (h : a = b) (g : c = d) : Ending.returned (.tuple #[.int k a, .int l c]) = .returned (.tuple #[.int k b, .int l d]) := by rw [h, g]
set_option maxHeartbeats 400000 in
theorem shift_any (k a n : Int) (h0 : 0 ≤ a) (h1 : a < 4294967296) (g0 : 0 ≤ n) (w : World) :
    Calls Tryd.prog 56 #[.int .u8 k, .int .u32 a, .int .u32 n] w fun e w' => e = .returned (.int .u32 (shf k a n)) ∧ w' = w := by
  by_cases k1 : k = 60
  · subst k1
    go_enter Tryd.func56, Tryd.ntmps56
    go_wp2
    go_ret
    exact ⟨rfl, rfl⟩
  by_cases k2 : k = 62
  · subst k2
    go_enter Tryd.func56, Tryd.ntmps56
    go_wp2
    go_ret
    exact ⟨rfl, rfl⟩
  by_cases k3 : k = 126
  · subst k3
    go_enter Tryd.func56, Tryd.ntmps56
    go_wp2
    go_ret
    exact ⟨ret_int (by rw [sg_of_wrap h0 h1]; rfl), rfl⟩
  have e1 : (k == 60) = false := by simpa using k1
  have e2 : (k == 62) = false := by simpa using k2
  have e3 : (k == 126) = false := by simpa using k3
  have e' : shf k a n = a := by unfold shf; rw [if_neg k1, if_neg k2, if_neg k3]
  have e : Hid (shf k a n = a) := e'
  clear e' k1 k2 k3
  go_enter Tryd.func56, Tryd.ntmps56
  go_wp2
  go_ret
  exact ⟨ret_int e.out.symm, rfl⟩
set_option maxHeartbeats 400000 in
theorem wide_out (v bits : Int) (s : Bool) (h : bits < 1 ∨ 32 < bits) (w : World) :
    Calls Tryd.prog 41 #[.int .u32 v, .int .i64 bits, .bool s] w fun e w' => e = .returned (.int .u32 (wd v bits s)) ∧ w' = w := by
  have e' : wd v bits s = v := by unfold wd; rw [if_pos h]
  have e : Hid (wd v bits s = v) := e'
  clear e'
  rcases h with h | h
  · go_enter Tryd.func41, Tryd.ntmps41
    go_wp2
    go_ret
    exact ⟨ret_int e.out.symm, rfl⟩
  · have h' : 1 ≤ bits := by omega
    go_enter Tryd.func41, Tryd.ntmps41
    go_wp2
    go_ret
    exact ⟨ret_int e.out.symm, rfl⟩
set_option maxHeartbeats 400000 in
theorem wide_in (v bits : Int) (s : Bool) (h0 : 0 ≤ v) (h1 : v < 4294967296) (g0 : 1 ≤ bits) (g1 : bits ≤ 32) (w : World) :
    Calls Tryd.prog 41 #[.int .u32 v, .int .i64 bits, .bool s] w fun e w' => e = .returned (.int .u32 (wd v bits s)) ∧ w' = w := by
  have b := shf_bd (k := 60) (n := 32 - bits) h0 h1
  have he : Hid (shf 62 (shf 60 v (32 - bits)) (32 - bits) = wd v bits false ∧ shf 126 (shf 60 v (32 - bits)) (32 - bits) = wd v bits true) := wd_eq g0 g1
  cases s
  · go_enter Tryd.func41, Tryd.ntmps41
    go_wp2_with (go_at_call 56; refine (shift_any _ _ _ (by omega) (by omega) (by omega) _).mono ?_; rintro e w' ⟨rfl, rfl⟩)
    go_ret
    exact ⟨ret_int he.out.1, rfl⟩
  · go_enter Tryd.func41, Tryd.ntmps41
    go_wp2_with (go_at_call 56; refine (shift_any _ _ _ (by omega) (by omega) (by omega) _).mono ?_; rintro e w' ⟨rfl, rfl⟩)
    go_ret
    exact ⟨ret_int he.out.2, rfl⟩
theorem wide_any (v bits : Int) (s : Bool) (h0 : 0 ≤ v) (h1 : v < 4294967296) (w : World) :
    Calls Tryd.prog 41 #[.int .u32 v, .int .i64 bits, .bool s] w fun e w' => e = .returned (.int .u32 (wd v bits s)) ∧ w' = w := by
  by_cases h : bits < 1 ∨ 32 < bits
  · exact wide_out v bits s h w
  · exact wide_in v bits s h0 h1 (by omega) (by omega) w
end Go.Proofs.YtckcbnfobjmhpaaDoor
