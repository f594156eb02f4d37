/-
  Sums, products and quotients of words.
-/
import Derived.Test.YtcccaejjhodnkaaDoorFns
namespace Go.Proofs.YtcccaejjhodnkaaDoor
open Go.RowKit
open Num
set_option linter.unusedVariables false
theorem ret_three {k l : IntKind} {a b c d : Int} {x y : Bool} (h : a = b) (g : c = d) (f : x = y) : Ending.returned (.tuple #[.int k a, .int l c, .bool x]) = .returned (.tuple #[.int k b, .int l d, .bool y]) := by rw [h, g, f]
theorem ret_ib {k : IntKind} {a b : Int} {c d : Bool} (h : a = b) (g : c = d) : Ending.returned (.tuple #[.int k a, .bool c]) = .returned (.tuple #[.int k b, .bool d]) := by rw [h, g]
set_option maxHeartbeats 400000 in
theorem signedOf_any (a : Int) (h0 : 0 ≤ a) (h1 : a < 4294967296) (w : World) :
    Calls Tryd.prog 105 #[.int .u32 a] w fun e w' => e = .returned (.int .i64 (sg a)) ∧ w' = w := by
  go_enter Tryd.func105, Tryd.ntmps105
  go_wp2
  go_ret
  exact ⟨ret_int (sg_wrap64 h0 h1), rfl⟩
set_option maxHeartbeats 400000 in
theorem less_any (a b : Int) (s : Bool) (h0 : 0 ≤ a) (h1 : a < 4294967296) (g0 : 0 ≤ b) (g1 : b < 4294967296) (w : World) :
    Calls Tryd.prog 130 #[.int .u32 a, .int .u32 b, .bool s] w fun e w' => e = .returned (.bool (lessB a b s)) ∧ w' = w := by
  cases s
  · go_enter Tryd.func130, Tryd.ntmps130
    go_wp2
    go_ret
    exact ⟨ret_bool (by simp [lessB, nm]), rfl⟩
  · go_enter Tryd.func130, Tryd.ntmps130
    go_wp2
    go_ret
    exact ⟨ret_bool (by simp [lessB, nm, sg_of_wrap, *]), rfl⟩
set_option maxHeartbeats 400000 in
theorem mul_any (a b : Int) (s : Bool) (h0 : 0 ≤ a) (h1 : a < 4294967296) (g0 : 0 ≤ b) (g1 : b < 4294967296) (w : World) :
    Calls Tryd.prog 131 #[.int .u32 a, .int .u32 b, .bool s] w fun e w' => e = .returned (.tuple #[.int .u32 (hi (nm a s * nm b s)), .int .u32 (lo (nm a s * nm b s))]) ∧ w' = w := by
  cases s
  · go_enter Tryd.func131, Tryd.ntmps131
    go_wp2
    go_ret2
    exact ⟨ret_two (hi_wrap (a * b)) (lo_wrap (a * b)), rfl⟩
  · have ha := sg_bd h0 h1
    have hb := sg_bd g0 g1
    go_enter Tryd.func131, Tryd.ntmps131
    go_wp2_with (first | (go_at_call 105; refine (signedOf_any _ (by omega) (by omega) _).mono ?_; rintro e w' ⟨rfl, rfl⟩) | (go_at_call 43; refine (cut_any _ (by omega) (by omega) _).mono ?_; rintro e w' ⟨rfl, rfl⟩))
    go_ret2
    exact ⟨ret_two (hi_wrap' (sg a * sg b)) (lo_wrap' (sg a * sg b)), rfl⟩
end Go.Proofs.YtcccaejjhodnkaaDoor
