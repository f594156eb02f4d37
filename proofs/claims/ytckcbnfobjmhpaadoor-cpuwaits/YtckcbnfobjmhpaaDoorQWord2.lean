/-
  Sums, products and quotients of words.
-/
import Derived.Test.YtckcbnfobjmhpaaDoorKNum
namespace Go.Proofs.YtckcbnfobjmhpaaDoor
open Go.RowKit
open Num
set_option linter.unusedVariables false
theorem ret_three {k l : IntKind} {a b c d : Int} {x y : Bool} (h : a = b) (g : c = d) (f : x = y) : Ending.returned (.tuple #[.int k a, .int l c, .bool x]) = .returned (.tuple #[.int k b, .int l d, .bool y]) := by rw [h, g, f]
theorem ret_ib {k : IntKind} {a b : Int} {c d : Bool} (h : a = b) (g : c = d) : Ending.returned (.tuple #[.int k a, .bool c]) = .returned (.tuple #[.int k b, .bool d]) := by rw [h, g]
set_option maxHeartbeats 400000 in
theorem signedOf_any (a : Int) (h0 : 0 ≤ a) (h1 : a < 4294967296) (w : World) :
    Calls Tryd.prog 106 #[.int .u32 a] w fun e w' => e = .returned (.int .i64 (sg a)) ∧ w' = w := by
  go_enter Tryd.func106, Tryd.ntmps106
  go_wp2
  go_ret
  exact ⟨ret_int (sg_wrap64 h0 h1), rfl⟩
set_option maxHeartbeats 400000 in
theorem less_any (a b : Int) (s : Bool) (h0 : 0 ≤ a) (h1 : a < 4294967296) (g0 : 0 ≤ b) (g1 : b < 4294967296) (w : World) :
    Calls Tryd.prog 100 #[.int .u32 a, .int .u32 b, .bool s] w fun e w' => e = .returned (.bool (lessB a b s)) ∧ w' = w := by
  cases s
  · go_enter Tryd.func100, Tryd.ntmps100
    go_wp2
    go_ret
    exact ⟨ret_bool (by simp [lessB, nm]), rfl⟩
  · go_enter Tryd.func100, Tryd.ntmps100
    go_wp2
    go_ret
    exact ⟨ret_bool (by simp [lessB, nm, sg_of_wrap, *]), rfl⟩
set_option maxHeartbeats 400000 in
theorem cut_any (n : Int) (h0 : -9223372036854775808 ≤ n) (h1 : n ≤ 9223372036854775807) (w : World) :
    Calls Tryd.prog 114 #[.int .i64 n] w fun e w' => e = .returned (.tuple #[.int .u32 (lo n), .bool (ov n)]) ∧ w' = w := by
  go_enter Tryd.func114, Tryd.ntmps114
  go_wp2_with (go_at_call 106; refine (signedOf_any _ (by omega) (by omega) _).mono ?_; rintro e w' ⟨rfl, rfl⟩)
  go_ret2
  exact ⟨by rw [← ov_eq n]; rfl, rfl⟩
set_option maxHeartbeats 400000 in
theorem add_any (a b : Int) (h0 : 0 ≤ a) (h1 : a < 4294967296) (g0 : 0 ≤ b) (g1 : b < 4294967296) (w : World) :
    Calls Tryd.prog 107 #[.int .u32 a, .int .u32 b] w fun e w' => e = .returned (.tuple #[.int .u32 (lo (a + b)), .bool (ov (sg a + sg b))]) ∧ w' = w := by
  have ha := sg_bd h0 h1
  have hb := sg_bd g0 g1
  go_enter Tryd.func107, Tryd.ntmps107
  go_wp2_with (first | (go_at_call 106; refine (signedOf_any _ (by omega) (by omega) _).mono ?_; rintro e w' ⟨rfl, rfl⟩) | (go_at_call 114; refine (cut_any _ (by omega) (by omega) _).mono ?_; rintro e w' ⟨rfl, rfl⟩))
  go_ret2
  exact ⟨ret_ib (lo_add a b) rfl, rfl⟩
set_option maxHeartbeats 400000 in
theorem sub_any (a b : Int) (h0 : 0 ≤ a) (h1 : a < 4294967296) (g0 : 0 ≤ b) (g1 : b < 4294967296) (w : World) :
    Calls Tryd.prog 108 #[.int .u32 a, .int .u32 b] w fun e w' => e = .returned (.tuple #[.int .u32 (lo (a - b)), .bool (ov (sg a - sg b))]) ∧ w' = w := by
  have ha := sg_bd h0 h1
  have hb := sg_bd g0 g1
  go_enter Tryd.func108, Tryd.ntmps108
  go_wp2_with (first | (go_at_call 106; refine (signedOf_any _ (by omega) (by omega) _).mono ?_; rintro e w' ⟨rfl, rfl⟩) | (go_at_call 114; refine (cut_any _ (by omega) (by omega) _).mono ?_; rintro e w' ⟨rfl, rfl⟩))
  go_ret2
  exact ⟨ret_ib (lo_sub a b) rfl, rfl⟩
set_option maxHeartbeats 400000 in
theorem mul_any (a b : Int) (s : Bool) (h0 : 0 ≤ a) (h1 : a < 4294967296) (g0 : 0 ≤ b) (g1 : b < 4294967296) (w : World) :
    Calls Tryd.prog 88 #[.int .u32 a, .int .u32 b, .bool s] w fun e w' => e = .returned (.tuple #[.int .u32 (hi (nm a s * nm b s)), .int .u32 (lo (nm a s * nm b s))]) ∧ w' = w := by
  cases s
  · go_enter Tryd.func88, Tryd.ntmps88
    go_wp2
    go_ret2
    exact ⟨ret_two (hi_wrap (a * b)) (lo_wrap (a * b)), rfl⟩
  · have ha := sg_bd h0 h1
    have hb := sg_bd g0 g1
    go_enter Tryd.func88, Tryd.ntmps88
    go_wp2_with (first | (go_at_call 106; refine (signedOf_any _ (by omega) (by omega) _).mono ?_; rintro e w' ⟨rfl, rfl⟩) | (go_at_call 114; refine (cut_any _ (by omega) (by omega) _).mono ?_; rintro e w' ⟨rfl, rfl⟩))
    go_ret2
    exact ⟨ret_two (hi_wrap' (sg a * sg b)) (lo_wrap' (sg a * sg b)), rfl⟩
set_option maxHeartbeats 400000 in
theorem div_0 (a : Int) (s : Bool) (w : World) :
    Calls Tryd.prog 89 #[.int .u32 a, .int .u32 0, .bool s] w fun e w' => e = .returned (.tuple #[.int .u32 0, .int .u32 0, .bool false]) ∧ w' = w := by
  go_enter Tryd.func89, Tryd.ntmps89
  go_wp2
  go_ret3
  exact ⟨rfl, rfl⟩
set_option maxHeartbeats 400000 in
theorem div_u (a b : Int) (h0 : 0 ≤ a) (h1 : a < 4294967296) (g0 : 0 < b) (g1 : b < 4294967296) (w : World) :
    Calls Tryd.prog 89 #[.int .u32 a, .int .u32 b, .bool false] w fun e w' => e = .returned (.tuple #[.int .u32 (quo a b false), .int .u32 (rst a b false), .bool true]) ∧ w' = w.drew := by
  have hb : (b == 0) = false := by simp; omega
  go_enter Tryd.func89, Tryd.ntmps89
  go_wp2
  go_region
  go_wp2
  go_ret3
  exact ⟨ret_three (quo_u h0 h1 g0) (rst_u h0 g0 g1) rfl, rfl⟩
set_option maxHeartbeats 400000 in
theorem div_s (a b : Int) (h0 : 0 ≤ a) (h1 : a < 4294967296) (g0 : 0 < b) (g1 : b < 4294967296) (w : World) :
    Calls Tryd.prog 89 #[.int .u32 a, .int .u32 b, .bool true] w fun e w' => e = .returned (.tuple #[.int .u32 (quo a b true), .int .u32 (rst a b true), .bool true]) ∧ w' = w.drew := by
  have hb : (b == 0) = false := by simp; omega
  have ha := sg_bd h0 h1
  have hb := sg_bd (Int.le_of_lt g0) g1
  have hz : ¬ sg b = 0 := nm_ne g0 g1 true
  go_enter Tryd.func89, Tryd.ntmps89
  go_wp2_with (go_at_call 106; refine (signedOf_any _ (by omega) (by omega) _).mono ?_; rintro e w' ⟨rfl, rfl⟩)
  go_region
  go_wp2
  go_ret3
  exact ⟨ret_three (lo_wrap64 _) rfl rfl, rfl⟩
theorem div_any (a b : Int) (s : Bool) (h0 : 0 ≤ a) (h1 : a < 4294967296) (g0 : 0 < b) (g1 : b < 4294967296) (w : World) :
    Calls Tryd.prog 89 #[.int .u32 a, .int .u32 b, .bool s] w fun e w' => e = .returned (.tuple #[.int .u32 (quo a b s), .int .u32 (rst a b s), .bool true]) ∧ w' = w.drew := by
  cases s
  · exact div_u a b h0 h1 g0 g1 w
  · exact div_s a b h0 h1 g0 g1 w
end Go.Proofs.YtckcbnfobjmhpaaDoor
