/-
  Plain facts on whole numbers, read as words of 32 bits: no Go in sight.
-/
import Derived.RowKit
import Derived.Test.YtkehhlibkebomaaDoorProg
import Derived.WalkKit
import Derived.Below
import Derived.Deep.QuietTactic
import Derived.BigQuiet
namespace Go.Proofs.YtkehhlibkebomaaDoor.Num
open Go.RowKit (wrap32 wrap64)
/-- the signed number of a word -/
def sg (a : Int) : Int := if a < 2147483648 then a else a - 4294967296
/-- the lowest 32 bits -/
def lo (n : Int) : Int := n % 4294967296
/-- the next 32 bits -/
def hi (n : Int) : Int := n / 4294967296 % 4294967296
/-- no signed word -/
def ov (n : Int) : Bool := decide (n < -2147483648 ∨ 2147483647 < n)
/-- a word as a number, signed or not -/
def nm (a : Int) (s : Bool) : Int := if s then sg a else a
/-- the order of words -/
def lessB (a b : Int) (s : Bool) : Bool := decide (nm a s < nm b s)
/-- quotient and rest -/
def quo (a b : Int) (s : Bool) : Int := lo ((nm a s).tdiv (nm b s))
def rst (a b : Int) (s : Bool) : Int := lo ((nm a s).tmod (nm b s))
/-- 2 to a number modulo 32 -/
def pw (n : Int) : Int := 2 ^ (n % 32).toNat
/-- shifts -/
def shf (k a n : Int) : Int := if k = 60 then lo (a * pw n) else if k = 62 then a / pw n else if k = 126 then lo (sg a / pw n) else a
/-- the lowest bits -/
def wd (v bits : Int) (s : Bool) : Int :=
  if bits < 1 ∨ 32 < bits then v
  else if s = true ∧ 2 ^ bits.toNat ≤ 2 * (v % 2 ^ bits.toNat) then lo (v % 2 ^ bits.toNat - 2 ^ bits.toNat) else v % 2 ^ bits.toNat
theorem sg_bd {a : Int} (h0 : 0 ≤ a) (h1 : a < 4294967296) : -2147483648 ≤ sg a ∧ sg a ≤ 2147483647 := by
  unfold sg; split <;> omega
theorem lo_bd (n : Int) : 0 ≤ lo n ∧ lo n < 4294967296 := by unfold lo; omega
theorem hi_bd (n : Int) : 0 ≤ hi n ∧ hi n < 4294967296 := by unfold hi; omega
theorem sg_of_wrap {a : Int} (h0 : 0 ≤ a) (h1 : a < 4294967296) : wrap32 a = sg a := by
  unfold sg wrap32; split <;> omega
theorem sg_wrap64 {a : Int} (h0 : 0 ≤ a) (h1 : a < 4294967296) : wrap64 (wrap32 a) = sg a := by
  unfold sg wrap32 wrap64; split <;> omega
theorem sg_mod (a : Int) : sg a % 4294967296 = a % 4294967296 := by unfold sg; split <;> omega
theorem lo_of {a : Int} (h0 : 0 ≤ a) (h1 : a < 4294967296) : lo a = a := by unfold lo; omega
theorem lo_add (a b : Int) : lo (sg a + sg b) = lo (a + b) := by
  have := sg_mod a; have := sg_mod b; unfold lo; omega
theorem lo_sub (a b : Int) : lo (sg a - sg b) = lo (a - b) := by
  have := sg_mod a; have := sg_mod b; unfold lo; omega
theorem sg_lo (n : Int) : (sg (lo n) = n) = ¬ (n < -2147483648 ∨ 2147483647 < n) := by
  unfold sg lo; apply propext; constructor
  · intro h; split at h <;> omega
  · intro h; split <;> omega
theorem ov_eq (n : Int) : (sg (lo n) != n) = ov n := by
  unfold ov; rw [Bool.eq_iff_iff]; simp only [bne_iff_ne, ne_eq, sg_lo, decide_eq_true_eq]; omega
theorem hi_wrap (x : Int) : x % 18446744073709551616 / 4294967296 % 4294967296 = hi x := by unfold hi; omega
theorem lo_wrap (x : Int) : x % 18446744073709551616 % 4294967296 = lo x := by unfold lo; omega
theorem hi_wrap' (x : Int) : wrap64 x % 18446744073709551616 / 4294967296 % 4294967296 = hi x := by unfold hi wrap64; omega
theorem lo_wrap' (x : Int) : wrap64 x % 18446744073709551616 % 4294967296 = lo x := by unfold lo wrap64; omega
theorem nm_ne {b : Int} (h0 : 0 < b) (h1 : b < 4294967296) (s : Bool) : nm b s ≠ 0 := by
  unfold nm sg; split
  · split <;> omega
  · omega
theorem pw_pos (n : Int) : 0 < pw n := by unfold pw; exact Int.pow_pos (by omega)
theorem pw_bd (n : Int) : 1 ≤ pw n ∧ pw n ≤ 2147483648 := by
  refine ⟨by have := pw_pos n; omega, ?_⟩
  unfold pw
  have h : (n % 32).toNat ≤ 31 := by omega
  have g : (2:Nat) ^ (n % 32).toNat ≤ 2 ^ 31 := Nat.pow_le_pow_right (by omega) h
  have e : ((2:Nat) ^ (n % 32).toNat : Int) = 2 ^ (n % 32).toNat := by norm_cast
  have : (((2:Nat) ^ (n % 32).toNat : Nat) : Int) ≤ 2147483648 := by omega
  push_cast at this
  exact this
theorem quo_u {a b : Int} (h0 : 0 ≤ a) (h1 : a < 4294967296) (g0 : 0 < b) : a / b = quo a b false := by
  have e : quo a b false = lo (a.tdiv b) := rfl
  have l : a / b ≤ a := Int.ediv_le_self _ h0
  have n : 0 ≤ a / b := Int.ediv_nonneg h0 (by omega)
  rw [e, Int.tdiv_eq_ediv_of_nonneg h0]; unfold lo; omega
theorem rst_u {a b : Int} (h0 : 0 ≤ a) (g0 : 0 < b) (g1 : b < 4294967296) : a % b = rst a b false := by
  have e : rst a b false = lo (a.tmod b) := rfl
  have l := Int.emod_lt_of_pos a g0
  have n := Int.emod_nonneg a (show b ≠ 0 by omega)
  rw [e, Int.tmod_eq_emod_of_nonneg h0]; unfold lo; omega
theorem quo_bd (a b : Int) (s : Bool) : 0 ≤ quo a b s ∧ quo a b s < 4294967296 := lo_bd _
theorem rst_bd (a b : Int) (s : Bool) : 0 ≤ rst a b s ∧ rst a b s < 4294967296 := lo_bd _
theorem ediv_bd {a d : Int} (h0 : 0 ≤ a) (hd : 1 ≤ d) : 0 ≤ a / d ∧ a / d ≤ a :=
  ⟨Int.ediv_nonneg h0 (by omega), Int.ediv_le_self _ h0⟩
theorem shf_bd {k a n : Int} (h0 : 0 ≤ a) (h1 : a < 4294967296) : 0 ≤ shf k a n ∧ shf k a n < 4294967296 := by
  unfold shf
  have := lo_bd (a * pw n); have := lo_bd (sg a / pw n); have := ediv_bd h0 (pw_bd n).1
  split
  · omega
  · split
    · omega
    · split <;> omega
theorem p32 {k : Nat} (h : k ≤ 32) : (4294967296 : Int) = 2 ^ k * 2 ^ (32 - k) := by
  rw [← Int.pow_add, show k + (32 - k) = 32 by omega]; rfl
theorem two_pos (k : Nat) : (0 : Int) < 2 ^ k := Int.pow_pos (by omega)
/-- a shift up by P and down again leaves the lowest bits -/
theorem up_down (v P Q : Int) (hP : 0 < P) (e : P * Q = 4294967296) : lo (v * P) / P = v % Q := by
  unfold lo; rw [← e, Int.mul_comm v P, Int.mul_emod_mul_of_pos _ _ hP, Int.mul_ediv_cancel_left _ (by omega)]
/-- the same, signed -/
theorem up_down_s (v P Q : Int) (hP : 0 < P) (hQ : 2 ≤ Q) (e : P * Q = 4294967296) (ev : Q % 2 = 0) :
    sg (lo (v * P)) / P = if Q ≤ 2 * (v % Q) then v % Q - Q else v % Q := by
  have hr : lo (v * P) = (v % Q) * P := by
    unfold lo; rw [← e, Int.mul_comm v P, Int.mul_emod_mul_of_pos _ _ hP, Int.mul_comm]
  obtain ⟨q, rfl⟩ : ∃ q, Q = 2 * q := ⟨Q / 2, by omega⟩
  have e2 : q * P = 2147483648 := by
    have : P * (2 * q) = 2 * (q * P) := by rw [Int.mul_left_comm, Int.mul_comm P q]
    omega
  rw [hr]
  generalize hr' : v % (2 * q) = r
  unfold sg
  by_cases hc : 2 * q ≤ 2 * r
  · rw [if_pos hc, if_neg (by have := Int.mul_le_mul_of_nonneg_right (show q ≤ r by omega) (Int.le_of_lt hP); omega)]
    have : r * P - 4294967296 = (r - 2 * q) * P := by rw [Int.sub_mul, Int.mul_assoc]; omega
    rw [this, Int.mul_ediv_cancel _ (by omega)]
  · rw [if_neg hc, if_pos (by have := Int.mul_lt_mul_of_pos_right (show r < q by omega) hP; omega)]
    rw [Int.mul_ediv_cancel _ (by omega)]
theorem wd_eq {v bits : Int} (g0 : 1 ≤ bits) (g1 : bits ≤ 32) :
    shf 62 (shf 60 v (32 - bits)) (32 - bits) = wd v bits false ∧ shf 126 (shf 60 v (32 - bits)) (32 - bits) = wd v bits true := by
  obtain ⟨k, rfl⟩ : ∃ k : Nat, bits = k := ⟨bits.toNat, by omega⟩
  have hk : k ≤ 32 := by omega
  have e1 : pw (32 - (k : Int)) = 2 ^ (32 - k) := by
    unfold pw; rw [show ((32 - (k : Int)) % 32).toNat = 32 - k by omega]
  have e2 : (2 : Int) ^ (32 - k) * 2 ^ k = 4294967296 := by rw [p32 hk, Int.mul_comm]
  have hP := two_pos (32 - k)
  have hQ : (2 : Int) ≤ 2 ^ k ∧ (2 : Int) ^ k % 2 = 0 := by
    obtain ⟨j, rfl⟩ : ∃ j, k = j + 1 := ⟨k - 1, by omega⟩
    have := two_pos j
    rw [Int.pow_succ]; omega
  have hr0 := Int.emod_nonneg v (show (2 : Int) ^ k ≠ 0 by have := two_pos k; omega)
  have hr1 := Int.emod_lt_of_pos v (two_pos k)
  have hle : (2 : Int) ^ k ≤ 4294967296 := by
    have := Int.mul_le_mul_of_nonneg_right (show (1 : Int) ≤ 2 ^ (32 - k) by omega) (Int.le_of_lt (two_pos k))
    omega
  have hw : ∀ s, wd v k s = if s = true ∧ (2 : Int) ^ k ≤ 2 * (v % 2 ^ k) then lo (v % 2 ^ k - 2 ^ k) else v % 2 ^ k := by
    intro s; unfold wd; rw [if_neg (by omega)]; rfl
  have f60 : shf 60 v (32 - (k : Int)) = lo (v * 2 ^ (32 - k)) := by unfold shf; rw [if_pos rfl, e1]
  rw [f60]
  constructor
  · have : shf 62 (lo (v * 2 ^ (32 - k))) (32 - (k : Int)) = lo (v * 2 ^ (32 - k)) / 2 ^ (32 - k) := by
      unfold shf; rw [if_neg (by decide), if_pos rfl, e1]
    rw [this, up_down v _ _ hP e2, hw, if_neg (by simp)]
  · have : shf 126 (lo (v * 2 ^ (32 - k))) (32 - (k : Int)) = lo (sg (lo (v * 2 ^ (32 - k))) / 2 ^ (32 - k)) := by
      unfold shf; rw [if_neg (by decide), if_neg (by decide), if_pos rfl, e1]
    rw [this, up_down_s v _ _ hP hQ.1 e2 hQ.2, hw]
    by_cases hc : (2 : Int) ^ k ≤ 2 * (v % 2 ^ k)
    · rw [if_pos hc, if_pos ⟨rfl, hc⟩]
    · rw [if_neg hc, if_neg (by simp; omega)]; exact lo_of hr0 (by omega)
theorem wd_bd {v bits : Int} (h0 : 0 ≤ v) (h1 : v < 4294967296) (s : Bool) : 0 ≤ wd v bits s ∧ wd v bits s < 4294967296 := by
  by_cases h : bits < 1 ∨ 32 < bits
  · unfold wd; rw [if_pos h]; omega
  · have e := wd_eq (v := v) (bits := bits) (by omega) (by omega)
    have b := shf_bd (k := 60) (n := 32 - bits) h0 h1
    cases s
    · rw [← e.1]; exact shf_bd b.1 b.2
    · rw [← e.2]; exact shf_bd b.1 b.2
theorem lo_wrap64 (x : Int) : lo (wrap64 x) = lo x := by unfold lo wrap64; omega
/-- quotients toward 0 and downward -/
theorem down (s P : Int) (hs : s < 0) (hb : -2147483648 ≤ s) (hP : 1 ≤ P) :
    (-2147483648 ≤ s.tdiv P ∧ s.tdiv P ≤ 0) ∧ s / P = if s.tmod P = 0 then s.tdiv P else s.tdiv P - 1 := by
  have h1 := Int.mul_tdiv_add_tmod s P
  have h2 := Int.lt_tmod_of_pos s (show 0 < P by omega)
  have h3 : s.tmod P ≤ 0 := by
    have : (-s).tmod P = -(s.tmod P) := Int.neg_tmod _ _
    have h4 := Int.tmod_nonneg P (show 0 ≤ -s by omega)
    omega
  have h5 : s.tdiv P = -((-s) / P) := by
    rw [← Int.tdiv_eq_ediv_of_nonneg (show 0 ≤ -s by omega), Int.neg_tdiv]; omega
  have h6 := ediv_bd (a := -s) (d := P) (by omega) hP
  refine ⟨by omega, ?_⟩
  by_cases hr : s.tmod P = 0
  · rw [if_pos hr]
    have e : s = P * s.tdiv P := by omega
    conv => lhs; rw [e]
    exact Int.mul_ediv_cancel_left _ (by omega)
  · rw [if_neg hr]
    have e : s = (s.tmod P + P) + P * (s.tdiv P - 1) := by rw [Int.mul_sub, Int.mul_one]; omega
    conv => lhs; rw [e]
    rw [Int.add_mul_ediv_left _ _ (show P ≠ 0 by omega), Int.ediv_eq_zero_of_lt (by omega) (by omega)]; omega
end Go.Proofs.YtkehhlibkebomaaDoor.Num
/-
  What package word's Shift and Wide, and the document's answer to Wide, answer, in whole numbers; memory stays as it is.
-/
namespace Go.Proofs.YtkehhlibkebomaaDoor
open Go.RowKit
open Num
set_option linter.unusedVariables false
theorem ret_int {k : IntKind} {a b : Int} (h : a = b) : Ending.returned (.int k a) = .returned (.int k b) := by rw [h]
theorem ret_bool {a b : Bool} (h : a = b) : Ending.returned (.bool a) = .returned (.bool b) := by rw [h]
theorem ret_two {k l : IntKind} {a b c d : Int} (h : a = b) (g : c = d) : Ending.returned (.tuple #[.int k a, .int l c]) = .returned (.tuple #[.int k b, .int l d]) := by rw [h, g]
set_option maxHeartbeats 400000 in
theorem shift_any (k a n : Int) (h0 : 0 ≤ a) (h1 : a < 4294967296) (g0 : 0 ≤ n) (w : World) :
    Calls Tryd.prog 56 #[.int .u8 k, .int .u32 a, .int .u32 n] w fun e w' => e = .returned (.int .u32 (shf k a n)) ∧ w' = w := by
  by_cases k1 : k = 60
  · subst k1
    go_enter Tryd.func56, Tryd.ntmps56
    go_wp2
    go_ret
    exact ⟨rfl, rfl⟩
  by_cases k2 : k = 62
  · subst k2
    go_enter Tryd.func56, Tryd.ntmps56
    go_wp2
    go_ret
    exact ⟨rfl, rfl⟩
  by_cases k3 : k = 126
  · subst k3
    go_enter Tryd.func56, Tryd.ntmps56
    go_wp2
    go_ret
    exact ⟨ret_int (by rw [sg_of_wrap h0 h1]; rfl), rfl⟩
  have e1 : (k == 60) = false := by simpa using k1
  have e2 : (k == 62) = false := by simpa using k2
  have e3 : (k == 126) = false := by simpa using k3
  have e' : shf k a n = a := by unfold shf; rw [if_neg k1, if_neg k2, if_neg k3]
  have e : Hid (shf k a n = a) := e'
  clear e' k1 k2 k3
  go_enter Tryd.func56, Tryd.ntmps56
  go_wp2
  go_ret
  exact ⟨ret_int e.out.symm, rfl⟩
set_option maxHeartbeats 400000 in
theorem wide_out (v bits : Int) (s : Bool) (h : bits < 1 ∨ 32 < bits) (w : World) :
    Calls Tryd.prog 43 #[.int .u32 v, .int .i64 bits, .bool s] w fun e w' => e = .returned (.int .u32 (wd v bits s)) ∧ w' = w := by
  have e' : wd v bits s = v := by unfold wd; rw [if_pos h]
  have e : Hid (wd v bits s = v) := e'
  clear e'
  rcases h with h | h
  · go_enter Tryd.func43, Tryd.ntmps43
    go_wp2
    go_ret
    exact ⟨ret_int e.out.symm, rfl⟩
  · have h' : 1 ≤ bits := by omega
    go_enter Tryd.func43, Tryd.ntmps43
    go_wp2
    go_ret
    exact ⟨ret_int e.out.symm, rfl⟩
set_option maxHeartbeats 400000 in
theorem wide_in (v bits : Int) (s : Bool) (h0 : 0 ≤ v) (h1 : v < 4294967296) (g0 : 1 ≤ bits) (g1 : bits ≤ 32) (w : World) :
    Calls Tryd.prog 43 #[.int .u32 v, .int .i64 bits, .bool s] w fun e w' => e = .returned (.int .u32 (wd v bits s)) ∧ w' = w := by
  have b := shf_bd (k := 60) (n := 32 - bits) h0 h1
  have he : Hid (shf 62 (shf 60 v (32 - bits)) (32 - bits) = wd v bits false ∧ shf 126 (shf 60 v (32 - bits)) (32 - bits) = wd v bits true) := wd_eq g0 g1
  cases s
  · go_enter Tryd.func43, Tryd.ntmps43
    go_wp2_with (go_at_call 56; refine (shift_any _ _ _ (by omega) (by omega) (by omega) _).mono ?_; rintro e w' ⟨rfl, rfl⟩)
    go_ret
    exact ⟨ret_int he.out.1, rfl⟩
  · go_enter Tryd.func43, Tryd.ntmps43
    go_wp2_with (go_at_call 56; refine (shift_any _ _ _ (by omega) (by omega) (by omega) _).mono ?_; rintro e w' ⟨rfl, rfl⟩)
    go_ret
    exact ⟨ret_int he.out.2, rfl⟩
theorem wide_any (v bits : Int) (s : Bool) (h0 : 0 ≤ v) (h1 : v < 4294967296) (w : World) :
    Calls Tryd.prog 43 #[.int .u32 v, .int .i64 bits, .bool s] w fun e w' => e = .returned (.int .u32 (wd v bits s)) ∧ w' = w := by
  by_cases h : bits < 1 ∨ 32 < bits
  · exact wide_out v bits s h w
  · exact wide_in v bits s h0 h1 (by omega) (by omega) w
end Go.Proofs.YtkehhlibkebomaaDoor
/-
  Sums, products and quotients of words.
-/
namespace Go.Proofs.YtkehhlibkebomaaDoor
open Go.RowKit
open Num
set_option linter.unusedVariables false
theorem ret_three {k l : IntKind} {a b c d : Int} {x y : Bool} (h : a = b) (g : c = d) (f : x = y) : Ending.returned (.tuple #[.int k a, .int l c, .bool x]) = .returned (.tuple #[.int k b, .int l d, .bool y]) := by rw [h, g, f]
theorem ret_ib {k : IntKind} {a b : Int} {c d : Bool} (h : a = b) (g : c = d) : Ending.returned (.tuple #[.int k a, .bool c]) = .returned (.tuple #[.int k b, .bool d]) := by rw [h, g]
set_option maxHeartbeats 400000 in
theorem signedOf_any (a : Int) (h0 : 0 ≤ a) (h1 : a < 4294967296) (w : World) :
    Calls Tryd.prog 40 #[.int .u32 a] w fun e w' => e = .returned (.int .i64 (sg a)) ∧ w' = w := by
  go_enter Tryd.func40, Tryd.ntmps40
  go_wp2
  go_ret
  exact ⟨ret_int (sg_wrap64 h0 h1), rfl⟩
set_option maxHeartbeats 400000 in
theorem less_any (a b : Int) (s : Bool) (h0 : 0 ≤ a) (h1 : a < 4294967296) (g0 : 0 ≤ b) (g1 : b < 4294967296) (w : World) :
    Calls Tryd.prog 59 #[.int .u32 a, .int .u32 b, .bool s] w fun e w' => e = .returned (.bool (lessB a b s)) ∧ w' = w := by
  cases s
  · go_enter Tryd.func59, Tryd.ntmps59
    go_wp2
    go_ret
    exact ⟨ret_bool (by simp [lessB, nm]), rfl⟩
  · go_enter Tryd.func59, Tryd.ntmps59
    go_wp2
    go_ret
    exact ⟨ret_bool (by simp [lessB, nm, sg_of_wrap, *]), rfl⟩
set_option maxHeartbeats 400000 in
theorem cut_any (n : Int) (h0 : -9223372036854775808 ≤ n) (h1 : n ≤ 9223372036854775807) (w : World) :
    Calls Tryd.prog 39 #[.int .i64 n] w fun e w' => e = .returned (.tuple #[.int .u32 (lo n), .bool (ov n)]) ∧ w' = w := by
  go_enter Tryd.func39, Tryd.ntmps39
  go_wp2_with (go_at_call 40; refine (signedOf_any _ (by omega) (by omega) _).mono ?_; rintro e w' ⟨rfl, rfl⟩)
  go_ret2
  exact ⟨by rw [← ov_eq n]; rfl, rfl⟩
set_option maxHeartbeats 400000 in
theorem add_any (a b : Int) (h0 : 0 ≤ a) (h1 : a < 4294967296) (g0 : 0 ≤ b) (g1 : b < 4294967296) (w : World) :
    Calls Tryd.prog 27 #[.int .u32 a, .int .u32 b] w fun e w' => e = .returned (.tuple #[.int .u32 (lo (a + b)), .bool (ov (sg a + sg b))]) ∧ w' = w := by
  have ha := sg_bd h0 h1
  have hb := sg_bd g0 g1
  go_enter Tryd.func27, Tryd.ntmps27
  go_wp2_with (first | (go_at_call 40; refine (signedOf_any _ (by omega) (by omega) _).mono ?_; rintro e w' ⟨rfl, rfl⟩) | (go_at_call 39; refine (cut_any _ (by omega) (by omega) _).mono ?_; rintro e w' ⟨rfl, rfl⟩))
  go_ret2
  exact ⟨ret_ib (lo_add a b) rfl, rfl⟩
set_option maxHeartbeats 400000 in
theorem sub_any (a b : Int) (h0 : 0 ≤ a) (h1 : a < 4294967296) (g0 : 0 ≤ b) (g1 : b < 4294967296) (w : World) :
    Calls Tryd.prog 28 #[.int .u32 a, .int .u32 b] w fun e w' => e = .returned (.tuple #[.int .u32 (lo (a - b)), .bool (ov (sg a - sg b))]) ∧ w' = w := by
  have ha := sg_bd h0 h1
  have hb := sg_bd g0 g1
  go_enter Tryd.func28, Tryd.ntmps28
  go_wp2_with (first | (go_at_call 40; refine (signedOf_any _ (by omega) (by omega) _).mono ?_; rintro e w' ⟨rfl, rfl⟩) | (go_at_call 39; refine (cut_any _ (by omega) (by omega) _).mono ?_; rintro e w' ⟨rfl, rfl⟩))
  go_ret2
  exact ⟨ret_ib (lo_sub a b) rfl, rfl⟩
set_option maxHeartbeats 400000 in
theorem mul_any (a b : Int) (s : Bool) (h0 : 0 ≤ a) (h1 : a < 4294967296) (g0 : 0 ≤ b) (g1 : b < 4294967296) (w : World) :
    Calls Tryd.prog 60 #[.int .u32 a, .int .u32 b, .bool s] w fun e w' => e = .returned (.tuple #[.int .u32 (hi (nm a s * nm b s)), .int .u32 (lo (nm a s * nm b s))]) ∧ w' = w := by
  cases s
  · go_enter Tryd.func60, Tryd.ntmps60
    go_wp2
    go_ret2
    exact ⟨ret_two (hi_wrap (a * b)) (lo_wrap (a * b)), rfl⟩
  · have ha := sg_bd h0 h1
    have hb := sg_bd g0 g1
    go_enter Tryd.func60, Tryd.ntmps60
    go_wp2_with (first | (go_at_call 40; refine (signedOf_any _ (by omega) (by omega) _).mono ?_; rintro e w' ⟨rfl, rfl⟩) | (go_at_call 39; refine (cut_any _ (by omega) (by omega) _).mono ?_; rintro e w' ⟨rfl, rfl⟩))
    go_ret2
    exact ⟨ret_two (hi_wrap' (sg a * sg b)) (lo_wrap' (sg a * sg b)), rfl⟩
set_option maxHeartbeats 400000 in
theorem div_0 (a : Int) (s : Bool) (w : World) :
    Calls Tryd.prog 57 #[.int .u32 a, .int .u32 0, .bool s] w fun e w' => e = .returned (.tuple #[.int .u32 0, .int .u32 0, .bool false]) ∧ w' = w := by
  go_enter Tryd.func57, Tryd.ntmps57
  go_wp2
  go_ret3
  exact ⟨rfl, rfl⟩
set_option maxHeartbeats 400000 in
theorem div_u (a b : Int) (h0 : 0 ≤ a) (h1 : a < 4294967296) (g0 : 0 < b) (g1 : b < 4294967296) (w : World) :
    Calls Tryd.prog 57 #[.int .u32 a, .int .u32 b, .bool false] w fun e w' => e = .returned (.tuple #[.int .u32 (quo a b false), .int .u32 (rst a b false), .bool true]) ∧ w' = w.drew := by
  have hb : (b == 0) = false := by simp; omega
  go_enter Tryd.func57, Tryd.ntmps57
  go_wp2
  go_region
  go_wp2
  go_ret3
  exact ⟨ret_three (quo_u h0 h1 g0) (rst_u h0 g0 g1) rfl, rfl⟩
set_option maxHeartbeats 400000 in
theorem div_s (a b : Int) (h0 : 0 ≤ a) (h1 : a < 4294967296) (g0 : 0 < b) (g1 : b < 4294967296) (w : World) :
    Calls Tryd.prog 57 #[.int .u32 a, .int .u32 b, .bool true] w fun e w' => e = .returned (.tuple #[.int .u32 (quo a b true), .int .u32 (rst a b true), .bool true]) ∧ w' = w.drew := by
  have hb : (b == 0) = false := by simp; omega
  have ha := sg_bd h0 h1
  have hb := sg_bd (Int.le_of_lt g0) g1
  have hz : ¬ sg b = 0 := nm_ne g0 g1 true
  go_enter Tryd.func57, Tryd.ntmps57
  go_wp2_with (go_at_call 40; refine (signedOf_any _ (by omega) (by omega) _).mono ?_; rintro e w' ⟨rfl, rfl⟩)
  go_region
  go_wp2
  go_ret3
  exact ⟨ret_three (lo_wrap64 _) rfl rfl, rfl⟩
theorem div_any (a b : Int) (s : Bool) (h0 : 0 ≤ a) (h1 : a < 4294967296) (g0 : 0 < b) (g1 : b < 4294967296) (w : World) :
    Calls Tryd.prog 57 #[.int .u32 a, .int .u32 b, .bool s] w fun e w' => e = .returned (.tuple #[.int .u32 (quo a b s), .int .u32 (rst a b s), .bool true]) ∧ w' = w.drew := by
  cases s
  · exact div_u a b h0 h1 g0 g1 w
  · exact div_s a b h0 h1 g0 g1 w
end Go.Proofs.YtkehhlibkebomaaDoor
