/-
  Plain facts on whole numbers, read as words of 32 bits: no Go in sight.
-/
import Derived.RowKit
namespace Go.Proofs.YtccnliihdhnckaaGreatDoor.Num
open Go.RowKit (wrap32 wrap64)
/-- the signed number of a word -/
def sg (a : Int) : Int := if a < 2147483648 then a else a - 4294967296
/-- the lowest 32 bits -/
def lo (n : Int) : Int := n % 4294967296
/-- the next 32 bits -/
def hi (n : Int) : Int := n / 4294967296 % 4294967296
/-- a word as a number, signed or not -/
def nm (a : Int) (s : Bool) : Int := if s then sg a else a
/-- 2 to a number modulo 32 -/
def pw (n : Int) : Int := 2 ^ (n % 32).toNat
/-- shifts -/
def shf (k a n : Int) : Int := if k = 60 then lo (a * pw n) else if k = 62 then a / pw n else if k = 126 then lo (sg a / pw n) else a
/-- the lowest bits -/
def wd (v bits : Int) (s : Bool) : Int :=
  if bits < 1 ∨ 32 < bits then v
  else if s = true ∧ 2 ^ bits.toNat ≤ 2 * (v % 2 ^ bits.toNat) then lo (v % 2 ^ bits.toNat - 2 ^ bits.toNat) else v % 2 ^ bits.toNat
theorem sg_bd {a : Int} (h0 : 0 ≤ a) (h1 : a < 4294967296) : -2147483648 ≤ sg a ∧ sg a ≤ 2147483647 := by
  unfold sg; split <;> omega
theorem lo_bd (n : Int) : 0 ≤ lo n ∧ lo n < 4294967296 := by unfold lo; omega
theorem lo_of {a : Int} (h0 : 0 ≤ a) (h1 : a < 4294967296) : lo a = a := by unfold lo; omega
theorem pw_pos (n : Int) : 0 < pw n := by unfold pw; exact Int.pow_pos (by omega)
theorem pw_bd (n : Int) : 1 ≤ pw n ∧ pw n ≤ 2147483648 := by
  refine ⟨by have := pw_pos n; omega, ?_⟩
  unfold pw
  have h : (n % 32).toNat ≤ 31 := by omega
  have g : (2:Nat) ^ (n % 32).toNat ≤ 2 ^ 31 := Nat.pow_le_pow_right (by omega) h
  have e : ((2:Nat) ^ (n % 32).toNat : Int) = 2 ^ (n % 32).toNat := by norm_cast
  have : (((2:Nat) ^ (n % 32).toNat : Nat) : Int) ≤ 2147483648 := by omega
  push_cast at this
  exact this
theorem ediv_bd {a d : Int} (h0 : 0 ≤ a) (hd : 1 ≤ d) : 0 ≤ a / d ∧ a / d ≤ a :=
  ⟨Int.ediv_nonneg h0 (by omega), Int.ediv_le_self _ h0⟩
theorem shf_bd {k a n : Int} (h0 : 0 ≤ a) (h1 : a < 4294967296) : 0 ≤ shf k a n ∧ shf k a n < 4294967296 := by
  unfold shf
  have := lo_bd (a * pw n); have := lo_bd (sg a / pw n); have := ediv_bd h0 (pw_bd n).1
  split
  · omega
  · split
    · omega
    · split <;> omega
theorem p32 {k : Nat} (h : k ≤ 32) : (4294967296 : Int) = 2 ^ k * 2 ^ (32 - k) := by
  rw [← Int.pow_add, show k + (32 - k) = 32 by omega]; rfl
theorem two_pos (k : Nat) : (0 : Int) < 2 ^ k := Int.pow_pos (by omega)
/-- a shift up by P and down again leaves the lowest bits -/
theorem up_down (v P Q : Int) (hP : 0 < P) (e : P * Q = 4294967296) : lo (v * P) / P = v % Q := by
  unfold lo; rw [← e, Int.mul_comm v P, Int.mul_emod_mul_of_pos _ _ hP, Int.mul_ediv_cancel_left _ (by omega)]
/-- the same, signed -/
theorem up_down_s (v P Q : Int) (hP : 0 < P) (hQ : 2 ≤ Q) (e : P * Q = 4294967296) (ev : Q % 2 = 0) :
    sg (lo (v * P)) / P = if Q ≤ 2 * (v % Q) then v % Q - Q else v % Q := by
  have hr : lo (v * P) = (v % Q) * P := by
    unfold lo; rw [← e, Int.mul_comm v P, Int.mul_emod_mul_of_pos _ _ hP, Int.mul_comm]
  obtain ⟨q, rfl⟩ : ∃ q, Q = 2 * q := ⟨Q / 2, by omega⟩
  have e2 : q * P = 2147483648 := by
    have : P * (2 * q) = 2 * (q * P) := by rw [Int.mul_left_comm, Int.mul_comm P q]
    omega
  rw [hr]
  generalize hr' : v % (2 * q) = r
  unfold sg
  by_cases hc : 2 * q ≤ 2 * r
  · rw [if_pos hc, if_neg (by have := Int.mul_le_mul_of_nonneg_right (show q ≤ r by omega) (Int.le_of_lt hP); omega)]
    have : r * P - 4294967296 = (r - 2 * q) * P := by rw [Int.sub_mul, Int.mul_assoc]; omega
    rw [this, Int.mul_ediv_cancel _ (by omega)]
  · rw [if_neg hc, if_pos (by have := Int.mul_lt_mul_of_pos_right (show r < q by omega) hP; omega)]
    rw [Int.mul_ediv_cancel _ (by omega)]
theorem wd_eq {v bits : Int} (g0 : 1 ≤ bits) (g1 : bits ≤ 32) :
    shf 62 (shf 60 v (32 - bits)) (32 - bits) = wd v bits false ∧ shf 126 (shf 60 v (32 - bits)) (32 - bits) = wd v bits true := by
  obtain ⟨k, rfl⟩ : ∃ k : Nat, bits = k := ⟨bits.toNat, by omega⟩
  have hk : k ≤ 32 := by omega
  have e1 : pw (32 - (k : Int)) = 2 ^ (32 - k) := by
    unfold pw; rw [show ((32 - (k : Int)) % 32).toNat = 32 - k by omega]
  have e2 : (2 : Int) ^ (32 - k) * 2 ^ k = 4294967296 := by rw [p32 hk, Int.mul_comm]
  have hP := two_pos (32 - k)
  have hQ : (2 : Int) ≤ 2 ^ k ∧ (2 : Int) ^ k % 2 = 0 := by
    obtain ⟨j, rfl⟩ : ∃ j, k = j + 1 := ⟨k - 1, by omega⟩
    have := two_pos j
    rw [Int.pow_succ]; omega
  have hr0 := Int.emod_nonneg v (show (2 : Int) ^ k ≠ 0 by have := two_pos k; omega)
  have hr1 := Int.emod_lt_of_pos v (two_pos k)
  have hle : (2 : Int) ^ k ≤ 4294967296 := by
    have := Int.mul_le_mul_of_nonneg_right (show (1 : Int) ≤ 2 ^ (32 - k) by omega) (Int.le_of_lt (two_pos k))
    omega
  have hw : ∀ s, wd v k s = if s = true ∧ (2 : Int) ^ k ≤ 2 * (v % 2 ^ k) then lo (v % 2 ^ k - 2 ^ k) else v % 2 ^ k := by
    intro s; unfold wd; rw [if_neg (by omega)]; rfl
  have f60 : shf 60 v (32 - (k : Int)) = lo (v * 2 ^ (32 - k)) := by unfold shf; rw [if_pos rfl, e1]
  rw [f60]
  constructor
  · have : shf 62 (lo (v * 2 ^ (32 - k))) (32 - (k : Int)) = lo (v * 2 ^ (32 - k)) / 2 ^ (32 - k) := by
      unfold shf; rw [if_neg (by decide), if_pos rfl, e1]
    rw [this, up_down v _ _ hP e2, hw, if_neg (by simp)]
  · have : shf 126 (lo (v * 2 ^ (32 - k))) (32 - (k : Int)) = lo (sg (lo (v * 2 ^ (32 - k))) / 2 ^ (32 - k)) := by
      unfold shf; rw [if_neg (by decide), if_neg (by decide), if_pos rfl, e1]
    rw [this, up_down_s v _ _ hP hQ.1 e2 hQ.2, hw]
    by_cases hc : (2 : Int) ^ k ≤ 2 * (v % 2 ^ k)
    · rw [if_pos hc, if_pos ⟨rfl, hc⟩]
    · rw [if_neg hc, if_neg (by simp; omega)]; exact lo_of hr0 (by omega)
theorem tm (n : Int) : n = 4294967296 * n.tdiv 4294967296 + n.tmod 4294967296 ∧ -4294967296 < n.tmod 4294967296 ∧ n.tmod 4294967296 < 4294967296 :=
  ⟨(Int.mul_tdiv_add_tmod n 4294967296).symm, Int.lt_tmod_of_pos n (by omega), Int.tmod_lt_of_pos n (by omega)⟩
theorem two_le {k : Nat} (h : k ≤ 32) : (1 : Int) ≤ 2 ^ k ∧ (2 : Int) ^ k ≤ 4294967296 := by
  refine ⟨by have := two_pos k; omega, ?_⟩
  have e := p32 h
  have := Int.mul_le_mul_of_nonneg_left (show (1 : Int) ≤ 2 ^ (32 - k) by have := two_pos (32 - k); omega) (Int.le_of_lt (two_pos k))
  omega
/-- quotients toward 0 and downward -/
theorem down (s P : Int) (hs : s < 0) (hb : -2147483648 ≤ s) (hP : 1 ≤ P) :
    (-2147483648 ≤ s.tdiv P ∧ s.tdiv P ≤ 0) ∧ s / P = if s.tmod P = 0 then s.tdiv P else s.tdiv P - 1 := by
  have h1 := Int.mul_tdiv_add_tmod s P
  have h2 := Int.lt_tmod_of_pos s (show 0 < P by omega)
  have h3 : s.tmod P ≤ 0 := by
    have : (-s).tmod P = -(s.tmod P) := Int.neg_tmod _ _
    have h4 := Int.tmod_nonneg P (show 0 ≤ -s by omega)
    omega
  have h5 : s.tdiv P = -((-s) / P) := by
    rw [← Int.tdiv_eq_ediv_of_nonneg (show 0 ≤ -s by omega), Int.neg_tdiv]; omega
  have h6 := ediv_bd (a := -s) (d := P) (by omega) hP
  refine ⟨by omega, ?_⟩
  by_cases hr : s.tmod P = 0
  · rw [if_pos hr]
    have e : s = P * s.tdiv P := by omega
    conv => lhs; rw [e]
    exact Int.mul_ediv_cancel_left _ (by omega)
  · rw [if_neg hr]
    have e : s = (s.tmod P + P) + P * (s.tdiv P - 1) := by rw [Int.mul_sub, Int.mul_one]; omega
    conv => lhs; rw [e]
    rw [Int.add_mul_ediv_left _ _ (show P ≠ 0 by omega), Int.ediv_eq_zero_of_lt (by omega) (by omega)]; omega
theorem shl_of (a P : Int) (hP : 1 ≤ P) (hd : P * (4294967296 / P) = 4294967296) (hq : 1 ≤ 4294967296 / P) :
    0 ≤ a % (4294967296 / P) ∧ a % (4294967296 / P) < 4294967296 / P ∧
    0 ≤ a % (4294967296 / P) * P ∧ a % (4294967296 / P) * P < 4294967296 ∧ a % (4294967296 / P) * P = lo (a * P) := by
  have r0 := Int.emod_nonneg a (show 4294967296 / P ≠ 0 by omega)
  have r1 := Int.emod_lt_of_pos a (show 0 < 4294967296 / P by omega)
  have e : a % (4294967296 / P) * P = lo (a * P) := by
    unfold lo
    conv => rhs; rw [← hd]
    rw [Int.mul_comm a P, Int.mul_emod_mul_of_pos _ _ (by omega), Int.mul_comm]
  have := lo_bd (a * P)
  refine ⟨r0, r1, ?_, ?_, e⟩ <;> omega
theorem p_div {k : Nat} (h : k ≤ 32) : (2 : Int) ^ k * (4294967296 / 2 ^ k) = 4294967296 ∧ 1 ≤ (4294967296 : Int) / 2 ^ k := by
  have e : (4294967296 : Int) / 2 ^ k = 2 ^ (32 - k) := by
    conv => lhs; rw [p32 h]
    exact Int.mul_ediv_cancel_left _ (by have := two_pos k; omega)
  rw [e]; exact ⟨(p32 h).symm, by have := two_pos (32 - k); omega⟩
end Go.Proofs.YtccnliihdhnckaaGreatDoor.Num
