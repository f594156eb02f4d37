/-
  Plain facts on whole numbers, read as words of 32 bits: no Go in sight.
-/
import Derived.RowKit
namespace Go.Proofs.YtckcbnfobjmhpaaDoor.Num
open Go.RowKit (wrap32 wrap64)
/-- the signed number of a word -/
def sg (a : Int) : Int := if a < 2147483648 then a else a - 4294967296
/-- the lowest 32 bits -/
def lo (n : Int) : Int := n % 4294967296
/-- the next 32 bits -/
def hi (n : Int) : Int := n / 4294967296 % 4294967296
/-- no signed word -/
def ov (n : Int) : Bool := decide (n < -2147483648 ∨ 2147483647 < n)
/-- a word as a number, signed or not -/
def nm (a : Int) (s : Bool) : Int := if s then sg a else a
/-- the order of words -/
def lessB (a b : Int) (s : Bool) : Bool := decide (nm a s < nm b s)
/-- quotient and rest -/
def quo (a b : Int) (s : Bool) : Int := lo ((nm a s).tdiv (nm b s))
def rst (a b : Int) (s : Bool) : Int := lo ((nm a s).tmod (nm b s))
/-- 2 to a number modulo 32 -/
def pw (n : Int) : Int := 2 ^ (n % 32).toNat
/-- shifts -/
def shf (k a n : Int) : Int := if k = 60 then lo (a * pw n) else if k = 62 then a / pw n else if k = 126 then lo (sg a / pw n) else a
/-- the lowest bits -/
def wd (v bits : Int) (s : Bool) : Int :=
  if bits < 1 ∨ 32 < bits then v
  else if s = true ∧ 2 ^ bits.toNat ≤ 2 * (v % 2 ^ bits.toNat) then lo (v % 2 ^ bits.toNat - 2 ^ bits.toNat) else v % 2 ^ bits.toNat

theorem sg_bd {a : Int} (h0 : 0 ≤ a) (h1 : a < 4294967296) : -2147483648 ≤ sg a ∧ sg a ≤ 2147483647 := by
  unfold sg; split <;> omega
theorem lo_bd (n : Int) : 0 ≤ lo n ∧ lo n < 4294967296 := by unfold lo; omega
theorem hi_bd (n : Int) : 0 ≤ hi n ∧ hi n < 4294967296 := by unfold hi; omega
theorem sg_of_wrap {a : Int} (h0 : 0 ≤ a) (h1 : a < 4294967296) : wrap32 a = sg a := by
  unfold sg wrap32; split <;> omega
theorem sg_wrap64 {a : Int} (h0 : 0 ≤ a) (h1 : a < 4294967296) : wrap64 (wrap32 a) = sg a := by
  unfold sg wrap32 wrap64; split <;> omega
theorem sg_mod (a : Int) : sg a % 4294967296 = a % 4294967296 := by unfold sg; split <;> omega
theorem lo_of {a : Int} (h0 : 0 ≤ a) (h1 : a < 4294967296) : lo a = a := by unfold lo; omega
theorem lo_add (a b : Int) : lo (sg a + sg b) = lo (a + b) := by
  have := sg_mod a; have := sg_mod b; unfold lo; omega
theorem lo_sub (a b : Int) : lo (sg a - sg b) = lo (a - b) := by
  have := sg_mod a; have := sg_mod b; unfold lo; omega
theorem sg_lo (n : Int) : (sg (lo n) = n) = ¬ (n < -2147483648 ∨ 2147483647 < n) := by
  unfold sg lo; apply propext; constructor
  · intro h; split at h <;> omega
  · intro h; split <;> omega
theorem ov_eq (n : Int) : (sg (lo n) != n) = ov n := by
  unfold ov; rw [Bool.eq_iff_iff]; simp only [bne_iff_ne, ne_eq, sg_lo, decide_eq_true_eq]; omega
theorem sg_inj {a b : Int} (h0 : 0 ≤ a) (h1 : a < 4294967296) (g0 : 0 ≤ b) (g1 : b < 4294967296) (h : sg a = sg b) : a = b := by
  unfold sg at h; split at h <;> split at h <;> omega
theorem hi_wrap (x : Int) : x % 18446744073709551616 / 4294967296 % 4294967296 = hi x := by unfold hi; omega
theorem lo_wrap (x : Int) : x % 18446744073709551616 % 4294967296 = lo x := by unfold lo; omega
theorem hi_wrap' (x : Int) : wrap64 x % 18446744073709551616 / 4294967296 % 4294967296 = hi x := by unfold hi wrap64; omega
theorem lo_wrap' (x : Int) : wrap64 x % 18446744073709551616 % 4294967296 = lo x := by unfold lo wrap64; omega
theorem nm_ne {b : Int} (h0 : 0 < b) (h1 : b < 4294967296) (s : Bool) : nm b s ≠ 0 := by
  unfold nm sg; split
  · split <;> omega
  · omega
theorem nm_bd {a : Int} (h0 : 0 ≤ a) (h1 : a < 4294967296) (s : Bool) : -2147483648 ≤ nm a s ∧ nm a s ≤ 4294967295 := by
  unfold nm; split
  · have := sg_bd h0 h1; omega
  · omega
theorem pw_pos (n : Int) : 0 < pw n := by unfold pw; exact Int.pow_pos (by omega)
theorem pw_bd (n : Int) : 1 ≤ pw n ∧ pw n ≤ 2147483648 := by
  refine ⟨by have := pw_pos n; omega, ?_⟩
  unfold pw
  have h : (n % 32).toNat ≤ 31 := by omega
  have g : (2:Nat) ^ (n % 32).toNat ≤ 2 ^ 31 := Nat.pow_le_pow_right (by omega) h
  have e : ((2:Nat) ^ (n % 32).toNat : Int) = 2 ^ (n % 32).toNat := by norm_cast
  have : (((2:Nat) ^ (n % 32).toNat : Nat) : Int) ≤ 2147483648 := by omega
  push_cast at this
  exact this
theorem pw_dvd (n : Int) : pw n * (4294967296 / pw n) = 4294967296 := by
  unfold pw
  have h : (n % 32).toNat ≤ 31 := by omega
  generalize (n % 32).toNat = k at h ⊢
  have e : (4294967296 : Int) = 2 ^ k * 2 ^ (32 - k) := by rw [← Int.pow_add, show k + (32 - k) = 32 by omega]; rfl
  rw [e, Int.mul_ediv_cancel_left _ (Int.ne_of_gt (Int.pow_pos (by omega)))]
theorem quo_u {a b : Int} (h0 : 0 ≤ a) (h1 : a < 4294967296) (g0 : 0 < b) : a / b = quo a b false := by
  have e : quo a b false = lo (a.tdiv b) := rfl
  have l : a / b ≤ a := Int.ediv_le_self _ h0
  have n : 0 ≤ a / b := Int.ediv_nonneg h0 (by omega)
  rw [e, Int.tdiv_eq_ediv_of_nonneg h0]; unfold lo; omega
theorem rst_u {a b : Int} (h0 : 0 ≤ a) (g0 : 0 < b) (g1 : b < 4294967296) : a % b = rst a b false := by
  have e : rst a b false = lo (a.tmod b) := rfl
  have l := Int.emod_lt_of_pos a g0
  have n := Int.emod_nonneg a (show b ≠ 0 by omega)
  rw [e, Int.tmod_eq_emod_of_nonneg h0]; unfold lo; omega
theorem quo_bd (a b : Int) (s : Bool) : 0 ≤ quo a b s ∧ quo a b s < 4294967296 := lo_bd _
theorem rst_bd (a b : Int) (s : Bool) : 0 ≤ rst a b s ∧ rst a b s < 4294967296 := lo_bd _
theorem ediv_bd {a d : Int} (h0 : 0 ≤ a) (hd : 1 ≤ d) : 0 ≤ a / d ∧ a / d ≤ a :=
  ⟨Int.ediv_nonneg h0 (by omega), Int.ediv_le_self _ h0⟩
theorem shf_bd {k a n : Int} (h0 : 0 ≤ a) (h1 : a < 4294967296) : 0 ≤ shf k a n ∧ shf k a n < 4294967296 := by
  unfold shf
  have := lo_bd (a * pw n); have := lo_bd (sg a / pw n); have := ediv_bd h0 (pw_bd n).1
  split
  · omega
  · split
    · omega
    · split <;> omega
theorem p32 {k : Nat} (h : k ≤ 32) : (4294967296 : Int) = 2 ^ k * 2 ^ (32 - k) := by
  rw [← Int.pow_add, show k + (32 - k) = 32 by omega]; rfl
theorem two_pos (k : Nat) : (0 : Int) < 2 ^ k := Int.pow_pos (by omega)
/-- a shift up by P and down again leaves the lowest bits -/
theorem up_down (v P Q : Int) (hP : 0 < P) (e : P * Q = 4294967296) : lo (v * P) / P = v % Q := by
  unfold lo; rw [← e, Int.mul_comm v P, Int.mul_emod_mul_of_pos _ _ hP, Int.mul_ediv_cancel_left _ (by omega)]
/-- the same, signed -/
theorem up_down_s (v P Q : Int) (hP : 0 < P) (hQ : 2 ≤ Q) (e : P * Q = 4294967296) (ev : Q % 2 = 0) :
    sg (lo (v * P)) / P = if Q ≤ 2 * (v % Q) then v % Q - Q else v % Q := by
  have hr : lo (v * P) = (v % Q) * P := by
    unfold lo; rw [← e, Int.mul_comm v P, Int.mul_emod_mul_of_pos _ _ hP, Int.mul_comm]
  obtain ⟨q, rfl⟩ : ∃ q, Q = 2 * q := ⟨Q / 2, by omega⟩
  have e2 : q * P = 2147483648 := by
    have : P * (2 * q) = 2 * (q * P) := by rw [Int.mul_left_comm, Int.mul_comm P q]
    omega
  rw [hr]
  generalize hr' : v % (2 * q) = r
  unfold sg
  by_cases hc : 2 * q ≤ 2 * r
  · rw [if_pos hc, if_neg (by have := Int.mul_le_mul_of_nonneg_right (show q ≤ r by omega) (Int.le_of_lt hP); omega)]
    have : r * P - 4294967296 = (r - 2 * q) * P := by rw [Int.sub_mul, Int.mul_assoc]; omega
    rw [this, Int.mul_ediv_cancel _ (by omega)]
  · rw [if_neg hc, if_pos (by have := Int.mul_lt_mul_of_pos_right (show r < q by omega) hP; omega)]
    rw [Int.mul_ediv_cancel _ (by omega)]
theorem wd_eq {v bits : Int} (g0 : 1 ≤ bits) (g1 : bits ≤ 32) :
    shf 62 (shf 60 v (32 - bits)) (32 - bits) = wd v bits false ∧ shf 126 (shf 60 v (32 - bits)) (32 - bits) = wd v bits true := by
  obtain ⟨k, rfl⟩ : ∃ k : Nat, bits = k := ⟨bits.toNat, by omega⟩
  have hk : k ≤ 32 := by omega
  have e1 : pw (32 - (k : Int)) = 2 ^ (32 - k) := by
    unfold pw; rw [show ((32 - (k : Int)) % 32).toNat = 32 - k by omega]
  have e2 : (2 : Int) ^ (32 - k) * 2 ^ k = 4294967296 := by rw [p32 hk, Int.mul_comm]
  have hP := two_pos (32 - k)
  have hQ : (2 : Int) ≤ 2 ^ k ∧ (2 : Int) ^ k % 2 = 0 := by
    obtain ⟨j, rfl⟩ : ∃ j, k = j + 1 := ⟨k - 1, by omega⟩
    have := two_pos j
    rw [Int.pow_succ]; omega
  have hr0 := Int.emod_nonneg v (show (2 : Int) ^ k ≠ 0 by have := two_pos k; omega)
  have hr1 := Int.emod_lt_of_pos v (two_pos k)
  have hle : (2 : Int) ^ k ≤ 4294967296 := by
    have := Int.mul_le_mul_of_nonneg_right (show (1 : Int) ≤ 2 ^ (32 - k) by omega) (Int.le_of_lt (two_pos k))
    omega
  have hw : ∀ s, wd v k s = if s = true ∧ (2 : Int) ^ k ≤ 2 * (v % 2 ^ k) then lo (v % 2 ^ k - 2 ^ k) else v % 2 ^ k := by
    intro s; unfold wd; rw [if_neg (by omega)]; rfl
  have f60 : shf 60 v (32 - (k : Int)) = lo (v * 2 ^ (32 - k)) := by unfold shf; rw [if_pos rfl, e1]
  rw [f60]
  constructor
  · have : shf 62 (lo (v * 2 ^ (32 - k))) (32 - (k : Int)) = lo (v * 2 ^ (32 - k)) / 2 ^ (32 - k) := by
      unfold shf; rw [if_neg (by decide), if_pos rfl, e1]
    rw [this, up_down v _ _ hP e2, hw, if_neg (by simp)]
  · have : shf 126 (lo (v * 2 ^ (32 - k))) (32 - (k : Int)) = lo (sg (lo (v * 2 ^ (32 - k))) / 2 ^ (32 - k)) := by
      unfold shf; rw [if_neg (by decide), if_neg (by decide), if_pos rfl, e1]
    rw [this, up_down_s v _ _ hP hQ.1 e2 hQ.2, hw]
    by_cases hc : (2 : Int) ^ k ≤ 2 * (v % 2 ^ k)
    · rw [if_pos hc, if_pos ⟨rfl, hc⟩]
    · rw [if_neg hc, if_neg (by simp; omega)]; exact lo_of hr0 (by omega)
theorem wd_bd {v bits : Int} (h0 : 0 ≤ v) (h1 : v < 4294967296) (s : Bool) : 0 ≤ wd v bits s ∧ wd v bits s < 4294967296 := by
  by_cases h : bits < 1 ∨ 32 < bits
  · unfold wd; rw [if_pos h]; omega
  · have e := wd_eq (v := v) (bits := bits) (by omega) (by omega)
    have b := shf_bd (k := 60) (n := 32 - bits) h0 h1
    cases s
    · rw [← e.1]; exact shf_bd b.1 b.2
    · rw [← e.2]; exact shf_bd b.1 b.2
theorem tm (n : Int) : n = 4294967296 * n.tdiv 4294967296 + n.tmod 4294967296 ∧ -4294967296 < n.tmod 4294967296 ∧ n.tmod 4294967296 < 4294967296 :=
  ⟨(Int.mul_tdiv_add_tmod n 4294967296).symm, Int.lt_tmod_of_pos n (by omega), Int.tmod_lt_of_pos n (by omega)⟩
theorem lo_wrap64 (x : Int) : lo (wrap64 x) = lo x := by unfold lo wrap64; omega
theorem two_le {k : Nat} (h : k ≤ 32) : (1 : Int) ≤ 2 ^ k ∧ (2 : Int) ^ k ≤ 4294967296 := by
  refine ⟨by have := two_pos k; omega, ?_⟩
  have e := p32 h
  have := Int.mul_le_mul_of_nonneg_left (show (1 : Int) ≤ 2 ^ (32 - k) by have := two_pos (32 - k); omega) (Int.le_of_lt (two_pos k))
  omega
theorem halves_lo (H L X : Int) (e : X = 65536 * H + L) :
    (L % 4294967296 + H % 65536 * 65536) % 4294967296 = lo X ∧
    (L / 4294967296 + H / 65536 + (L % 4294967296 + H % 65536 * 65536) / 4294967296) = X / 4294967296 := by
  unfold lo; subst e; omega
/-- quotients toward 0 and downward -/
theorem down (s P : Int) (hs : s < 0) (hb : -2147483648 ≤ s) (hP : 1 ≤ P) :
    (-2147483648 ≤ s.tdiv P ∧ s.tdiv P ≤ 0) ∧ s / P = if s.tmod P = 0 then s.tdiv P else s.tdiv P - 1 := by
  have h1 := Int.mul_tdiv_add_tmod s P
  have h2 := Int.lt_tmod_of_pos s (show 0 < P by omega)
  have h3 : s.tmod P ≤ 0 := by
    have : (-s).tmod P = -(s.tmod P) := Int.neg_tmod _ _
    have h4 := Int.tmod_nonneg P (show 0 ≤ -s by omega)
    omega
  have h5 : s.tdiv P = -((-s) / P) := by
    rw [← Int.tdiv_eq_ediv_of_nonneg (show 0 ≤ -s by omega), Int.neg_tdiv]; omega
  have h6 := ediv_bd (a := -s) (d := P) (by omega) hP
  refine ⟨by omega, ?_⟩
  by_cases hr : s.tmod P = 0
  · rw [if_pos hr]
    have e : s = P * s.tdiv P := by omega
    conv => lhs; rw [e]
    exact Int.mul_ediv_cancel_left _ (by omega)
  · rw [if_neg hr]
    have e : s = (s.tmod P + P) + P * (s.tdiv P - 1) := by rw [Int.mul_sub, Int.mul_one]; omega
    conv => lhs; rw [e]
    rw [Int.add_mul_ediv_left _ _ (show P ≠ 0 by omega), Int.ediv_eq_zero_of_lt (by omega) (by omega)]; omega
theorem shl_of (a P : Int) (hP : 1 ≤ P) (hd : P * (4294967296 / P) = 4294967296) (hq : 1 ≤ 4294967296 / P) :
    0 ≤ a % (4294967296 / P) ∧ a % (4294967296 / P) < 4294967296 / P ∧
    0 ≤ a % (4294967296 / P) * P ∧ a % (4294967296 / P) * P < 4294967296 ∧ a % (4294967296 / P) * P = lo (a * P) := by
  have r0 := Int.emod_nonneg a (show 4294967296 / P ≠ 0 by omega)
  have r1 := Int.emod_lt_of_pos a (show 0 < 4294967296 / P by omega)
  have e : a % (4294967296 / P) * P = lo (a * P) := by
    unfold lo
    conv => rhs; rw [← hd]
    rw [Int.mul_comm a P, Int.mul_emod_mul_of_pos _ _ (by omega), Int.mul_comm]
  have := lo_bd (a * P)
  refine ⟨r0, r1, ?_, ?_, e⟩ <;> omega
theorem p_div {k : Nat} (h : k ≤ 32) : (2 : Int) ^ k * (4294967296 / 2 ^ k) = 4294967296 ∧ 1 ≤ (4294967296 : Int) / 2 ^ k := by
  have e : (4294967296 : Int) / 2 ^ k = 2 ^ (32 - k) := by
    conv => lhs; rw [p32 h]
    exact Int.mul_ediv_cancel_left _ (by have := two_pos k; omega)
  rw [e]; exact ⟨(p32 h).symm, by have := two_pos (32 - k); omega⟩
/-- the product by halves -/
theorem mul_halves (x y : Int) (hx : 0 ≤ x) (hx' : x ≤ 4294967296) (hy : 0 ≤ y) (hy' : y ≤ 4294967296) :
    0 ≤ x * (y % 65536) ∧ x * (y % 65536) ≤ 281474976710656 ∧ 0 ≤ x * (y / 65536) ∧ x * (y / 65536) ≤ 281474976710656 ∧
    x * y = 65536 * (x * (y / 65536)) + x * (y % 65536) := by
  refine ⟨Int.mul_nonneg hx (by omega), ?_, Int.mul_nonneg hx (by omega), ?_, ?_⟩
  · have := Int.mul_le_mul hx' (show y % 65536 ≤ 65536 by omega) (by omega) (by omega); omega
  · have := Int.mul_le_mul hx' (show y / 65536 ≤ 65536 by omega) (by omega) (by omega); omega
  · have e : y = 65536 * (y / 65536) + y % 65536 := by omega
    conv => lhs; rw [e]
    rw [Int.mul_add, Int.mul_left_comm]
/-- what is added is taken off -/
theorem back_add {a b : Int} (h0 : 0 ≤ a) (h1 : a < 4294967296) : lo (lo (a + b) - b) = a := by unfold lo; omega
theorem lo_sg_mul (x y : Int) : lo (sg x * sg y) = lo (x * y) := by
  unfold lo; rw [Int.mul_emod, sg_mod, sg_mod, ← Int.mul_emod]
theorem lo_lo_mul (x y : Int) : lo (lo x * y) = lo (x * y) := by
  unfold lo; rw [Int.mul_emod, Int.emod_emod, ← Int.mul_emod]
theorem lo_add_lo (x y : Int) : lo (lo x + lo y) = lo (x + y) := by unfold lo; omega
/-- quotient and rest make the word again -/
theorem back_u {a b : Int} (h0 : 0 ≤ a) (h1 : a < 4294967296) (g0 : 0 < b) :
    hi (quo a b false * b) = 0 ∧ lo (quo a b false * b) = quo a b false * b ∧ lo (lo (quo a b false * b) + rst a b false) = a ∧ rst a b false < b := by
  have q := quo_u h0 h1 g0
  have d := ediv_bd (d := b) h0 (by omega)
  have e := Int.mul_ediv_add_emod a b
  have r0 := Int.emod_nonneg a (show b ≠ 0 by omega)
  have r1 := Int.emod_lt_of_pos a g0
  have m0 : 0 ≤ a / b * b := Int.mul_nonneg d.1 (by omega)
  have m1 : a / b * b = b * (a / b) := Int.mul_comm _ _
  have er : rst a b false = lo (a % b) := by
    show lo (a.tmod b) = lo (a % b)
    rw [Int.tmod_eq_emod_of_nonneg h0]
  have rl : a % b ≤ a := by omega
  rw [er, ← q]
  unfold hi lo
  omega
theorem back_s {a b : Int} (h0 : 0 ≤ a) (h1 : a < 4294967296) :
    lo (lo (sg (quo a b true) * sg b) + rst a b true) = a := by
  have e := Int.mul_tdiv_add_tmod (sg a) (sg b)
  have e1 : quo a b true = lo ((sg a).tdiv (sg b)) := rfl
  have e2 : rst a b true = lo ((sg a).tmod (sg b)) := rfl
  have e3 : lo (sg (quo a b true) * sg b) = lo ((sg a).tdiv (sg b) * sg b) := by
    have : sg (quo a b true) % 4294967296 = (sg a).tdiv (sg b) % 4294967296 := by rw [sg_mod, e1]; unfold lo; omega
    unfold lo; rw [Int.mul_emod, this, ← Int.mul_emod]
  rw [e3, e2, lo_add_lo, Int.mul_comm, e]
  unfold lo; rw [sg_mod]; omega
theorem wd_u {v bits : Int} (g0 : 1 ≤ bits) (g1 : bits ≤ 32) : wd v bits false = v % 2 ^ bits.toNat := by
  unfold wd; rw [if_neg (by omega), if_neg (by simp)]
theorem two_dvd {bits : Int} (g0 : 1 ≤ bits) (g1 : bits ≤ 32) : ∃ P : Int, (4294967296 : Int) = 2 ^ bits.toNat * P :=
  ⟨_, p32 (k := bits.toNat) (by omega)⟩
theorem lo_mod {v bits : Int} (g0 : 1 ≤ bits) (g1 : bits ≤ 32) : lo v % 2 ^ bits.toNat = v % 2 ^ bits.toNat := by
  obtain ⟨P, hP⟩ := two_dvd g0 g1
  unfold lo; exact Int.emod_emod_of_dvd v ⟨P, hP⟩
theorem wd_s_mod {v bits : Int} (g0 : 1 ≤ bits) (g1 : bits ≤ 32) : wd v bits true % 2 ^ bits.toNat = v % 2 ^ bits.toNat := by
  unfold wd; rw [if_neg (by omega)]
  split
  · rw [lo_mod g0 g1, Int.sub_emod_right, Int.emod_emod]
  · rw [Int.emod_emod]
theorem wd_wd {v bits : Int} (g0 : 1 ≤ bits) (g1 : bits ≤ 32) :
    wd (wd v bits false) bits false = wd v bits false ∧ wd (wd v bits true) bits false = wd v bits false ∧ wd (wd v bits true) bits true = wd v bits true := by
  refine ⟨?_, ?_, ?_⟩
  · rw [wd_u g0 g1, wd_u g0 g1, Int.emod_emod]
  · rw [wd_u g0 g1, wd_u g0 g1, wd_s_mod g0 g1]
  · have e : ∀ x, x % 2 ^ bits.toNat = v % 2 ^ bits.toNat → wd x bits true = wd v bits true := by
      intro x hx; unfold wd; simp only [if_neg (show ¬ (bits < 1 ∨ 32 < bits) by omega), hx]
    exact e _ (wd_s_mod g0 g1)
theorem halves {a bits : Int} (h0 : 0 ≤ a) (h1 : a < 4294967296) (g0 : 1 ≤ bits) (g1 : bits ≤ 31) :
    lo (wd a bits false + shf 60 (shf 62 a bits) bits) = a := by
  have e1 : pw bits = 2 ^ bits.toNat := by unfold pw; rw [show bits % 32 = bits by omega]
  have e2 : shf 62 a bits = a / 2 ^ bits.toNat := by unfold shf; rw [if_neg (by decide), if_pos rfl, e1]
  have e3 : shf 60 (shf 62 a bits) bits = lo (a / 2 ^ bits.toNat * 2 ^ bits.toNat) := by rw [e2]; unfold shf; rw [if_pos rfl, e1]
  rw [e3, wd_u g0 (by omega)]
  have := Int.mul_ediv_add_emod a (2 ^ bits.toNat)
  have m : a / 2 ^ bits.toNat * 2 ^ bits.toNat = 2 ^ bits.toNat * (a / 2 ^ bits.toNat) := Int.mul_comm _ _
  unfold lo
  omega
theorem orders_irr (a : Int) (t : Bool) : lessB a a t = false := by simp [lessB]
theorem orders_tri {a b : Int} (h0 : 0 ≤ a) (h1 : a < 4294967296) (g0 : 0 ≤ b) (g1 : b < 4294967296) (h : ¬ a = b) (t : Bool) :
    (lessB a b t = true ∧ lessB b a t = false) ∨ (lessB a b t = false ∧ lessB b a t = true) := by
  have : ¬ nm a t = nm b t := by
    cases t
    · exact h
    · exact fun e => h (sg_inj h0 h1 g0 g1 e)
  simp only [lessB, decide_eq_true_eq, decide_eq_false_iff_not]; omega
theorem orders_trans {a b c : Int} {t : Bool} (h : lessB a b t = true) (g : lessB b c t = true) : lessB a c t = true := by
  simp only [lessB, decide_eq_true_eq] at *; omega
theorem orders_apart {a b : Int} (h0 : 0 ≤ a) (h1 : a < 4294967296) (g0 : 0 ≤ b) (g1 : b < 4294967296) :
    ((lessB a b true != lessB a b false) == (decide (2147483648 ≤ a) != decide (2147483648 ≤ b))) = true := by
  by_cases x : 2147483648 ≤ a
  · by_cases y : 2147483648 ≤ b
    · simp [lessB, nm, sg, x, y]; omega
    · simp [lessB, nm, sg, x, y]; omega
  · by_cases y : 2147483648 ≤ b
    · simp [lessB, nm, sg, x, y]; omega
    · simp [lessB, nm, sg, x, y]; omega
end Go.Proofs.YtckcbnfobjmhpaaDoor.Num
