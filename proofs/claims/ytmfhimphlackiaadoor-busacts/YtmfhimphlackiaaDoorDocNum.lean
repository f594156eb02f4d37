/-
  Memory by bytes and by words: a byte that is put is a store of one byte; bytes make a word. No Go in sight.
-/
import Derived.Test.YtmfhimphlackiaaDoorPure
namespace Go.Proofs.YtmfhimphlackiaaDoor
open Num
set_option linter.unusedVariables false
/-- the byte at an address -/
def byt (m : Nat → Int) (a : Int) : Int := m (a / 4).toNat / 2 ^ (bhd a 1).toNat % 256
theorem bhd1 (a : Int) : bhd a 1 = 24 - 8 * (a % 4) := by unfold bhd; omega
theorem mod4 (a : Int) : a % 4 = 0 ∨ a % 4 = 1 ∨ a % 4 = 2 ∨ a % 4 = 3 := by omega
/-- a byte, put: the word with the old byte taken off and the new one added -/
theorem put_eq (x b : Int) (a : Int) (x0 : 0 ≤ x) (x1 : x < 4294967296) (b0 : 0 ≤ b) (b1 : b < 256) :
    0 ≤ x - x / 2 ^ (bhd a 1).toNat % 256 * 2 ^ (bhd a 1).toNat ∧ x - x / 2 ^ (bhd a 1).toNat % 256 * 2 ^ (bhd a 1).toNat + b * 2 ^ (bhd a 1).toNat < 4294967296 ∧ b * 2 ^ (bhd a 1).toNat < 4294967296 ∧ x / 2 ^ (bhd a 1).toNat % 256 * 2 ^ (bhd a 1).toNat < 4294967296 ∧ 0 ≤ x / 2 ^ (bhd a 1).toNat % 256 * 2 ^ (bhd a 1).toNat ∧ 0 ≤ b * 2 ^ (bhd a 1).toNat ∧
    x - x / 2 ^ (bhd a 1).toNat % 256 * 2 ^ (bhd a 1).toNat + b * 2 ^ (bhd a 1).toNat = stw x b (2 ^ (bhd a 1).toNat) (2 ^ (8 * (1 : Int)).toNat) := by
  rw [bhd1]
  have e8 : (2 : Int) ^ (8 * (1 : Int)).toNat = 256 := by decide
  rw [e8]
  unfold stw
  rcases mod4 a with h | h | h | h
  · have : (2 : Int) ^ (24 - 8 * (a % 4)).toNat = 16777216 := by rw [h]; decide
    rw [this]; omega
  · have : (2 : Int) ^ (24 - 8 * (a % 4)).toNat = 65536 := by rw [h]; decide
    rw [this]; omega
  · have : (2 : Int) ^ (24 - 8 * (a % 4)).toNat = 256 := by rw [h]; decide
    rw [this]; omega
  · have : (2 : Int) ^ (24 - 8 * (a % 4)).toNat = 1 := by rw [h]; decide
    rw [this]; omega
theorem upd_at (m : Nat → Int) (a s v : Int) : upd m a s v (a / 4).toNat = stw (m (a / 4).toNat) v (2 ^ (bhd a s).toNat) (2 ^ (8 * s).toNat) := by unfold upd; rw [if_pos rfl]
theorem upd_ne (m : Nat → Int) (a s v : Int) (i : Nat) (h : i ≠ (a / 4).toNat) : upd m a s v i = m i := by unfold upd; rw [if_neg h]
/-- which byte of a word is put -/
def bOf (v s i : Int) : Int := v / 2 ^ (8 * (s - 1 - i)).toNat % 256
/-- the first i bytes of a word, put -/
def puts (m : Nat → Int) (a s v : Int) : Nat → Nat → Int
  | 0 => m
  | i + 1 => upd (puts m a s v i) (a + i) 1 (bOf v s i)
theorem p24 : (2 : Int) ^ 24 = 16777216 := by decide
theorem p16 : (2 : Int) ^ 16 = 65536 := by decide
theorem p8 : (2 : Int) ^ 8 = 256 := by decide
theorem p32 : (2 : Int) ^ 32 = 4294967296 := by decide
theorem e1 : (2 : Int) ^ (8 * (1 : Int)).toNat = 256 := by decide
theorem e2 : (2 : Int) ^ (8 * (2 : Int)).toNat = 65536 := by decide
theorem e4 : (2 : Int) ^ (8 * (4 : Int)).toNat = 4294967296 := by decide
theorem puts1 (m : Nat → Int) (a v : Int) : puts m a 1 v 1 = upd m a 1 v := by
  funext i
  have e0 : a + ((0 : Nat) : Int) = a := by omega
  have eb : bOf v 1 ((0 : Nat) : Int) = v % 256 := by unfold bOf; rw [show (2 : Int) ^ (8 * (1 - 1 - ((0 : Nat) : Int))).toNat = 1 by decide, Int.ediv_one]
  show upd m (a + ((0 : Nat) : Int)) 1 (bOf v 1 ((0 : Nat) : Int)) i = _
  rw [e0, eb]
  unfold upd stw
  rw [e1, Int.emod_emod_of_dvd _ (Int.dvd_refl 256)]
theorem stw2a (x v : Int) (x0 : 0 ≤ x) (x1 : x < 4294967296) : stw (stw x (v / 256 % 256) 16777216 256) (v % 256) 65536 256 = stw x v 65536 65536 := by unfold stw; omega
theorem stw2b (x v : Int) (x0 : 0 ≤ x) (x1 : x < 4294967296) : stw (stw x (v / 256 % 256) 256 256) (v % 256) 1 256 = stw x v 1 65536 := by unfold stw; omega
theorem stw4 (x v : Int) (x0 : 0 ≤ x) (x1 : x < 4294967296) (v0 : 0 ≤ v) (v1 : v < 4294967296) : stw (stw (stw (stw x (v / 16777216 % 256) 16777216 256) (v / 65536 % 256) 65536 256) (v / 256 % 256) 256 256) (v % 256) 1 256 = stw x v 1 4294967296 := by
  have h1 : stw x (v / 16777216 % 256) 16777216 256 = v / 16777216 % 256 * 16777216 + x % 16777216 := by unfold stw; omega
  have h2 : stw (v / 16777216 % 256 * 16777216 + x % 16777216) (v / 65536 % 256) 65536 256 = v / 65536 * 65536 + x % 65536 := by unfold stw; omega
  have h3 : stw (v / 65536 * 65536 + x % 65536) (v / 256 % 256) 256 256 = v / 256 * 256 + x % 256 := by unfold stw; omega
  have h4 : stw (v / 256 * 256 + x % 256) (v % 256) 1 256 = v := by unfold stw; omega
  rw [h1, h2, h3, h4]
  unfold stw; omega
theorem puts2 (m : Nat → Int) (a v : Int) (a0 : 0 ≤ a) (hm : a % 2 = 0) (mb : ∀ i, 0 ≤ m i ∧ m i < 4294967296) : puts m a 2 v 2 = upd m a 2 v := by
  funext i
  have b0 : bOf v 2 ((0 : Nat) : Int) = v / 256 % 256 := by unfold bOf; rw [show (2 : Int) ^ (8 * (2 - 1 - ((0 : Nat) : Int))).toNat = 256 by decide]
  have b1 : bOf v 2 ((1 : Nat) : Int) = v % 256 := by unfold bOf; rw [show (2 : Int) ^ (8 * (2 - 1 - ((1 : Nat) : Int))).toNat = 1 by decide, Int.ediv_one]
  have f0 : a + ((0 : Nat) : Int) = a := by omega
  have f1 : a + ((1 : Nat) : Int) = a + 1 := by omega
  show upd (upd m (a + ((0 : Nat) : Int)) 1 (bOf v 2 ((0 : Nat) : Int))) (a + ((1 : Nat) : Int)) 1 (bOf v 2 ((1 : Nat) : Int)) i = _
  rw [b0, b1, f0, f1]
  have d1 : ((a + 1) / 4).toNat = (a / 4).toNat := by omega
  obtain ⟨m0, m1⟩ := mb (a / 4).toNat
  by_cases hi : i = (a / 4).toNat
  · subst hi
    have u1 := upd_at (upd m a 1 (v / 256 % 256)) (a + 1) 1 (v % 256)
    rw [d1] at u1
    rw [u1, upd_at, upd_at, e1, e2, bhd1, bhd1]
    have h4 : a % 4 = 0 ∨ a % 4 = 2 := by omega
    rcases h4 with h | h
    · have g1 : (24 - 8 * ((a + 1) % 4)) = 16 := by omega
      have g2 : (24 - 8 * (a % 4)) = 24 := by omega
      have g3 : bhd a 2 = 16 := by unfold bhd; omega
      rw [g1, g2, g3, show (2 : Int) ^ (16 : Int).toNat = 65536 by decide, show (2 : Int) ^ (24 : Int).toNat = 16777216 by decide]
      exact stw2a _ v m0 m1
    · have g1 : (24 - 8 * ((a + 1) % 4)) = 0 := by omega
      have g2 : (24 - 8 * (a % 4)) = 8 := by omega
      have g3 : bhd a 2 = 0 := by unfold bhd; omega
      rw [g1, g2, g3, show (2 : Int) ^ (0 : Int).toNat = 1 by decide, show (2 : Int) ^ (8 : Int).toNat = 256 by decide]
      exact stw2b _ v m0 m1
  · rw [upd_ne _ _ _ _ _ (by omega), upd_ne _ _ _ _ _ hi, upd_ne _ _ _ _ _ hi]
theorem puts4 (m : Nat → Int) (a v : Int) (a0 : 0 ≤ a) (hm : a % 4 = 0) (v0 : 0 ≤ v) (v1 : v < 4294967296) (mb : ∀ i, 0 ≤ m i ∧ m i < 4294967296) : puts m a 4 v 4 = upd m a 4 v := by
  funext i
  have b0 : bOf v 4 ((0 : Nat) : Int) = v / 16777216 % 256 := by unfold bOf; rw [show (2 : Int) ^ (8 * (4 - 1 - ((0 : Nat) : Int))).toNat = 16777216 by decide]
  have b1 : bOf v 4 ((1 : Nat) : Int) = v / 65536 % 256 := by unfold bOf; rw [show (2 : Int) ^ (8 * (4 - 1 - ((1 : Nat) : Int))).toNat = 65536 by decide]
  have b2 : bOf v 4 ((2 : Nat) : Int) = v / 256 % 256 := by unfold bOf; rw [show (2 : Int) ^ (8 * (4 - 1 - ((2 : Nat) : Int))).toNat = 256 by decide]
  have b3 : bOf v 4 ((3 : Nat) : Int) = v % 256 := by unfold bOf; rw [show (2 : Int) ^ (8 * (4 - 1 - ((3 : Nat) : Int))).toNat = 1 by decide, Int.ediv_one]
  have f0 : a + ((0 : Nat) : Int) = a := by omega
  have f1 : a + ((1 : Nat) : Int) = a + 1 := by omega
  have f2 : a + ((2 : Nat) : Int) = a + 2 := by omega
  have f3 : a + ((3 : Nat) : Int) = a + 3 := by omega
  show upd (upd (upd (upd m (a + ((0 : Nat) : Int)) 1 (bOf v 4 ((0 : Nat) : Int))) (a + ((1 : Nat) : Int)) 1 (bOf v 4 ((1 : Nat) : Int))) (a + ((2 : Nat) : Int)) 1 (bOf v 4 ((2 : Nat) : Int))) (a + ((3 : Nat) : Int)) 1 (bOf v 4 ((3 : Nat) : Int)) i = _
  rw [b0, b1, b2, b3, f0, f1, f2, f3]
  have d1 : ((a + 1) / 4).toNat = (a / 4).toNat := by omega
  have d2 : ((a + 2) / 4).toNat = (a / 4).toNat := by omega
  have d3 : ((a + 3) / 4).toNat = (a / 4).toNat := by omega
  obtain ⟨m0, m1⟩ := mb (a / 4).toNat
  by_cases hi : i = (a / 4).toNat
  · subst hi
    have u0 := upd_at m a 1 (v / 16777216 % 256)
    have u1 := upd_at (upd m a 1 (v / 16777216 % 256)) (a + 1) 1 (v / 65536 % 256)
    rw [d1] at u1
    have u2 := upd_at (upd (upd m a 1 (v / 16777216 % 256)) (a + 1) 1 (v / 65536 % 256)) (a + 2) 1 (v / 256 % 256)
    rw [d2] at u2
    have u3 := upd_at (upd (upd (upd m a 1 (v / 16777216 % 256)) (a + 1) 1 (v / 65536 % 256)) (a + 2) 1 (v / 256 % 256)) (a + 3) 1 (v % 256)
    rw [d3] at u3
    rw [u3, u2, u1, u0, upd_at, e1, e4, bhd1, bhd1, bhd1, bhd1]
    have g0 : (24 - 8 * (a % 4)) = 24 := by omega
    have g1 : (24 - 8 * ((a + 1) % 4)) = 16 := by omega
    have g2 : (24 - 8 * ((a + 2) % 4)) = 8 := by omega
    have g3 : (24 - 8 * ((a + 3) % 4)) = 0 := by omega
    have g4 : bhd a 4 = 0 := by unfold bhd; omega
    rw [g0, g1, g2, g3, g4, show (2 : Int) ^ (0 : Int).toNat = 1 by decide, show (2 : Int) ^ (8 : Int).toNat = 256 by decide, show (2 : Int) ^ (16 : Int).toNat = 65536 by decide, show (2 : Int) ^ (24 : Int).toNat = 16777216 by decide]
    exact stw4 _ v m0 m1 v0 v1
  · rw [upd_ne _ _ _ _ _ (by omega), upd_ne _ _ _ _ _ (by omega), upd_ne _ _ _ _ _ (by omega), upd_ne _ _ _ _ _ hi, upd_ne _ _ _ _ _ hi]
/-- what is stored byte by byte is stored -/
theorem puts_all (m : Nat → Int) (a s v : Int) (a0 : 0 ≤ a) (hs : s = 1 ∨ s = 2 ∨ s = 4) (hm : a % s = 0) (v0 : 0 ≤ v) (v1 : v < 4294967296) (mb : ∀ i, 0 ≤ m i ∧ m i < 4294967296) : puts m a s v s.toNat = upd m a s v := by
  rcases hs with rfl | rfl | rfl
  · exact puts1 m a v
  · exact puts2 m a v a0 hm mb
  · exact puts4 m a v a0 hm v0 v1 mb
theorem puts_bd (m : Nat → Int) (a s v : Int) (mb : ∀ i, 0 ≤ m i ∧ m i < 4294967296) (n : Nat) : ∀ i, 0 ≤ puts m a s v n i ∧ puts m a s v n i < 4294967296 := by
  induction n with
  | zero => exact mb
  | succ n ih => exact upd_bd _ _ 1 _ (Or.inl rfl) (by omega) ih
/-- the first i bytes, read -/
def gets (m : Nat → Int) (a : Int) : Nat → Int
  | 0 => 0
  | i + 1 => 256 * gets m a i + byt m (a + i)
theorem byt_bd (m : Nat → Int) (a : Int) : 0 ≤ byt m a ∧ byt m a < 256 := by unfold byt; omega
theorem gets_bd (m : Nat → Int) (a : Int) : 0 ≤ gets m a 0 ∧ gets m a 0 < 1 ∧ 0 ≤ gets m a 1 ∧ gets m a 1 < 256 ∧ 0 ≤ gets m a 2 ∧ gets m a 2 < 65536 ∧ 0 ≤ gets m a 3 ∧ gets m a 3 < 16777216 ∧ 0 ≤ gets m a 4 ∧ gets m a 4 < 4294967296 := by
  have h0 := byt_bd m (a + (0 : Nat))
  have h1 := byt_bd m (a + (1 : Nat))
  have h2 := byt_bd m (a + (2 : Nat))
  have h3 := byt_bd m (a + (3 : Nat))
  simp only [gets]
  omega
theorem gets_all (m : Nat → Int) (a s : Int) (a0 : 0 ≤ a) (hs : s = 1 ∨ s = 2 ∨ s = 4) (hm : a % s = 0) (mb : ∀ i, 0 ≤ m i ∧ m i < 4294967296) : gets m a s.toNat = m (a / 4).toNat / 2 ^ (bhd a s).toNat % 2 ^ (8 * s).toNat := by
  obtain ⟨m0, m1⟩ := mb (a / 4).toNat
  have f0 : a + ((0 : Nat) : Int) = a := by omega
  have f1 : a + ((1 : Nat) : Int) = a + 1 := by omega
  have f2 : a + ((2 : Nat) : Int) = a + 2 := by omega
  have f3 : a + ((3 : Nat) : Int) = a + 3 := by omega
  rcases hs with rfl | rfl | rfl
  · show 256 * 0 + byt m (a + ((0 : Nat) : Int)) = _
    rw [f0, e1]; unfold byt; omega
  · have d1 : ((a + 1) / 4).toNat = (a / 4).toNat := by omega
    show 256 * (256 * 0 + byt m (a + ((0 : Nat) : Int))) + byt m (a + ((1 : Nat) : Int)) = _
    rw [f0, f1, e2]; unfold byt
    rw [d1, bhd1, bhd1]
    have h4 : a % 4 = 0 ∨ a % 4 = 2 := by omega
    rcases h4 with h | h
    · have g1 : (24 - 8 * ((a + 1) % 4)) = 16 := by omega
      have g2 : (24 - 8 * (a % 4)) = 24 := by omega
      have g3 : bhd a 2 = 16 := by unfold bhd; omega
      rw [g1, g2, g3, show (2 : Int) ^ (16 : Int).toNat = 65536 by decide, show (2 : Int) ^ (24 : Int).toNat = 16777216 by decide]
      omega
    · have g1 : (24 - 8 * ((a + 1) % 4)) = 0 := by omega
      have g2 : (24 - 8 * (a % 4)) = 8 := by omega
      have g3 : bhd a 2 = 0 := by unfold bhd; omega
      rw [g1, g2, g3, show (2 : Int) ^ (0 : Int).toNat = 1 by decide, show (2 : Int) ^ (8 : Int).toNat = 256 by decide]
      omega
  · have d1 : ((a + 1) / 4).toNat = (a / 4).toNat := by omega
    have d2 : ((a + 2) / 4).toNat = (a / 4).toNat := by omega
    have d3 : ((a + 3) / 4).toNat = (a / 4).toNat := by omega
    show 256 * (256 * (256 * (256 * 0 + byt m (a + ((0 : Nat) : Int))) + byt m (a + ((1 : Nat) : Int))) + byt m (a + ((2 : Nat) : Int))) + byt m (a + ((3 : Nat) : Int)) = _
    rw [f0, f1, f2, f3, e4]; unfold byt
    rw [d1, d2, d3, bhd1, bhd1, bhd1, bhd1]
    have g0 : (24 - 8 * (a % 4)) = 24 := by omega
    have g1 : (24 - 8 * ((a + 1) % 4)) = 16 := by omega
    have g2 : (24 - 8 * ((a + 2) % 4)) = 8 := by omega
    have g3 : (24 - 8 * ((a + 3) % 4)) = 0 := by omega
    have g4 : bhd a 4 = 0 := by unfold bhd; omega
    rw [g0, g1, g2, g3, g4, show (2 : Int) ^ (0 : Int).toNat = 1 by decide, show (2 : Int) ^ (8 : Int).toNat = 256 by decide, show (2 : Int) ^ (16 : Int).toNat = 65536 by decide, show (2 : Int) ^ (24 : Int).toNat = 16777216 by decide]
    omega
theorem wd_mod (x s : Int) (sgn : Bool) (hs : s = 1 ∨ s = 2 ∨ s = 4) : wd (x % 2 ^ (8 * s).toNat) (8 * s) sgn = wd x (8 * s) sgn := by
  have h1 : ¬ ((8 : Int) * 1 < 1 ∨ 32 < (8 : Int) * 1) := by omega
  have h2 : ¬ ((8 : Int) * 2 < 1 ∨ 32 < (8 : Int) * 2) := by omega
  have h4 : ¬ ((8 : Int) * 4 < 1 ∨ 32 < (8 : Int) * 4) := by omega
  unfold wd
  rcases hs with rfl | rfl | rfl
  · rw [e1, if_neg h1, if_neg h1, Int.emod_emod_of_dvd _ (Int.dvd_refl _)]
  · rw [e2, if_neg h2, if_neg h2, Int.emod_emod_of_dvd _ (Int.dvd_refl _)]
  · rw [e4, if_neg h4, if_neg h4, Int.emod_emod_of_dvd _ (Int.dvd_refl _)]
end Go.Proofs.YtmfhimphlackiaaDoor
