/-
  Memory by bytes and by words: a byte that is put is a store of one byte; bytes make a word. No Go in sight.
-/
import Derived.BigQuiet
import Derived.Test.YtflagpkmebdckaaGreatDoorKNum
namespace Go.Proofs.YtflagpkmebdckaaGreatDoor
open Num
set_option linter.unusedVariables false
/-- the byte at an address -/
def byt (m : Nat → Int) (a : Int) : Int := m (a / 4).toNat / 2 ^ (bhd a 1).toNat % 256
theorem bhd1 (a : Int) : bhd a 1 = 24 - 8 * (a % 4) := by unfold bhd; omega
theorem mod4 (a : Int) : a % 4 = 0 ∨ a % 4 = 1 ∨ a % 4 = 2 ∨ a % 4 = 3 := by omega
/-- a byte, put: the word with the old byte taken off and the new one added -/
theorem put_eq (x b : Int) (a : Int) (x0 : 0 ≤ x) (x1 : x < 4294967296) (b0 : 0 ≤ b) (b1 : b < 256) :
    0 ≤ x - x / 2 ^ (bhd a 1).toNat % 256 * 2 ^ (bhd a 1).toNat ∧ x - x / 2 ^ (bhd a 1).toNat % 256 * 2 ^ (bhd a 1).toNat + b * 2 ^ (bhd a 1).toNat < 4294967296 ∧ b * 2 ^ (bhd a 1).toNat < 4294967296 ∧ x / 2 ^ (bhd a 1).toNat % 256 * 2 ^ (bhd a 1).toNat < 4294967296 ∧ 0 ≤ x / 2 ^ (bhd a 1).toNat % 256 * 2 ^ (bhd a 1).toNat ∧ 0 ≤ b * 2 ^ (bhd a 1).toNat ∧
    x - x / 2 ^ (bhd a 1).toNat % 256 * 2 ^ (bhd a 1).toNat + b * 2 ^ (bhd a 1).toNat = stw x b (2 ^ (bhd a 1).toNat) (2 ^ (8 * (1 : Int)).toNat) := by
  rw [bhd1]
  have e8 : (2 : Int) ^ (8 * (1 : Int)).toNat = 256 := by decide
  rw [e8]
  unfold stw
  rcases mod4 a with h | h | h | h
  · have : (2 : Int) ^ (24 - 8 * (a % 4)).toNat = 16777216 := by rw [h]; decide
    rw [this]; omega
  · have : (2 : Int) ^ (24 - 8 * (a % 4)).toNat = 65536 := by rw [h]; decide
    rw [this]; omega
  · have : (2 : Int) ^ (24 - 8 * (a % 4)).toNat = 256 := by rw [h]; decide
    rw [this]; omega
  · have : (2 : Int) ^ (24 - 8 * (a % 4)).toNat = 1 := by rw [h]; decide
    rw [this]; omega
theorem upd_at (m : Nat → Int) (a s v : Int) : upd m a s v (a / 4).toNat = stw (m (a / 4).toNat) v (2 ^ (bhd a s).toNat) (2 ^ (8 * s).toNat) := by unfold upd; rw [if_pos rfl]
theorem upd_ne (m : Nat → Int) (a s v : Int) (i : Nat) (h : i ≠ (a / 4).toNat) : upd m a s v i = m i := by unfold upd; rw [if_neg h]
/-- which byte of a word is put -/
def bOf (v s i : Int) : Int := v / 2 ^ (8 * (s - 1 - i)).toNat % 256
/-- the first i bytes of a word, put -/
def puts (m : Nat → Int) (a s v : Int) : Nat → Nat → Int
  | 0 => m
  | i + 1 => upd (puts m a s v i) (a + i) 1 (bOf v s i)
theorem p16 : (2 : Int) ^ 16 = 65536 := by decide
theorem p32 : (2 : Int) ^ 32 = 4294967296 := by decide
theorem e1 : (2 : Int) ^ (8 * (1 : Int)).toNat = 256 := by decide
theorem e2 : (2 : Int) ^ (8 * (2 : Int)).toNat = 65536 := by decide
theorem e4 : (2 : Int) ^ (8 * (4 : Int)).toNat = 4294967296 := by decide
theorem puts1 (m : Nat → Int) (a v : Int) : puts m a 1 v 1 = upd m a 1 v := by
  funext i
  have e0 : a + ((0 : Nat) : Int) = a := by omega
  have eb : bOf v 1 ((0 : Nat) : Int) = v % 256 := by unfold bOf; rw [show (2 : Int) ^ (8 * (1 - 1 - ((0 : Nat) : Int))).toNat = 1 by decide, Int.ediv_one]
  show upd m (a + ((0 : Nat) : Int)) 1 (bOf v 1 ((0 : Nat) : Int)) i = _
  rw [e0, eb]
  unfold upd stw
  rw [e1, Int.emod_emod_of_dvd _ (Int.dvd_refl 256)]
theorem stw2a (x v : Int) (x0 : 0 ≤ x) (x1 : x < 4294967296) : stw (stw x (v / 256 % 256) 16777216 256) (v % 256) 65536 256 = stw x v 65536 65536 := by unfold stw; omega
theorem stw2b (x v : Int) (x0 : 0 ≤ x) (x1 : x < 4294967296) : stw (stw x (v / 256 % 256) 256 256) (v % 256) 1 256 = stw x v 1 65536 := by unfold stw; omega
theorem stw4 (x v : Int) (x0 : 0 ≤ x) (x1 : x < 4294967296) (v0 : 0 ≤ v) (v1 : v < 4294967296) : stw (stw (stw (stw x (v / 16777216 % 256) 16777216 256) (v / 65536 % 256) 65536 256) (v / 256 % 256) 256 256) (v % 256) 1 256 = stw x v 1 4294967296 := by
  have h1 : stw x (v / 16777216 % 256) 16777216 256 = v / 16777216 % 256 * 16777216 + x % 16777216 := by unfold stw; omega
  have h2 : stw (v / 16777216 % 256 * 16777216 + x % 16777216) (v / 65536 % 256) 65536 256 = v / 65536 * 65536 + x % 65536 := by unfold stw; omega
  have h3 : stw (v / 65536 * 65536 + x % 65536) (v / 256 % 256) 256 256 = v / 256 * 256 + x % 256 := by unfold stw; omega
  have h4 : stw (v / 256 * 256 + x % 256) (v % 256) 1 256 = v := by unfold stw; omega
  rw [h1, h2, h3, h4]
  unfold stw; omega
theorem puts2 (m : Nat → Int) (a v : Int) (a0 : 0 ≤ a) (hm : a % 2 = 0) (mb : ∀ i, 0 ≤ m i ∧ m i < 4294967296) : puts m a 2 v 2 = upd m a 2 v := by
  funext i
  have b0 : bOf v 2 ((0 : Nat) : Int) = v / 256 % 256 := by unfold bOf; rw [show (2 : Int) ^ (8 * (2 - 1 - ((0 : Nat) : Int))).toNat = 256 by decide]
  have b1 : bOf v 2 ((1 : Nat) : Int) = v % 256 := by unfold bOf; rw [show (2 : Int) ^ (8 * (2 - 1 - ((1 : Nat) : Int))).toNat = 1 by decide, Int.ediv_one]
  have f0 : a + ((0 : Nat) : Int) = a := by omega
  have f1 : a + ((1 : Nat) : Int) = a + 1 := by omega
  show upd (upd m (a + ((0 : Nat) : Int)) 1 (bOf v 2 ((0 : Nat) : Int))) (a + ((1 : Nat) : Int)) 1 (bOf v 2 ((1 : Nat) : Int)) i = _
  rw [b0, b1, f0, f1]
  have d1 : ((a + 1) / 4).toNat = (a / 4).toNat := by omega
  obtain ⟨m0, m1⟩ := mb (a / 4).toNat
  by_cases hi : i = (a / 4).toNat
  · subst hi
    have u1 := upd_at (upd m a 1 (v / 256 % 256)) (a + 1) 1 (v % 256)
    rw [d1] at u1
    rw [u1, upd_at, upd_at, e1, e2, bhd1, bhd1]
    have h4 : a % 4 = 0 ∨ a % 4 = 2 := by omega
    rcases h4 with h | h
    · have g1 : (24 - 8 * ((a + 1) % 4)) = 16 := by omega
      have g2 : (24 - 8 * (a % 4)) = 24 := by omega
      have g3 : bhd a 2 = 16 := by unfold bhd; omega
      rw [g1, g2, g3, show (2 : Int) ^ (16 : Int).toNat = 65536 by decide, show (2 : Int) ^ (24 : Int).toNat = 16777216 by decide]
      exact stw2a _ v m0 m1
    · have g1 : (24 - 8 * ((a + 1) % 4)) = 0 := by omega
      have g2 : (24 - 8 * (a % 4)) = 8 := by omega
      have g3 : bhd a 2 = 0 := by unfold bhd; omega
      rw [g1, g2, g3, show (2 : Int) ^ (0 : Int).toNat = 1 by decide, show (2 : Int) ^ (8 : Int).toNat = 256 by decide]
      exact stw2b _ v m0 m1
  · rw [upd_ne _ _ _ _ _ (by omega), upd_ne _ _ _ _ _ hi, upd_ne _ _ _ _ _ hi]
theorem puts4 (m : Nat → Int) (a v : Int) (a0 : 0 ≤ a) (hm : a % 4 = 0) (v0 : 0 ≤ v) (v1 : v < 4294967296) (mb : ∀ i, 0 ≤ m i ∧ m i < 4294967296) : puts m a 4 v 4 = upd m a 4 v := by
  funext i
  have b0 : bOf v 4 ((0 : Nat) : Int) = v / 16777216 % 256 := by unfold bOf; rw [show (2 : Int) ^ (8 * (4 - 1 - ((0 : Nat) : Int))).toNat = 16777216 by decide]
  have b1 : bOf v 4 ((1 : Nat) : Int) = v / 65536 % 256 := by unfold bOf; rw [show (2 : Int) ^ (8 * (4 - 1 - ((1 : Nat) : Int))).toNat = 65536 by decide]
  have b2 : bOf v 4 ((2 : Nat) : Int) = v / 256 % 256 := by unfold bOf; rw [show (2 : Int) ^ (8 * (4 - 1 - ((2 : Nat) : Int))).toNat = 256 by decide]
  have b3 : bOf v 4 ((3 : Nat) : Int) = v % 256 := by unfold bOf; rw [show (2 : Int) ^ (8 * (4 - 1 - ((3 : Nat) : Int))).toNat = 1 by decide, Int.ediv_one]
  have f0 : a + ((0 : Nat) : Int) = a := by omega
  have f1 : a + ((1 : Nat) : Int) = a + 1 := by omega
  have f2 : a + ((2 : Nat) : Int) = a + 2 := by omega
  have f3 : a + ((3 : Nat) : Int) = a + 3 := by omega
  show upd (upd (upd (upd m (a + ((0 : Nat) : Int)) 1 (bOf v 4 ((0 : Nat) : Int))) (a + ((1 : Nat) : Int)) 1 (bOf v 4 ((1 : Nat) : Int))) (a + ((2 : Nat) : Int)) 1 (bOf v 4 ((2 : Nat) : Int))) (a + ((3 : Nat) : Int)) 1 (bOf v 4 ((3 : Nat) : Int)) i = _
  rw [b0, b1, b2, b3, f0, f1, f2, f3]
  have d1 : ((a + 1) / 4).toNat = (a / 4).toNat := by omega
  have d2 : ((a + 2) / 4).toNat = (a / 4).toNat := by omega
  have d3 : ((a + 3) / 4).toNat = (a / 4).toNat := by omega
  obtain ⟨m0, m1⟩ := mb (a / 4).toNat
  by_cases hi : i = (a / 4).toNat
  · subst hi
    have u0 := upd_at m a 1 (v / 16777216 % 256)
    have u1 := upd_at (upd m a 1 (v / 16777216 % 256)) (a + 1) 1 (v / 65536 % 256)
    rw [d1] at u1
    have u2 := upd_at (upd (upd m a 1 (v / 16777216 % 256)) (a + 1) 1 (v / 65536 % 256)) (a + 2) 1 (v / 256 % 256)
    rw [d2] at u2
    have u3 := upd_at (upd (upd (upd m a 1 (v / 16777216 % 256)) (a + 1) 1 (v / 65536 % 256)) (a + 2) 1 (v / 256 % 256)) (a + 3) 1 (v % 256)
    rw [d3] at u3
    rw [u3, u2, u1, u0, upd_at, e1, e4, bhd1, bhd1, bhd1, bhd1]
    have g0 : (24 - 8 * (a % 4)) = 24 := by omega
    have g1 : (24 - 8 * ((a + 1) % 4)) = 16 := by omega
    have g2 : (24 - 8 * ((a + 2) % 4)) = 8 := by omega
    have g3 : (24 - 8 * ((a + 3) % 4)) = 0 := by omega
    have g4 : bhd a 4 = 0 := by unfold bhd; omega
    rw [g0, g1, g2, g3, g4, show (2 : Int) ^ (0 : Int).toNat = 1 by decide, show (2 : Int) ^ (8 : Int).toNat = 256 by decide, show (2 : Int) ^ (16 : Int).toNat = 65536 by decide, show (2 : Int) ^ (24 : Int).toNat = 16777216 by decide]
    exact stw4 _ v m0 m1 v0 v1
  · rw [upd_ne _ _ _ _ _ (by omega), upd_ne _ _ _ _ _ (by omega), upd_ne _ _ _ _ _ (by omega), upd_ne _ _ _ _ _ hi, upd_ne _ _ _ _ _ hi]
/-- what is stored byte by byte is stored -/
theorem puts_all (m : Nat → Int) (a s v : Int) (a0 : 0 ≤ a) (hs : s = 1 ∨ s = 2 ∨ s = 4) (hm : a % s = 0) (v0 : 0 ≤ v) (v1 : v < 4294967296) (mb : ∀ i, 0 ≤ m i ∧ m i < 4294967296) : puts m a s v s.toNat = upd m a s v := by
  rcases hs with rfl | rfl | rfl
  · exact puts1 m a v
  · exact puts2 m a v a0 hm mb
  · exact puts4 m a v a0 hm v0 v1 mb
/-- the first i bytes, read -/
def gets (m : Nat → Int) (a : Int) : Nat → Int
  | 0 => 0
  | i + 1 => 256 * gets m a i + byt m (a + i)
theorem byt_bd (m : Nat → Int) (a : Int) : 0 ≤ byt m a ∧ byt m a < 256 := by unfold byt; omega
theorem gets_bd (m : Nat → Int) (a : Int) : 0 ≤ gets m a 0 ∧ gets m a 0 < 1 ∧ 0 ≤ gets m a 1 ∧ gets m a 1 < 256 ∧ 0 ≤ gets m a 2 ∧ gets m a 2 < 65536 ∧ 0 ≤ gets m a 3 ∧ gets m a 3 < 16777216 ∧ 0 ≤ gets m a 4 ∧ gets m a 4 < 4294967296 := by
  have h0 := byt_bd m (a + (0 : Nat))
  have h1 := byt_bd m (a + (1 : Nat))
  have h2 := byt_bd m (a + (2 : Nat))
  have h3 := byt_bd m (a + (3 : Nat))
  simp only [gets]
  omega
theorem gets_all (m : Nat → Int) (a s : Int) (a0 : 0 ≤ a) (hs : s = 1 ∨ s = 2 ∨ s = 4) (hm : a % s = 0) (mb : ∀ i, 0 ≤ m i ∧ m i < 4294967296) : gets m a s.toNat = m (a / 4).toNat / 2 ^ (bhd a s).toNat % 2 ^ (8 * s).toNat := by
  obtain ⟨m0, m1⟩ := mb (a / 4).toNat
  have f0 : a + ((0 : Nat) : Int) = a := by omega
  have f1 : a + ((1 : Nat) : Int) = a + 1 := by omega
  have f2 : a + ((2 : Nat) : Int) = a + 2 := by omega
  have f3 : a + ((3 : Nat) : Int) = a + 3 := by omega
  rcases hs with rfl | rfl | rfl
  · show 256 * 0 + byt m (a + ((0 : Nat) : Int)) = _
    rw [f0, e1]; unfold byt; omega
  · have d1 : ((a + 1) / 4).toNat = (a / 4).toNat := by omega
    show 256 * (256 * 0 + byt m (a + ((0 : Nat) : Int))) + byt m (a + ((1 : Nat) : Int)) = _
    rw [f0, f1, e2]; unfold byt
    rw [d1, bhd1, bhd1]
    have h4 : a % 4 = 0 ∨ a % 4 = 2 := by omega
    rcases h4 with h | h
    · have g1 : (24 - 8 * ((a + 1) % 4)) = 16 := by omega
      have g2 : (24 - 8 * (a % 4)) = 24 := by omega
      have g3 : bhd a 2 = 16 := by unfold bhd; omega
      rw [g1, g2, g3, show (2 : Int) ^ (16 : Int).toNat = 65536 by decide, show (2 : Int) ^ (24 : Int).toNat = 16777216 by decide]
      omega
    · have g1 : (24 - 8 * ((a + 1) % 4)) = 0 := by omega
      have g2 : (24 - 8 * (a % 4)) = 8 := by omega
      have g3 : bhd a 2 = 0 := by unfold bhd; omega
      rw [g1, g2, g3, show (2 : Int) ^ (0 : Int).toNat = 1 by decide, show (2 : Int) ^ (8 : Int).toNat = 256 by decide]
      omega
  · have d1 : ((a + 1) / 4).toNat = (a / 4).toNat := by omega
    have d2 : ((a + 2) / 4).toNat = (a / 4).toNat := by omega
    have d3 : ((a + 3) / 4).toNat = (a / 4).toNat := by omega
    show 256 * (256 * (256 * (256 * 0 + byt m (a + ((0 : Nat) : Int))) + byt m (a + ((1 : Nat) : Int))) + byt m (a + ((2 : Nat) : Int))) + byt m (a + ((3 : Nat) : Int)) = _
    rw [f0, f1, f2, f3, e4]; unfold byt
    rw [d1, d2, d3, bhd1, bhd1, bhd1, bhd1]
    have g0 : (24 - 8 * (a % 4)) = 24 := by omega
    have g1 : (24 - 8 * ((a + 1) % 4)) = 16 := by omega
    have g2 : (24 - 8 * ((a + 2) % 4)) = 8 := by omega
    have g3 : (24 - 8 * ((a + 3) % 4)) = 0 := by omega
    have g4 : bhd a 4 = 0 := by unfold bhd; omega
    rw [g0, g1, g2, g3, g4, show (2 : Int) ^ (0 : Int).toNat = 1 by decide, show (2 : Int) ^ (8 : Int).toNat = 256 by decide, show (2 : Int) ^ (16 : Int).toNat = 65536 by decide, show (2 : Int) ^ (24 : Int).toNat = 16777216 by decide]
    omega
theorem wd_mod (x s : Int) (sgn : Bool) (hs : s = 1 ∨ s = 2 ∨ s = 4) : wd (x % 2 ^ (8 * s).toNat) (8 * s) sgn = wd x (8 * s) sgn := by
  have h1 : ¬ ((8 : Int) * 1 < 1 ∨ 32 < (8 : Int) * 1) := by omega
  have h2 : ¬ ((8 : Int) * 2 < 1 ∨ 32 < (8 : Int) * 2) := by omega
  have h4 : ¬ ((8 : Int) * 4 < 1 ∨ 32 < (8 : Int) * 4) := by omega
  unfold wd
  rcases hs with rfl | rfl | rfl
  · rw [e1, if_neg h1, if_neg h1, Int.emod_emod_of_dvd _ (Int.dvd_refl _)]
  · rw [e2, if_neg h2, if_neg h2, Int.emod_emod_of_dvd _ (Int.dvd_refl _)]
  · rw [e4, if_neg h4, if_neg h4, Int.emod_emod_of_dvd _ (Int.dvd_refl _)]
end Go.Proofs.YtflagpkmebdckaaGreatDoor
/-
  Sums, products and quotients of words.
-/
namespace Go.Proofs.YtflagpkmebdckaaGreatDoor
open Go.RowKit
open Num
set_option linter.unusedVariables false
theorem ret_three {k l : IntKind} {a b c d : Int} {x y : Bool} (h : a = b) (g : c = d) (f : x = y) : Ending.returned (.tuple #[.int k a, .int l c, .bool x]) = .returned (.tuple #[.int k b, .int l d, .bool y]) := by rw [h, g, f]
theorem ret_ib {k : IntKind} {a b : Int} {c d : Bool} (h : a = b) (g : c = d) : Ending.returned (.tuple #[.int k a, .bool c]) = .returned (.tuple #[.int k b, .bool d]) := by rw [h, g]
set_option maxHeartbeats 400000 in
theorem signedOf_any (a : Int) (h0 : 0 ≤ a) (h1 : a < 4294967296) (w : World) :
    Calls Tryz.prog 209 #[.int .u32 a] w fun e w' => e = .returned (.int .i64 (sg a)) ∧ w' = w := by
  go_enter Tryz.func209, Tryz.ntmps209
  go_wp2
  go_ret
  exact ⟨ret_int (sg_wrap64 h0 h1), rfl⟩
set_option maxHeartbeats 400000 in
theorem less_any (a b : Int) (s : Bool) (h0 : 0 ≤ a) (h1 : a < 4294967296) (g0 : 0 ≤ b) (g1 : b < 4294967296) (w : World) :
    Calls Tryz.prog 217 #[.int .u32 a, .int .u32 b, .bool s] w fun e w' => e = .returned (.bool (lessB a b s)) ∧ w' = w := by
  cases s
  · go_enter Tryz.func217, Tryz.ntmps217
    go_wp2
    go_ret
    exact ⟨ret_bool (by simp [lessB, nm]), rfl⟩
  · go_enter Tryz.func217, Tryz.ntmps217
    go_wp2
    go_ret
    exact ⟨ret_bool (by simp [lessB, nm, sg_of_wrap, *]), rfl⟩
set_option maxHeartbeats 400000 in
theorem cut_any (n : Int) (h0 : -9223372036854775808 ≤ n) (h1 : n ≤ 9223372036854775807) (w : World) :
    Calls Tryz.prog 208 #[.int .i64 n] w fun e w' => e = .returned (.tuple #[.int .u32 (lo n), .bool (ov n)]) ∧ w' = w := by
  go_enter Tryz.func208, Tryz.ntmps208
  go_wp2_with (go_at_call 209; refine (signedOf_any _ (by omega) (by omega) _).mono ?_; rintro e w' ⟨rfl, rfl⟩)
  go_ret2
  exact ⟨by rw [← ov_eq n]; rfl, rfl⟩
set_option maxHeartbeats 400000 in
theorem add_any (a b : Int) (h0 : 0 ≤ a) (h1 : a < 4294967296) (g0 : 0 ≤ b) (g1 : b < 4294967296) (w : World) :
    Calls Tryz.prog 144 #[.int .u32 a, .int .u32 b] w fun e w' => e = .returned (.tuple #[.int .u32 (lo (a + b)), .bool (ov (sg a + sg b))]) ∧ w' = w := by
  have ha := sg_bd h0 h1
  have hb := sg_bd g0 g1
  go_enter Tryz.func144, Tryz.ntmps144
  go_wp2_with (first | (go_at_call 209; refine (signedOf_any _ (by omega) (by omega) _).mono ?_; rintro e w' ⟨rfl, rfl⟩) | (go_at_call 208; refine (cut_any _ (by omega) (by omega) _).mono ?_; rintro e w' ⟨rfl, rfl⟩))
  go_ret2
  exact ⟨ret_ib (lo_add a b) rfl, rfl⟩
set_option maxHeartbeats 400000 in
theorem sub_any (a b : Int) (h0 : 0 ≤ a) (h1 : a < 4294967296) (g0 : 0 ≤ b) (g1 : b < 4294967296) (w : World) :
    Calls Tryz.prog 145 #[.int .u32 a, .int .u32 b] w fun e w' => e = .returned (.tuple #[.int .u32 (lo (a - b)), .bool (ov (sg a - sg b))]) ∧ w' = w := by
  have ha := sg_bd h0 h1
  have hb := sg_bd g0 g1
  go_enter Tryz.func145, Tryz.ntmps145
  go_wp2_with (first | (go_at_call 209; refine (signedOf_any _ (by omega) (by omega) _).mono ?_; rintro e w' ⟨rfl, rfl⟩) | (go_at_call 208; refine (cut_any _ (by omega) (by omega) _).mono ?_; rintro e w' ⟨rfl, rfl⟩))
  go_ret2
  exact ⟨ret_ib (lo_sub a b) rfl, rfl⟩
set_option maxHeartbeats 400000 in
theorem mul_any (a b : Int) (s : Bool) (h0 : 0 ≤ a) (h1 : a < 4294967296) (g0 : 0 ≤ b) (g1 : b < 4294967296) (w : World) :
    Calls Tryz.prog 170 #[.int .u32 a, .int .u32 b, .bool s] w fun e w' => e = .returned (.tuple #[.int .u32 (hi (nm a s * nm b s)), .int .u32 (lo (nm a s * nm b s))]) ∧ w' = w := by
  cases s
  · go_enter Tryz.func170, Tryz.ntmps170
    go_wp2
    go_ret2
    exact ⟨ret_two (hi_wrap (a * b)) (lo_wrap (a * b)), rfl⟩
  · have ha := sg_bd h0 h1
    have hb := sg_bd g0 g1
    go_enter Tryz.func170, Tryz.ntmps170
    go_wp2_with (first | (go_at_call 209; refine (signedOf_any _ (by omega) (by omega) _).mono ?_; rintro e w' ⟨rfl, rfl⟩) | (go_at_call 208; refine (cut_any _ (by omega) (by omega) _).mono ?_; rintro e w' ⟨rfl, rfl⟩))
    go_ret2
    exact ⟨ret_two (hi_wrap' (sg a * sg b)) (lo_wrap' (sg a * sg b)), rfl⟩
set_option maxHeartbeats 400000 in
theorem div_0 (a : Int) (s : Bool) (w : World) :
    Calls Tryz.prog 171 #[.int .u32 a, .int .u32 0, .bool s] w fun e w' => e = .returned (.tuple #[.int .u32 0, .int .u32 0, .bool false]) ∧ w' = w := by
  go_enter Tryz.func171, Tryz.ntmps171
  go_wp2
  go_ret3
  exact ⟨rfl, rfl⟩
set_option maxHeartbeats 400000 in
theorem div_u (a b : Int) (h0 : 0 ≤ a) (h1 : a < 4294967296) (g0 : 0 < b) (g1 : b < 4294967296) (w : World) :
    Calls Tryz.prog 171 #[.int .u32 a, .int .u32 b, .bool false] w fun e w' => e = .returned (.tuple #[.int .u32 (quo a b false), .int .u32 (rst a b false), .bool true]) ∧ w' = w.drew := by
  have hb : (b == 0) = false := by simp; omega
  go_enter Tryz.func171, Tryz.ntmps171
  go_wp2
  go_region
  go_wp2
  go_ret3
  exact ⟨ret_three (quo_u h0 h1 g0) (rst_u h0 g0 g1) rfl, rfl⟩
set_option maxHeartbeats 400000 in
theorem div_s (a b : Int) (h0 : 0 ≤ a) (h1 : a < 4294967296) (g0 : 0 < b) (g1 : b < 4294967296) (w : World) :
    Calls Tryz.prog 171 #[.int .u32 a, .int .u32 b, .bool true] w fun e w' => e = .returned (.tuple #[.int .u32 (quo a b true), .int .u32 (rst a b true), .bool true]) ∧ w' = w.drew := by
  have hb : (b == 0) = false := by simp; omega
  have ha := sg_bd h0 h1
  have hb := sg_bd (Int.le_of_lt g0) g1
  have hz : ¬ sg b = 0 := nm_ne g0 g1 true
  go_enter Tryz.func171, Tryz.ntmps171
  go_wp2_with (go_at_call 209; refine (signedOf_any _ (by omega) (by omega) _).mono ?_; rintro e w' ⟨rfl, rfl⟩)
  go_region
  go_wp2
  go_ret3
  exact ⟨ret_three (lo_wrap64 _) rfl rfl, rfl⟩
theorem div_any (a b : Int) (s : Bool) (h0 : 0 ≤ a) (h1 : a < 4294967296) (g0 : 0 < b) (g1 : b < 4294967296) (w : World) :
    Calls Tryz.prog 171 #[.int .u32 a, .int .u32 b, .bool s] w fun e w' => e = .returned (.tuple #[.int .u32 (quo a b s), .int .u32 (rst a b s), .bool true]) ∧ w' = w.drew := by
  cases s
  · exact div_u a b h0 h1 g0 g1 w
  · exact div_s a b h0 h1 g0 g1 w
end Go.Proofs.YtflagpkmebdckaaGreatDoor
/-
  The document's word functions: Signed, LessOf, Word, IsSigned, DivOf, ShiftOf, WideOf, MulOf.
-/
namespace Go.Proofs.YtflagpkmebdckaaGreatDoor
open Go.RowKit
open Num
set_option linter.unusedVariables false
set_option maxHeartbeats 400000 in
theorem signed_any (a : Int) (h0 : 0 ≤ a) (h1 : a < 4294967296) (w : World) :
    Calls Tryz.prog 153 #[.int .u32 a] w fun e w' => e = .returned (.int .i64 (sg a)) ∧ w' = w := by
  by_cases h : 2147483648 ≤ a
  · go_enter Tryz.func153, Tryz.ntmps153
    go_wp2
    go_ret
    exact ⟨ret_int (by unfold sg; rw [if_neg (by omega)]), rfl⟩
  · go_enter Tryz.func153, Tryz.ntmps153
    go_wp2
    go_ret
    exact ⟨ret_int (by unfold sg; rw [if_pos (by omega)]), rfl⟩
set_option maxHeartbeats 400000 in
theorem lessOf_any (a b : Int) (s : Bool) (h0 : 0 ≤ a) (h1 : a < 4294967296) (g0 : 0 ≤ b) (g1 : b < 4294967296) (w : World) :
    Calls Tryz.prog 229 #[.int .u32 a, .int .u32 b, .bool s] w fun e w' => e = .returned (.bool (lessB a b s)) ∧ w' = w := by
  cases s
  · go_enter Tryz.func229, Tryz.ntmps229
    go_wp2
    go_ret
    exact ⟨ret_bool (by simp [lessB, nm]), rfl⟩
  · go_enter Tryz.func229, Tryz.ntmps229
    go_wp2_with (go_at_call 153; refine (signed_any _ (by omega) (by omega) _).mono ?_; rintro e w' ⟨rfl, rfl⟩)
    go_ret
    exact ⟨ret_bool (by simp [lessB, nm]), rfl⟩
set_option maxHeartbeats 400000 in
theorem word_any (n : Int) (h0 : -9223372036854775808 ≤ n) (h1 : n ≤ 9223372036854775807) (w : World) :
    Calls Tryz.prog 101 #[.int .i64 n] w fun e w' => e = .returned (.int .u32 (lo n)) ∧ w' = w := by
  have ht := tm n
  have he : Hid (n = 4294967296 * n.tdiv 4294967296 + n.tmod 4294967296) := ht.1
  obtain ⟨hx, ht1, ht2⟩ := ht
  clear hx
  by_cases hn : n.tmod 4294967296 < 0
  · go_enter Tryz.func101, Tryz.ntmps101
    go_wp2
    go_ret
    exact ⟨ret_int (by have := he.out; unfold lo; omega), rfl⟩
  · go_enter Tryz.func101, Tryz.ntmps101
    go_wp2
    go_ret
    exact ⟨ret_int (by have := he.out; unfold lo; omega), rfl⟩
set_option maxHeartbeats 400000 in
theorem isSigned_any (n : Int) (w : World) :
    Calls Tryz.prog 187 #[.int .i64 n] w fun e w' => e = .returned (.bool (!ov n)) ∧ w' = w := by
  go_enter Tryz.func187, Tryz.ntmps187
  go_wp2
  all_goals
    go_ret
    exact ⟨ret_bool (by unfold ov; rw [Bool.eq_iff_iff]; simp; omega), rfl⟩
set_option maxHeartbeats 400000 in
theorem divOf_0 (a : Int) (s : Bool) (w : World) :
    Calls Tryz.prog 189 #[.int .u32 a, .int .u32 0, .bool s] w fun e w' => e = .returned (.tuple #[.int .u32 0, .int .u32 0, .bool false]) ∧ w' = w := by
  go_enter Tryz.func189, Tryz.ntmps189
  go_wp2
  go_ret3
  exact ⟨rfl, rfl⟩
set_option maxHeartbeats 400000 in
theorem divOf_u (a b : Int) (h0 : 0 ≤ a) (h1 : a < 4294967296) (g0 : 0 < b) (g1 : b < 4294967296) (w : World) :
    Calls Tryz.prog 189 #[.int .u32 a, .int .u32 b, .bool false] w fun e w' => e = .returned (.tuple #[.int .u32 (quo a b false), .int .u32 (rst a b false), .bool true]) ∧ ∃ n, w' = w.drewN n := by
  have hb : (b == 0) = false := by simp; omega
  have hz : ¬ b = 0 := by omega
  have d := ediv_bd (d := b) h0 (by omega)
  have r0 := Int.emod_nonneg a hz
  have r1 := Int.emod_lt_of_pos a g0
  go_enter Tryz.func189, Tryz.ntmps189
  go_wp2_with fail
  go_quiet ((go_at_call 101; exact Calls.quiet_of_same (word_any _ (by omega) (by omega) _)))
  go_wp2
  go_ret3
  exact ⟨ret_three (by rw [quo_u h0 h1 g0]; exact lo_of (quo_bd a b false).1 (quo_bd a b false).2) (by rw [rst_u h0 g0 g1]; exact lo_of (rst_bd a b false).1 (rst_bd a b false).2) rfl, _, rfl⟩
theorem wrap64_bd (x : Int) : -9223372036854775808 ≤ wrap64 x ∧ wrap64 x ≤ 9223372036854775807 := by unfold wrap64; omega
theorem tmod_bd {x y : Int} (h0 : -2147483648 ≤ x) (h1 : x ≤ 2147483647) (g0 : -2147483648 ≤ y) (g1 : y ≤ 2147483647) (h : ¬ y = 0) : -2147483648 ≤ x.tmod y ∧ x.tmod y ≤ 2147483648 := by
  have := Int.natAbs_tmod x y
  have := Nat.mod_lt x.natAbs (show 0 < y.natAbs by omega)
  omega
set_option maxHeartbeats 400000 in
theorem divOf_s (a b : Int) (h0 : 0 ≤ a) (h1 : a < 4294967296) (g0 : 0 < b) (g1 : b < 4294967296) (w : World) :
    Calls Tryz.prog 189 #[.int .u32 a, .int .u32 b, .bool true] w fun e w' => e = .returned (.tuple #[.int .u32 (quo a b true), .int .u32 (rst a b true), .bool true]) ∧ ∃ n, w' = w.drewN n := by
  have hb : (b == 0) = false := by simp; omega
  have ha := sg_bd h0 h1
  have hb := sg_bd (Int.le_of_lt g0) g1
  have hz : ¬ sg b = 0 := nm_ne g0 g1 true
  have hq := wrap64_bd ((sg a).tdiv (sg b))
  have hr := tmod_bd ha.1 ha.2 hb.1 hb.2 hz
  go_enter Tryz.func189, Tryz.ntmps189
  go_wp2_with (first | (go_at_call 153; refine (signed_any _ (by omega) (by omega) _).mono ?_; rintro e w' ⟨rfl, rfl⟩) | (go_at_call 101; refine (word_any _ (by omega) (by omega) _).mono ?_; rintro e w' ⟨rfl, rfl⟩))
  go_ret3
  exact ⟨ret_three (lo_wrap64 _) rfl rfl, 0, rfl⟩
set_option maxHeartbeats 1000000 in
theorem shiftOf_any (k a n : Int) (h0 : 0 ≤ a) (h1 : a < 4294967296) (g0 : 0 ≤ n) (w : World) :
    Calls Tryz.prog 85 #[.int .u8 k, .int .u32 a, .int .u32 n] w fun e w' => e = .returned (.int .u32 (shf k a n)) ∧ w' = w := by
  have ha := sg_bd h0 h1
  go_enter Tryz.func85, Tryz.ntmps85
  go_wp2
  go_loop [7, 8] (fun y i => ∃ j : Nat, (j : Int) ≤ n % 32 ∧ i = .int .u32 j ∧ y = .int .i64 (2 ^ j)) (fun _ i => 32 - (intOf i).toNat)
  case atStart => exact ⟨0, by simp; omega, rfl, rfl⟩
  case round =>
    obtain ⟨j, hj, rfl, rfl⟩ := hrel
    have hp := two_le (k := j) (by omega)
    by_cases hlt : (j : Int) < n % 32
    · go_wp2
      go_round
      case rel => exact ⟨j + 1, by omega, by go_num, by rw [Int.pow_succ]; go_num⟩
      case measure => simp [intOf]; omega
    · have hj' : j = (n % 32).toNat := by omega
      have hpw : Hid (pw n = 2 ^ j) := by rw [hj']; exact rfl
      have hd := p_div (k := j) (by omega)
      have hs := shl_of a (2 ^ j) hp.1 hd.1 hd.2
      obtain ⟨s0, s1, s2, s3, s4⟩ := hs
      have hs4 : Hid (a % (4294967296 / 2 ^ j) * 2 ^ j = lo (a * 2 ^ j)) := s4
      obtain ⟨hd1, hd2⟩ := hd
      clear s4 hj' hd1
      have e1 := ediv_bd (d := 2 ^ j) h0 hp.1
      by_cases k1 : k = 60
      · subst k1
        go_wp2_with (go_at_call 101; refine (word_any _ (by omega) (by omega) _).mono ?_; rintro e w' ⟨rfl, rfl⟩)
        go_ret
        exact ⟨ret_int (by rw [hs4.out, ← hpw.out]; unfold shf; rw [if_pos rfl]; exact lo_of (lo_bd _).1 (lo_bd _).2), rfl⟩
      by_cases k2 : k = 62
      · subst k2
        go_wp2_with (go_at_call 101; refine (word_any _ (by omega) (by omega) _).mono ?_; rintro e w' ⟨rfl, rfl⟩)
        go_ret
        exact ⟨ret_int (by rw [lo_of e1.1 (by omega), ← hpw.out]; unfold shf; rw [if_neg (by decide), if_pos rfl]), rfl⟩
      by_cases k3 : k = 126
      · subst k3
        have fin : shf 126 a n = lo (sg a / 2 ^ j) := by unfold shf; rw [if_neg (by decide), if_neg (by decide), if_pos rfl, hpw.out]
        have hfin : Hid (shf 126 a n = lo (sg a / 2 ^ j)) := fin
        clear fin
        by_cases hn : sg a < 0
        · obtain ⟨dn, de⟩ := down (sg a) (2 ^ j) hn ha.1 hp.1
          have hde : Hid (sg a / 2 ^ j = if (sg a).tmod (2 ^ j) = 0 then (sg a).tdiv (2 ^ j) else (sg a).tdiv (2 ^ j) - 1) := de
          clear de
          by_cases hr : (sg a).tmod (2 ^ j) = 0
          · go_wp2_with (first | (go_at_call 153; refine (signed_any _ (by omega) (by omega) _).mono ?_; rintro e w' ⟨rfl, rfl⟩) | (go_at_call 101; refine (word_any _ (by omega) (by omega) _).mono ?_; rintro e w' ⟨rfl, rfl⟩))
            go_ret
            exact ⟨ret_int (by rw [hfin.out, hde.out, if_pos hr]), rfl⟩
          · go_wp2_with (first | (go_at_call 153; refine (signed_any _ (by omega) (by omega) _).mono ?_; rintro e w' ⟨rfl, rfl⟩) | (go_at_call 101; refine (word_any _ (by omega) (by omega) _).mono ?_; rintro e w' ⟨rfl, rfl⟩))
            go_ret
            exact ⟨ret_int (by rw [hfin.out, hde.out, if_neg hr]), rfl⟩
        · have e2 := ediv_bd (d := 2 ^ j) (show 0 ≤ sg a by omega) hp.1
          go_wp2_with (first | (go_at_call 153; refine (signed_any _ (by omega) (by omega) _).mono ?_; rintro e w' ⟨rfl, rfl⟩) | (go_at_call 101; refine (word_any _ (by omega) (by omega) _).mono ?_; rintro e w' ⟨rfl, rfl⟩))
          go_ret
          exact ⟨ret_int (by rw [hfin.out]), rfl⟩
      have f1 : (k == 60) = false := by simpa using k1
      have f2 : (k == 62) = false := by simpa using k2
      have f3 : (k == 126) = false := by simpa using k3
      have e' : shf k a n = a := by unfold shf; rw [if_neg k1, if_neg k2, if_neg k3]
      have e : Hid (shf k a n = a) := e'
      clear e' k1 k2 k3
      go_wp2
      go_ret
      exact ⟨ret_int e.out.symm, rfl⟩
set_option maxHeartbeats 400000 in
theorem wideOf_out (v bits : Int) (s : Bool) (h : bits < 1 ∨ 32 < bits) (w : World) :
    Calls Tryz.prog 173 #[.int .u32 v, .int .i64 bits, .bool s] w fun e w' => e = .returned (.int .u32 (wd v bits s)) ∧ w' = w := by
  have e' : wd v bits s = v := by unfold wd; rw [if_pos h]
  have e : Hid (wd v bits s = v) := e'
  clear e'
  rcases h with h | h
  · go_enter Tryz.func173, Tryz.ntmps173
    go_wp2
    go_ret
    exact ⟨ret_int e.out.symm, rfl⟩
  · have h' : 1 ≤ bits := by omega
    go_enter Tryz.func173, Tryz.ntmps173
    go_wp2
    go_ret
    exact ⟨ret_int e.out.symm, rfl⟩
set_option maxHeartbeats 1000000 in
theorem wideOf_in (v bits : Int) (s : Bool) (h0 : 0 ≤ v) (h1 : v < 4294967296) (g0 : 1 ≤ bits) (g1 : bits ≤ 32) (w : World) :
    Calls Tryz.prog 173 #[.int .u32 v, .int .i64 bits, .bool s] w fun e w' => e = .returned (.int .u32 (wd v bits s)) ∧ w' = w := by
  go_enter Tryz.func173, Tryz.ntmps173
  go_wp2
  go_loop [7, 8] (fun y i => ∃ j : Nat, (j : Int) ≤ bits ∧ i = .int .i64 j ∧ y = .int .i64 (2 ^ j)) (fun _ i => 32 - (intOf i).toNat)
  case atStart => exact ⟨0, by simp; omega, rfl, rfl⟩
  case round =>
    obtain ⟨j, hj, rfl, rfl⟩ := hrel
    have hp := two_le (k := j) (by omega)
    by_cases hlt : (j : Int) < bits
    · go_wp2
      go_round
      case rel => exact ⟨j + 1, by omega, by go_num, by rw [Int.pow_succ]; go_num⟩
      case measure => simp [intOf]; omega
    · have hj' : j = bits.toNat := by omega
      have hw : wd v bits s = if s = true ∧ (2 : Int) ^ j ≤ 2 * (v % 2 ^ j) then lo (v % 2 ^ j - 2 ^ j) else v % 2 ^ j := by
        unfold wd; rw [if_neg (by omega), hj']
      have hw' : Hid (wd v bits s = if s = true ∧ (2 : Int) ^ j ≤ 2 * (v % 2 ^ j) then lo (v % 2 ^ j - 2 ^ j) else v % 2 ^ j) := hw
      have r0 := Int.emod_nonneg v (show (2 : Int) ^ j ≠ 0 by omega)
      have r1 := Int.emod_lt_of_pos v (show (0 : Int) < 2 ^ j by omega)
      clear hw hj'
      cases s
      · go_wp2_with (go_at_call 101; refine (word_any _ (by omega) (by omega) _).mono ?_; rintro e w' ⟨rfl, rfl⟩)
        go_ret
        exact ⟨ret_int (by rw [hw'.out, if_neg (by simp)]; exact lo_of r0 (by omega)), rfl⟩
      · by_cases hc : (2 : Int) ^ j ≤ 2 * (v % 2 ^ j)
        · go_wp2_with (go_at_call 101; refine (word_any _ (by omega) (by omega) _).mono ?_; rintro e w' ⟨rfl, rfl⟩)
          go_ret
          exact ⟨ret_int (by rw [hw'.out, if_pos (by first | exact ⟨rfl, hc⟩ | exact ⟨trivial, hc⟩)]), rfl⟩
        · go_wp2_with (go_at_call 101; refine (word_any _ (by omega) (by omega) _).mono ?_; rintro e w' ⟨rfl, rfl⟩)
          go_ret
          exact ⟨ret_int (by rw [hw'.out, if_neg (by simp; omega)]; exact lo_of r0 (by omega)), rfl⟩
theorem wideOf_any (v bits : Int) (s : Bool) (h0 : 0 ≤ v) (h1 : v < 4294967296) (w : World) :
    Calls Tryz.prog 173 #[.int .u32 v, .int .i64 bits, .bool s] w fun e w' => e = .returned (.int .u32 (wd v bits s)) ∧ w' = w := by
  by_cases h : bits < 1 ∨ 32 < bits
  · exact wideOf_out v bits s h w
  · exact wideOf_in v bits s h0 h1 (by omega) (by omega) w
set_option maxHeartbeats 400000 in
theorem mulOf_u (a b : Int) (h0 : 0 ≤ a) (h1 : a < 4294967296) (g0 : 0 ≤ b) (g1 : b < 4294967296) (w : World) :
    Calls Tryz.prog 230 #[.int .u32 a, .int .u32 b, .bool false] w fun e w' => e = .returned (.tuple #[.int .u32 (hi (a * b)), .int .u32 (lo (a * b))]) ∧ w' = w := by
  have hm := mul_halves a b (by omega) (by omega) (by omega) (by omega)
  obtain ⟨m1, m2, m3, m4, m5⟩ := hm
  have he : Hid (a * b = 65536 * (a * (b / 65536)) + a * (b % 65536)) := m5
  clear m5
  go_enter Tryz.func230, Tryz.ntmps230
  go_wp2
  go_ret2
  exact ⟨ret_two (by have := he.out; unfold hi; omega) (by have := he.out; unfold lo; omega), rfl⟩
set_option maxHeartbeats 1000000 in
theorem mulOf_pp (a b x y : Int) (h0 : 0 ≤ a) (h1 : a < 4294967296) (g0 : 0 ≤ b) (g1 : b < 4294967296) (x0 : 0 ≤ x) (x1 : x ≤ 2147483648) (y0 : 0 ≤ y) (y1 : y ≤ 2147483648) (ha : sg a = x) (hb : sg b = y) (w : World) :
    Calls Tryz.prog 230 #[.int .u32 a, .int .u32 b, .bool true] w fun e w' => e = .returned (.tuple #[.int .u32 (hi (x * y)), .int .u32 (lo (x * y))]) ∧ w' = w := by
  have hm := mul_halves x y (by omega) (by omega) (by omega) (by omega)
  obtain ⟨m1, m2, m3, m4, m5⟩ := hm
  have he : Hid (x * y = 65536 * (x * (y / 65536)) + x * (y % 65536)) := m5
  clear m5
  go_enter Tryz.func230, Tryz.ntmps230
  go_wp2_with (go_at_call 153; refine (signed_any _ (by omega) (by omega) _).mono ?_; rintro e w' ⟨rfl, rfl⟩)
  go_ret2
  exact ⟨ret_two (by have := he.out; unfold hi; omega) (by have := he.out; unfold lo; omega), rfl⟩
set_option maxHeartbeats 1000000 in
theorem mulOf_nn (a b x y : Int) (h0 : 0 ≤ a) (h1 : a < 4294967296) (g0 : 0 ≤ b) (g1 : b < 4294967296) (x0 : 0 < x) (x1 : x ≤ 2147483648) (y0 : 0 < y) (y1 : y ≤ 2147483648) (ha : sg a = -x) (hb : sg b = -y) (w : World) :
    Calls Tryz.prog 230 #[.int .u32 a, .int .u32 b, .bool true] w fun e w' => e = .returned (.tuple #[.int .u32 (hi (x * y)), .int .u32 (lo (x * y))]) ∧ w' = w := by
  have hm := mul_halves x y (by omega) (by omega) (by omega) (by omega)
  obtain ⟨m1, m2, m3, m4, m5⟩ := hm
  have he : Hid (x * y = 65536 * (x * (y / 65536)) + x * (y % 65536)) := m5
  clear m5
  go_enter Tryz.func230, Tryz.ntmps230
  go_wp2_with (go_at_call 153; refine (signed_any _ (by omega) (by omega) _).mono ?_; rintro e w' ⟨rfl, rfl⟩)
  go_ret2
  exact ⟨ret_two (by have := he.out; unfold hi; omega) (by have := he.out; unfold lo; omega), rfl⟩
theorem beq_t {z : Int} (h : (z == 0) = true) : z = 0 := by simpa using h
theorem beq_f {z : Int} (h : (z == 0) = false) : ¬ z = 0 := by simpa using h
set_option maxHeartbeats 1000000 in
theorem mulOf_np (a b x y : Int) (h0 : 0 ≤ a) (h1 : a < 4294967296) (g0 : 0 ≤ b) (g1 : b < 4294967296) (x0 : 0 < x) (x1 : x ≤ 2147483648) (y0 : 0 ≤ y) (y1 : y ≤ 2147483648) (ha : sg a = -x) (hb : sg b = y) (w : World) :
    Calls Tryz.prog 230 #[.int .u32 a, .int .u32 b, .bool true] w fun e w' => e = .returned (.tuple #[.int .u32 (hi (-(x * y))), .int .u32 (lo (-(x * y)))]) ∧ w' = w := by
  have hm := mul_halves x y (by omega) (by omega) (by omega) (by omega)
  obtain ⟨m1, m2, m3, m4, m5⟩ := hm
  have he : Hid (x * y = 65536 * (x * (y / 65536)) + x * (y % 65536)) := m5
  clear m5
  have hd : decide (y < 0) = false := by simpa using y0
  go_enter Tryz.func230, Tryz.ntmps230
  go_wp2_with (go_at_call 153; refine (signed_any _ (by omega) (by omega) _).mono ?_; rintro e w' ⟨rfl, rfl⟩)
  all_goals
    go_ret2
    exact ⟨ret_two (by have := he.out; unfold hi; first | omega | (have q := beq_t ‹(_ == (0 : Int)) = true›; omega) | (have q := beq_f ‹(_ == (0 : Int)) = false›; omega)) (by have := he.out; unfold lo; first | omega | (have q := beq_t ‹(_ == (0 : Int)) = true›; omega) | (have q := beq_f ‹(_ == (0 : Int)) = false›; omega)), rfl⟩
set_option maxHeartbeats 1000000 in
theorem mulOf_pn (a b x y : Int) (h0 : 0 ≤ a) (h1 : a < 4294967296) (g0 : 0 ≤ b) (g1 : b < 4294967296) (x0 : 0 ≤ x) (x1 : x ≤ 2147483648) (y0 : 0 < y) (y1 : y ≤ 2147483648) (ha : sg a = x) (hb : sg b = -y) (w : World) :
    Calls Tryz.prog 230 #[.int .u32 a, .int .u32 b, .bool true] w fun e w' => e = .returned (.tuple #[.int .u32 (hi (-(x * y))), .int .u32 (lo (-(x * y)))]) ∧ w' = w := by
  have hm := mul_halves x y (by omega) (by omega) (by omega) (by omega)
  obtain ⟨m1, m2, m3, m4, m5⟩ := hm
  have he : Hid (x * y = 65536 * (x * (y / 65536)) + x * (y % 65536)) := m5
  clear m5
  have hd : decide (x < 0) = false := by simpa using x0
  go_enter Tryz.func230, Tryz.ntmps230
  go_wp2_with (go_at_call 153; refine (signed_any _ (by omega) (by omega) _).mono ?_; rintro e w' ⟨rfl, rfl⟩)
  all_goals
    go_ret2
    exact ⟨ret_two (by have := he.out; unfold hi; first | omega | (have q := beq_t ‹(_ == (0 : Int)) = true›; omega) | (have q := beq_f ‹(_ == (0 : Int)) = false›; omega)) (by have := he.out; unfold lo; first | omega | (have q := beq_t ‹(_ == (0 : Int)) = true›; omega) | (have q := beq_f ‹(_ == (0 : Int)) = false›; omega)), rfl⟩
theorem mulOf_any (a b : Int) (s : Bool) (h0 : 0 ≤ a) (h1 : a < 4294967296) (g0 : 0 ≤ b) (g1 : b < 4294967296) (w : World) :
    Calls Tryz.prog 230 #[.int .u32 a, .int .u32 b, .bool s] w fun e w' => e = .returned (.tuple #[.int .u32 (hi (nm a s * nm b s)), .int .u32 (lo (nm a s * nm b s))]) ∧ w' = w := by
  cases s
  · exact mulOf_u a b h0 h1 g0 g1 w
  · have ha := sg_bd h0 h1
    have hb := sg_bd g0 g1
    show Calls Tryz.prog 230 #[.int .u32 a, .int .u32 b, .bool true] w fun e w' => e = .returned (.tuple #[.int .u32 (hi (sg a * sg b)), .int .u32 (lo (sg a * sg b))]) ∧ w' = w
    by_cases hx : sg a < 0
    · by_cases hy : sg b < 0
      · have := mulOf_nn a b (-sg a) (-sg b) h0 h1 g0 g1 (by omega) (by omega) (by omega) (by omega) (by omega) (by omega) w
        rw [Int.neg_mul_neg] at this; exact this
      · have := mulOf_np a b (-sg a) (sg b) h0 h1 g0 g1 (by omega) (by omega) (by omega) (by omega) (by omega) rfl w
        rw [Int.neg_mul, Int.neg_neg] at this; exact this
    · by_cases hy : sg b < 0
      · have := mulOf_pn a b (sg a) (-sg b) h0 h1 g0 g1 (by omega) (by omega) (by omega) (by omega) rfl (by omega) w
        rw [Int.mul_neg, Int.neg_neg] at this; exact this
      · exact mulOf_pp a b (sg a) (sg b) h0 h1 g0 g1 (by omega) (by omega) (by omega) (by omega) rfl rfl w
theorem divOf_any (a b : Int) (s : Bool) (h0 : 0 ≤ a) (h1 : a < 4294967296) (g0 : 0 < b) (g1 : b < 4294967296) (w : World) :
    Calls Tryz.prog 189 #[.int .u32 a, .int .u32 b, .bool s] w fun e w' => e = .returned (.tuple #[.int .u32 (quo a b s), .int .u32 (rst a b s), .bool true]) ∧ ∃ n, w' = w.drewN n := by
  cases s
  · exact divOf_u a b h0 h1 g0 g1 w
  · exact divOf_s a b h0 h1 g0 g1 w
end Go.Proofs.YtflagpkmebdckaaGreatDoor
/-
  Functions of the document's answer: parts of a word, the errors of an access.
-/
namespace Go.Proofs.YtflagpkmebdckaaGreatDoor
open Go.RowKit
open Num
set_option linter.unusedVariables false
theorem part_eq (a up bits : Int) : shf 62 a up = a / pw up ∧ shf 60 1 bits = lo (1 * pw bits) := by unfold shf; simp
set_option maxHeartbeats 1000000 in
theorem part_any (a up bits : Int) (h0 : 0 ≤ a) (h1 : a < 4294967296) (g0 : 0 ≤ up) (g1 : up < 32) (b0 : 0 ≤ bits) (b1 : bits < 32) (w : World) :
    Calls Tryz.prog 46 #[.int .u32 a, .int .i64 up, .int .i64 bits] w fun e w' => e = .returned (.int .i64 (a / pw up % pw bits)) ∧ w' = w := by
  have s1 := shf_bd (k := 62) (n := up) h0 h1
  have hp := pw_bd bits
  have he := (part_eq a up bits).1
  have hf : shf 60 1 bits = pw bits := by rw [(part_eq a up bits).2, Int.one_mul]; exact lo_of (by omega) (by omega)
  rw [← hf] at hp
  have HE : Hid (shf 62 a up = a / pw up ∧ shf 60 1 bits = pw bits) := ⟨he, hf⟩
  clear he hf
  have hz : ¬ shf 60 1 bits = 0 := by omega
  go_enter Tryz.func46, Tryz.ntmps46
  go_wp2_with (go_at_call 85; refine (shiftOf_any _ _ _ (by omega) (by omega) (by omega) _).mono ?_; rintro e w' ⟨rfl, rfl⟩)
  go_ret
  exact ⟨ret_int (by rw [HE.out.1, HE.out.2]), rfl⟩
/-- an access's error, by its number -/
def rc (a s : Int) : Int := if chk a s = 1 then 3 else if chk a s = 2 then 9 else if chk a s = 3 then 10 else 0
theorem rc_eq (a s : Int) : rc a s = if s ≠ 1 ∧ s ≠ 2 ∧ s ≠ 4 then 3 else if a % s ≠ 0 then 9 else if 16384 ≤ a then 10 else 0 := by
  unfold rc chk
  split
  · rfl
  · split
    · rfl
    · split <;> rfl
set_option maxRecDepth 100000 in
set_option maxHeartbeats 1000000 in
theorem reach_any (a s : Int) (h0 : 0 ≤ a) (h1 : a < 4294967296) (s0 : -9223372036854775808 ≤ s) (s1 : s ≤ 9223372036854775807) (w : World) : Calls Tryz.prog 44 #[.int .u32 a, .int .i64 s] w fun e w' => e = .returned (.int .i64 (rc a s)) ∧ w' = w := by
  by_cases hs : s ≠ 1 ∧ s ≠ 2 ∧ s ≠ 4
  · have hr : rc a s = 3 := by rw [rc_eq, if_pos hs]
    rw [hr]
    have e1 : (s != 1) = true := by simpa using hs.1
    have e2 : (s != 2) = true := by simpa using hs.2.1
    have e4 : (s != 4) = true := by simpa using hs.2.2
    clear hr hs
    go_enter Tryz.func44, Tryz.ntmps44
    go_wp2
    go_ret
    exact ⟨rfl, rfl⟩
  · have hs' : s = 1 ∨ s = 2 ∨ s = 4 := by omega
    have hr : rc a s = if a % s ≠ 0 then 9 else if 16384 ≤ a then 10 else 0 := by rw [rc_eq, if_neg hs]
    rw [hr]
    clear hr hs
    rcases hs' with rfl | rfl | rfl
    · rw [if_neg (by omega)]
      by_cases hf : 16384 ≤ a
      · rw [if_pos hf]
        go_enter Tryz.func44, Tryz.ntmps44
        go_wp2
        go_ret
        exact ⟨rfl, rfl⟩
      · rw [if_neg hf]
        go_enter Tryz.func44, Tryz.ntmps44
        go_wp2
        go_ret
        exact ⟨rfl, rfl⟩
    · by_cases hm : a % 2 = 0
      · have em : (a % 2 != 0) = false := by simpa using hm
        rw [if_neg (by omega)]
        clear hm
        by_cases hf : 16384 ≤ a
        · rw [if_pos hf]
          go_enter Tryz.func44, Tryz.ntmps44
          go_wp2
          go_ret
          exact ⟨rfl, rfl⟩
        · rw [if_neg hf]
          go_enter Tryz.func44, Tryz.ntmps44
          go_wp2
          go_ret
          exact ⟨rfl, rfl⟩
      · have em : (a % 2 != 0) = true := by simpa using hm
        rw [if_pos hm]
        clear hm
        go_enter Tryz.func44, Tryz.ntmps44
        go_wp2
        go_ret
        exact ⟨rfl, rfl⟩
    · by_cases hm : a % 4 = 0
      · have em : (a % 4 != 0) = false := by simpa using hm
        rw [if_neg (by omega)]
        clear hm
        by_cases hf : 16384 ≤ a
        · rw [if_pos hf]
          go_enter Tryz.func44, Tryz.ntmps44
          go_wp2
          go_ret
          exact ⟨rfl, rfl⟩
        · rw [if_neg hf]
          go_enter Tryz.func44, Tryz.ntmps44
          go_wp2
          go_ret
          exact ⟨rfl, rfl⟩
      · have em : (a % 4 != 0) = true := by simpa using hm
        rw [if_pos hm]
        clear hm
        go_enter Tryz.func44, Tryz.ntmps44
        go_wp2
        go_ret
        exact ⟨rfl, rfl⟩
end Go.Proofs.YtflagpkmebdckaaGreatDoor
