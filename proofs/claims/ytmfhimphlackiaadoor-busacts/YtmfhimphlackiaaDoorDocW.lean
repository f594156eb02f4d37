/-
  The document's word functions: Signed, LessOf, Word, IsSigned, DivOf, ShiftOf, WideOf, MulOf.
-/
import Derived.Test.YtmfhimphlackiaaDoorWord2
import Derived.Test.YtmfhimphlackiaaDoorPure
namespace Go.Proofs.YtmfhimphlackiaaDoor
open Go.RowKit
open Num
set_option linter.unusedVariables false
set_option maxHeartbeats 400000 in
theorem signed_any (a : Int) (h0 : 0 ≤ a) (h1 : a < 4294967296) (w : World) :
    Calls Tryd.prog 76 #[.int .u32 a] w fun e w' => e = .returned (.int .i64 (sg a)) ∧ w' = w := by
  by_cases h : 2147483648 ≤ a
  · go_enter Tryd.func76, Tryd.ntmps76
    go_wp2
    go_ret
    exact ⟨ret_int (by unfold sg; rw [if_neg (by omega)]), rfl⟩
  · go_enter Tryd.func76, Tryd.ntmps76
    go_wp2
    go_ret
    exact ⟨ret_int (by unfold sg; rw [if_pos (by omega)]), rfl⟩
set_option maxHeartbeats 400000 in
theorem word_any (n : Int) (h0 : -9223372036854775808 ≤ n) (h1 : n ≤ 9223372036854775807) (w : World) :
    Calls Tryd.prog 44 #[.int .i64 n] w fun e w' => e = .returned (.int .u32 (lo n)) ∧ w' = w := by
  have ht := tm n
  have he : Hid (n = 4294967296 * n.tdiv 4294967296 + n.tmod 4294967296) := ht.1
  obtain ⟨hx, ht1, ht2⟩ := ht
  clear hx
  by_cases hn : n.tmod 4294967296 < 0
  · go_enter Tryd.func44, Tryd.ntmps44
    go_wp2
    go_ret
    exact ⟨ret_int (by have := he.out; unfold lo; omega), rfl⟩
  · go_enter Tryd.func44, Tryd.ntmps44
    go_wp2
    go_ret
    exact ⟨ret_int (by have := he.out; unfold lo; omega), rfl⟩
theorem wrap64_bd (x : Int) : -9223372036854775808 ≤ wrap64 x ∧ wrap64 x ≤ 9223372036854775807 := by unfold wrap64; omega
theorem tmod_bd {x y : Int} (h0 : -2147483648 ≤ x) (h1 : x ≤ 2147483647) (g0 : -2147483648 ≤ y) (g1 : y ≤ 2147483647) (h : ¬ y = 0) : -2147483648 ≤ x.tmod y ∧ x.tmod y ≤ 2147483648 := by
  have := Int.natAbs_tmod x y
  have := Nat.mod_lt x.natAbs (show 0 < y.natAbs by omega)
  omega
set_option maxHeartbeats 1000000 in
theorem shiftOf_any (k a n : Int) (h0 : 0 ≤ a) (h1 : a < 4294967296) (g0 : 0 ≤ n) (w : World) :
    Calls Tryd.prog 66 #[.int .u8 k, .int .u32 a, .int .u32 n] w fun e w' => e = .returned (.int .u32 (shf k a n)) ∧ w' = w := by
  have ha := sg_bd h0 h1
  go_enter Tryd.func66, Tryd.ntmps66
  go_wp2
  go_loop [7, 8] (fun y i => ∃ j : Nat, (j : Int) ≤ n % 32 ∧ i = .int .u32 j ∧ y = .int .i64 (2 ^ j)) (fun _ i => 32 - (intOf i).toNat)
  case atStart => exact ⟨0, by simp; omega, rfl, rfl⟩
  case round =>
    obtain ⟨j, hj, rfl, rfl⟩ := hrel
    have hp := two_le (k := j) (by omega)
    by_cases hlt : (j : Int) < n % 32
    · go_wp2
      go_round
      case rel => exact ⟨j + 1, by omega, by go_num, by rw [Int.pow_succ]; go_num⟩
      case measure => simp [intOf]; omega
    · have hj' : j = (n % 32).toNat := by omega
      have hpw : Hid (pw n = 2 ^ j) := by rw [hj']; exact rfl
      have hd := p_div (k := j) (by omega)
      have hs := shl_of a (2 ^ j) hp.1 hd.1 hd.2
      obtain ⟨s0, s1, s2, s3, s4⟩ := hs
      have hs4 : Hid (a % (4294967296 / 2 ^ j) * 2 ^ j = lo (a * 2 ^ j)) := s4
      obtain ⟨hd1, hd2⟩ := hd
      clear s4 hj' hd1
      have e1 := ediv_bd (d := 2 ^ j) h0 hp.1
      by_cases k1 : k = 60
      · subst k1
        go_wp2_with (go_at_call 44; refine (word_any _ (by omega) (by omega) _).mono ?_; rintro e w' ⟨rfl, rfl⟩)
        go_ret
        exact ⟨ret_int (by rw [hs4.out, ← hpw.out]; unfold shf; rw [if_pos rfl]; exact lo_of (lo_bd _).1 (lo_bd _).2), rfl⟩
      by_cases k2 : k = 62
      · subst k2
        go_wp2_with (go_at_call 44; refine (word_any _ (by omega) (by omega) _).mono ?_; rintro e w' ⟨rfl, rfl⟩)
        go_ret
        exact ⟨ret_int (by rw [lo_of e1.1 (by omega), ← hpw.out]; unfold shf; rw [if_neg (by decide), if_pos rfl]), rfl⟩
      by_cases k3 : k = 126
      · subst k3
        have fin : shf 126 a n = lo (sg a / 2 ^ j) := by unfold shf; rw [if_neg (by decide), if_neg (by decide), if_pos rfl, hpw.out]
        have hfin : Hid (shf 126 a n = lo (sg a / 2 ^ j)) := fin
        clear fin
        by_cases hn : sg a < 0
        · obtain ⟨dn, de⟩ := down (sg a) (2 ^ j) hn ha.1 hp.1
          have hde : Hid (sg a / 2 ^ j = if (sg a).tmod (2 ^ j) = 0 then (sg a).tdiv (2 ^ j) else (sg a).tdiv (2 ^ j) - 1) := de
          clear de
          by_cases hr : (sg a).tmod (2 ^ j) = 0
          · go_wp2_with (first | (go_at_call 76; refine (signed_any _ (by omega) (by omega) _).mono ?_; rintro e w' ⟨rfl, rfl⟩) | (go_at_call 44; refine (word_any _ (by omega) (by omega) _).mono ?_; rintro e w' ⟨rfl, rfl⟩))
            go_ret
            exact ⟨ret_int (by rw [hfin.out, hde.out, if_pos hr]), rfl⟩
          · go_wp2_with (first | (go_at_call 76; refine (signed_any _ (by omega) (by omega) _).mono ?_; rintro e w' ⟨rfl, rfl⟩) | (go_at_call 44; refine (word_any _ (by omega) (by omega) _).mono ?_; rintro e w' ⟨rfl, rfl⟩))
            go_ret
            exact ⟨ret_int (by rw [hfin.out, hde.out, if_neg hr]), rfl⟩
        · have e2 := ediv_bd (d := 2 ^ j) (show 0 ≤ sg a by omega) hp.1
          go_wp2_with (first | (go_at_call 76; refine (signed_any _ (by omega) (by omega) _).mono ?_; rintro e w' ⟨rfl, rfl⟩) | (go_at_call 44; refine (word_any _ (by omega) (by omega) _).mono ?_; rintro e w' ⟨rfl, rfl⟩))
          go_ret
          exact ⟨ret_int (by rw [hfin.out]), rfl⟩
      have f1 : (k == 60) = false := by simpa using k1
      have f2 : (k == 62) = false := by simpa using k2
      have f3 : (k == 126) = false := by simpa using k3
      have e' : shf k a n = a := by unfold shf; rw [if_neg k1, if_neg k2, if_neg k3]
      have e : Hid (shf k a n = a) := e'
      clear e' k1 k2 k3
      go_wp2
      go_ret
      exact ⟨ret_int e.out.symm, rfl⟩
set_option maxHeartbeats 400000 in
theorem wideOf_out (v bits : Int) (s : Bool) (h : bits < 1 ∨ 32 < bits) (w : World) :
    Calls Tryd.prog 15 #[.int .u32 v, .int .i64 bits, .bool s] w fun e w' => e = .returned (.int .u32 (wd v bits s)) ∧ w' = w := by
  have e' : wd v bits s = v := by unfold wd; rw [if_pos h]
  have e : Hid (wd v bits s = v) := e'
  clear e'
  rcases h with h | h
  · go_enter Tryd.func15, Tryd.ntmps15
    go_wp2
    go_ret
    exact ⟨ret_int e.out.symm, rfl⟩
  · have h' : 1 ≤ bits := by omega
    go_enter Tryd.func15, Tryd.ntmps15
    go_wp2
    go_ret
    exact ⟨ret_int e.out.symm, rfl⟩
set_option maxHeartbeats 1000000 in
theorem wideOf_in (v bits : Int) (s : Bool) (h0 : 0 ≤ v) (h1 : v < 4294967296) (g0 : 1 ≤ bits) (g1 : bits ≤ 32) (w : World) :
    Calls Tryd.prog 15 #[.int .u32 v, .int .i64 bits, .bool s] w fun e w' => e = .returned (.int .u32 (wd v bits s)) ∧ w' = w := by
  go_enter Tryd.func15, Tryd.ntmps15
  go_wp2
  go_loop [7, 8] (fun y i => ∃ j : Nat, (j : Int) ≤ bits ∧ i = .int .i64 j ∧ y = .int .i64 (2 ^ j)) (fun _ i => 32 - (intOf i).toNat)
  case atStart => exact ⟨0, by simp; omega, rfl, rfl⟩
  case round =>
    obtain ⟨j, hj, rfl, rfl⟩ := hrel
    have hp := two_le (k := j) (by omega)
    by_cases hlt : (j : Int) < bits
    · go_wp2
      go_round
      case rel => exact ⟨j + 1, by omega, by go_num, by rw [Int.pow_succ]; go_num⟩
      case measure => simp [intOf]; omega
    · have hj' : j = bits.toNat := by omega
      have hw : wd v bits s = if s = true ∧ (2 : Int) ^ j ≤ 2 * (v % 2 ^ j) then lo (v % 2 ^ j - 2 ^ j) else v % 2 ^ j := by
        unfold wd; rw [if_neg (by omega), hj']
      have hw' : Hid (wd v bits s = if s = true ∧ (2 : Int) ^ j ≤ 2 * (v % 2 ^ j) then lo (v % 2 ^ j - 2 ^ j) else v % 2 ^ j) := hw
      have r0 := Int.emod_nonneg v (show (2 : Int) ^ j ≠ 0 by omega)
      have r1 := Int.emod_lt_of_pos v (show (0 : Int) < 2 ^ j by omega)
      clear hw hj'
      cases s
      · go_wp2_with (go_at_call 44; refine (word_any _ (by omega) (by omega) _).mono ?_; rintro e w' ⟨rfl, rfl⟩)
        go_ret
        exact ⟨ret_int (by rw [hw'.out, if_neg (by simp)]; exact lo_of r0 (by omega)), rfl⟩
      · by_cases hc : (2 : Int) ^ j ≤ 2 * (v % 2 ^ j)
        · go_wp2_with (go_at_call 44; refine (word_any _ (by omega) (by omega) _).mono ?_; rintro e w' ⟨rfl, rfl⟩)
          go_ret
          exact ⟨ret_int (by rw [hw'.out, if_pos (by first | exact ⟨rfl, hc⟩ | exact ⟨trivial, hc⟩)]), rfl⟩
        · go_wp2_with (go_at_call 44; refine (word_any _ (by omega) (by omega) _).mono ?_; rintro e w' ⟨rfl, rfl⟩)
          go_ret
          exact ⟨ret_int (by rw [hw'.out, if_neg (by simp; omega)]; exact lo_of r0 (by omega)), rfl⟩
theorem wideOf_any (v bits : Int) (s : Bool) (h0 : 0 ≤ v) (h1 : v < 4294967296) (w : World) :
    Calls Tryd.prog 15 #[.int .u32 v, .int .i64 bits, .bool s] w fun e w' => e = .returned (.int .u32 (wd v bits s)) ∧ w' = w := by
  by_cases h : bits < 1 ∨ 32 < bits
  · exact wideOf_out v bits s h w
  · exact wideOf_in v bits s h0 h1 (by omega) (by omega) w
theorem beq_t {z : Int} (h : (z == 0) = true) : z = 0 := by simpa using h
theorem beq_f {z : Int} (h : (z == 0) = false) : ¬ z = 0 := by simpa using h
end Go.Proofs.YtmfhimphlackiaaDoor
