/-
  What the small functions of package code, of package word, and of the verifier's own answer.
-/
import Derived.Test.YtccnliihdhnckaaGreatDoorProg
import Derived.WalkKit
import Derived.Below
import Derived.Deep.QuietTactic
import Derived.BigQuiet
import Derived.Test.YtccnliihdhnckaaGreatDoorQNum
import Derived.Test.YtccnliihdhnckaaGreatDoorQTab
namespace Go.Proofs.YtccnliihdhnckaaGreatDoor
open Go.RowKit
open Num Tab
set_option linter.unusedVariables false
theorem ret_int {k : IntKind} {a b : Int} (h : a = b) : Ending.returned (.int k a) = .returned (.int k b) := by rw [h]
theorem ret_bool {a b : Bool} (h : a = b) : Ending.returned (.bool a) = .returned (.bool b) := by rw [h]
set_option maxHeartbeats 1000000 in
theorem signed_any (a : Int) (h0 : 0 ≤ a) (h1 : a < 4294967296) (w : World) :
    Calls Tryz.prog 51 #[.int .u32 a] w fun e w' => e = .returned (.int .i64 (sg a)) ∧ w' = w := by
  by_cases h : 2147483648 ≤ a
  · go_enter Tryz.func51, Tryz.ntmps51
    go_wp2
    go_ret
    exact ⟨ret_int (by unfold sg; rw [if_neg (by omega)]), rfl⟩
  · go_enter Tryz.func51, Tryz.ntmps51
    go_wp2
    go_ret
    exact ⟨ret_int (by unfold sg; rw [if_pos (by omega)]), rfl⟩
set_option maxHeartbeats 1000000 in
theorem word_any (n : Int) (h0 : -9223372036854775808 ≤ n) (h1 : n ≤ 9223372036854775807) (w : World) :
    Calls Tryz.prog 42 #[.int .i64 n] w fun e w' => e = .returned (.int .u32 (lo n)) ∧ w' = w := by
  have ht := tm n
  have he : Hid (n = 4294967296 * n.tdiv 4294967296 + n.tmod 4294967296) := ht.1
  obtain ⟨hx, ht1, ht2⟩ := ht
  clear hx
  by_cases hn : n.tmod 4294967296 < 0
  · go_enter Tryz.func42, Tryz.ntmps42
    go_wp2
    go_ret
    exact ⟨ret_int (by have := he.out; unfold lo; omega), rfl⟩
  · go_enter Tryz.func42, Tryz.ntmps42
    go_wp2
    go_ret
    exact ⟨ret_int (by have := he.out; unfold lo; omega), rfl⟩
set_option maxHeartbeats 2000000 in
theorem shiftOf_any (k a n : Int) (h0 : 0 ≤ a) (h1 : a < 4294967296) (g0 : 0 ≤ n) (w : World) :
    Calls Tryz.prog 105 #[.int .u8 k, .int .u32 a, .int .u32 n] w fun e w' => e = .returned (.int .u32 (shf k a n)) ∧ w' = w := by
  have ha := sg_bd h0 h1
  go_enter Tryz.func105, Tryz.ntmps105
  go_wp2
  go_loop [7, 8] (fun y i => ∃ j : Nat, (j : Int) ≤ n % 32 ∧ i = .int .u32 j ∧ y = .int .i64 (2 ^ j)) (fun _ i => 32 - (intOf i).toNat)
  case atStart => exact ⟨0, by simp; omega, rfl, rfl⟩
  case round =>
    obtain ⟨j, hj, rfl, rfl⟩ := hrel
    have hp := two_le (k := j) (by omega)
    by_cases hlt : (j : Int) < n % 32
    · go_wp2
      go_round
      case rel => exact ⟨j + 1, by omega, by go_num, by rw [Int.pow_succ]; go_num⟩
      case measure => simp [intOf]; omega
    · have hj' : j = (n % 32).toNat := by omega
      have hpw : Hid (pw n = 2 ^ j) := by rw [hj']; exact rfl
      have hd := p_div (k := j) (by omega)
      have hs := shl_of a (2 ^ j) hp.1 hd.1 hd.2
      obtain ⟨s0, s1, s2, s3, s4⟩ := hs
      have hs4 : Hid (a % (4294967296 / 2 ^ j) * 2 ^ j = lo (a * 2 ^ j)) := s4
      obtain ⟨hd1, hd2⟩ := hd
      clear s4 hj' hd1
      have e1 := ediv_bd (d := 2 ^ j) h0 hp.1
      by_cases k1 : k = 60
      · subst k1
        go_wp2_with (go_at_call 42; refine (word_any _ (by omega) (by omega) _).mono ?_; rintro e w' ⟨rfl, rfl⟩)
        go_ret
        exact ⟨ret_int (by rw [hs4.out, ← hpw.out]; unfold shf; rw [if_pos rfl]; exact lo_of (lo_bd _).1 (lo_bd _).2), rfl⟩
      by_cases k2 : k = 62
      · subst k2
        go_wp2_with (go_at_call 42; refine (word_any _ (by omega) (by omega) _).mono ?_; rintro e w' ⟨rfl, rfl⟩)
        go_ret
        exact ⟨ret_int (by rw [lo_of e1.1 (by omega), ← hpw.out]; unfold shf; rw [if_neg (by decide), if_pos rfl]), rfl⟩
      by_cases k3 : k = 126
      · subst k3
        have fin : shf 126 a n = lo (sg a / 2 ^ j) := by unfold shf; rw [if_neg (by decide), if_neg (by decide), if_pos rfl, hpw.out]
        have hfin : Hid (shf 126 a n = lo (sg a / 2 ^ j)) := fin
        clear fin
        by_cases hn : sg a < 0
        · obtain ⟨dn, de⟩ := down (sg a) (2 ^ j) hn ha.1 hp.1
          have hde : Hid (sg a / 2 ^ j = if (sg a).tmod (2 ^ j) = 0 then (sg a).tdiv (2 ^ j) else (sg a).tdiv (2 ^ j) - 1) := de
          clear de
          by_cases hr : (sg a).tmod (2 ^ j) = 0
          · go_wp2_with (first | (go_at_call 51; refine (signed_any _ (by omega) (by omega) _).mono ?_; rintro e w' ⟨rfl, rfl⟩) | (go_at_call 42; refine (word_any _ (by omega) (by omega) _).mono ?_; rintro e w' ⟨rfl, rfl⟩))
            go_ret
            exact ⟨ret_int (by rw [hfin.out, hde.out, if_pos hr]), rfl⟩
          · go_wp2_with (first | (go_at_call 51; refine (signed_any _ (by omega) (by omega) _).mono ?_; rintro e w' ⟨rfl, rfl⟩) | (go_at_call 42; refine (word_any _ (by omega) (by omega) _).mono ?_; rintro e w' ⟨rfl, rfl⟩))
            go_ret
            exact ⟨ret_int (by rw [hfin.out, hde.out, if_neg hr]), rfl⟩
        · have e2 := ediv_bd (d := 2 ^ j) (show 0 ≤ sg a by omega) hp.1
          go_wp2_with (first | (go_at_call 51; refine (signed_any _ (by omega) (by omega) _).mono ?_; rintro e w' ⟨rfl, rfl⟩) | (go_at_call 42; refine (word_any _ (by omega) (by omega) _).mono ?_; rintro e w' ⟨rfl, rfl⟩))
          go_ret
          exact ⟨ret_int (by rw [hfin.out]), rfl⟩
      have f1 : (k == 60) = false := by simpa using k1
      have f2 : (k == 62) = false := by simpa using k2
      have f3 : (k == 126) = false := by simpa using k3
      have e' : shf k a n = a := by unfold shf; rw [if_neg k1, if_neg k2, if_neg k3]
      have e : Hid (shf k a n = a) := e'
      clear e' k1 k2 k3
      go_wp2
      go_ret
      exact ⟨ret_int e.out.symm, rfl⟩
theorem place83 (w : World) : Calls Tryz.prog 55 #[.int .i32 83] w fun e w' => e = .returned (.tuple #[.int .i64 21, .int .i64 5]) ∧ w' = w := by
  go_enter Tryz.func55, Tryz.ntmps55
  go_wp2
  go_ret2
  exact ⟨rfl, rfl⟩
theorem place84 (w : World) : Calls Tryz.prog 55 #[.int .i32 84] w fun e w' => e = .returned (.tuple #[.int .i64 16, .int .i64 5]) ∧ w' = w := by
  go_enter Tryz.func55, Tryz.ntmps55
  go_wp2
  go_ret2
  exact ⟨rfl, rfl⟩
theorem place68 (w : World) : Calls Tryz.prog 55 #[.int .i32 68] w fun e w' => e = .returned (.tuple #[.int .i64 11, .int .i64 5]) ∧ w' = w := by
  go_enter Tryz.func55, Tryz.ntmps55
  go_wp2
  go_ret2
  exact ⟨rfl, rfl⟩
theorem place97 (w : World) : Calls Tryz.prog 55 #[.int .i32 97] w fun e w' => e = .returned (.tuple #[.int .i64 6, .int .i64 5]) ∧ w' = w := by
  go_enter Tryz.func55, Tryz.ntmps55
  go_wp2
  go_ret2
  exact ⟨rfl, rfl⟩
theorem place105 (w : World) : Calls Tryz.prog 55 #[.int .i32 105] w fun e w' => e = .returned (.tuple #[.int .i64 0, .int .i64 16]) ∧ w' = w := by
  go_enter Tryz.func55, Tryz.ntmps55
  go_wp2
  go_ret2
  exact ⟨rfl, rfl⟩
theorem place106 (w : World) : Calls Tryz.prog 55 #[.int .i32 106] w fun e w' => e = .returned (.tuple #[.int .i64 0, .int .i64 26]) ∧ w' = w := by
  go_enter Tryz.func55, Tryz.ntmps55
  go_wp2
  go_ret2
  exact ⟨rfl, rfl⟩
set_option maxHeartbeats 1000000 in
theorem isOp_any (k : Int) (w : World) : Calls Tryz.prog 60 #[.int .i64 k] w fun e w' => e = .returned (.bool (decide (0 < k ∧ k < 54))) ∧ w' = w := by
  by_cases h : 0 < k
  · go_enter Tryz.func60, Tryz.ntmps60
    go_wp2
    go_ret
    exact ⟨ret_bool (by simp [h]), rfl⟩
  · go_enter Tryz.func60, Tryz.ntmps60
    go_wp2
    go_ret
    exact ⟨ret_bool (by simp; omega), rfl⟩
set_option maxHeartbeats 1000000 in
theorem take83 (o s t d m : Int) (h0 : 0 ≤ m) (h1 : m < 4294967296) (w : World) : Calls Tryz.prog 61 #[.agg #[.int .i64 o, .int .i64 s, .int .i64 t, .int .i64 d, .int .u32 m], .int .i32 83] w fun e w' => e = .returned (.int .u64 (s % 18446744073709551616)) ∧ Below w.heap.size w w' := by
  go_enter Tryz.func61, Tryz.ntmps61
  go_wp2
  go_ret
  exact ⟨rfl, (Below.refl _ _).alloc (Nat.le_refl _) _⟩
set_option maxHeartbeats 1000000 in
theorem take84 (o s t d m : Int) (h0 : 0 ≤ m) (h1 : m < 4294967296) (w : World) : Calls Tryz.prog 61 #[.agg #[.int .i64 o, .int .i64 s, .int .i64 t, .int .i64 d, .int .u32 m], .int .i32 84] w fun e w' => e = .returned (.int .u64 (t % 18446744073709551616)) ∧ Below w.heap.size w w' := by
  go_enter Tryz.func61, Tryz.ntmps61
  go_wp2
  go_ret
  exact ⟨rfl, (Below.refl _ _).alloc (Nat.le_refl _) _⟩
set_option maxHeartbeats 1000000 in
theorem take68 (o s t d m : Int) (h0 : 0 ≤ m) (h1 : m < 4294967296) (w : World) : Calls Tryz.prog 61 #[.agg #[.int .i64 o, .int .i64 s, .int .i64 t, .int .i64 d, .int .u32 m], .int .i32 68] w fun e w' => e = .returned (.int .u64 (d % 18446744073709551616)) ∧ Below w.heap.size w w' := by
  go_enter Tryz.func61, Tryz.ntmps61
  go_wp2
  go_ret
  exact ⟨rfl, (Below.refl _ _).alloc (Nat.le_refl _) _⟩
set_option maxHeartbeats 1000000 in
theorem take97 (o s t d m : Int) (h0 : 0 ≤ m) (h1 : m < 4294967296) (w : World) : Calls Tryz.prog 61 #[.agg #[.int .i64 o, .int .i64 s, .int .i64 t, .int .i64 d, .int .u32 m], .int .i32 97] w fun e w' => e = .returned (.int .u64 (m)) ∧ Below w.heap.size w w' := by
  go_enter Tryz.func61, Tryz.ntmps61
  go_wp2
  go_ret
  exact ⟨rfl, (Below.refl _ _).alloc (Nat.le_refl _) _⟩
set_option maxHeartbeats 1000000 in
theorem take105 (o s t d m : Int) (h0 : 0 ≤ m) (h1 : m < 4294967296) (w : World) : Calls Tryz.prog 61 #[.agg #[.int .i64 o, .int .i64 s, .int .i64 t, .int .i64 d, .int .u32 m], .int .i32 105] w fun e w' => e = .returned (.int .u64 (m)) ∧ Below w.heap.size w w' := by
  go_enter Tryz.func61, Tryz.ntmps61
  go_wp2
  go_ret
  exact ⟨rfl, (Below.refl _ _).alloc (Nat.le_refl _) _⟩
set_option maxHeartbeats 1000000 in
theorem take106 (o s t d m : Int) (h0 : 0 ≤ m) (h1 : m < 4294967296) (w : World) : Calls Tryz.prog 61 #[.agg #[.int .i64 o, .int .i64 s, .int .i64 t, .int .i64 d, .int .u32 m], .int .i32 106] w fun e w' => e = .returned (.int .u64 (m)) ∧ Below w.heap.size w w' := by
  go_enter Tryz.func61, Tryz.ntmps61
  go_wp2
  go_ret
  exact ⟨rfl, (Below.refl _ _).alloc (Nat.le_refl _) _⟩
set_option maxHeartbeats 1000000 in
theorem put83 (b : Nat) (v : Int) (h0 : 0 ≤ v) (h1 : v < 4294967296) (w : World) (old : Value) (hc : w.cell? ⟨b, 1, none⟩ = some old) (hf : w.frozen? ⟨b, 1, none⟩ = false) :
    Calls Tryz.prog 56 #[.pointer (some ⟨b, 0, none⟩), .int .i32 83, .int .u32 v] w fun e w' => e = .returned (.tuple #[]) ∧ w' = w.setCell ⟨b, 1, none⟩ (.int .i64 v) := by
  go_enter Tryz.func56, Tryz.ntmps56
  go_wp2
  go_end0
  exact ⟨rfl, rfl⟩
set_option maxHeartbeats 1000000 in
theorem put84 (b : Nat) (v : Int) (h0 : 0 ≤ v) (h1 : v < 4294967296) (w : World) (old : Value) (hc : w.cell? ⟨b, 2, none⟩ = some old) (hf : w.frozen? ⟨b, 2, none⟩ = false) :
    Calls Tryz.prog 56 #[.pointer (some ⟨b, 0, none⟩), .int .i32 84, .int .u32 v] w fun e w' => e = .returned (.tuple #[]) ∧ w' = w.setCell ⟨b, 2, none⟩ (.int .i64 v) := by
  go_enter Tryz.func56, Tryz.ntmps56
  go_wp2
  go_end0
  exact ⟨rfl, rfl⟩
set_option maxHeartbeats 1000000 in
theorem put68 (b : Nat) (v : Int) (h0 : 0 ≤ v) (h1 : v < 4294967296) (w : World) (old : Value) (hc : w.cell? ⟨b, 3, none⟩ = some old) (hf : w.frozen? ⟨b, 3, none⟩ = false) :
    Calls Tryz.prog 56 #[.pointer (some ⟨b, 0, none⟩), .int .i32 68, .int .u32 v] w fun e w' => e = .returned (.tuple #[]) ∧ w' = w.setCell ⟨b, 3, none⟩ (.int .i64 v) := by
  go_enter Tryz.func56, Tryz.ntmps56
  go_wp2
  go_end0
  exact ⟨rfl, rfl⟩
set_option maxHeartbeats 1000000 in
theorem put97 (b : Nat) (v : Int) (h0 : 0 ≤ v) (h1 : v < 4294967296) (w : World) (old : Value) (hc : w.cell? ⟨b, 4, none⟩ = some old) (hf : w.frozen? ⟨b, 4, none⟩ = false) :
    Calls Tryz.prog 56 #[.pointer (some ⟨b, 0, none⟩), .int .i32 97, .int .u32 v] w fun e w' => e = .returned (.tuple #[]) ∧ w' = w.setCell ⟨b, 4, none⟩ (.int .u32 v) := by
  go_enter Tryz.func56, Tryz.ntmps56
  go_wp2
  go_end0
  exact ⟨rfl, rfl⟩
set_option maxHeartbeats 1000000 in
theorem put105 (b : Nat) (v : Int) (h0 : 0 ≤ v) (h1 : v < 4294967296) (w : World) (old : Value) (hc : w.cell? ⟨b, 4, none⟩ = some old) (hf : w.frozen? ⟨b, 4, none⟩ = false) :
    Calls Tryz.prog 56 #[.pointer (some ⟨b, 0, none⟩), .int .i32 105, .int .u32 v] w fun e w' => e = .returned (.tuple #[]) ∧ w' = w.setCell ⟨b, 4, none⟩ (.int .u32 v) := by
  go_enter Tryz.func56, Tryz.ntmps56
  go_wp2
  go_end0
  exact ⟨rfl, rfl⟩
set_option maxHeartbeats 1000000 in
theorem put106 (b : Nat) (v : Int) (h0 : 0 ≤ v) (h1 : v < 4294967296) (w : World) (old : Value) (hc : w.cell? ⟨b, 4, none⟩ = some old) (hf : w.frozen? ⟨b, 4, none⟩ = false) :
    Calls Tryz.prog 56 #[.pointer (some ⟨b, 0, none⟩), .int .i32 106, .int .u32 v] w fun e w' => e = .returned (.tuple #[]) ∧ w' = w.setCell ⟨b, 4, none⟩ (.int .u32 v) := by
  go_enter Tryz.func56, Tryz.ntmps56
  go_wp2
  go_end0
  exact ⟨rfl, rfl⟩
set_option maxHeartbeats 1000000 in
theorem well_any (n : Int) (b : Bool) (w : World) : Calls Tryz.prog 31 #[.int .i64 n, .bool b] w fun e w' => e = .returned (.bool (well n b)) ∧ w' = w := by
  by_cases h : n = 0
  · subst h
    go_enter Tryz.func31, Tryz.ntmps31
    go_wp2
    go_ret
    exact ⟨ret_bool (by simp [well]), rfl⟩
  · have h' : (n == 0) = false := by simpa using h
    cases b
    · go_enter Tryz.func31, Tryz.ntmps31
      go_wp2
      go_ret
      exact ⟨ret_bool (by simp [well, h]), rfl⟩
    · by_cases g : 0 < n
      · go_enter Tryz.func31, Tryz.ntmps31
        go_wp2
        go_ret
        exact ⟨ret_bool (by simp [well, h, g]), rfl⟩
      · go_enter Tryz.func31, Tryz.ntmps31
        go_wp2
        go_ret
        exact ⟨ret_bool (by simp [well, h]; omega), rfl⟩
end Go.Proofs.YtccnliihdhnckaaGreatDoor
