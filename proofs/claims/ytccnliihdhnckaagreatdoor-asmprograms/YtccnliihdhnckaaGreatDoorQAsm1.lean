/-
  Package asm's small functions, letter by letter: what a letter's number may be, where it lies, and its form.
-/
import Derived.Below
import Derived.Test.YtccnliihdhnckaaGreatDoorQFns2
import Derived.Test.YtccnliihdhnckaaGreatDoorKTxt
namespace Go.Proofs.YtccnliihdhnckaaGreatDoor
open Go.RowKit
open Num Tab Fm
set_option linter.unusedVariables false
set_option maxHeartbeats 1000000 in
theorem bounds83 (w : World) : Calls Tryz.prog 62 #[.int .i32 83] w fun e w' => e = .returned (.tuple #[.int .i64 (0), .int .i64 31]) ∧ w' = w := by
  go_enter Tryz.func62, Tryz.ntmps62
  go_wp2
  go_ret2; exact ⟨rfl, rfl⟩
set_option maxHeartbeats 1000000 in
theorem isNumber83 (w : World) : Calls Tryz.prog 27 #[.int .i32 83] w fun e w' => e = .returned (.bool true) ∧ w' = w := by
  go_enter Tryz.func27, Tryz.ntmps27
  go_wp2_with (go_at_call 62; refine (bounds83 _).mono ?_; rintro e w' ⟨rfl, rfl⟩)
  go_ret; exact ⟨rfl, rfl⟩
set_option maxHeartbeats 1000000 in
theorem bounds84 (w : World) : Calls Tryz.prog 62 #[.int .i32 84] w fun e w' => e = .returned (.tuple #[.int .i64 (0), .int .i64 31]) ∧ w' = w := by
  go_enter Tryz.func62, Tryz.ntmps62
  go_wp2
  go_ret2; exact ⟨rfl, rfl⟩
set_option maxHeartbeats 1000000 in
theorem isNumber84 (w : World) : Calls Tryz.prog 27 #[.int .i32 84] w fun e w' => e = .returned (.bool true) ∧ w' = w := by
  go_enter Tryz.func27, Tryz.ntmps27
  go_wp2_with (go_at_call 62; refine (bounds84 _).mono ?_; rintro e w' ⟨rfl, rfl⟩)
  go_ret; exact ⟨rfl, rfl⟩
set_option maxHeartbeats 1000000 in
theorem bounds68 (w : World) : Calls Tryz.prog 62 #[.int .i32 68] w fun e w' => e = .returned (.tuple #[.int .i64 (0), .int .i64 31]) ∧ w' = w := by
  go_enter Tryz.func62, Tryz.ntmps62
  go_wp2
  go_ret2; exact ⟨rfl, rfl⟩
set_option maxHeartbeats 1000000 in
theorem isNumber68 (w : World) : Calls Tryz.prog 27 #[.int .i32 68] w fun e w' => e = .returned (.bool true) ∧ w' = w := by
  go_enter Tryz.func27, Tryz.ntmps27
  go_wp2_with (go_at_call 62; refine (bounds68 _).mono ?_; rintro e w' ⟨rfl, rfl⟩)
  go_ret; exact ⟨rfl, rfl⟩
set_option maxHeartbeats 1000000 in
theorem bounds97 (w : World) : Calls Tryz.prog 62 #[.int .i32 97] w fun e w' => e = .returned (.tuple #[.int .i64 (0), .int .i64 31]) ∧ w' = w := by
  go_enter Tryz.func62, Tryz.ntmps62
  go_wp2
  go_ret2; exact ⟨rfl, rfl⟩
set_option maxHeartbeats 1000000 in
theorem isNumber97 (w : World) : Calls Tryz.prog 27 #[.int .i32 97] w fun e w' => e = .returned (.bool true) ∧ w' = w := by
  go_enter Tryz.func27, Tryz.ntmps27
  go_wp2_with (go_at_call 62; refine (bounds97 _).mono ?_; rintro e w' ⟨rfl, rfl⟩)
  go_ret; exact ⟨rfl, rfl⟩
set_option maxHeartbeats 1000000 in
theorem bounds105 (w : World) : Calls Tryz.prog 62 #[.int .i32 105] w fun e w' => e = .returned (.tuple #[.int .i64 (-32768), .int .i64 32767]) ∧ w' = w := by
  go_enter Tryz.func62, Tryz.ntmps62
  go_wp2
  go_ret2; exact ⟨rfl, rfl⟩
set_option maxHeartbeats 1000000 in
theorem isNumber105 (w : World) : Calls Tryz.prog 27 #[.int .i32 105] w fun e w' => e = .returned (.bool true) ∧ w' = w := by
  go_enter Tryz.func27, Tryz.ntmps27
  go_wp2_with (go_at_call 62; refine (bounds105 _).mono ?_; rintro e w' ⟨rfl, rfl⟩)
  go_ret; exact ⟨rfl, rfl⟩
set_option maxHeartbeats 1000000 in
theorem bounds117 (w : World) : Calls Tryz.prog 62 #[.int .i32 117] w fun e w' => e = .returned (.tuple #[.int .i64 (0), .int .i64 65535]) ∧ w' = w := by
  go_enter Tryz.func62, Tryz.ntmps62
  go_wp2
  go_ret2; exact ⟨rfl, rfl⟩
set_option maxHeartbeats 1000000 in
theorem isNumber117 (w : World) : Calls Tryz.prog 27 #[.int .i32 117] w fun e w' => e = .returned (.bool true) ∧ w' = w := by
  go_enter Tryz.func27, Tryz.ntmps27
  go_wp2_with (go_at_call 62; refine (bounds117 _).mono ?_; rintro e w' ⟨rfl, rfl⟩)
  go_ret; exact ⟨rfl, rfl⟩
set_option maxHeartbeats 1000000 in
theorem bounds106 (w : World) : Calls Tryz.prog 62 #[.int .i32 106] w fun e w' => e = .returned (.tuple #[.int .i64 (0), .int .i64 67108863]) ∧ w' = w := by
  go_enter Tryz.func62, Tryz.ntmps62
  go_wp2
  go_ret2; exact ⟨rfl, rfl⟩
set_option maxHeartbeats 1000000 in
theorem isNumber106 (w : World) : Calls Tryz.prog 27 #[.int .i32 106] w fun e w' => e = .returned (.bool true) ∧ w' = w := by
  go_enter Tryz.func27, Tryz.ntmps27
  go_wp2_with (go_at_call 62; refine (bounds106 _).mono ?_; rintro e w' ⟨rfl, rfl⟩)
  go_ret; exact ⟨rfl, rfl⟩
set_option maxHeartbeats 1000000 in
theorem boundsN (x : Int) (h83 : ¬ x = 83) (h84 : ¬ x = 84) (h68 : ¬ x = 68) (h97 : ¬ x = 97) (h105 : ¬ x = 105) (h117 : ¬ x = 117) (h106 : ¬ x = 106) (w : World) : Calls Tryz.prog 62 #[.int .i32 x] w fun e w' => e = .returned (.tuple #[.int .i64 0, .int .i64 0]) ∧ w' = w := by
  go_enter Tryz.func62, Tryz.ntmps62
  go_wp2
  go_ret2; exact ⟨rfl, rfl⟩
set_option maxHeartbeats 1000000 in
theorem isNumberN (x : Int) (h83 : ¬ x = 83) (h84 : ¬ x = 84) (h68 : ¬ x = 68) (h97 : ¬ x = 97) (h105 : ¬ x = 105) (h117 : ¬ x = 117) (h106 : ¬ x = 106) (w : World) : Calls Tryz.prog 27 #[.int .i32 x] w fun e w' => e = .returned (.bool false) ∧ w' = w := by
  go_enter Tryz.func27, Tryz.ntmps27
  go_wp2_with (go_at_call 62; refine (boundsN x h83 h84 h68 h97 h105 h117 h106 _).mono ?_; rintro e w' ⟨rfl, rfl⟩)
  go_ret; exact ⟨rfl, rfl⟩
set_option maxHeartbeats 1000000 in
theorem register83 (b : Nat) (w : World) : Calls Tryz.prog 64 #[.pointer (some ⟨b, 0, none⟩), .int .i32 83] w fun e w' => e = .returned (.pointer (some ⟨b, 1, none⟩)) ∧ w' = w := by
  go_enter Tryz.func64, Tryz.ntmps64
  go_wp2
  go_ret; exact ⟨rfl, rfl⟩
set_option maxHeartbeats 1000000 in
theorem register84 (b : Nat) (w : World) : Calls Tryz.prog 64 #[.pointer (some ⟨b, 0, none⟩), .int .i32 84] w fun e w' => e = .returned (.pointer (some ⟨b, 2, none⟩)) ∧ w' = w := by
  go_enter Tryz.func64, Tryz.ntmps64
  go_wp2
  go_ret; exact ⟨rfl, rfl⟩
set_option maxHeartbeats 1000000 in
theorem register68 (b : Nat) (w : World) : Calls Tryz.prog 64 #[.pointer (some ⟨b, 0, none⟩), .int .i32 68] w fun e w' => e = .returned (.pointer (some ⟨b, 3, none⟩)) ∧ w' = w := by
  go_enter Tryz.func64, Tryz.ntmps64
  go_wp2
  go_ret; exact ⟨rfl, rfl⟩
set_option maxHeartbeats 1000000 in
theorem register97 (b : Nat) (w : World) : Calls Tryz.prog 64 #[.pointer (some ⟨b, 0, none⟩), .int .i32 97] w fun e w' => e = .returned (.pointer none) ∧ w' = w := by
  go_enter Tryz.func64, Tryz.ntmps64
  go_wp2
  go_ret; exact ⟨rfl, rfl⟩
set_option maxHeartbeats 1000000 in
theorem register105 (b : Nat) (w : World) : Calls Tryz.prog 64 #[.pointer (some ⟨b, 0, none⟩), .int .i32 105] w fun e w' => e = .returned (.pointer none) ∧ w' = w := by
  go_enter Tryz.func64, Tryz.ntmps64
  go_wp2
  go_ret; exact ⟨rfl, rfl⟩
set_option maxHeartbeats 1000000 in
theorem register117 (b : Nat) (w : World) : Calls Tryz.prog 64 #[.pointer (some ⟨b, 0, none⟩), .int .i32 117] w fun e w' => e = .returned (.pointer none) ∧ w' = w := by
  go_enter Tryz.func64, Tryz.ntmps64
  go_wp2
  go_ret; exact ⟨rfl, rfl⟩
set_option maxHeartbeats 1000000 in
theorem register106 (b : Nat) (w : World) : Calls Tryz.prog 64 #[.pointer (some ⟨b, 0, none⟩), .int .i32 106] w fun e w' => e = .returned (.pointer none) ∧ w' = w := by
  go_enter Tryz.func64, Tryz.ntmps64
  go_wp2
  go_ret; exact ⟨rfl, rfl⟩
theorem wrapu16 (n : Int) : IntKind.u16.wrap n % 4294967296 = n % 65536 := by
  simp only [IntKind.wrap, IntKind.bits, IntKind.signed]; simp; omega
theorem wrap16 (m : Int) : wrap64 (IntKind.i16.wrap m) = s16 m := by
  simp only [wrap64, s16, IntKind.wrap, IntKind.bits, IntKind.signed]; simp; split <;> omega
set_option maxHeartbeats 1000000 in
theorem value83 (o s t d m : Int) (s0 : -9223372036854775808 ≤ s) (s1 : s ≤ 9223372036854775807) (t0 : -9223372036854775808 ≤ t) (t1 : t ≤ 9223372036854775807) (d0 : -9223372036854775808 ≤ d) (d1 : d ≤ 9223372036854775807) (m0 : 0 ≤ m) (m1 : m < 4294967296) (w : World) : Calls Tryz.prog 29 #[.agg #[.int .i64 o, .int .i64 s, .int .i64 t, .int .i64 d, .int .u32 m], .int .i32 83] w fun e w' => e = .returned (.int .i64 s) ∧ Below w.heap.size w w' := by
  go_enter Tryz.func29, Tryz.ntmps29
  go_wp2_with (go_at_call 64; refine (register83 _ _).mono ?_; rintro e w' ⟨rfl, rfl⟩)
  go_ret; refine ⟨?_, (Below.refl _ _).alloc (Nat.le_refl _) _⟩
  rfl
set_option maxHeartbeats 1000000 in
theorem value84 (o s t d m : Int) (s0 : -9223372036854775808 ≤ s) (s1 : s ≤ 9223372036854775807) (t0 : -9223372036854775808 ≤ t) (t1 : t ≤ 9223372036854775807) (d0 : -9223372036854775808 ≤ d) (d1 : d ≤ 9223372036854775807) (m0 : 0 ≤ m) (m1 : m < 4294967296) (w : World) : Calls Tryz.prog 29 #[.agg #[.int .i64 o, .int .i64 s, .int .i64 t, .int .i64 d, .int .u32 m], .int .i32 84] w fun e w' => e = .returned (.int .i64 t) ∧ Below w.heap.size w w' := by
  go_enter Tryz.func29, Tryz.ntmps29
  go_wp2_with (go_at_call 64; refine (register84 _ _).mono ?_; rintro e w' ⟨rfl, rfl⟩)
  go_ret; refine ⟨?_, (Below.refl _ _).alloc (Nat.le_refl _) _⟩
  rfl
set_option maxHeartbeats 1000000 in
theorem value68 (o s t d m : Int) (s0 : -9223372036854775808 ≤ s) (s1 : s ≤ 9223372036854775807) (t0 : -9223372036854775808 ≤ t) (t1 : t ≤ 9223372036854775807) (d0 : -9223372036854775808 ≤ d) (d1 : d ≤ 9223372036854775807) (m0 : 0 ≤ m) (m1 : m < 4294967296) (w : World) : Calls Tryz.prog 29 #[.agg #[.int .i64 o, .int .i64 s, .int .i64 t, .int .i64 d, .int .u32 m], .int .i32 68] w fun e w' => e = .returned (.int .i64 d) ∧ Below w.heap.size w w' := by
  go_enter Tryz.func29, Tryz.ntmps29
  go_wp2_with (go_at_call 64; refine (register68 _ _).mono ?_; rintro e w' ⟨rfl, rfl⟩)
  go_ret; refine ⟨?_, (Below.refl _ _).alloc (Nat.le_refl _) _⟩
  rfl
set_option maxHeartbeats 1000000 in
theorem value97 (o s t d m : Int) (s0 : -9223372036854775808 ≤ s) (s1 : s ≤ 9223372036854775807) (t0 : -9223372036854775808 ≤ t) (t1 : t ≤ 9223372036854775807) (d0 : -9223372036854775808 ≤ d) (d1 : d ≤ 9223372036854775807) (m0 : 0 ≤ m) (m1 : m < 4294967296) (w : World) : Calls Tryz.prog 29 #[.agg #[.int .i64 o, .int .i64 s, .int .i64 t, .int .i64 d, .int .u32 m], .int .i32 97] w fun e w' => e = .returned (.int .i64 m) ∧ Below w.heap.size w w' := by
  go_enter Tryz.func29, Tryz.ntmps29
  go_wp2_with (go_at_call 64; refine (register97 _ _).mono ?_; rintro e w' ⟨rfl, rfl⟩)
  go_ret; refine ⟨?_, (Below.refl _ _).alloc (Nat.le_refl _) _⟩
  rfl
set_option maxHeartbeats 1000000 in
theorem value105 (o s t d m : Int) (s0 : -9223372036854775808 ≤ s) (s1 : s ≤ 9223372036854775807) (t0 : -9223372036854775808 ≤ t) (t1 : t ≤ 9223372036854775807) (d0 : -9223372036854775808 ≤ d) (d1 : d ≤ 9223372036854775807) (m0 : 0 ≤ m) (m1 : m < 4294967296) (w : World) : Calls Tryz.prog 29 #[.agg #[.int .i64 o, .int .i64 s, .int .i64 t, .int .i64 d, .int .u32 m], .int .i32 105] w fun e w' => e = .returned (.int .i64 (s16 m)) ∧ Below w.heap.size w w' := by
  go_enter Tryz.func29, Tryz.ntmps29
  go_wp2_with (go_at_call 64; refine (register105 _ _).mono ?_; rintro e w' ⟨rfl, rfl⟩)
  go_ret; refine ⟨?_, (Below.refl _ _).alloc (Nat.le_refl _) _⟩
  rw [← wrap16 m]; rfl
set_option maxHeartbeats 1000000 in
theorem value117 (o s t d m : Int) (s0 : -9223372036854775808 ≤ s) (s1 : s ≤ 9223372036854775807) (t0 : -9223372036854775808 ≤ t) (t1 : t ≤ 9223372036854775807) (d0 : -9223372036854775808 ≤ d) (d1 : d ≤ 9223372036854775807) (m0 : 0 ≤ m) (m1 : m < 4294967296) (w : World) : Calls Tryz.prog 29 #[.agg #[.int .i64 o, .int .i64 s, .int .i64 t, .int .i64 d, .int .u32 m], .int .i32 117] w fun e w' => e = .returned (.int .i64 m) ∧ Below w.heap.size w w' := by
  go_enter Tryz.func29, Tryz.ntmps29
  go_wp2_with (go_at_call 64; refine (register117 _ _).mono ?_; rintro e w' ⟨rfl, rfl⟩)
  go_ret; refine ⟨?_, (Below.refl _ _).alloc (Nat.le_refl _) _⟩
  rfl
set_option maxHeartbeats 1000000 in
theorem value106 (o s t d m : Int) (s0 : -9223372036854775808 ≤ s) (s1 : s ≤ 9223372036854775807) (t0 : -9223372036854775808 ≤ t) (t1 : t ≤ 9223372036854775807) (d0 : -9223372036854775808 ≤ d) (d1 : d ≤ 9223372036854775807) (m0 : 0 ≤ m) (m1 : m < 4294967296) (w : World) : Calls Tryz.prog 29 #[.agg #[.int .i64 o, .int .i64 s, .int .i64 t, .int .i64 d, .int .u32 m], .int .i32 106] w fun e w' => e = .returned (.int .i64 m) ∧ Below w.heap.size w w' := by
  go_enter Tryz.func29, Tryz.ntmps29
  go_wp2_with (go_at_call 64; refine (register106 _ _).mono ?_; rintro e w' ⟨rfl, rfl⟩)
  go_ret; refine ⟨?_, (Below.refl _ _).alloc (Nat.le_refl _) _⟩
  rfl
set_option maxHeartbeats 1000000 in
theorem put83_in (b : Nat) (n : Int) (h0 : 0 ≤ n) (h1 : n ≤ 31) (w : World) (old : Value) (hc : w.cell? ⟨b, 1, none⟩ = some old) (hf : w.frozen? ⟨b, 1, none⟩ = false) :
    Calls Tryz.prog 37 #[.pointer (some ⟨b, 0, none⟩), .int .i32 83, .int .i64 n] w fun e w' => e = .returned (.bool true) ∧ w' = w.setCell ⟨b, 1, none⟩ (.int .i64 n) := by
  go_enter Tryz.func37, Tryz.ntmps37
  go_wp2_with (first | (go_at_call 27; refine (isNumber83 _).mono ?_; rintro e w' ⟨rfl, rfl⟩) | (go_at_call 62; refine (bounds83 _).mono ?_; rintro e w' ⟨rfl, rfl⟩) | (go_at_call 64; refine (register83 _ _).mono ?_; rintro e w' ⟨rfl, rfl⟩))
  go_ret; exact ⟨rfl, rfl⟩
set_option maxHeartbeats 1000000 in
theorem put83_out (b : Nat) (n : Int) (n0 : -9223372036854775808 ≤ n) (n1 : n ≤ 9223372036854775807) (h : n < 0 ∨ 31 < n) (w : World) :
    Calls Tryz.prog 37 #[.pointer (some ⟨b, 0, none⟩), .int .i32 83, .int .i64 n] w fun e w' => e = .returned (.bool false) ∧ w' = w := by
  rcases h with h | h
  all_goals
    go_enter Tryz.func37, Tryz.ntmps37
    go_wp2_with (first | (go_at_call 27; refine (isNumber83 _).mono ?_; rintro e w' ⟨rfl, rfl⟩) | (go_at_call 62; refine (bounds83 _).mono ?_; rintro e w' ⟨rfl, rfl⟩))
    go_ret; exact ⟨rfl, rfl⟩
set_option maxHeartbeats 1000000 in
theorem put84_in (b : Nat) (n : Int) (h0 : 0 ≤ n) (h1 : n ≤ 31) (w : World) (old : Value) (hc : w.cell? ⟨b, 2, none⟩ = some old) (hf : w.frozen? ⟨b, 2, none⟩ = false) :
    Calls Tryz.prog 37 #[.pointer (some ⟨b, 0, none⟩), .int .i32 84, .int .i64 n] w fun e w' => e = .returned (.bool true) ∧ w' = w.setCell ⟨b, 2, none⟩ (.int .i64 n) := by
  go_enter Tryz.func37, Tryz.ntmps37
  go_wp2_with (first | (go_at_call 27; refine (isNumber84 _).mono ?_; rintro e w' ⟨rfl, rfl⟩) | (go_at_call 62; refine (bounds84 _).mono ?_; rintro e w' ⟨rfl, rfl⟩) | (go_at_call 64; refine (register84 _ _).mono ?_; rintro e w' ⟨rfl, rfl⟩))
  go_ret; exact ⟨rfl, rfl⟩
set_option maxHeartbeats 1000000 in
theorem put84_out (b : Nat) (n : Int) (n0 : -9223372036854775808 ≤ n) (n1 : n ≤ 9223372036854775807) (h : n < 0 ∨ 31 < n) (w : World) :
    Calls Tryz.prog 37 #[.pointer (some ⟨b, 0, none⟩), .int .i32 84, .int .i64 n] w fun e w' => e = .returned (.bool false) ∧ w' = w := by
  rcases h with h | h
  all_goals
    go_enter Tryz.func37, Tryz.ntmps37
    go_wp2_with (first | (go_at_call 27; refine (isNumber84 _).mono ?_; rintro e w' ⟨rfl, rfl⟩) | (go_at_call 62; refine (bounds84 _).mono ?_; rintro e w' ⟨rfl, rfl⟩))
    go_ret; exact ⟨rfl, rfl⟩
set_option maxHeartbeats 1000000 in
theorem put68_in (b : Nat) (n : Int) (h0 : 0 ≤ n) (h1 : n ≤ 31) (w : World) (old : Value) (hc : w.cell? ⟨b, 3, none⟩ = some old) (hf : w.frozen? ⟨b, 3, none⟩ = false) :
    Calls Tryz.prog 37 #[.pointer (some ⟨b, 0, none⟩), .int .i32 68, .int .i64 n] w fun e w' => e = .returned (.bool true) ∧ w' = w.setCell ⟨b, 3, none⟩ (.int .i64 n) := by
  go_enter Tryz.func37, Tryz.ntmps37
  go_wp2_with (first | (go_at_call 27; refine (isNumber68 _).mono ?_; rintro e w' ⟨rfl, rfl⟩) | (go_at_call 62; refine (bounds68 _).mono ?_; rintro e w' ⟨rfl, rfl⟩) | (go_at_call 64; refine (register68 _ _).mono ?_; rintro e w' ⟨rfl, rfl⟩))
  go_ret; exact ⟨rfl, rfl⟩
set_option maxHeartbeats 1000000 in
theorem put68_out (b : Nat) (n : Int) (n0 : -9223372036854775808 ≤ n) (n1 : n ≤ 9223372036854775807) (h : n < 0 ∨ 31 < n) (w : World) :
    Calls Tryz.prog 37 #[.pointer (some ⟨b, 0, none⟩), .int .i32 68, .int .i64 n] w fun e w' => e = .returned (.bool false) ∧ w' = w := by
  rcases h with h | h
  all_goals
    go_enter Tryz.func37, Tryz.ntmps37
    go_wp2_with (first | (go_at_call 27; refine (isNumber68 _).mono ?_; rintro e w' ⟨rfl, rfl⟩) | (go_at_call 62; refine (bounds68 _).mono ?_; rintro e w' ⟨rfl, rfl⟩))
    go_ret; exact ⟨rfl, rfl⟩
set_option maxHeartbeats 1000000 in
theorem put97_in (b : Nat) (n : Int) (h0 : 0 ≤ n) (h1 : n ≤ 31) (w : World) (old : Value) (hc : w.cell? ⟨b, 4, none⟩ = some old) (hf : w.frozen? ⟨b, 4, none⟩ = false) :
    Calls Tryz.prog 37 #[.pointer (some ⟨b, 0, none⟩), .int .i32 97, .int .i64 n] w fun e w' => e = .returned (.bool true) ∧ w' = w.setCell ⟨b, 4, none⟩ (.int .u32 n) := by
  go_enter Tryz.func37, Tryz.ntmps37
  go_wp2_with (first | (go_at_call 27; refine (isNumber97 _).mono ?_; rintro e w' ⟨rfl, rfl⟩) | (go_at_call 62; refine (bounds97 _).mono ?_; rintro e w' ⟨rfl, rfl⟩) | (go_at_call 64; refine (register97 _ _).mono ?_; rintro e w' ⟨rfl, rfl⟩))
  go_ret; exact ⟨rfl, rfl⟩
set_option maxHeartbeats 1000000 in
theorem put97_out (b : Nat) (n : Int) (n0 : -9223372036854775808 ≤ n) (n1 : n ≤ 9223372036854775807) (h : n < 0 ∨ 31 < n) (w : World) :
    Calls Tryz.prog 37 #[.pointer (some ⟨b, 0, none⟩), .int .i32 97, .int .i64 n] w fun e w' => e = .returned (.bool false) ∧ w' = w := by
  rcases h with h | h
  all_goals
    go_enter Tryz.func37, Tryz.ntmps37
    go_wp2_with (first | (go_at_call 27; refine (isNumber97 _).mono ?_; rintro e w' ⟨rfl, rfl⟩) | (go_at_call 62; refine (bounds97 _).mono ?_; rintro e w' ⟨rfl, rfl⟩))
    go_ret; exact ⟨rfl, rfl⟩
set_option maxHeartbeats 1000000 in
theorem put105_in (b : Nat) (n : Int) (h0 : -32768 ≤ n) (h1 : n ≤ 32767) (w : World) (old : Value) (hc : w.cell? ⟨b, 4, none⟩ = some old) (hf : w.frozen? ⟨b, 4, none⟩ = false) :
    Calls Tryz.prog 37 #[.pointer (some ⟨b, 0, none⟩), .int .i32 105, .int .i64 n] w fun e w' => e = .returned (.bool true) ∧ w' = (w.setCell ⟨b, 4, none⟩ (.int .u32 (n % 4294967296))).setCell ⟨b, 4, none⟩ (.int .u32 (n % 65536)) := by
  go_enter Tryz.func37, Tryz.ntmps37
  go_wp2_with (first | (go_at_call 27; refine (isNumber105 _).mono ?_; rintro e w' ⟨rfl, rfl⟩) | (go_at_call 62; refine (bounds105 _).mono ?_; rintro e w' ⟨rfl, rfl⟩) | (go_at_call 64; refine (register105 _ _).mono ?_; rintro e w' ⟨rfl, rfl⟩))
  go_ret; refine ⟨rfl, ?_⟩; rw [wrapu16]
set_option maxHeartbeats 1000000 in
theorem put105_out (b : Nat) (n : Int) (n0 : -9223372036854775808 ≤ n) (n1 : n ≤ 9223372036854775807) (h : n < -32768 ∨ 32767 < n) (w : World) :
    Calls Tryz.prog 37 #[.pointer (some ⟨b, 0, none⟩), .int .i32 105, .int .i64 n] w fun e w' => e = .returned (.bool false) ∧ w' = w := by
  rcases h with h | h
  all_goals
    go_enter Tryz.func37, Tryz.ntmps37
    go_wp2_with (first | (go_at_call 27; refine (isNumber105 _).mono ?_; rintro e w' ⟨rfl, rfl⟩) | (go_at_call 62; refine (bounds105 _).mono ?_; rintro e w' ⟨rfl, rfl⟩))
    go_ret; exact ⟨rfl, rfl⟩
set_option maxHeartbeats 1000000 in
theorem put117_in (b : Nat) (n : Int) (h0 : 0 ≤ n) (h1 : n ≤ 65535) (w : World) (old : Value) (hc : w.cell? ⟨b, 4, none⟩ = some old) (hf : w.frozen? ⟨b, 4, none⟩ = false) :
    Calls Tryz.prog 37 #[.pointer (some ⟨b, 0, none⟩), .int .i32 117, .int .i64 n] w fun e w' => e = .returned (.bool true) ∧ w' = w.setCell ⟨b, 4, none⟩ (.int .u32 n) := by
  go_enter Tryz.func37, Tryz.ntmps37
  go_wp2_with (first | (go_at_call 27; refine (isNumber117 _).mono ?_; rintro e w' ⟨rfl, rfl⟩) | (go_at_call 62; refine (bounds117 _).mono ?_; rintro e w' ⟨rfl, rfl⟩) | (go_at_call 64; refine (register117 _ _).mono ?_; rintro e w' ⟨rfl, rfl⟩))
  go_ret; exact ⟨rfl, rfl⟩
set_option maxHeartbeats 1000000 in
theorem put117_out (b : Nat) (n : Int) (n0 : -9223372036854775808 ≤ n) (n1 : n ≤ 9223372036854775807) (h : n < 0 ∨ 65535 < n) (w : World) :
    Calls Tryz.prog 37 #[.pointer (some ⟨b, 0, none⟩), .int .i32 117, .int .i64 n] w fun e w' => e = .returned (.bool false) ∧ w' = w := by
  rcases h with h | h
  all_goals
    go_enter Tryz.func37, Tryz.ntmps37
    go_wp2_with (first | (go_at_call 27; refine (isNumber117 _).mono ?_; rintro e w' ⟨rfl, rfl⟩) | (go_at_call 62; refine (bounds117 _).mono ?_; rintro e w' ⟨rfl, rfl⟩))
    go_ret; exact ⟨rfl, rfl⟩
set_option maxHeartbeats 1000000 in
theorem put106_in (b : Nat) (n : Int) (h0 : 0 ≤ n) (h1 : n ≤ 67108863) (w : World) (old : Value) (hc : w.cell? ⟨b, 4, none⟩ = some old) (hf : w.frozen? ⟨b, 4, none⟩ = false) :
    Calls Tryz.prog 37 #[.pointer (some ⟨b, 0, none⟩), .int .i32 106, .int .i64 n] w fun e w' => e = .returned (.bool true) ∧ w' = w.setCell ⟨b, 4, none⟩ (.int .u32 n) := by
  go_enter Tryz.func37, Tryz.ntmps37
  go_wp2_with (first | (go_at_call 27; refine (isNumber106 _).mono ?_; rintro e w' ⟨rfl, rfl⟩) | (go_at_call 62; refine (bounds106 _).mono ?_; rintro e w' ⟨rfl, rfl⟩) | (go_at_call 64; refine (register106 _ _).mono ?_; rintro e w' ⟨rfl, rfl⟩))
  go_ret; exact ⟨rfl, rfl⟩
set_option maxHeartbeats 1000000 in
theorem put106_out (b : Nat) (n : Int) (n0 : -9223372036854775808 ≤ n) (n1 : n ≤ 9223372036854775807) (h : n < 0 ∨ 67108863 < n) (w : World) :
    Calls Tryz.prog 37 #[.pointer (some ⟨b, 0, none⟩), .int .i32 106, .int .i64 n] w fun e w' => e = .returned (.bool false) ∧ w' = w := by
  rcases h with h | h
  all_goals
    go_enter Tryz.func37, Tryz.ntmps37
    go_wp2_with (first | (go_at_call 27; refine (isNumber106 _).mono ?_; rintro e w' ⟨rfl, rfl⟩) | (go_at_call 62; refine (bounds106 _).mono ?_; rintro e w' ⟨rfl, rfl⟩))
    go_ret; exact ⟨rfl, rfl⟩
set_option maxHeartbeats 1000000 in
theorem putN (b : Nat) (x n : Int) (h83 : ¬ x = 83) (h84 : ¬ x = 84) (h68 : ¬ x = 68) (h97 : ¬ x = 97) (h105 : ¬ x = 105) (h117 : ¬ x = 117) (h106 : ¬ x = 106) (w : World) :
    Calls Tryz.prog 37 #[.pointer (some ⟨b, 0, none⟩), .int .i32 x, .int .i64 n] w fun e w' => e = .returned (.bool true) ∧ w' = w := by
  go_enter Tryz.func37, Tryz.ntmps37
  go_wp2_with (go_at_call 27; refine (isNumberN x h83 h84 h68 h97 h105 h117 h106 _).mono ?_; rintro e w' ⟨rfl, rfl⟩)
  go_ret; exact ⟨rfl, rfl⟩
def formI (op : Int) : List UInt8 := if 0 ≤ op ∧ op < 54 then form op.toNat else []
theorem form_none : ∀ k : Nat, k < 54 → form k = [] ∨ (1 ≤ k ∧ k ≤ 8) ∨ (11 ≤ k ∧ k ≤ 44) ∨ (46 ≤ k ∧ k ≤ 53) := by decide
set_option maxHeartbeats 4000000 in
theorem form_any (op : Int) (w : World) : Calls Tryz.prog 26 #[.int .i64 op] w fun e w' => e = .returned (.string ⟨(formI op).toArray⟩) ∧ w' = w := by
  go_enter Tryz.func26, Tryz.ntmps26
  go_wp2
  all_goals go_ret
  all_goals refine ⟨?_, rfl⟩
  all_goals
    first
    | (rename_i h; have h := eq_of_beq h; subst h; exact rfl)
    | (have e : formI op = [] := by
         unfold formI
         by_cases hr : 0 ≤ op ∧ op < 54
         · rw [if_pos hr]
           have := form_none op.toNat (by omega)
           rcases this with h | h
           · exact h
           · exfalso
             simp only [beq_eq_false_iff_ne, ne_eq] at *
             omega
         · rw [if_neg hr]
       rw [e]; rfl)
theorem form_nat (k : Nat) (hk : k < 54) (w : World) : Calls Tryz.prog 26 #[.int .i64 k] w fun e w' => e = .returned (.string ⟨(form k).toArray⟩) ∧ w' = w := by
  have h := form_any (k : Int) w
  rwa [formI, if_pos (by omega), show ((k : Int)).toNat = k by omega] at h
end Go.Proofs.YtccnliihdhnckaaGreatDoor
