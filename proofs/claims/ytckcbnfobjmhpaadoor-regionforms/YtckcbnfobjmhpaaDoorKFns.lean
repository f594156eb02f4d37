/-
  What the small functions of package code, of package word, and of the verifier's own answer.
-/
import Derived.Test.YtckcbnfobjmhpaaDoorProg
import Derived.Test.YtckcbnfobjmhpaaDoorNum
import Derived.Test.YtckcbnfobjmhpaaDoorTab
import Derived.WalkKit
import Derived.Below
import Derived.Deep.QuietTactic
import Derived.BigQuiet
namespace Go.Proofs.YtckcbnfobjmhpaaDoor.K
open Go.RowKit
open Num Tab
set_option linter.unusedVariables false
theorem ret_int {k : IntKind} {a b : Int} (h : a = b) : Ending.returned (.int k a) = .returned (.int k b) := by rw [h]
theorem ret_bool {a b : Bool} (h : a = b) : Ending.returned (.bool a) = .returned (.bool b) := by rw [h]
set_option maxHeartbeats 1000000 in
theorem shift_any (k a n : Int) (h0 : 0 ≤ a) (h1 : a < 4294967296) (g0 : 0 ≤ n) (w : World) :
    Calls Tryd.prog 56 #[.int .u8 k, .int .u32 a, .int .u32 n] w fun e w' => e = .returned (.int .u32 (shf k a n)) ∧ w' = w := by
  by_cases k1 : k = 60
  · subst k1
    go_enter Tryd.func56, Tryd.ntmps56
    go_wp2
    go_ret
    exact ⟨rfl, rfl⟩
  by_cases k2 : k = 62
  · subst k2
    go_enter Tryd.func56, Tryd.ntmps56
    go_wp2
    go_ret
    exact ⟨rfl, rfl⟩
  by_cases k3 : k = 126
  · subst k3
    go_enter Tryd.func56, Tryd.ntmps56
    go_wp2
    go_ret
    exact ⟨ret_int (by rw [sg_of_wrap h0 h1]; rfl), rfl⟩
  have e1 : (k == 60) = false := by simpa using k1
  have e2 : (k == 62) = false := by simpa using k2
  have e3 : (k == 126) = false := by simpa using k3
  have e' : shf k a n = a := by unfold shf; rw [if_neg k1, if_neg k2, if_neg k3]
  have e : Hid (shf k a n = a) := e'
  clear e' k1 k2 k3
  go_enter Tryd.func56, Tryd.ntmps56
  go_wp2
  go_ret
  exact ⟨ret_int e.out.symm, rfl⟩
theorem place83 (w : World) : Calls Tryd.prog 53 #[.int .i32 83] w fun e w' => e = .returned (.tuple #[.int .i64 21, .int .i64 5]) ∧ w' = w := by
  go_enter Tryd.func53, Tryd.ntmps53
  go_wp2
  go_ret2
  exact ⟨rfl, rfl⟩
theorem place84 (w : World) : Calls Tryd.prog 53 #[.int .i32 84] w fun e w' => e = .returned (.tuple #[.int .i64 16, .int .i64 5]) ∧ w' = w := by
  go_enter Tryd.func53, Tryd.ntmps53
  go_wp2
  go_ret2
  exact ⟨rfl, rfl⟩
theorem place68 (w : World) : Calls Tryd.prog 53 #[.int .i32 68] w fun e w' => e = .returned (.tuple #[.int .i64 11, .int .i64 5]) ∧ w' = w := by
  go_enter Tryd.func53, Tryd.ntmps53
  go_wp2
  go_ret2
  exact ⟨rfl, rfl⟩
theorem place97 (w : World) : Calls Tryd.prog 53 #[.int .i32 97] w fun e w' => e = .returned (.tuple #[.int .i64 6, .int .i64 5]) ∧ w' = w := by
  go_enter Tryd.func53, Tryd.ntmps53
  go_wp2
  go_ret2
  exact ⟨rfl, rfl⟩
theorem place105 (w : World) : Calls Tryd.prog 53 #[.int .i32 105] w fun e w' => e = .returned (.tuple #[.int .i64 0, .int .i64 16]) ∧ w' = w := by
  go_enter Tryd.func53, Tryd.ntmps53
  go_wp2
  go_ret2
  exact ⟨rfl, rfl⟩
theorem place106 (w : World) : Calls Tryd.prog 53 #[.int .i32 106] w fun e w' => e = .returned (.tuple #[.int .i64 0, .int .i64 26]) ∧ w' = w := by
  go_enter Tryd.func53, Tryd.ntmps53
  go_wp2
  go_ret2
  exact ⟨rfl, rfl⟩
set_option maxHeartbeats 1000000 in
theorem isOp_any (k : Int) (w : World) : Calls Tryd.prog 51 #[.int .i64 k] w fun e w' => e = .returned (.bool (decide (0 < k ∧ k < 54))) ∧ w' = w := by
  by_cases h : 0 < k
  · go_enter Tryd.func51, Tryd.ntmps51
    go_wp2
    go_ret
    exact ⟨ret_bool (by simp [h]), rfl⟩
  · go_enter Tryd.func51, Tryd.ntmps51
    go_wp2
    go_ret
    exact ⟨ret_bool (by simp; omega), rfl⟩
set_option maxHeartbeats 1000000 in
theorem take83 (o s t d m : Int) (h0 : 0 ≤ m) (h1 : m < 4294967296) (w : World) : Calls Tryd.prog 54 #[.agg #[.int .i64 o, .int .i64 s, .int .i64 t, .int .i64 d, .int .u32 m], .int .i32 83] w fun e w' => e = .returned (.int .u64 (s % 18446744073709551616)) ∧ Below w.heap.size w w' := by
  go_enter Tryd.func54, Tryd.ntmps54
  go_wp2
  go_ret
  exact ⟨rfl, (Below.refl _ _).alloc (Nat.le_refl _) _⟩
set_option maxHeartbeats 1000000 in
theorem take84 (o s t d m : Int) (h0 : 0 ≤ m) (h1 : m < 4294967296) (w : World) : Calls Tryd.prog 54 #[.agg #[.int .i64 o, .int .i64 s, .int .i64 t, .int .i64 d, .int .u32 m], .int .i32 84] w fun e w' => e = .returned (.int .u64 (t % 18446744073709551616)) ∧ Below w.heap.size w w' := by
  go_enter Tryd.func54, Tryd.ntmps54
  go_wp2
  go_ret
  exact ⟨rfl, (Below.refl _ _).alloc (Nat.le_refl _) _⟩
set_option maxHeartbeats 1000000 in
theorem take68 (o s t d m : Int) (h0 : 0 ≤ m) (h1 : m < 4294967296) (w : World) : Calls Tryd.prog 54 #[.agg #[.int .i64 o, .int .i64 s, .int .i64 t, .int .i64 d, .int .u32 m], .int .i32 68] w fun e w' => e = .returned (.int .u64 (d % 18446744073709551616)) ∧ Below w.heap.size w w' := by
  go_enter Tryd.func54, Tryd.ntmps54
  go_wp2
  go_ret
  exact ⟨rfl, (Below.refl _ _).alloc (Nat.le_refl _) _⟩
set_option maxHeartbeats 1000000 in
theorem take97 (o s t d m : Int) (h0 : 0 ≤ m) (h1 : m < 4294967296) (w : World) : Calls Tryd.prog 54 #[.agg #[.int .i64 o, .int .i64 s, .int .i64 t, .int .i64 d, .int .u32 m], .int .i32 97] w fun e w' => e = .returned (.int .u64 (m)) ∧ Below w.heap.size w w' := by
  go_enter Tryd.func54, Tryd.ntmps54
  go_wp2
  go_ret
  exact ⟨rfl, (Below.refl _ _).alloc (Nat.le_refl _) _⟩
set_option maxHeartbeats 1000000 in
theorem take105 (o s t d m : Int) (h0 : 0 ≤ m) (h1 : m < 4294967296) (w : World) : Calls Tryd.prog 54 #[.agg #[.int .i64 o, .int .i64 s, .int .i64 t, .int .i64 d, .int .u32 m], .int .i32 105] w fun e w' => e = .returned (.int .u64 (m)) ∧ Below w.heap.size w w' := by
  go_enter Tryd.func54, Tryd.ntmps54
  go_wp2
  go_ret
  exact ⟨rfl, (Below.refl _ _).alloc (Nat.le_refl _) _⟩
set_option maxHeartbeats 1000000 in
theorem take106 (o s t d m : Int) (h0 : 0 ≤ m) (h1 : m < 4294967296) (w : World) : Calls Tryd.prog 54 #[.agg #[.int .i64 o, .int .i64 s, .int .i64 t, .int .i64 d, .int .u32 m], .int .i32 106] w fun e w' => e = .returned (.int .u64 (m)) ∧ Below w.heap.size w w' := by
  go_enter Tryd.func54, Tryd.ntmps54
  go_wp2
  go_ret
  exact ⟨rfl, (Below.refl _ _).alloc (Nat.le_refl _) _⟩
set_option maxHeartbeats 1000000 in
theorem put83 (b : Nat) (v : Int) (h0 : 0 ≤ v) (h1 : v < 4294967296) (w : World) (old : Value) (hc : w.cell? ⟨b, 1, none⟩ = some old) (hf : w.frozen? ⟨b, 1, none⟩ = false) :
    Calls Tryd.prog 55 #[.pointer (some ⟨b, 0, none⟩), .int .i32 83, .int .u32 v] w fun e w' => e = .returned (.tuple #[]) ∧ w' = w.setCell ⟨b, 1, none⟩ (.int .i64 v) := by
  go_enter Tryd.func55, Tryd.ntmps55
  go_wp2
  go_end0
  exact ⟨rfl, rfl⟩
set_option maxHeartbeats 1000000 in
theorem put84 (b : Nat) (v : Int) (h0 : 0 ≤ v) (h1 : v < 4294967296) (w : World) (old : Value) (hc : w.cell? ⟨b, 2, none⟩ = some old) (hf : w.frozen? ⟨b, 2, none⟩ = false) :
    Calls Tryd.prog 55 #[.pointer (some ⟨b, 0, none⟩), .int .i32 84, .int .u32 v] w fun e w' => e = .returned (.tuple #[]) ∧ w' = w.setCell ⟨b, 2, none⟩ (.int .i64 v) := by
  go_enter Tryd.func55, Tryd.ntmps55
  go_wp2
  go_end0
  exact ⟨rfl, rfl⟩
set_option maxHeartbeats 1000000 in
theorem put68 (b : Nat) (v : Int) (h0 : 0 ≤ v) (h1 : v < 4294967296) (w : World) (old : Value) (hc : w.cell? ⟨b, 3, none⟩ = some old) (hf : w.frozen? ⟨b, 3, none⟩ = false) :
    Calls Tryd.prog 55 #[.pointer (some ⟨b, 0, none⟩), .int .i32 68, .int .u32 v] w fun e w' => e = .returned (.tuple #[]) ∧ w' = w.setCell ⟨b, 3, none⟩ (.int .i64 v) := by
  go_enter Tryd.func55, Tryd.ntmps55
  go_wp2
  go_end0
  exact ⟨rfl, rfl⟩
set_option maxHeartbeats 1000000 in
theorem put97 (b : Nat) (v : Int) (h0 : 0 ≤ v) (h1 : v < 4294967296) (w : World) (old : Value) (hc : w.cell? ⟨b, 4, none⟩ = some old) (hf : w.frozen? ⟨b, 4, none⟩ = false) :
    Calls Tryd.prog 55 #[.pointer (some ⟨b, 0, none⟩), .int .i32 97, .int .u32 v] w fun e w' => e = .returned (.tuple #[]) ∧ w' = w.setCell ⟨b, 4, none⟩ (.int .u32 v) := by
  go_enter Tryd.func55, Tryd.ntmps55
  go_wp2
  go_end0
  exact ⟨rfl, rfl⟩
set_option maxHeartbeats 1000000 in
theorem put105 (b : Nat) (v : Int) (h0 : 0 ≤ v) (h1 : v < 4294967296) (w : World) (old : Value) (hc : w.cell? ⟨b, 4, none⟩ = some old) (hf : w.frozen? ⟨b, 4, none⟩ = false) :
    Calls Tryd.prog 55 #[.pointer (some ⟨b, 0, none⟩), .int .i32 105, .int .u32 v] w fun e w' => e = .returned (.tuple #[]) ∧ w' = w.setCell ⟨b, 4, none⟩ (.int .u32 v) := by
  go_enter Tryd.func55, Tryd.ntmps55
  go_wp2
  go_end0
  exact ⟨rfl, rfl⟩
set_option maxHeartbeats 1000000 in
theorem put106 (b : Nat) (v : Int) (h0 : 0 ≤ v) (h1 : v < 4294967296) (w : World) (old : Value) (hc : w.cell? ⟨b, 4, none⟩ = some old) (hf : w.frozen? ⟨b, 4, none⟩ = false) :
    Calls Tryd.prog 55 #[.pointer (some ⟨b, 0, none⟩), .int .i32 106, .int .u32 v] w fun e w' => e = .returned (.tuple #[]) ∧ w' = w.setCell ⟨b, 4, none⟩ (.int .u32 v) := by
  go_enter Tryd.func55, Tryd.ntmps55
  go_wp2
  go_end0
  exact ⟨rfl, rfl⟩
end Go.Proofs.YtckcbnfobjmhpaaDoor.K
