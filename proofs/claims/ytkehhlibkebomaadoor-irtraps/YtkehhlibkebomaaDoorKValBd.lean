/-
  What a kind writes is a word.
-/
import Derived.Test.YtkehhlibkebomaaDoorKDocNum
import Derived.Test.YtkehhlibkebomaaDoorKOptPure2
namespace Go.Proofs.YtkehhlibkebomaaDoor
open Num
set_option linter.unusedVariables false
def u32 (x : Int) : Prop := 0 ≤ x ∧ x < 4294967296
theorem u32_and_bd {a b : Int} (ha : u32 a) (hb : u32 b) : u32 (bits .and .u32 a b) := by
  obtain ⟨x, rfl⟩ : ∃ n : Nat, a = n := ⟨a.toNat, by have := ha.1; omega⟩
  obtain ⟨y, rfl⟩ : ∃ n : Nat, b = n := ⟨b.toNat, by have := hb.1; omega⟩
  have h1 := ha.2
  have h2 := hb.2
  rw [u32_and_nat x y (by omega) (by omega)]
  exact ⟨by omega, by have : x &&& y ≤ x := Nat.and_le_left; omega⟩
theorem u32_or_bd {a b : Int} (ha : u32 a) (hb : u32 b) : u32 (bits .or .u32 a b) := by
  obtain ⟨x, rfl⟩ : ∃ n : Nat, a = n := ⟨a.toNat, by have := ha.1; omega⟩
  obtain ⟨y, rfl⟩ : ∃ n : Nat, b = n := ⟨b.toNat, by have := hb.1; omega⟩
  have h1 := ha.2
  have h2 := hb.2
  rw [u32_or_nat x y (by omega) (by omega)]
  exact ⟨by omega, by have : x ||| y < 2 ^ 32 := Nat.or_lt_two_pow (by omega) (by omega); omega⟩
theorem u32_xor_bd {a b : Int} (ha : u32 a) (hb : u32 b) : u32 (bits .xor .u32 a b) := by
  obtain ⟨x, rfl⟩ : ∃ n : Nat, a = n := ⟨a.toNat, by have := ha.1; omega⟩
  obtain ⟨y, rfl⟩ : ∃ n : Nat, b = n := ⟨b.toNat, by have := hb.1; omega⟩
  have h1 := ha.2
  have h2 := hb.2
  rw [u32_xor_nat x y (by omega) (by omega)]
  exact ⟨by omega, by have : x ^^^ y < 2 ^ 32 := Nat.xor_lt_two_pow (by omega) (by omega); omega⟩
theorem u32_ite {c : Prop} [Decidable c] {x y : Int} (hx : u32 x) (hy : u32 y) : u32 (if c then x else y) := by split <;> assumption
theorem valV_bd (k : Nat) {a b d i : Int} (ha : u32 a) (hb : u32 b) (hd : u32 d) (hi : u32 i) : u32 (valV k a b d i) := by
  have h1 : u32 1 := ⟨by omega, by omega⟩
  have h0 : u32 0 := ⟨by omega, by omega⟩
  unfold valV
  repeat' (first | exact shf_bd ha.1 ha.2 | apply u32_ite)
  all_goals first | assumption | exact lo_bd _ | exact hi_bd _ | exact u32_and_bd ha hb | exact u32_or_bd ha hb | exact u32_xor_bd ha hb | exact u32_xor_bd ⟨by omega, by omega⟩ (u32_or_bd ha hb) | exact shf_bd ha.1 ha.2 | exact quo_bd _ _ _ | exact rst_bd _ _ _
end Go.Proofs.YtkehhlibkebomaaDoor
/-
  The document's bits: two words, one by one, by a table of four.
-/
namespace Go.Proofs.YtkehhlibkebomaaDoor
open Go.RowKit
open Num
set_option linter.unusedVariables false
def gB (T : Nat) : Nat → Nat → Nat → Nat
  | 0, _, _ => 0
  | n + 1, x, y => (T / 2 ^ (2 * (x % 2) + y % 2)) % 2 + 2 * gB T n (x / 2) (y / 2)
end Go.Proofs.YtkehhlibkebomaaDoor
