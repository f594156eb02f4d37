/-
  What a kind writes is a word.
-/
import Derived.Test.YtcccaejjhodnkaaDoorOptPure2
namespace Go.Proofs.YtcccaejjhodnkaaDoor
open Num
set_option linter.unusedVariables false
def u32 (x : Int) : Prop := 0 ≤ x ∧ x < 4294967296
theorem u32_and_bd {a b : Int} (ha : u32 a) (hb : u32 b) : u32 (bits .and .u32 a b) := by
  obtain ⟨x, rfl⟩ : ∃ n : Nat, a = n := ⟨a.toNat, by have := ha.1; omega⟩
  obtain ⟨y, rfl⟩ : ∃ n : Nat, b = n := ⟨b.toNat, by have := hb.1; omega⟩
  have h1 := ha.2
  have h2 := hb.2
  rw [u32_and_nat x y (by omega) (by omega)]
  exact ⟨by omega, by have : x &&& y ≤ x := Nat.and_le_left; omega⟩
theorem u32_or_bd {a b : Int} (ha : u32 a) (hb : u32 b) : u32 (bits .or .u32 a b) := by
  obtain ⟨x, rfl⟩ : ∃ n : Nat, a = n := ⟨a.toNat, by have := ha.1; omega⟩
  obtain ⟨y, rfl⟩ : ∃ n : Nat, b = n := ⟨b.toNat, by have := hb.1; omega⟩
  have h1 := ha.2
  have h2 := hb.2
  rw [u32_or_nat x y (by omega) (by omega)]
  exact ⟨by omega, by have : x ||| y < 2 ^ 32 := Nat.or_lt_two_pow (by omega) (by omega); omega⟩
theorem u32_xor_bd {a b : Int} (ha : u32 a) (hb : u32 b) : u32 (bits .xor .u32 a b) := by
  obtain ⟨x, rfl⟩ : ∃ n : Nat, a = n := ⟨a.toNat, by have := ha.1; omega⟩
  obtain ⟨y, rfl⟩ : ∃ n : Nat, b = n := ⟨b.toNat, by have := hb.1; omega⟩
  have h1 := ha.2
  have h2 := hb.2
  rw [u32_xor_nat x y (by omega) (by omega)]
  exact ⟨by omega, by have : x ^^^ y < 2 ^ 32 := Nat.xor_lt_two_pow (by omega) (by omega); omega⟩
theorem u32_ite {c : Prop} [Decidable c] {x y : Int} (hx : u32 x) (hy : u32 y) : u32 (if c then x else y) := by split <;> assumption
theorem valV_bd (k : Nat) {a b d i : Int} (ha : u32 a) (hb : u32 b) (hd : u32 d) (hi : u32 i) : u32 (valV k a b d i) := by
  have h1 : u32 1 := ⟨by omega, by omega⟩
  have h0 : u32 0 := ⟨by omega, by omega⟩
  unfold valV
  repeat' (first | exact shf_bd ha.1 ha.2 | apply u32_ite)
  all_goals first | assumption | exact lo_bd _ | exact hi_bd _ | exact u32_and_bd ha hb | exact u32_or_bd ha hb | exact u32_xor_bd ha hb | exact u32_xor_bd ⟨by omega, by omega⟩ (u32_or_bd ha hb) | exact shf_bd ha.1 ha.2 | exact quo_bd _ _ _ | exact rst_bd _ _ _
theorem res_bd {f : Fx} {o : Opx} {v : Int} (hf : ∀ x v, f x = some v → 0 ≤ v ∧ v < 4294967296) (h : resF f o = some v) : 0 ≤ v ∧ v < 4294967296 := by
  unfold resF at h
  split at h
  · exact hf _ _ h
  · split at h
    · rename_i h2
      unfold tellB at h2
      simp only [Bool.and_eq_true, decide_eq_true_eq, Option.isSome_iff_exists] at h2
      obtain ⟨⟨h3, a, ha⟩, b, hb⟩ := h2
      rw [ha, hb] at h
      cases h
      exact valV_bd _ (hf _ _ ha) (hf _ _ hb) ⟨by omega, by omega⟩ ⟨by omega, by omega⟩
    · cases h
theorem told_ok {f : Fx} {o : Opx} (hf : ∀ x v, f x = some v → 0 ≤ v ∧ v < 4294967296) (h : o.ok) : (toldO f o).ok := by
  cases hr : resF f o with
  | none => rw [told_none hr]; exact h
  | some v =>
    rw [told_some hr]
    obtain ⟨v0, v1⟩ := res_bd hf hr
    exact ⟨h.d0, h.d1, by show _ ≤ (0 : Int); omega, by show (0 : Int) ≤ _; omega, by show _ ≤ (0 : Int); omega, by show (0 : Int) ≤ _; omega, v0, v1, h.t0, h.t1⟩
end Go.Proofs.YtcccaejjhodnkaaDoor
