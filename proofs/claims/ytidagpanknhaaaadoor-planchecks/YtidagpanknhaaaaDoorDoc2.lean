/-
  The document's ReadsOf.
-/
import Derived.Test.YtidagpanknhaaaaDoorDoc1
namespace Go.Proofs.YtidagpanknhaaaaDoor
open Go.RowKit Go.Maps
open Num
set_option linter.unusedVariables false
theorem rd_ways5 (o : Opx) : (hasB (fldL (kn o.s)) 65 = false ∧ hasB (fldL (kn o.s)) 66 = false ∧ dvB (kn o.s) = false ∧ rdX o = []) ∨ (hasB (fldL (kn o.s)) 65 = true ∧ hasB (fldL (kn o.s)) 66 = false ∧ dvB (kn o.s) = false ∧ rdX o = [o.a]) ∨ (hasB (fldL (kn o.s)) 65 = true ∧ hasB (fldL (kn o.s)) 66 = true ∧ decide (kn o.s = 23) = true ∧ dvB (kn o.s) = false ∧ rdX o = [o.a]) ∨ (hasB (fldL (kn o.s)) 65 = true ∧ hasB (fldL (kn o.s)) 66 = true ∧ decide (kn o.s = 23) = false ∧ dvB (kn o.s) = false ∧ rdX o = [o.a, o.b]) ∨ (hasB (fldL (kn o.s)) 65 = true ∧ hasB (fldL (kn o.s)) 66 = true ∧ decide (kn o.s = 23) = false ∧ dvB (kn o.s) = true ∧ rdX o = [o.a, o.b, o.d]) := by
  have hl := kn_lt o.s
  rw [fld_A _ hl, fld_B _ hl]
  unfold rdX dvB rA rB Opx.k
  generalize kn o.s = k at *
  by_cases h1 : 2 ≤ k ∧ k ≤ 25 ∨ k = 27
  · by_cases h2 : 3 ≤ k ∧ k ≤ 22 ∨ k = 24
    · have h23 : ¬ k = 23 := by omega
      by_cases h3 : 17 ≤ k ∧ k ≤ 20
      · simp [h1, h2, h3, h23]
      · simp [h1, h2, h3, h23]
    · have h3 : ¬ (17 ≤ k ∧ k ≤ 20) := by omega
      by_cases h4 : k = 23 <;> simp [h1, h2, h3, h4]
  · have h2 : ¬ (3 ≤ k ∧ k ≤ 22 ∨ k = 24) := by omega
    have h3 : ¬ (17 ≤ k ∧ k ≤ 20) := by omega
    have h4 : ¬ k = 23 := by omega
    simp [h1, h2, h3, h4]
end Go.Proofs.YtidagpanknhaaaaDoor
