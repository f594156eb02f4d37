/-
  A byte is put into the document's memory.
-/
import Derived.StillTailTactics
import Derived.Test.YtkehhlibkebomaaDoorKDocNum
import Derived.Test.YtkehhlibkebomaaDoorKDocBits2
namespace Go.Proofs.YtkehhlibkebomaaDoor
open Go.RowKit Go.Maps
open Num
set_option linter.unusedVariables false
end Go.Proofs.YtkehhlibkebomaaDoor
/-
  The document's memory: its loads and stores.
-/
namespace Go.Proofs.YtkehhlibkebomaaDoor
open Go.RowKit Go.Maps
open Num
set_option linter.unusedVariables false
end Go.Proofs.YtkehhlibkebomaaDoor
/-
  The document's ResultOf: over+, over-, sums.
-/
namespace Go.Proofs.YtkehhlibkebomaaDoor
open Go.RowKit Go.Maps
open Num
set_option linter.unusedVariables false
end Go.Proofs.YtkehhlibkebomaaDoor
/-
  The document's ResultOf: quotients and what is left.
-/
namespace Go.Proofs.YtkehhlibkebomaaDoor
open Go.RowKit Go.Maps
open Num
set_option linter.unusedVariables false
end Go.Proofs.YtkehhlibkebomaaDoor
/-
  The document's ResultOf: load, store.
-/
namespace Go.Proofs.YtkehhlibkebomaaDoor
open Go.RowKit Go.Maps
open Num
set_option linter.unusedVariables false
end Go.Proofs.YtkehhlibkebomaaDoor
/-
  The document's ResultOf, for every op that is well.
-/
namespace Go.Proofs.YtkehhlibkebomaaDoor
open Go.RowKit Go.Maps
open Num
set_option linter.unusedVariables false
theorem alw_1 {n : Int} (h : alw 1 n = true) : 0 ≤ n ∧ n < 64 := by simpa [alw] using h
theorem alw_2 {n : Int} (h : alw 2 n = true) : 1 ≤ n ∧ n < 64 := by simpa [alw] using h
theorem alw_3 {n : Int} (h : alw 3 n = true) : n = 1 ∨ n = 2 ∨ n = 4 ∨ n = -1 ∨ n = -2 := by simpa [alw] using h
theorem alw_4 {n : Int} (h : alw 4 n = true) : n = 1 ∨ n = 2 ∨ n = 4 := by simpa [alw] using h
/-- what an op that is well has in its fields -/
theorem opE_flds {o : Opx} {many : Int} (h : opE o many = 0) : kn o.s ≠ 0 ∧ (0 ≤ o.a ∧ o.a < 64) ∧ (kn o.s ≠ 23 → 0 ≤ o.b ∧ o.b < 64) ∧ (kn o.s = 23 → o.b = 1 ∨ o.b = 2 ∨ o.b = 4 ∨ o.b = -1 ∨ o.b = -2) ∧ (1 ≤ kn o.s ∧ kn o.s ≤ 20 ∨ kn o.s = 23 → 1 ≤ o.d ∧ o.d < 64) ∧ (kn o.s = 24 → o.d = 1 ∨ o.d = 2 ∨ o.d = 4) := by
  unfold opE at h
  split at h
  · omega
  rename_i h0
  split at h
  · omega
  rename_i h1
  split at h
  · omega
  rename_i h2
  simp only [bndB, shpB, Opx.k, Bool.not_eq_false, Bool.and_eq_true, Bool.or_eq_true, decide_eq_true_eq] at h0 h1 h2
  obtain ⟨⟨⟨⟨hD, hA⟩, hB⟩, _⟩, _⟩ := h1
  obtain ⟨⟨⟨sD, sA⟩, sB⟩, _⟩ := h2
  have hl := kn_lt o.s
  refine ⟨h0, ?_, ?_, ?_, ?_, ?_⟩
  · by_cases hr : 2 ≤ kn o.s ∧ kn o.s ≤ 25 ∨ kn o.s = 27
    · exact alw_1 (by rw [show (1 : Nat) = rA (kn o.s) by unfold rA; rw [if_pos hr]]; exact hA)
    · have : rA (kn o.s) = 0 := by unfold rA; rw [if_neg hr]
      omega
  · intro h23
    by_cases hr : 3 ≤ kn o.s ∧ kn o.s ≤ 22 ∨ kn o.s = 24
    · exact alw_1 (by rw [show (1 : Nat) = rB (kn o.s) by unfold rB; rw [if_pos hr]]; exact hB)
    · have : rB (kn o.s) = 0 := by unfold rB; rw [if_neg hr, if_neg h23]
      omega
  · intro h23
    exact alw_3 (by rw [show (3 : Nat) = rB (kn o.s) by unfold rB; rw [if_neg (by omega), if_pos h23]]; exact hB)
  · intro hr
    exact alw_2 (by rw [show (2 : Nat) = rD (kn o.s) by unfold rD; rw [if_pos hr]]; exact hD)
  · intro h24
    exact alw_4 (by rw [show (4 : Nat) = rD (kn o.s) by unfold rD; rw [if_neg (by omega), if_pos h24]]; exact hD)
end Go.Proofs.YtkehhlibkebomaaDoor
