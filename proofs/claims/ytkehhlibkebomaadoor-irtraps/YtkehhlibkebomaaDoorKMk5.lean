/-
  Package plan: Make.
-/
import Derived.Test.YtkehhlibkebomaaDoorQIrChk3
import Derived.Test.YtkehhlibkebomaaDoorKMk2
namespace Go.Proofs.YtkehhlibkebomaaDoor
open Go.RowKit Go.Maps
open Num
set_option linter.unusedVariables false
theorem CErr.nz {pe : Nat → Addr} {w : World} {f : Int × Int} {v : Value} (C : CErr pe w f v) (hf : f ≠ (0, -1)) : ∃ t a, v = .iface t (.pointer a) := by
  rcases C with ⟨h1, h2⟩ | ⟨_, _, fb, h2, _⟩
  · have h0 : f.1 ≠ 0 := fun e => hf (by rw [← h1, ← e])
    exact ⟨_, _, by rw [h2, erV_some h0]⟩
  · exact ⟨_, _, h2⟩
theorem CErr.block {pe : Nat → Addr} {w w' : World} {f : Int × Int} {v : Value} (C : CErr pe w f v) (h : ∀ fb, v = .iface 82 (.pointer (some ⟨fb, 0, none⟩)) → w'.heap[fb]? = w.heap[fb]?) : CErr pe w' f v := by
  rcases C with h1 | ⟨h1, h2, fb, h3, h4, h5⟩
  · exact .inl h1
  · exact .inr ⟨h1, h2, fb, h3, (World.cell?_of_block (a := ⟨fb, 0, none⟩) (h fb h3)).trans h4, (World.cell?_of_block (a := ⟨fb, 1, none⟩) (h fb h3)).trans h5⟩
end Go.Proofs.YtkehhlibkebomaaDoor
/-
  Package plan: Make of a code that is well.
-/
namespace Go.Proofs.YtkehhlibkebomaaDoor
open Go.RowKit Go.Maps
open Num
set_option linter.unusedVariables false
end Go.Proofs.YtkehhlibkebomaaDoor
/-
  The closed fact of chapter 10.
-/
namespace Go.Proofs.YtkehhlibkebomaaDoor
open Go.RowKit Go.Maps
open Num
set_option linter.unusedVariables false
end Go.Proofs.YtkehhlibkebomaaDoor
/-
  faulted; OwnRows.
-/
namespace Go.Proofs.YtkehhlibkebomaaDoor
open Go.RowKit Go.Maps
open Num
set_option linter.unusedVariables false
end Go.Proofs.YtkehhlibkebomaaDoor
