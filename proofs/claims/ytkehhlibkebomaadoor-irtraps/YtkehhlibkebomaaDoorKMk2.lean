/-
  Package plan: note.
-/
import Derived.Test.YtkehhlibkebomaaDoorQOwnOps
import Derived.Test.YtkehhlibkebomaaDoorKPl1
import Derived.Test.YtkehhlibkebomaaDoorKPl4
namespace Go.Proofs.YtkehhlibkebomaaDoor
open Go.RowKit Go.Maps
open Num
set_option linter.unusedVariables false
end Go.Proofs.YtkehhlibkebomaaDoor
/-
  Package plan: the rows of a maker in memory; what is found with room.
-/
namespace Go.Proofs.YtkehhlibkebomaaDoor
open Go.RowKit Go.Maps
open Num
set_option linter.unusedVariables false
section
variable {W W' : World} {base : Nat} {vr : Value} {us : List Value} {rs : List (List Opx)}
theorem RowsI.nil {v : Value} {n : Nat} {ao : Option Addr} {cap : Nat} (hv : v = .slice ao 0 cap) : RowsI W v [] := ⟨ao, cap, hv, Nat.zero_le _, fun h => by simp at h⟩
end
end Go.Proofs.YtkehhlibkebomaaDoor
/-
  What a row of rows' element is.
-/
namespace Go.Proofs.YtkehhlibkebomaaDoor
end Go.Proofs.YtkehhlibkebomaaDoor
/-
  Package plan: place.
-/
namespace Go.Proofs.YtkehhlibkebomaaDoor
open Go.RowKit Go.Maps
open Num
set_option linter.unusedVariables false
end Go.Proofs.YtkehhlibkebomaaDoor
