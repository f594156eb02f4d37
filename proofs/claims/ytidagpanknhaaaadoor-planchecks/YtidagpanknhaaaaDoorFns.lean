/-
  What package word's Shift and Wide, and the document's answer to Wide, answer, in whole numbers; memory stays as it is.
-/
import Derived.Test.YtidagpanknhaaaaDoorProg
import Derived.Test.YtidagpanknhaaaaDoorNum
import Derived.WalkKit
import Derived.Below
import Derived.Deep.QuietTactic
import Derived.BigQuiet
namespace Go.Proofs.YtidagpanknhaaaaDoor
open Go.RowKit
open Num
set_option linter.unusedVariables false
theorem ret_int {k : IntKind} {a b : Int} (h : a = b) : Ending.returned (.int k a) = .returned (.int k b) := by rw [h]
theorem ret_bool {a b : Bool} (h : a = b) : Ending.returned (.bool a) = .returned (.bool b) := by rw [h]
theorem ret_two {k l : IntKind} {a b c d : Int} (h : a = b) (g : c = d) : Ending.returned (.tuple #[.int k a, .int l c]) = .returned (.tuple #[.int k b, .int l d]) := by rw [h, g]
end Go.Proofs.YtidagpanknhaaaaDoor
