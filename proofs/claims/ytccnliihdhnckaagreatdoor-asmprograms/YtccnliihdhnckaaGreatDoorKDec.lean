/-
  The document's answer's numerals: Byte, below, Decimal, register.
-/
import Derived.Lib.QuietBelow
import Derived.Test.YtccnliihdhnckaaGreatDoorKText
import Derived.Test.YtccnliihdhnckaaGreatDoorQRowOf
namespace Go.Proofs.YtccnliihdhnckaaGreatDoor
open Go.RowKit Go.Shelf Go.Joins
open Num Tab Fm Txt
set_option linter.unusedVariables false
end Go.Proofs.YtccnliihdhnckaaGreatDoor
/-
  The document's answer's text of an instruction: TextOf.
-/
namespace Go.Proofs.YtccnliihdhnckaaGreatDoor
open Go.RowKit Go.Shelf Go.Joins
open Num Tab Fm Txt
set_option linter.unusedVariables false
end Go.Proofs.YtccnliihdhnckaaGreatDoor
