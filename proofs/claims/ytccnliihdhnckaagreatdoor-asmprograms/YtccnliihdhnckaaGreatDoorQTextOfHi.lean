/-
  TextOf at an Imm from 32768 on.
-/
import Derived.Test.YtccnliihdhnckaaGreatDoorKDec
namespace Go.Proofs.YtccnliihdhnckaaGreatDoor
open Go.RowKit Go.Shelf Go.Joins
open Num Tab Fm Txt
set_option linter.unusedVariables false
end Go.Proofs.YtccnliihdhnckaaGreatDoor
