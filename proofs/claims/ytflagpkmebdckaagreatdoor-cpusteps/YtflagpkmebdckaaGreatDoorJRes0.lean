/-
  The document's ResultOf: its boxes.
-/
import Derived.Test.YtflagpkmebdckaaGreatDoorKOptFns
import Derived.Test.YtflagpkmebdckaaGreatDoorKPlPure
import Derived.Test.YtflagpkmebdckaaGreatDoorJDoc6
namespace Go.Proofs.YtflagpkmebdckaaGreatDoor
open Go.RowKit Go.Maps
open Num
set_option linter.unusedVariables false
end Go.Proofs.YtflagpkmebdckaaGreatDoor
/-
  The document's ResultOf: set, copy, if, out, outr.
-/
namespace Go.Proofs.YtflagpkmebdckaaGreatDoor
open Go.RowKit Go.Maps
open Num
set_option linter.unusedVariables false
end Go.Proofs.YtflagpkmebdckaaGreatDoor
/-
  The document's ResultOf: over+, over-, sums.
-/
namespace Go.Proofs.YtflagpkmebdckaaGreatDoor
open Go.RowKit Go.Maps
open Num
set_option linter.unusedVariables false
end Go.Proofs.YtflagpkmebdckaaGreatDoor
