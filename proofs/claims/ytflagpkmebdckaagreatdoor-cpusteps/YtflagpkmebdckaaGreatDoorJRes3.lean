/-
  The document's ResultOf: quotients and what is left.
-/
import Derived.Test.YtflagpkmebdckaaGreatDoorKSerial
import Derived.Test.YtflagpkmebdckaaGreatDoorJRes0
namespace Go.Proofs.YtflagpkmebdckaaGreatDoor
open Go.RowKit Go.Maps
open Num
set_option linter.unusedVariables false
end Go.Proofs.YtflagpkmebdckaaGreatDoor
/-
  The document's ResultOf: load, store.
-/
namespace Go.Proofs.YtflagpkmebdckaaGreatDoor
open Go.RowKit Go.Maps
open Num
set_option linter.unusedVariables false
end Go.Proofs.YtflagpkmebdckaaGreatDoor
/-
  The document's ResultOf, for every op that is well.
-/
namespace Go.Proofs.YtflagpkmebdckaaGreatDoor
open Go.RowKit Go.Maps
open Num
set_option linter.unusedVariables false
end Go.Proofs.YtflagpkmebdckaaGreatDoor
