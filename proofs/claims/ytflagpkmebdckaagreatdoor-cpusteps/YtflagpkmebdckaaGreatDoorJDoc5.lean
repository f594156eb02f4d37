/-
  The document's OpError, some kinds.
-/
import Derived.Test.YtflagpkmebdckaaGreatDoorJDoc1
namespace Go.Proofs.YtflagpkmebdckaaGreatDoor
open Go.RowKit
open Num
set_option linter.unusedVariables false
end Go.Proofs.YtflagpkmebdckaaGreatDoor
/-
  The document's OpError, some kinds.
-/
namespace Go.Proofs.YtflagpkmebdckaaGreatDoor
open Go.RowKit
open Num
set_option linter.unusedVariables false
end Go.Proofs.YtflagpkmebdckaaGreatDoor
