/-
  The document's bits: two words, one by one, by a table of four.
-/
import Derived.Test.YtflagpkmebdckaaGreatDoorKNum
import Derived.Test.YtflagpkmebdckaaGreatDoorKOptPure
import Derived.Test.YtflagpkmebdckaaGreatDoorJDocW
namespace Go.Proofs.YtflagpkmebdckaaGreatDoor
open Go.RowKit
open Num
set_option linter.unusedVariables false
def gB (T : Nat) : Nat → Nat → Nat → Nat
  | 0, _, _ => 0
  | n + 1, x, y => (T / 2 ^ (2 * (x % 2) + y % 2)) % 2 + 2 * gB T n (x / 2) (y / 2)
end Go.Proofs.YtflagpkmebdckaaGreatDoor
/-
  The document's bits, walked.
-/
namespace Go.Proofs.YtflagpkmebdckaaGreatDoor
open Go.RowKit
open Num
set_option linter.unusedVariables false
attribute [local irreducible] gB
end Go.Proofs.YtflagpkmebdckaaGreatDoor
/-
  The document's SumOf.
-/
namespace Go.Proofs.YtflagpkmebdckaaGreatDoor
open Go.RowKit
open Num
set_option linter.unusedVariables false
end Go.Proofs.YtflagpkmebdckaaGreatDoor
