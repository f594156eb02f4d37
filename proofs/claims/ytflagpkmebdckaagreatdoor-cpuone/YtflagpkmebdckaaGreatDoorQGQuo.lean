/-
  A Guest's quotient; what an op that does no more than write a register writes.
-/
import Derived.Test.YtflagpkmebdckaaGreatDoorJDocW
import Derived.Test.YtflagpkmebdckaaGreatDoorKIrRes
namespace Go.Proofs.YtflagpkmebdckaaGreatDoor
open Go.RowKit Go.Maps
open Num
set_option linter.unusedVariables false
section
variable {w : World} {base mb stb sb bp bw bh N : Nat} {X : Nat → Int} {p : List Pq} {vi : Value} {m : Nat → Int} {wt ht : Int → Bool}
end
end Go.Proofs.YtflagpkmebdckaaGreatDoor
