
import Derived.Test.YtflagpkmebdckaaGreatDoorKNum
import Derived.Test.YtflagpkmebdckaaGreatDoorKKTxt
namespace Go.Proofs.YtflagpkmebdckaaGreatDoor
open Go.RowKit Go.Maps
open Num
set_option linter.unusedVariables false
section
variable {w : World} {pb sb bb : Nat} {S : St} {k s t d : Nat} {m : Int}
end
end Go.Proofs.YtflagpkmebdckaaGreatDoor
