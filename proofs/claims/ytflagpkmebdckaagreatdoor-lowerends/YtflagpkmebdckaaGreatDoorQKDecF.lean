
import Derived.Deep.RegionWith
import Derived.Test.YtflagpkmebdckaaGreatDoorKKEnc
import Derived.Test.YtflagpkmebdckaaGreatDoorKKDecode
import Derived.Test.YtflagpkmebdckaaGreatDoorKRunPure
namespace Go.Proofs.YtflagpkmebdckaaGreatDoor.K
open Go.RowKit Go.Extern.Stop Go.Stop Go.Extern
open Num Tab
set_option linter.unusedVariables false
section
variable {C : Nat} {w wr : World} {l : List UInt8} {p : Nat} {o s t d m : Int}
end
end Go.Proofs.YtflagpkmebdckaaGreatDoor.K
