/-
  The document's CodeFault.
-/
import Derived.Test.YtflagpkmebdckaaGreatDoorKIrChk2
import Derived.Test.YtflagpkmebdckaaGreatDoorKSerial
import Derived.Test.YtflagpkmebdckaaGreatDoorQDoc5a
import Derived.Test.YtflagpkmebdckaaGreatDoorQDoc5b
import Derived.Test.YtflagpkmebdckaaGreatDoorJDoc5
namespace Go.Proofs.YtflagpkmebdckaaGreatDoor
open Go.RowKit Go.Maps
open Num
set_option linter.unusedVariables false
theorem results_one_cell {fn : Func} {p : Tmp} {ty : TypeId} {A : Addr} {x : Value} (h : fn.results = #[.cell p ty]) (tmps : Array Value) (P : Program) (w : World) (hp : tmps.getD p undef = .pointer (some A)) (hl : (loadVar ty A).run P w = .ok x w) :
    (results fn tmps).run P w = .ok x w := by
  simp only [results, h]
  simp only [asAddr, hp, Sem.run_bind, List.mapM_toArray, List.mapM_cons, List.mapM_nil, Sem.run_map, Sem.run_pure, Result.andThen, hl]
  simp
end Go.Proofs.YtflagpkmebdckaaGreatDoor
/-
  The document's CodeFault, walked.
-/
namespace Go.Proofs.YtflagpkmebdckaaGreatDoor
open Go.RowKit Go.Maps
open Num
set_option linter.unusedVariables false
end Go.Proofs.YtflagpkmebdckaaGreatDoor
