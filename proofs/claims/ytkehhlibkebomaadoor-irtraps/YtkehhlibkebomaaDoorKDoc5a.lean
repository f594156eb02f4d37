/-
  The document's OpError, some kinds.
-/
import Derived.Test.YtkehhlibkebomaaDoorKSerial
import Derived.Test.YtkehhlibkebomaaDoorQIrChk3
import Derived.Test.YtkehhlibkebomaaDoorKDoc1
namespace Go.Proofs.YtkehhlibkebomaaDoor
open Go.RowKit
open Num
set_option linter.unusedVariables false
end Go.Proofs.YtkehhlibkebomaaDoor
/-
  The document's CodeFault.
-/
namespace Go.Proofs.YtkehhlibkebomaaDoor
open Go.RowKit Go.Maps
open Num
set_option linter.unusedVariables false
theorem results_one_cell {fn : Func} {p : Tmp} {ty : TypeId} {A : Addr} {x : Value} (h : fn.results = #[.cell p ty]) (tmps : Array Value) (P : Program) (w : World) (hp : tmps.getD p undef = .pointer (some A)) (hl : (loadVar ty A).run P w = .ok x w) :
    (results fn tmps).run P w = .ok x w := by
  simp only [results, h]
  simp only [asAddr, hp, Sem.run_bind, List.mapM_toArray, List.mapM_cons, List.mapM_nil, Sem.run_map, Sem.run_pure, Result.andThen, hl]
  simp
end Go.Proofs.YtkehhlibkebomaaDoor
