/-
  The document's bits, walked.
-/
import Derived.Test.YtkehhlibkebomaaDoorKPure
import Derived.Test.YtkehhlibkebomaaDoorKOptPure2
import Derived.Test.YtkehhlibkebomaaDoorKValBd
import Derived.Test.YtkehhlibkebomaaDoorKDoc5a
namespace Go.Proofs.YtkehhlibkebomaaDoor
open Go.RowKit
open Num
set_option linter.unusedVariables false
attribute [local irreducible] gB
end Go.Proofs.YtkehhlibkebomaaDoor
/-
  The document's SumOf.
-/
namespace Go.Proofs.YtkehhlibkebomaaDoor
open Go.RowKit
open Num
set_option linter.unusedVariables false
end Go.Proofs.YtkehhlibkebomaaDoor
/-
  The document's ResultOf: its boxes.
-/
namespace Go.Proofs.YtkehhlibkebomaaDoor
open Go.RowKit Go.Maps
open Num
set_option linter.unusedVariables false
end Go.Proofs.YtkehhlibkebomaaDoor
/-
  The document's ResultOf: set, copy, if, out, outr.
-/
namespace Go.Proofs.YtkehhlibkebomaaDoor
open Go.RowKit Go.Maps
open Num
set_option linter.unusedVariables false
end Go.Proofs.YtkehhlibkebomaaDoor
