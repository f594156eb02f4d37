/-
  The document's memory, made.
-/
import Derived.Laws.MakeOwn
import Derived.OwnWalk
import Derived.Deep.MidRow
import Derived.Test.YtkehhlibkebomaaDoorKSerial
import Derived.Test.YtkehhlibkebomaaDoorKDocPut
namespace Go.Proofs.YtkehhlibkebomaaDoor
open Go.RowKit Go.Maps
open Num
set_option linter.unusedVariables false
def mw (xs : List Int) (i : Nat) : Int := xs.getD i 0
/-- a slice of words that came in -/
structure WordsIn (w : World) (v : Value) (xs : List Int) : Prop where
  sh : ∃ ao cap, v = .slice ao xs.length cap ∧ xs.length ≤ cap ∧ (0 < xs.length → ∃ b off, ao = some ⟨b, off, none⟩ ∧ ∀ i, i < xs.length → w.cell? ⟨b, off + i, none⟩ = some (.int .u32 (xs.getD i 0)))
  wf : ∀ i, 0 ≤ mw xs i ∧ mw xs i < 4294967296
end Go.Proofs.YtkehhlibkebomaaDoor
/-
  The document's memory, copied.
-/
namespace Go.Proofs.YtkehhlibkebomaaDoor
open Go.RowKit Go.Maps
open Num
set_option linter.unusedVariables false
end Go.Proofs.YtkehhlibkebomaaDoor
/-
  The document's NewMachine.
-/
namespace Go.Proofs.YtkehhlibkebomaaDoor
open Go.RowKit Go.Maps
open Num
set_option linter.unusedVariables false
def nwX (r : Nat → Int) (k n : Nat) : Int := if 1 ≤ n ∧ n < k then r n else 0
end Go.Proofs.YtkehhlibkebomaaDoor
/-
  The machine's registers, loaded as one value.
-/
namespace Go.Proofs.YtkehhlibkebomaaDoor
open Go.RowKit Go.Maps
open Num
set_option linter.unusedVariables false
theorem exec_loadT {ρ : Operand → Value} {o : Oper} {x : Operand} {sb : Nat} {v : Value} {t : TypeId} (ho : o.op = .load t x) (hx : ρ x = .pointer (some ⟨sb, 0, none⟩)) (W : World) (hl : (loadVar t ⟨sb, 0, none⟩).run Tryd.prog W = .ok v W) : (execOp ρ o).run Tryd.prog W = .ok (.value v) W := by
  have hs : (Instr.sureAddr (.pointer (some ⟨sb, 0, none⟩))).run Tryd.prog W = .ok ⟨sb, 0, none⟩ W := by simp [Instr.sureAddr]
  have h : (Instr.loadAt t (.pointer (some ⟨sb, 0, none⟩))).run Tryd.prog W = .ok v W := by unfold Instr.loadAt; rw [Sem.run_bind, hs, Result.andThen_ok]; exact hl
  unfold execOp
  simp only [ho, hx, Sem.run_bind, h, Result.andThen_ok]
  rfl
end Go.Proofs.YtkehhlibkebomaaDoor
