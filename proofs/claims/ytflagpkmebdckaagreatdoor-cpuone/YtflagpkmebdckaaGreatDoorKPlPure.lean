/-
  Package opt: which registers are still asked for.
-/
import Derived.Test.YtflagpkmebdckaaGreatDoorKNum
import Derived.Test.YtflagpkmebdckaaGreatDoorKSerial
import Derived.Test.YtflagpkmebdckaaGreatDoorKOptFns
namespace Go.Proofs.YtflagpkmebdckaaGreatDoor
open Go.RowKit Go.Maps
open Num
set_option linter.unusedVariables false
/-- block b holds what is asked for -/
def NeedAt (w : World) (b : Nat) (n : Nx) : Prop := RowIs w b 226 64 (fun j => .bool (n j))
theorem NeedAt.congr {w : World} {b : Nat} {n n' : Nx} (N : NeedAt w b n) (h : ∀ j : Nat, j < 64 → n' j = n j) : NeedAt w b n' := by
  obtain ⟨cur, h1, h2, h3⟩ := N
  exact ⟨cur, h1, h2, fun j hj => by rw [h3 j hj]; show some (Value.bool (n j)) = some (Value.bool (n' j)); rw [h j hj]⟩
end Go.Proofs.YtflagpkmebdckaaGreatDoor
/-
  Rows of ops over registers and memory, as the document runs them, in whole numbers; better codes end alike.
-/
namespace Go.Proofs.YtflagpkmebdckaaGreatDoor
open Num
set_option linter.unusedVariables false
/-- registers, memory, where it leaves for (-1: it does not) -/
structure Mz where
  x : Nat → Int
  m : Nat → Int
  lv : Int
inductive Oz where
  | trap (t : Int)
  | leave (M : Mz)
  | fell
/-- one op a row -/
def eachL (l : List Opx) : List (List Opx) := l.map fun o => [o]
/-- facts that hold -/
def FactsOf (f : Fx) (x : Nat → Int) : Prop := ∀ r v, f r = some v → 0 ≤ r ∧ x r.toNat = v
theorem FactsOf.zero {x : Nat → Int} (h : x 0 = 0) : FactsOf fx0 x := by
  intro r v e
  unfold fx0 at e
  split at e
  · rename_i h0; subst h0; cases e; exact ⟨by omega, h⟩
  · cases e
end Go.Proofs.YtflagpkmebdckaaGreatDoor
/-
  Package opt: an op that is passed.
-/
namespace Go.Proofs.YtflagpkmebdckaaGreatDoor
open Go.RowKit Go.Maps
open Num
set_option linter.unusedVariables false
end Go.Proofs.YtflagpkmebdckaaGreatDoor
