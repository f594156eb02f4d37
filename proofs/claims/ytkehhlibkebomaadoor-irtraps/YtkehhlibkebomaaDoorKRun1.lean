/-
  The document's RunOf: what it holds of the world on its way.
-/
import Derived.Test.YtkehhlibkebomaaDoorKSerial
import Derived.Test.YtkehhlibkebomaaDoorQOwnOps
import Derived.Test.YtkehhlibkebomaaDoorKDocBits2
import Derived.Test.YtkehhlibkebomaaDoorKDNew
import Derived.Test.YtkehhlibkebomaaDoorKGEf
import Derived.Test.YtkehhlibkebomaaDoorKSameOps
import Derived.Test.YtkehhlibkebomaaDoorKOptFacts
namespace Go.Proofs.YtkehhlibkebomaaDoor
open Go.RowKit Go.Maps
open Num
set_option linter.unusedVariables false
/-- a state that was left -/
def stF (f : Nat → Value) (M : Mz) (many ct : Int) (j : Nat) : Value :=
  if 1 ≤ j ∧ j < 34 then .int .u32 (M.x j) else if j = 34 then .int .u32 M.lv else if j = 35 then .int .u32 (lo (M.lv + 4)) else if j = 42 then .int .i64 (ct + many) else f j
theorem nwX_bd {r : Nat → Int} (h : ∀ j, j < 34 → 0 ≤ r j ∧ r j < 4294967296) : ∀ i, i < 64 → 0 ≤ nwX r 34 i ∧ nwX r 34 i < 4294967296 := by
  intro i hi
  unfold nwX
  split
  · exact h i (by omega)
  · omega
theorem rowZ_xbd {wt : Int → Bool} {x m : Nat → Int} {many : Int} (hx : ∀ i, i < 64 → 0 ≤ x i ∧ x i < 4294967296) (mb : ∀ i, 0 ≤ m i ∧ m i < 4294967296) : ∀ (row : List Opx) (M : Mz), (∀ o ∈ row, o.ok ∧ opE o many = 0) → (∀ i, i < 64 → 0 ≤ M.x i ∧ M.x i < 4294967296) → ∀ i, i < 64 → 0 ≤ (row.foldl (fun M o => appZ M o (resZ wt x m o)) M).x i ∧ (row.foldl (fun M o => appZ M o (resZ wt x m o)) M).x i < 4294967296
  | [], M, _, h => h
  | o :: row, M, hw, h => rowZ_xbd hx mb row _ (fun q hq => hw q (by simp [hq])) (appZ_bd h (resZ_bd (hw o (by simp)).1 (hw o (by simp)).2 hx mb).1)
theorem runZ_cons (wt : Int → Bool) (row : List Opx) (rows : List (List Opx)) (x m : Nat → Int) : runZ wt (row :: rows) x m = match trapZ wt x m row with
    | some t => .trap t
    | none => if (rowZ wt x m row).lv < 0 then runZ wt rows (rowZ wt x m row).x (rowZ wt x m row).m else .leave (rowZ wt x m row) := rfl
end Go.Proofs.YtkehhlibkebomaaDoor
/-
  slices.Reverse and slices.Clone of ops.
-/
namespace Go.Proofs.YtkehhlibkebomaaDoor
open Go.RowKit Go.Maps
open Num
set_option linter.unusedVariables false
end Go.Proofs.YtkehhlibkebomaaDoor
/-
  The document's RunOf, walked.
-/
namespace Go.Proofs.YtkehhlibkebomaaDoor
open Go.RowKit Go.Maps
open Num
set_option linter.unusedVariables false
end Go.Proofs.YtkehhlibkebomaaDoor
