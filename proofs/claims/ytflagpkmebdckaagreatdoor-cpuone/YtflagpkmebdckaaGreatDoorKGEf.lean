/-
  What Read answers, whatever the op is.
-/
import Derived.Laws.CopyOwn
import Derived.Test.YtflagpkmebdckaaGreatDoorKIrChk
import Derived.Test.YtflagpkmebdckaaGreatDoorKIrChk2
import Derived.Test.YtflagpkmebdckaaGreatDoorKSerial
import Derived.Test.YtflagpkmebdckaaGreatDoorJNew
import Derived.Test.YtflagpkmebdckaaGreatDoorKOptFns
import Derived.Test.YtflagpkmebdckaaGreatDoorKPlPure
import Derived.Test.YtflagpkmebdckaaGreatDoorJDoc6
import Derived.Test.YtflagpkmebdckaaGreatDoorJRes3
import Derived.Test.YtflagpkmebdckaaGreatDoorKSt0
import Derived.Test.YtflagpkmebdckaaGreatDoorKIrRes
import Derived.Test.YtflagpkmebdckaaGreatDoorKLayC
namespace Go.Proofs.YtflagpkmebdckaaGreatDoor
open Go.RowKit Go.Maps
open Num
set_option linter.unusedVariables false
section
variable {w : World} {base mb stb sb bp bw bh N : Nat} {X : Nat → Int} {p : List Pq} {vi : Value} {m : Nat → Int} {wt ht : Int → Bool}
end
end Go.Proofs.YtflagpkmebdckaaGreatDoor
/-
  A Guest's Do.
-/
namespace Go.Proofs.YtflagpkmebdckaaGreatDoor
open Go.RowKit Go.Maps
open Num
set_option linter.unusedVariables false
section
variable {w : World} {base mb stb sb bp bw bh N : Nat} {X : Nat → Int} {p : List Pq} {vi : Value} {m : Nat → Int} {wt ht : Int → Bool}
end
end Go.Proofs.YtflagpkmebdckaaGreatDoor
/-
  The document's RunOf: what it holds of the world on its way.
-/
namespace Go.Proofs.YtflagpkmebdckaaGreatDoor
open Go.RowKit Go.Maps
open Num
set_option linter.unusedVariables false
/-- a state that was left -/
def stF (f : Nat → Value) (M : Mz) (many ct : Int) (j : Nat) : Value :=
  if 1 ≤ j ∧ j < 34 then .int .u32 (M.x j) else if j = 34 then .int .u32 M.lv else if j = 35 then .int .u32 (lo (M.lv + 4)) else if j = 42 then .int .i64 (ct + many) else f j
end Go.Proofs.YtflagpkmebdckaaGreatDoor
/-
  An effect as the document has it.
-/
namespace Go.Proofs.YtflagpkmebdckaaGreatDoor
open Go.RowKit Go.Maps
open Num
set_option linter.unusedVariables false
end Go.Proofs.YtflagpkmebdckaaGreatDoor
/-
  A Guest as a row of memory; Begin, Leave.
-/
namespace Go.Proofs.YtflagpkmebdckaaGreatDoor
open Go.RowKit Go.Maps
open Num
set_option linter.unusedVariables false
theorem RamIs.blocks {w w' : World} {sb bp bw bh N : Nat} {m : Nat → Int} {wt ht : Int → Bool} (R : RamIs w sb bp bw bh N m wt ht) (h : ∀ k, k = sb ∨ k = bp ∨ k = bw ∨ k = bh → w'.heap[k]? = w.heap[k]?) : RamIs w' sb bp bw bh N m wt ht := by
  have hs := h sb (Or.inl rfl)
  have c : ∀ (j : Nat) (v : Value), w.cell? ⟨sb, j, none⟩ = some v → w'.cell? ⟨sb, j, none⟩ = some v := fun j v e => (World.cell?_of_block (a := ⟨sb, j, none⟩) hs).trans e
  refine ⟨c _ _ R.c0, c _ _ R.c1, c _ _ R.c2, R.pw, R.ph, R.wh, R.sp, R.sh, ?_, ?_, ?_, R.mb⟩
  · obtain ⟨D, ⟨es, clock, hb, r⟩, g⟩ := R.ps
    exact ⟨D, ⟨es, clock, (h bp (by simp)).trans hb, r⟩, g⟩
  · obtain ⟨D, ⟨es, clock, hb, r⟩, g⟩ := R.ws
    exact ⟨D, ⟨es, clock, (h bw (by simp)).trans hb, r⟩, g⟩
  · obtain ⟨D, ⟨es, clock, hb, r⟩, g⟩ := R.hs
    exact ⟨D, ⟨es, clock, (h bh (by simp)).trans hb, r⟩, g⟩
section
variable {w : World} {base mb stb sb bp bw bh N : Nat} {X : Nat → Int} {p : List Pq} {vi : Value} {m : Nat → Int} {wt ht : Int → Bool}
end
end Go.Proofs.YtflagpkmebdckaaGreatDoor
