/-
  What package code's search for an operation answers: the one whose first word is what tells a word, or none.
-/
import Derived.Handy
import Derived.Test.YtccnliihdhnckaaGreatDoorQFns2
import Derived.Test.YtccnliihdhnckaaGreatDoorQCode
import Derived.Test.YtccnliihdhnckaaGreatDoorKAny
namespace Go.Proofs.YtccnliihdhnckaaGreatDoor
open Go.RowKit Go.Extern.Stop Go.Stop Go.Extern
open Num Tab
set_option linter.unusedVariables false
/-- the table of first words is laid -/
def FT (w : World) : Prop := ∀ i : Nat, i < 54 → w.cell? ⟨7, i, none⟩ = some (.int .u32 (fst i))
theorem FT.stays {w w' : World} {B : Nat} (t : FT w) (h : Below B w w') (hB : w.heap.size ≤ B) : FT w' := fun i hi => cell_stays h hB (t i hi)
theorem FT.drewN {w : World} (t : FT w) (n : Nat) : FT (w.drewN n) := fun i hi => by have := t i hi; simpa using this
theorem below_drewN {B : Nat} {a w : World} (h : Below B a w) (n : Nat) : Below B a (w.drewN n) := ⟨h.os, h.tape, h.output, h.size, h.block⟩
end Go.Proofs.YtccnliihdhnckaaGreatDoor
