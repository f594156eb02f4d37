/-
  What package code's search for an operation answers: the one whose first word is what tells a word, or none.
-/
import Derived.Test.YtckcbnfobjmhpaaDoorKFns2
import Derived.Test.YtckcbnfobjmhpaaDoorKCode
import Derived.Test.YtckcbnfobjmhpaaDoorKBits
import Derived.Handy
namespace Go.Proofs.YtckcbnfobjmhpaaDoor.K
open Go.RowKit Go.Extern.Stop Go.Stop Go.Extern
open Num Tab
set_option linter.unusedVariables false
/-- the table of first words is laid -/
def FT (w : World) : Prop := ∀ i : Nat, i < 54 → w.cell? ⟨2, i, none⟩ = some (.int .u32 (fst i))
theorem FT.stays {w w' : World} {B : Nat} (t : FT w) (h : Below B w w') (hB : w.heap.size ≤ B) : FT w' := fun i hi => cell_stays h hB (t i hi)
theorem fst_mono : ∀ y, y < 53 → ∀ x, x ≤ y → fst (1 + x) ≤ fst (1 + y) := by decide
theorem FT.drewN {w : World} (t : FT w) (n : Nat) : FT (w.drewN n) := fun i hi => by have := t i hi; simpa using this
/-- an operation is told by a key -/
def IsOp (key : Int) (k : Nat) : Prop := (1 ≤ k ∧ k < 54 ∧ fst k = key) ∨ (k = 0 ∧ ∀ j, 1 ≤ j → j < 54 → fst j ≠ key)
theorem below_drewN {B : Nat} {a w : World} (h : Below B a w) (n : Nat) : Below B a (w.drewN n) := ⟨h.os, h.tape, h.output, h.size, h.block⟩
theorem isOp_of (key : Int) (r : Nat) (hr : r ≤ 53) (h1 : ∀ x, x < r → fst (1 + x) < key) (h2 : ∀ x, r ≤ x → x < 53 → key ≤ fst (1 + x)) (hn : r = 53 ∨ fst (1 + r) ≠ key) : IsOp key 0 := by
  refine Or.inr ⟨rfl, fun j j1 j2 e => ?_⟩
  obtain ⟨x, rfl⟩ : ∃ x, j = 1 + x := ⟨j - 1, by omega⟩
  by_cases hx : x < r
  · have := h1 x hx; omega
  · rcases hn with hn | hn
    · omega
    · have a := h2 r (by omega) (by omega)
      have b := fst_mono x (by omega) r (by omega)
      omega
end Go.Proofs.YtckcbnfobjmhpaaDoor.K
