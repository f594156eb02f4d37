/-
  What plain.Code answers: the number and the place of an error: contracts, memory that was there left as it was.
-/
import Derived.WalkKit
import Derived.Below
import Derived.Test.YtflagpkmebdckaaGreatDoorQErrs
namespace Go.Proofs.YtflagpkmebdckaaGreatDoor
open Go.RowKit Go.Extern.Stop Go.Stop Go.Extern
set_option linter.unusedVariables false
/-- the handle of 'error' is laid; the ten errors of package api lie at S 0 .. S 9, apart from one another -/
structure Errs (S : Nat → Addr) (w : World) : Prop where
  handle : w.cell? ⟨11, 0, none⟩ = some (.iface 306 (.agg #[.pointer (some ⟨13, 32, none⟩)]))
  c0 : w.cell? ⟨6, 0, none⟩ = some (.iface 332 (.pointer (some (S 0))))
  c1 : w.cell? ⟨0, 0, none⟩ = some (.iface 332 (.pointer (some (S 1))))
  c2 : w.cell? ⟨1, 0, none⟩ = some (.iface 332 (.pointer (some (S 2))))
  c3 : w.cell? ⟨5, 0, none⟩ = some (.iface 332 (.pointer (some (S 3))))
  c4 : w.cell? ⟨7, 0, none⟩ = some (.iface 332 (.pointer (some (S 4))))
  c5 : w.cell? ⟨4, 0, none⟩ = some (.iface 332 (.pointer (some (S 5))))
  c6 : w.cell? ⟨8, 0, none⟩ = some (.iface 332 (.pointer (some (S 6))))
  c7 : w.cell? ⟨9, 0, none⟩ = some (.iface 332 (.pointer (some (S 7))))
  c8 : w.cell? ⟨2, 0, none⟩ = some (.iface 332 (.pointer (some (S 8))))
  c9 : w.cell? ⟨3, 0, none⟩ = some (.iface 332 (.pointer (some (S 9))))
  row : ∀ i, i < 10 → ∃ c t, w.heap[(S i).block]? = some (.cells c t (0, 0))
  inj : ∀ i j, i < 10 → j < 10 → S i = S j → i = j
theorem some_lt {w : World} {k : Nat} {o : Obj} (h : w.heap[k]? = some o) : k < w.heap.size := by
  rcases Nat.lt_or_ge k w.heap.size with h' | h'
  · exact h'
  · rw [Array.getElem?_eq_none h'] at h; cases h
theorem cell_stays {B : Nat} {w w' : World} (h : Below B w w') (hB : w.heap.size ≤ B) {a : Addr} {v : Value} (hc : w.cell? a = some v) : w'.cell? a = some v := by
  rw [h.cell (Nat.lt_of_lt_of_le (cell_lt hc) hB)]; exact hc
theorem row_stays {B : Nat} {w w' : World} (h : Below B w w') (hB : w.heap.size ≤ B) {k : Nat} {o : Obj} (hc : w.heap[k]? = some o) : w'.heap[k]? = some o := by
  rw [h.block k (Nat.lt_of_lt_of_le (some_lt hc) hB)]; exact hc
theorem Errs.stays {S : Nat → Addr} {w w' : World} (E : Errs S w) (h : Below w.heap.size w w') : Errs S w' where
  handle := cell_stays h (Nat.le_refl _) E.handle
  c0 := cell_stays h (Nat.le_refl _) E.c0
  c1 := cell_stays h (Nat.le_refl _) E.c1
  c2 := cell_stays h (Nat.le_refl _) E.c2
  c3 := cell_stays h (Nat.le_refl _) E.c3
  c4 := cell_stays h (Nat.le_refl _) E.c4
  c5 := cell_stays h (Nat.le_refl _) E.c5
  c6 := cell_stays h (Nat.le_refl _) E.c6
  c7 := cell_stays h (Nat.le_refl _) E.c7
  c8 := cell_stays h (Nat.le_refl _) E.c8
  c9 := cell_stays h (Nat.le_refl _) E.c9
  row := fun i hi => by obtain ⟨c, t, hc⟩ := E.row i hi; exact ⟨c, t, row_stays h (Nat.le_refl _) hc⟩
  inj := E.inj
/-- which of the ten errors p is: the k-th, or none (k = 10) -/
def Which (S : Nat → Addr) (p : Addr) (k : Nat) : Prop := (k < 10 ∧ p = S k) ∨ (k = 10 ∧ ∀ j, j < 10 → p ≠ S j)
theorem Which.ne {S : Nat → Addr} {w : World} {p : Addr} {k j : Nat} (E : Errs S w) (h : Which S p k) (hj : j < 10) (hn : j ≠ k) : p ≠ S j := by
  rcases h with ⟨h1, h2⟩ | ⟨h1, h2⟩
  · intro e; exact hn (E.inj j k hj h1 (by rw [← e, h2]))
  · exact h2 j hj
/-- the number that plain.Code tells of the k-th -/
def num (k : Nat) : Int := if k < 10 then (k : Int) + 1 else -1
end Go.Proofs.YtflagpkmebdckaaGreatDoor
