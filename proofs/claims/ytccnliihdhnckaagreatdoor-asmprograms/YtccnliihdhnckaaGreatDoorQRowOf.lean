/-
  What RowOf and KindOf of the verifier's answer: a row of the document's table, or an empty one.
-/
import Derived.Handy
import Derived.Test.YtccnliihdhnckaaGreatDoorQCode
import Derived.Test.YtccnliihdhnckaaGreatDoorQRowsOf
namespace Go.Proofs.YtccnliihdhnckaaGreatDoor
open Go.RowKit Go.Extern.Stop Go.Stop Go.Extern
open Num Tab Fm
set_option linter.unusedVariables false
/-- a row of the table stands at a block -/
structure RowAt (b k : Nat) (w : World) : Prop where
  c0 : w.cell? ⟨b, k * 6, none⟩ = some (.string ⟨(nme k).toArray⟩)
  c1 : w.cell? ⟨b, k * 6 + 1, none⟩ = some (.int .i64 (mj k))
  c2 : w.cell? ⟨b, k * 6 + 2, none⟩ = some (.int .i64 (mn k))
  c3 : w.cell? ⟨b, k * 6 + 3, none⟩ = some (.string ⟨(flds k).toArray⟩)
  c4 : w.cell? ⟨b, k * 6 + 4, none⟩ = some (.string ⟨(ordr k).toArray⟩)
  c5 : w.cell? ⟨b, k * 6 + 5, none⟩ = some (.string ⟨(kindR k).toArray⟩)
/-- the table stands at a block -/
def TabAt (b : Nat) (w : World) : Prop := ∀ k, k < 54 → RowAt b k w
theorem tabAt_alloc (w : World) : TabAt w.heap.size (w.alloc (.cells rowCells 67)) := fun k hk => by
  have h := fun j hj => rowCells_at k hk j hj
  have g : ∀ o, (w.alloc (.cells rowCells 67)).cell? ⟨w.heap.size, o, none⟩ = rowCells[o]? := fun o => by rw [World.cell?_alloc_at _ _ _ _ rfl]
  constructor
  · rw [g, show k * 6 = 6 * k + 0 by omega, h 0 (by omega)]; rfl
  · rw [g, show k * 6 + 1 = 6 * k + 1 by omega, h 1 (by omega)]; rfl
  · rw [g, show k * 6 + 2 = 6 * k + 2 by omega, h 2 (by omega)]; rfl
  · rw [g, show k * 6 + 3 = 6 * k + 3 by omega, h 3 (by omega)]; rfl
  · rw [g, show k * 6 + 4 = 6 * k + 4 by omega, h 4 (by omega)]; rfl
  · rw [g, show k * 6 + 5 = 6 * k + 5 by omega, h 5 (by omega)]; rfl
theorem TabAt.stays {b : Nat} {w w' : World} (t : TabAt b w) (h : Below w.heap.size w w') : TabAt b w' := fun k hk => by
  have r := t k hk
  have s : ∀ {o v}, w.cell? ⟨b, o, none⟩ = some v → w'.cell? ⟨b, o, none⟩ = some v := fun e => by rw [h.cell (cell_lt e)]; exact e
  exact ⟨s r.c0, s r.c1, s r.c2, s r.c3, s r.c4, s r.c5⟩
theorem rows_any' (w : World) : Calls Tryz.prog 39 #[] w fun e w' => e = .returned (.slice (some ⟨w.heap.size, 0, none⟩) 54 54) ∧ Below w.heap.size w w' ∧ TabAt w.heap.size w' := by
  refine (rows_any w).mono ?_
  rintro e w' ⟨rfl, rfl⟩
  exact ⟨rfl, (Below.refl _ _).alloc (Nat.le_refl _) _, tabAt_alloc w⟩
set_option maxHeartbeats 1000000 in
theorem rowOf_in (k : Nat) (h0 : 1 ≤ (k : Int)) (h1 : (k : Int) < 54) (w : World) : Calls Tryz.prog 30 #[.int .i64 k] w fun e w' => e = .returned (.agg #[.string ⟨(nme k).toArray⟩, .int .i64 (mj k), .int .i64 (mn k), .string ⟨(flds k).toArray⟩, .string ⟨(ordr k).toArray⟩, .string ⟨(kindR k).toArray⟩]) ∧ Below w.heap.size w w' := by
  go_enter Tryz.func30, Tryz.ntmps30
  go_wp2_with fail
  refine (rows_any' _).mono ?_
  rintro e w1 ⟨rfl, hb, ht⟩
  obtain ⟨c0, c1, c2, c3, c4, c5⟩ := ht k (by omega)
  simp only [World.size_alloc] at c0 c1 c2 c3 c4 c5
  have hz : w.heap.size < w1.heap.size := by have := hb.size; simp at this; omega
  have bA : Below w.heap.size w w1 := ((Below.refl _ _).alloc (Nat.le_refl _) _).trans (hb.mono (by simp))
  obtain ⟨d0, d1, d2, d3, d4, d5⟩ : (w1.cell? ⟨w.heap.size, 0, none⟩ = some (.string ⟨#[]⟩)) ∧ (w1.cell? ⟨w.heap.size, 1, none⟩ = some (.int .i64 0)) ∧ (w1.cell? ⟨w.heap.size, 2, none⟩ = some (.int .i64 0)) ∧ (w1.cell? ⟨w.heap.size, 3, none⟩ = some (.string ⟨#[]⟩)) ∧ (w1.cell? ⟨w.heap.size, 4, none⟩ = some (.string ⟨#[]⟩)) ∧ (w1.cell? ⟨w.heap.size, 5, none⟩ = some (.string ⟨#[]⟩)) := by
    have g : ∀ o, w1.cell? ⟨w.heap.size, o, none⟩ = _ := fun o => hb.cell (p := ⟨w.heap.size, o, none⟩) (by simp)
    refine ⟨?_, ?_, ?_, ?_, ?_, ?_⟩ <;> (rw [g]; simp)
  have f0 : ∀ o, w1.frozen? ⟨w.heap.size, o, none⟩ = false := fun o => by rw [hb.frozen (p := ⟨w.heap.size, o, none⟩) (by simp)]; simp
  go_wp2
  exact bodyPost_ret (v := .agg #[.string ⟨(nme k).toArray⟩, .int .i64 (mj k), .int .i64 (mn k), .string ⟨(flds k).toArray⟩, .string ⟨(ordr k).toArray⟩, .string ⟨(kindR k).toArray⟩]) (by simp [results, Tryz.results30, go_sem, d0, d1, d2, d3, d4, d5]) rfl ⟨rfl, (((((bA.setCell (by simp) _).setCell (by simp) _).setCell (by simp) _).setCell (by simp) _).setCell (by simp) _).setCell (by simp) _⟩
theorem fieldFlds (a b c d e f : Value) (w : World) : (Instr.field 67 (.agg #[a, b, c, d, e, f]) 3).run Tryz.prog w = .ok d w := by kernel_rfl
end Go.Proofs.YtccnliihdhnckaaGreatDoor
