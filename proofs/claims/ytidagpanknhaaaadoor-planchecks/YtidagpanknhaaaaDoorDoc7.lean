/-
  The document's CodeFault, walked.
-/
import Derived.Test.YtidagpanknhaaaaDoorDoc6
namespace Go.Proofs.YtidagpanknhaaaaDoor
open Go.RowKit Go.Maps
open Num
set_option linter.unusedVariables false
theorem opE_t0 {o : Opx} {many : Int} (h : opE o many = 0) : 0 ≤ o.t := by
  unfold opE at h
  split at h
  · omega
  · split at h
    · omega
    · rename_i h2; simp [bndB] at h2; exact h2.2.2.2.1
/-- where an answer of two cells is written -/
structure FBox (W : World) (x : Nat) : Prop where
  c0 : ∃ u, W.cell? ⟨x, 0, none⟩ = some u
  c1 : ∃ u, W.cell? ⟨x, 1, none⟩ = some u
  f0 : W.frozen? ⟨x, 0, none⟩ = false
  f1 : W.frozen? ⟨x, 1, none⟩ = false
theorem FBox.stays {W W' : World} {x : Nat} (F : FBox W x) (h : Below W.heap.size W W') : FBox W' x := by
  obtain ⟨⟨u, a⟩, ⟨v, b⟩, c, d⟩ := F
  exact ⟨⟨u, by rw [h.cell (World.block_lt_of_cell? _ _ a)]; exact a⟩, ⟨v, by rw [h.cell (World.block_lt_of_cell? _ _ b)]; exact b⟩, by rw [h.frozen (World.block_lt_of_cell? _ _ a)]; exact c, by rw [h.frozen (World.block_lt_of_cell? _ _ b)]; exact d⟩
theorem FBox.lt {W : World} {x : Nat} (F : FBox W x) : x < W.heap.size := by obtain ⟨⟨u, a⟩, _⟩ := F; exact World.block_lt_of_cell? _ _ a
theorem FBox.drewN {W : World} {x : Nat} (F : FBox W x) (n : Nat) : FBox (W.drewN n) x := ⟨F.c0, F.c1, F.f0, F.f1⟩
theorem FBox.new (w : World) : FBox (w.alloc (.cells #[.int .i64 0, .int .i64 0] 35)) w.heap.size := ⟨⟨.int .i64 0, by simp⟩, ⟨.int .i64 0, by simp⟩, by simp, by simp⟩
theorem fault_put {w W : World} (hB : Below w.heap.size w W) (F : FBox W w.heap.size) (a b : Int) :
    (loadVar 35 ⟨w.heap.size, 0, none⟩).run Tryd.prog ((W.setCell ⟨w.heap.size, 0, none⟩ (.int .i64 a)).setCell ⟨w.heap.size, 1, none⟩ (.int .i64 b)) = .ok (.agg #[.int .i64 a, .int .i64 b]) ((W.setCell ⟨w.heap.size, 0, none⟩ (.int .i64 a)).setCell ⟨w.heap.size, 1, none⟩ (.int .i64 b)) ∧ Below w.heap.size w ((W.setCell ⟨w.heap.size, 0, none⟩ (.int .i64 a)).setCell ⟨w.heap.size, 1, none⟩ (.int .i64 b)) := by
  obtain ⟨⟨u, h0⟩, ⟨v, h1⟩, _, _⟩ := F
  obtain ⟨z0, z1⟩ := putF2 (v0 := .int .i64 a) (v1 := .int .i64 b) h0 h1
  exact ⟨fault_load z0 z1, (hB.setCell (Nat.le_refl _) _).setCell (Nat.le_refl _) _⟩
end Go.Proofs.YtidagpanknhaaaaDoor
