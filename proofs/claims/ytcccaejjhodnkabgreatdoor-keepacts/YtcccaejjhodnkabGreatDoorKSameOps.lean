/-
  sameOps, of two slices that hold the same ops.
-/
import Derived.Test.YtcccaejjhodnkabGreatDoorQDoc6
namespace Go.Proofs.YtcccaejjhodnkabGreatDoor
open Go.RowKit Go.Maps
open Num
set_option linter.unusedVariables false
set_option maxRecDepth 100000 in
set_option maxHeartbeats 2000000 in
theorem sameOps_any {w : World} {u v : Value} {l : List Opx} (A : OpsIn w u l) (B : OpsIn w v l) (hl : (l.length : Int) ≤ 1000000) :
    Calls Tryz.prog 35 #[u, v] w fun e w' => e = .returned (.bool true) ∧ Below w.heap.size w w' := by
  obtain ⟨ao, ca, rfl, _, hA⟩ := A.sh
  obtain ⟨bo, cb, rfl, _, hB⟩ := B.sh
  have HA : Hid (0 < l.length → ∃ b off : Nat, ao = some ⟨b, off, none⟩ ∧ ∀ (i : Nat) (o : Opx), l[i]? = some o → ∀ (j : Nat) (u : Value), (opC o)[j]? = some u → w.cell? ⟨b, off + i * 6 + j, none⟩ = some u) := hA
  have HB : Hid (0 < l.length → ∃ b off : Nat, bo = some ⟨b, off, none⟩ ∧ ∀ (i : Nat) (o : Opx), l[i]? = some o → ∀ (j : Nat) (u : Value), (opC o)[j]? = some u → w.cell? ⟨b, off + i * 6 + j, none⟩ = some u) := hB
  clear A B hA hB
  go_enter Tryz.func35, Tryz.ntmps35
  go_wp2
  go_loopw [5] (fun i wr => ∃ (j n : Nat), j ≤ l.length ∧ i = .int .i64 j ∧ wr = w.drewN n) (fun i _ => l.length - (intOf i).toNat)
  case atStart => exact ⟨0, 0, Nat.zero_le _, rfl, rfl⟩
  case round =>
    obtain ⟨j, n, hj, rfl, rfl⟩ := hrel
    by_cases hlt : j < l.length
    · obtain ⟨o, ho⟩ : ∃ o, l[j]? = some o := ⟨_, List.getElem?_eq_getElem hlt⟩
      obtain ⟨b, off, rfl, hc⟩ := HA.out (by omega)
      obtain ⟨d, of2, rfl, hd⟩ := HB.out (by omega)
      obtain ⟨x0, x1, x2, x3, x4, x5⟩ := op_cells (hc j o ho)
      obtain ⟨y0, y1, y2, y3, y4, y5⟩ := op_cells (hd j o ho)
      have zb := World.block_lt_of_cell? _ _ x0
      have zd := World.block_lt_of_cell? _ _ y0
      have hlt' : (j : Int) < l.length := by omega
      clear hc hd ho HA HB
      go_wp2
      go_quiet (fail)
      go_wp2
      go_roundw
      case rel => exact ⟨j + 1, n + nq, by omega, by go_num, by first | rfl | (rw [World.drewN_drewN]; done) | (simp; done)⟩
      case measure => simp [intOf]; omega
    · obtain rfl : j = l.length := by omega
      go_wp2
      go_ret
      exact ⟨rfl, below_drewN (Below.refl _ _) n⟩
end Go.Proofs.YtcccaejjhodnkabGreatDoor
/-
  The document's CodeFault, walked.
-/
namespace Go.Proofs.YtcccaejjhodnkabGreatDoor
open Go.RowKit Go.Maps
open Num
set_option linter.unusedVariables false
/-- where an answer of two cells is written -/
structure FBox (W : World) (x : Nat) : Prop where
  c0 : ∃ u, W.cell? ⟨x, 0, none⟩ = some u
  c1 : ∃ u, W.cell? ⟨x, 1, none⟩ = some u
  f0 : W.frozen? ⟨x, 0, none⟩ = false
  f1 : W.frozen? ⟨x, 1, none⟩ = false
theorem FBox.stays {W W' : World} {x : Nat} (F : FBox W x) (h : Below W.heap.size W W') : FBox W' x := by
  obtain ⟨⟨u, a⟩, ⟨v, b⟩, c, d⟩ := F
  exact ⟨⟨u, by rw [h.cell (World.block_lt_of_cell? _ _ a)]; exact a⟩, ⟨v, by rw [h.cell (World.block_lt_of_cell? _ _ b)]; exact b⟩, by rw [h.frozen (World.block_lt_of_cell? _ _ a)]; exact c, by rw [h.frozen (World.block_lt_of_cell? _ _ b)]; exact d⟩
theorem FBox.lt {W : World} {x : Nat} (F : FBox W x) : x < W.heap.size := by obtain ⟨⟨u, a⟩, _⟩ := F; exact World.block_lt_of_cell? _ _ a
theorem FBox.drewN {W : World} {x : Nat} (F : FBox W x) (n : Nat) : FBox (W.drewN n) x := ⟨F.c0, F.c1, F.f0, F.f1⟩
theorem FBox.new (w : World) : FBox (w.alloc (.cells #[.int .i64 0, .int .i64 0] 42)) w.heap.size := ⟨⟨.int .i64 0, by simp⟩, ⟨.int .i64 0, by simp⟩, by simp, by simp⟩
theorem fault_put {w W : World} (hB : Below w.heap.size w W) (F : FBox W w.heap.size) (a b : Int) :
    (loadVar 42 ⟨w.heap.size, 0, none⟩).run Tryz.prog ((W.setCell ⟨w.heap.size, 0, none⟩ (.int .i64 a)).setCell ⟨w.heap.size, 1, none⟩ (.int .i64 b)) = .ok (.agg #[.int .i64 a, .int .i64 b]) ((W.setCell ⟨w.heap.size, 0, none⟩ (.int .i64 a)).setCell ⟨w.heap.size, 1, none⟩ (.int .i64 b)) ∧ Below w.heap.size w ((W.setCell ⟨w.heap.size, 0, none⟩ (.int .i64 a)).setCell ⟨w.heap.size, 1, none⟩ (.int .i64 b)) := by
  obtain ⟨⟨u, h0⟩, ⟨v, h1⟩, _, _⟩ := F
  obtain ⟨z0, z1⟩ := putF2 (v0 := .int .i64 a) (v1 := .int .i64 b) h0 h1
  exact ⟨fault_load z0 z1, (hB.setCell (Nat.le_refl _) _).setCell (Nat.le_refl _) _⟩
end Go.Proofs.YtcccaejjhodnkabGreatDoor
