/-
  What stays where it was while memory grows.
-/
import Derived.Test.YtckcbnfobjmhpaaDoorKFns2
import Derived.Below
namespace Go.Proofs.YtckcbnfobjmhpaaDoor.K
open Go.RowKit
theorem cell_lt {w : World} {a : Addr} {v : Value} (h : w.cell? a = some v) : a.block < w.heap.size := by
  rcases Nat.lt_or_ge a.block w.heap.size with h' | h'
  · exact h'
  · simp [World.cell?, Array.getElem?_eq_none h'] at h
theorem some_lt {w : World} {k : Nat} {o : Obj} (h : w.heap[k]? = some o) : k < w.heap.size := by
  rcases Nat.lt_or_ge k w.heap.size with h' | h'
  · exact h'
  · rw [Array.getElem?_eq_none h'] at h; cases h

theorem cell_stays {B : Nat} {w w' : World} (h : Below B w w') (hB : w.heap.size ≤ B) {a : Addr} {v : Value} (hc : w.cell? a = some v) : w'.cell? a = some v := by
  rw [h.cell (Nat.lt_of_lt_of_le (cell_lt hc) hB)]; exact hc
theorem row_stays {B : Nat} {w w' : World} (h : Below B w w') (hB : w.heap.size ≤ B) {k : Nat} {o : Obj} (hc : w.heap[k]? = some o) : w'.heap[k]? = some o := by
  rw [h.block k (Nat.lt_of_lt_of_le (some_lt hc) hB)]; exact hc

end Go.Proofs.YtckcbnfobjmhpaaDoor.K
