/-
  Rows of memory that may be written.
-/
import Derived.Test.YtckcbnfobjmhpaaDoorApp
import Derived.Laws.Rows
import Derived.Laws.CopyOwn
namespace Go.Proofs.YtckcbnfobjmhpaaDoor
open Go.RowKit
set_option linter.unusedVariables false
/-- block b is a row of so many cells, that may be written -/
def RowIs (w : World) (b : Nat) (t : TypeId) (n : Nat) (f : Nat → Value) : Prop := ∃ cur : Array Value, w.heap[b]? = some (.cells cur t (0, 0)) ∧ cur.size = n ∧ ∀ j, j < n → cur[j]? = some (f j)
theorem RowIs.cell {w : World} {b : Nat} {t : TypeId} {n : Nat} {f : Nat → Value} (h : RowIs w b t n f) {j : Nat} (hj : j < n) : w.cell? ⟨b, j, none⟩ = some (f j) := by
  obtain ⟨cur, h1, h2, h3⟩ := h
  rw [cell_of_row _ _ _ _ _ _ h1]; exact h3 j hj
theorem RowIs.fz {w : World} {b : Nat} {t : TypeId} {n : Nat} {f : Nat → Value} (h : RowIs w b t n f) (j : Nat) : w.frozen? ⟨b, j, none⟩ = false := by
  obtain ⟨cur, h1, h2, h3⟩ := h
  simp [World.frozen?, h1]
theorem RowIs.lt {w : World} {b : Nat} {t : TypeId} {n : Nat} {f : Nat → Value} (h : RowIs w b t n f) : b < w.heap.size := by
  obtain ⟨cur, h1, _⟩ := h; exact (Array.getElem?_eq_some_iff.1 h1).1
theorem RowIs.block {w w' : World} {b : Nat} {t : TypeId} {n : Nat} {f : Nat → Value} (h : RowIs w b t n f) (e : w'.heap[b]? = w.heap[b]?) : RowIs w' b t n f := by
  obtain ⟨cur, h1, h2, h3⟩ := h; exact ⟨cur, e.trans h1, h2, h3⟩
theorem RowIs.stays {w w' : World} {b : Nat} {t : TypeId} {n : Nat} {f : Nat → Value} (h : RowIs w b t n f) (hb : Below w.heap.size w w') : RowIs w' b t n f := h.block (hb.block _ h.lt)
theorem RowIs.put {w : World} {b : Nat} {t : TypeId} {n : Nat} {f : Nat → Value} (h : RowIs w b t n f) (i : Nat) (v : Value) (g : Nat → Value) (hg : g i = v) (ho : ∀ j, j < n → j ≠ i → g j = f j) : RowIs (w.setCell ⟨b, i, none⟩ v) b t n g := by
  obtain ⟨cur, h1, h2, h3⟩ := h
  rw [setCell_eq_setRow _ _ _ cur t (0, 0) _ h1]
  refine ⟨cur.setIfInBounds i v, setRow_heap w b _ _ t _ h1, by simp [h2], fun j hj => ?_⟩
  by_cases e : i = j
  · subst e; rw [Array.getElem?_setIfInBounds_self, if_pos (by omega), hg]
  · rw [Array.getElem?_setIfInBounds_ne e, h3 j hj, ho j hj (Ne.symm e)]
theorem owns_blocks {w w' : World} {base : Nat} {e : TypeId} {size n : Nat} {v : Value} {xs : List Value} (h : w.ownsRow base e size v n xs) (hb : ∀ k, v.ownBlock = some k → w'.heap[k]? = w.heap[k]?) : w'.ownsRow base e size v n xs := by
  refine ⟨h.1, ?_⟩
  rcases h.2 with hn | ⟨g, cap, cur, rfl, hbg, hgg, rest⟩
  · exact .inl hn
  · exact .inr ⟨g, cap, cur, rfl, hbg, (hb g rfl).trans hgg, rest⟩
theorem own_pos {w : World} {base : Nat} {e : TypeId} {size n : Nat} {v : Value} {xs : List Value} (h : w.ownsRow base e size v (n + 1) xs) : ∃ g cap, v = .slice (some ⟨g, 0, none⟩) (n + 1) cap := by
  rcases h.2 with ⟨_, h⟩ | ⟨g, cap, cur, rfl, _⟩
  · omega
  · exact ⟨g, cap, rfl⟩
theorem add_lit (g k : Nat) : (⟨g, 0, none⟩ : Addr).add k = ⟨g, k, none⟩ := by unfold Addr.add; split <;> simp_all
end Go.Proofs.YtckcbnfobjmhpaaDoor
