/-
  Package opt: Known; ops that are told.
-/
import Derived.Test.YtjkencgcdlfjhaaGreatDoorJOptP
import Derived.Test.YtjkencgcdlfjhaaGreatDoorKIrChk2
import Derived.Test.YtjkencgcdlfjhaaGreatDoorJPass
import Derived.Test.YtjkencgcdlfjhaaGreatDoorKIrRes
namespace Go.Proofs.YtjkencgcdlfjhaaGreatDoor
open Go.RowKit Go.Maps
open Num
set_option linter.unusedVariables false
end Go.Proofs.YtjkencgcdlfjhaaGreatDoor
/-
  Package opt: ops that are told, in place.
-/
namespace Go.Proofs.YtjkencgcdlfjhaaGreatDoor
open Go.RowKit Go.Maps
open Num
set_option linter.unusedVariables false
/-- block g holds ops, from its first cell on, and may be written -/
structure OpsRw (w : World) (g : Nat) (l : List Opx) : Prop where
  c : ∀ (i : Nat) (o : Opx), l[i]? = some o → ∀ (j : Nat) (u : Value), (opC o)[j]? = some u → w.cell? ⟨g, i * 6 + j, none⟩ = some u
  fz : ∀ j, w.frozen? ⟨g, j, none⟩ = false
theorem OpsRw.block {w w' : World} {g : Nat} {l : List Opx} (R : OpsRw w g l) (h : w'.heap[g]? = w.heap[g]?) : OpsRw w' g l :=
  ⟨fun i o hi j u hj => (World.cell?_of_block (a := ⟨g, i * 6 + j, none⟩) h).trans (R.c i o hi j u hj), fun j => (World.frozen?_of_block (a := ⟨g, j, none⟩) h).trans (R.fz j)⟩
theorem OpsRw.lt {w : World} {g : Nat} {l : List Opx} (R : OpsRw w g l) (h : 0 < l.length) : g < w.heap.size := World.block_lt_of_cell? _ _ (R.c 0 _ (List.getElem?_eq_getElem h) 0 _ rfl)
theorem OpsRw.in {w : World} {g cap : Nat} {l : List Opx} (R : OpsRw w g l) (hc : l.length ≤ cap) (ok : ∀ o ∈ l, o.ok) : OpsIn w (.slice (some ⟨g, 0, none⟩) l.length cap) l :=
  ⟨⟨_, cap, rfl, hc, fun _ => ⟨g, 0, rfl, fun i o hi j u hj => by rw [Nat.zero_add]; exact R.c i o hi j u hj⟩⟩, ok⟩
def put6 (w : World) (g a : Nat) (o : Opx) : World := (((((w.setCell ⟨g, a, none⟩ (.string o.s)).setCell ⟨g, a + 1, none⟩ (.int .i64 o.d)).setCell ⟨g, a + 2, none⟩ (.int .i64 o.a)).setCell ⟨g, a + 3, none⟩ (.int .i64 o.b)).setCell ⟨g, a + 4, none⟩ (.int .u32 o.i)).setCell ⟨g, a + 5, none⟩ (.int .i64 o.t)
theorem set_same {w : World} {a : Addr} {v : Value} (h : (w.cell? a).isSome = true) : (w.setCell a v).cell? a = some v := World.cell?_setCell_same' w a v h
theorem set_other {w : World} {g i j : Nat} {v : Value} (h : i ≠ j) : (w.setCell ⟨g, i, none⟩ v).cell? ⟨g, j, none⟩ = w.cell? ⟨g, j, none⟩ := World.cell?_setCell_other _ _ _ _ (by intro e; injection e with _ e; exact h (by omega))
theorem OpsRw.put {w : World} {g n : Nat} {l : List Opx} (R : OpsRw w g l) (hn : n < l.length) (o' : Opx) : OpsRw (put6 w g (n * 6) o') g (l.set n o') := by
  have old : ∀ j, j < 6 → (w.cell? ⟨g, n * 6 + j, none⟩).isSome = true := by
    intro j hj
    have := R.c n _ (List.getElem?_eq_getElem hn) j
    have h6 : (opC l[n]).length = 6 := rfl
    rw [this _ (List.getElem?_eq_getElem (by omega))]; rfl
  refine ⟨fun i o hi j u hj => ?_, fun j => ?_⟩
  · have hj6 : j < 6 := (List.getElem?_eq_some_iff.1 hj).1
    rw [List.getElem?_set] at hi
    by_cases e : n = i
    · rw [if_pos e, if_pos hn] at hi
      cases hi
      subst e
      unfold put6
      have o0 := old 0 (by omega)
      have o1 := old 1 (by omega)
      have o2 := old 2 (by omega)
      have o3 := old 3 (by omega)
      have o4 := old 4 (by omega)
      have o5 := old 5 (by omega)
      rw [Nat.add_zero] at o0
      have hc : j = 0 ∨ j = 1 ∨ j = 2 ∨ j = 3 ∨ j = 4 ∨ j = 5 := by omega
      rcases hc with rfl | rfl | rfl | rfl | rfl | rfl
      · cases hj
        rw [set_other (by omega), set_other (by omega), set_other (by omega), set_other (by omega), set_other (by omega)]
        exact set_same o0
      · cases hj
        rw [set_other (by omega), set_other (by omega), set_other (by omega), set_other (by omega), set_same (by rw [set_other (by omega)]; exact o1)]
      · cases hj
        rw [set_other (by omega), set_other (by omega), set_other (by omega), set_same (by rw [set_other (by omega), set_other (by omega)]; exact o2)]
      · cases hj
        rw [set_other (by omega), set_other (by omega), set_same (by rw [set_other (by omega), set_other (by omega), set_other (by omega)]; exact o3)]
      · cases hj
        rw [set_other (by omega), set_same (by rw [set_other (by omega), set_other (by omega), set_other (by omega), set_other (by omega)]; exact o4)]
      · cases hj
        rw [set_same (by rw [set_other (by omega), set_other (by omega), set_other (by omega), set_other (by omega), set_other (by omega)]; exact o5)]
    · rw [if_neg e] at hi
      unfold put6
      rw [set_other (by omega), set_other (by omega), set_other (by omega), set_other (by omega), set_other (by omega), set_other (by omega)]
      exact R.c i o hi j u hj
  · unfold put6
    simp only [World.frozen?_setCell]
    exact R.fz j
theorem FactsAt.kept {w w' : World} {b N g : Nat} {f : Fx} (F : FactsAt w b N f) (h : w.grownBy w' (some g)) (hne : b ≠ g) : FactsAt w' b N f := by
  obtain ⟨D, h1, h2, h3⟩ := F.own
  exact ⟨⟨D, h1.kept h (by intro e; exact hne (Option.some.inj e)), h2, h3⟩, F.bd⟩
/-- told so far: done, the rest, what is known -/
structure WkAt (l done rest : List Opx) (f : Fx) : Prop where
  e : workF fx0 l = done ++ workF f rest
  r : rest = l.drop done.length
theorem WkAt.next {l done rest : List Opx} {f : Fx} {o : Opx} (W : WkAt l done (o :: rest) f) : WkAt l (done ++ [toldO f o]) rest (learnF f (toldO f o)) := by
  refine ⟨by rw [W.e]; simp [workF], ?_⟩
  have := W.r
  rw [List.length_append, List.length_singleton, ← List.drop_drop, ← this]; rfl
end Go.Proofs.YtjkencgcdlfjhaaGreatDoor
/-
  slices.Reverse and slices.Clone of ops.
-/
namespace Go.Proofs.YtjkencgcdlfjhaaGreatDoor
open Go.RowKit Go.Maps
open Num
set_option linter.unusedVariables false
/-- ops of which the first i and the last i have changed places -/
structure RevAt (l L : List Opx) (i : Nat) : Prop where
  len : L.length = l.length
  h : 2 * i ≤ l.length + 1
  at' : ∀ k, k < l.length → L[k]? = if k < i ∨ l.length ≤ k + i then l[l.length - 1 - k]? else l[k]?
theorem RevAt.done {l L : List Opx} {i : Nat} (R : RevAt l L i) (h : l.length ≤ 2 * i + 1) : L = l.reverse := by
  apply List.ext_getElem?
  intro k
  by_cases hk : k < l.length
  · rw [R.at' k hk, List.getElem?_reverse hk]
    by_cases hc : k < i ∨ l.length ≤ k + i
    · rw [if_pos hc]
    · rw [if_neg hc, show l.length - 1 - k = k by omega]
  · rw [List.getElem?_eq_none (by rw [R.len]; omega), List.getElem?_eq_none (by simp; omega)]
theorem RevAt.next {l L : List Opx} {i : Nat} (R : RevAt l L i) (hi : 2 * i + 1 < l.length) {x y : Opx} (hx : L[i]? = some x) (hy : L[l.length - 1 - i]? = some y) : RevAt l ((L.set i y).set (l.length - 1 - i) x) (i + 1) := by
  have hx' := R.at' i (by omega)
  have hy' := R.at' (l.length - 1 - i) (by omega)
  rw [hx, if_neg (by omega)] at hx'
  rw [hy, if_neg (by omega)] at hy'
  refine ⟨by simp [R.len], by omega, fun k hk => ?_⟩
  rw [List.getElem?_set, List.getElem?_set]
  simp only [List.length_set]
  by_cases h1 : l.length - 1 - i = k
  · rw [if_pos h1, if_pos (by rw [R.len]; omega), if_pos (by omega), ← h1, show l.length - 1 - (l.length - 1 - i) = i by omega]; exact hx'
  · rw [if_neg h1]
    by_cases h2 : i = k
    · rw [if_pos h2, if_pos (by rw [R.len]; omega), if_pos (by omega), ← h2]; exact hy'
    · rw [if_neg h2, R.at' k hk]
      by_cases hc : k < i ∨ l.length ≤ k + i
      · rw [if_pos hc, if_pos (by omega)]
      · rw [if_neg hc, if_neg (by omega)]
theorem OpsRw.drew {w : World} {g : Nat} {l : List Opx} (R : OpsRw w g l) : OpsRw w.drew g l := ⟨R.c, R.fz⟩
/-- twelve cells of two ops -/
structure TwoO (W : World) (g a b : Nat) (x y : Opx) : Prop where
  x0 : W.cell? ⟨g, a, none⟩ = some (.string x.s)
  x1 : W.cell? ⟨g, a + 1, none⟩ = some (.int .i64 x.d)
  x2 : W.cell? ⟨g, a + 2, none⟩ = some (.int .i64 x.a)
  x3 : W.cell? ⟨g, a + 3, none⟩ = some (.int .i64 x.b)
  x4 : W.cell? ⟨g, a + 4, none⟩ = some (.int .u32 x.i)
  x5 : W.cell? ⟨g, a + 5, none⟩ = some (.int .i64 x.t)
  y0 : W.cell? ⟨g, b, none⟩ = some (.string y.s)
  y1 : W.cell? ⟨g, b + 1, none⟩ = some (.int .i64 y.d)
  y2 : W.cell? ⟨g, b + 2, none⟩ = some (.int .i64 y.a)
  y3 : W.cell? ⟨g, b + 3, none⟩ = some (.int .i64 y.b)
  y4 : W.cell? ⟨g, b + 4, none⟩ = some (.int .u32 y.i)
  y5 : W.cell? ⟨g, b + 5, none⟩ = some (.int .i64 y.t)
theorem OpsRw.six {w : World} {g i : Nat} {l : List Opx} {o : Opx} (R : OpsRw w g l) (h : l[i]? = some o) : w.cell? ⟨g, i * 6, none⟩ = some (.string o.s) ∧ w.cell? ⟨g, i * 6 + 1, none⟩ = some (.int .i64 o.d) ∧ w.cell? ⟨g, i * 6 + 2, none⟩ = some (.int .i64 o.a) ∧ w.cell? ⟨g, i * 6 + 3, none⟩ = some (.int .i64 o.b) ∧ w.cell? ⟨g, i * 6 + 4, none⟩ = some (.int .u32 o.i) ∧ w.cell? ⟨g, i * 6 + 5, none⟩ = some (.int .i64 o.t) :=
  ⟨R.c i o h 0 _ rfl, R.c i o h 1 _ rfl, R.c i o h 2 _ rfl, R.c i o h 3 _ rfl, R.c i o h 4 _ rfl, R.c i o h 5 _ rfl⟩
end Go.Proofs.YtjkencgcdlfjhaaGreatDoor
