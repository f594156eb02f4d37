/-
  What a kind writes is a word.
-/
import Derived.Test.YtcccaejjhodnkabGreatDoorKOptPure
import Derived.Test.YtcccaejjhodnkabGreatDoorKOptFacts
namespace Go.Proofs.YtcccaejjhodnkabGreatDoor
open Num
set_option linter.unusedVariables false
def u32 (x : Int) : Prop := 0 ≤ x ∧ x < 4294967296
end Go.Proofs.YtcccaejjhodnkabGreatDoor
/-
  Package opt: ops that are told, in place.
-/
namespace Go.Proofs.YtcccaejjhodnkabGreatDoor
open Go.RowKit Go.Maps
open Num
set_option linter.unusedVariables false
/-- block g holds ops, from its first cell on, and may be written -/
structure OpsRw (w : World) (g : Nat) (l : List Opx) : Prop where
  c : ∀ (i : Nat) (o : Opx), l[i]? = some o → ∀ (j : Nat) (u : Value), (opC o)[j]? = some u → w.cell? ⟨g, i * 6 + j, none⟩ = some u
  fz : ∀ j, w.frozen? ⟨g, j, none⟩ = false
theorem OpsRw.block {w w' : World} {g : Nat} {l : List Opx} (R : OpsRw w g l) (h : w'.heap[g]? = w.heap[g]?) : OpsRw w' g l :=
  ⟨fun i o hi j u hj => (World.cell?_of_block (a := ⟨g, i * 6 + j, none⟩) h).trans (R.c i o hi j u hj), fun j => (World.frozen?_of_block (a := ⟨g, j, none⟩) h).trans (R.fz j)⟩
theorem OpsRw.lt {w : World} {g : Nat} {l : List Opx} (R : OpsRw w g l) (h : 0 < l.length) : g < w.heap.size := World.block_lt_of_cell? _ _ (R.c 0 _ (List.getElem?_eq_getElem h) 0 _ rfl)
theorem OpsRw.in {w : World} {g cap : Nat} {l : List Opx} (R : OpsRw w g l) (hc : l.length ≤ cap) (ok : ∀ o ∈ l, o.ok) : OpsIn w (.slice (some ⟨g, 0, none⟩) l.length cap) l :=
  ⟨⟨_, cap, rfl, hc, fun _ => ⟨g, 0, rfl, fun i o hi j u hj => by rw [Nat.zero_add]; exact R.c i o hi j u hj⟩⟩, ok⟩
def put6 (w : World) (g a : Nat) (o : Opx) : World := (((((w.setCell ⟨g, a, none⟩ (.string o.s)).setCell ⟨g, a + 1, none⟩ (.int .i64 o.d)).setCell ⟨g, a + 2, none⟩ (.int .i64 o.a)).setCell ⟨g, a + 3, none⟩ (.int .i64 o.b)).setCell ⟨g, a + 4, none⟩ (.int .u32 o.i)).setCell ⟨g, a + 5, none⟩ (.int .i64 o.t)
theorem set_same {w : World} {a : Addr} {v : Value} (h : (w.cell? a).isSome = true) : (w.setCell a v).cell? a = some v := World.cell?_setCell_same' w a v h
theorem set_other {w : World} {g i j : Nat} {v : Value} (h : i ≠ j) : (w.setCell ⟨g, i, none⟩ v).cell? ⟨g, j, none⟩ = w.cell? ⟨g, j, none⟩ := World.cell?_setCell_other _ _ _ _ (by intro e; injection e with _ e; exact h (by omega))
theorem OpsRw.put {w : World} {g n : Nat} {l : List Opx} (R : OpsRw w g l) (hn : n < l.length) (o' : Opx) : OpsRw (put6 w g (n * 6) o') g (l.set n o') := by
  have old : ∀ j, j < 6 → (w.cell? ⟨g, n * 6 + j, none⟩).isSome = true := by
    intro j hj
    have := R.c n _ (List.getElem?_eq_getElem hn) j
    have h6 : (opC l[n]).length = 6 := rfl
    rw [this _ (List.getElem?_eq_getElem (by omega))]; rfl
  refine ⟨fun i o hi j u hj => ?_, fun j => ?_⟩
  · have hj6 : j < 6 := (List.getElem?_eq_some_iff.1 hj).1
    rw [List.getElem?_set] at hi
    by_cases e : n = i
    · rw [if_pos e, if_pos hn] at hi
      cases hi
      subst e
      unfold put6
      have o0 := old 0 (by omega)
      have o1 := old 1 (by omega)
      have o2 := old 2 (by omega)
      have o3 := old 3 (by omega)
      have o4 := old 4 (by omega)
      have o5 := old 5 (by omega)
      rw [Nat.add_zero] at o0
      have hc : j = 0 ∨ j = 1 ∨ j = 2 ∨ j = 3 ∨ j = 4 ∨ j = 5 := by omega
      rcases hc with rfl | rfl | rfl | rfl | rfl | rfl
      · cases hj
        rw [set_other (by omega), set_other (by omega), set_other (by omega), set_other (by omega), set_other (by omega)]
        exact set_same o0
      · cases hj
        rw [set_other (by omega), set_other (by omega), set_other (by omega), set_other (by omega), set_same (by rw [set_other (by omega)]; exact o1)]
      · cases hj
        rw [set_other (by omega), set_other (by omega), set_other (by omega), set_same (by rw [set_other (by omega), set_other (by omega)]; exact o2)]
      · cases hj
        rw [set_other (by omega), set_other (by omega), set_same (by rw [set_other (by omega), set_other (by omega), set_other (by omega)]; exact o3)]
      · cases hj
        rw [set_other (by omega), set_same (by rw [set_other (by omega), set_other (by omega), set_other (by omega), set_other (by omega)]; exact o4)]
      · cases hj
        rw [set_same (by rw [set_other (by omega), set_other (by omega), set_other (by omega), set_other (by omega), set_other (by omega)]; exact o5)]
    · rw [if_neg e] at hi
      unfold put6
      rw [set_other (by omega), set_other (by omega), set_other (by omega), set_other (by omega), set_other (by omega), set_other (by omega)]
      exact R.c i o hi j u hj
  · unfold put6
    simp only [World.frozen?_setCell]
    exact R.fz j
theorem FactsAt.kept {w w' : World} {b N g : Nat} {f : Fx} (F : FactsAt w b N f) (h : w.grownBy w' (some g)) (hne : b ≠ g) : FactsAt w' b N f := by
  obtain ⟨D, h1, h2, h3⟩ := F.own
  exact ⟨⟨D, h1.kept h (by intro e; exact hne (Option.some.inj e)), h2, h3⟩, F.bd⟩
/-- told so far: done, the rest, what is known -/
structure WkAt (l done rest : List Opx) (f : Fx) : Prop where
  e : workF fx0 l = done ++ workF f rest
  r : rest = l.drop done.length
theorem WkAt.next {l done rest : List Opx} {f : Fx} {o : Opx} (W : WkAt l done (o :: rest) f) : WkAt l (done ++ [toldO f o]) rest (learnF f (toldO f o)) := by
  refine ⟨by rw [W.e]; simp [workF], ?_⟩
  have := W.r
  rw [List.length_append, List.length_singleton, ← List.drop_drop, ← this]; rfl
end Go.Proofs.YtcccaejjhodnkabGreatDoor
