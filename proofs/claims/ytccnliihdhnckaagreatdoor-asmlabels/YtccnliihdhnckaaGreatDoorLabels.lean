/-
  The labels of a source: a map of names.
-/
import Derived.Test.YtccnliihdhnckaaGreatDoorLineNo
import Derived.Maps.OwnSet
namespace Go.Proofs.YtccnliihdhnckaaGreatDoor
open Go.RowKit Go.Shelf Go.Joins Go.Maps
open Num Tab Fm Txt
set_option linter.unusedVariables false
theorem law9 : Keyed Tryz.prog 9 := string_keyed Tryz.underlying9
def heldE (v : Value) : Option (DataW Value × List MemPlace) := some (.held v, [])
theorem zero3 (w : World) : (zeroValue 3).run Tryz.prog w = .ok (.int .i64 0) w := by kernel_rfl
/-- labels, by name: how many words are ahead -/
def LabelsAt (w : World) (b N : Nat) (g : List UInt8 → Option Int) : Prop := ∃ D : DataW Value, w.ownsMap Tryz.prog 9 heldE b N D ∧ ∀ s : List UInt8, Maps.has D (.string s) = (g s).isSome ∧ D.atKey (.string s) (.held (.int .i64 0)) = .held (.int .i64 ((g s).getD 0))
theorem LabelsAt.lt {w : World} {b N : Nat} {g : List UInt8 → Option Int} (h : LabelsAt w b N g) : b < w.heap.size := let ⟨_, h, _⟩ := h; h.lt
theorem LabelsAt.kept {w w' : World} {b N : Nat} {g : List UInt8 → Option Int} {row : Option Nat} (h : LabelsAt w b N g) (hg : w.grownBy w' row) (hne : some b ≠ row) : LabelsAt w' b N g :=
  let ⟨D, h1, h2⟩ := h; ⟨D, h1.kept hg hne, h2⟩
theorem LabelsAt.mono {w : World} {b N N' : Nat} {g : List UInt8 → Option Int} (h : LabelsAt w b N g) (hn : N ≤ N') : LabelsAt w b N' g :=
  let ⟨D, h1, h2⟩ := h; ⟨D, h1.mono hn, h2⟩
theorem LabelsAt.look {w : World} {b N : Nat} {g : List UInt8 → Option Int} (h : LabelsAt w b N g) (s : List UInt8) (hk : keyOf Tryz.prog 9 (.string ⟨s.toArray⟩) = some (.string s)) : (Instr.lookup 84 (.map (some b)) (.string ⟨s.toArray⟩) true).run Tryz.prog w = .ok (.tuple #[.int .i64 ((g s).getD 0), .bool (g s).isSome]) w := by
  obtain ⟨D, g1, g2⟩ := h
  obtain ⟨v, ps, hrun, hv⟩ := g1.look_ok law9 Tryz.underlying84 (zero3 w) (zd := .held (.int .i64 0)) (zp := []) rfl hk
  rw [(g2 s).2] at hv
  simp only [heldE, Option.some.injEq, Prod.mk.injEq, DataW.held.injEq] at hv
  rw [hrun, (g2 s).1, hv.1]
theorem LabelsAt.put {w' : World} {b N : Nat} {g : List UInt8 → Option Int} {D : DataW Value} (h2 : ∀ s : List UInt8, Maps.has D (.string s) = (g s).isSome ∧ D.atKey (.string s) (.held (.int .i64 0)) = .held (.int .i64 ((g s).getD 0))) (hD : IsMap D) (s : List UInt8) (n : Int) (hk : WideAt.IsKeyLit (.string s))
    (h1 : w'.ownsMap Tryz.prog 9 heldE b N (D.put (.string s) (.held (.int .i64 n)))) : LabelsAt w' b N (fun t => if t = s then some n else g t) := by
  refine ⟨_, h1, fun t => ?_⟩
  by_cases e : t = s
  · subst e
    simp only [if_true]
    exact ⟨has_put_same hD hk _, atKey_put_same hD hk _ _⟩
  · simp only [if_neg e]
    have hne : (Lit.string t) ≠ .string s := fun h => e (by injection h)
    exact ⟨by rw [has_put_other hne, (h2 t).1], by rw [atKey_put_other hne, (h2 t).2]⟩
end Go.Proofs.YtccnliihdhnckaaGreatDoor
