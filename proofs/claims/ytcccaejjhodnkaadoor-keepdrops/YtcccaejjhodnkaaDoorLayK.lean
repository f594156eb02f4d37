/-
  From what the program's own text lays (five errors of package api, how many ops each part of a row may have) to what the walk asks.
-/
import Derived.Test.YtcccaejjhodnkaaDoorLay
import Derived.Test.YtcccaejjhodnkaaDoorPl6
namespace Go.Proofs.YtcccaejjhodnkaaDoor
open Go.ChangeShapes Go.WideShapes Go.ChangeAt Go.RowKit Go.Lib
set_option linter.unusedVariables false
theorem Tryd.gExist : Tryd.prog.globalNamed "changeling/api.ErrExist" = some 5 := by kernel_rfl
theorem Tryd.cInt : Tryd.prog.cellsOf 3 = 1 := by kernel_rfl
theorem Tryd.gMost : Tryd.prog.globalNamed "changeling/plan.most" = some 6 := by kernel_rfl
theorem Tryd.tMost : (Tryd.prog.globals[6]?).map (·.type) = some 180 := by kernel_rfl
theorem Tryd.cMost : Tryd.prog.cellsOf 180 = 3 := by kernel_rfl
theorem mst_of_reads {W : World} (h : VarReads Tryd.prog W "changeling/plan.most" (tabData .i64 [3, 1, 1])) : Mst W := by
  obtain ⟨g, t, cs, fuel, p, hg, hty, hvar, hd⟩ := h
  obtain rfl := Option.some.inj (Tryd.gMost.symm.trans hg)
  obtain rfl := Option.some.inj (Tryd.tMost.symm.trans hty)
  have hcs := cells_of_tab Tryd.underlying180 Tryd.underlying3 Tryd.cInt Tryd.cMost hd
  have at_ : ∀ i, W.cell? ⟨6, i, none⟩ = ([3, 1, 1].map (Value.int .i64))[i]? := fun i => by
    have := World.var?_cell hg hvar i
    rw [this, ← Array.getElem?_toList, hcs]
  exact ⟨at_ 0, at_ 1, at_ 2⟩
/-- the errors that are named, by name and text -/
def fiveK : List (String × List UInt8) := [("changeling/api.ErrBound", [99, 104, 97, 110, 103, 101, 108, 105, 110, 103, 58, 32, 98, 111, 117, 110, 100]), ("changeling/api.ErrShape", [99, 104, 97, 110, 103, 101, 108, 105, 110, 103, 58, 32, 115, 104, 97, 112, 101]), ("changeling/api.ErrKind", [99, 104, 97, 110, 103, 101, 108, 105, 110, 103, 58, 32, 107, 105, 110, 100]), ("changeling/api.ErrExist", [99, 104, 97, 110, 103, 101, 108, 105, 110, 103, 58, 32, 101, 120, 105, 115, 116]), ("changeling/api.ErrFull", [99, 104, 97, 110, 103, 101, 108, 105, 110, 103, 58, 32, 102, 117, 108, 108])]
theorem fiveK_named : ∀ x ∈ fiveK, ∃ g, Tryd.prog.globalNamed x.1 = some g ∧ (Tryd.prog.globals[g]?).map (·.type) = some 42 := by
  have h : (fiveK.all fun x => match Tryd.prog.globalNamed x.1 with | some g => decide ((Tryd.prog.globals[g]?).map (·.type) = some 42) | none => false) = true := by kernel_rfl
  intro x hx
  have := List.all_eq_true.1 h x hx
  cases hg : Tryd.prog.globalNamed x.1 with
  | none => rw [hg] at this; cases this
  | some g => rw [hg] at this; exact ⟨g, rfl, of_decide_eq_true this⟩
theorem ep_of_laid {W : World} (h0 : laidMet Tryd.prog ((fiveK.map fun x => (x.1, sentinel "*errors.errorString" x.2)) ++ [("changeling/plan.most", tabData .i64 [3, 1, 1])]) W) : ∃ pe : Nat → Addr, Ep pe W := by
  have hM := mst_of_reads (laidMet.reads h0 (List.mem_append_right _ (List.mem_singleton.2 rfl)))
  obtain ⟨ps, hl, hnd, hrows⟩ := laidMet_left _ _ h0
  obtain ⟨ads, hlen, hvar, hmem, hn⟩ := laid_all Tryd.underlying42 Tryd.rowS Tryd.underlying222 Tryd.underlying239 rfl rfl Tryd.underlying9 Tryd.cellsES Tryd.cStr fiveK fiveK_named ps hl hrows
  have h4 : ads.length = 5 := hlen
  refine ⟨fun n => if n = 2 then ads[0] else if n = 3 then ads[1] else if n = 4 then ads[2] else if n = 7 then ads[3] else ads[4], ⟨⟨?_, ?_, ?_, ?_⟩, ?_, hM⟩⟩
  · simpa using World.var?_cell Tryd.gBound (hvar 0 (by decide) (by omega)) 0
  · simpa using World.var?_cell Tryd.gShape (hvar 1 (by decide) (by omega)) 0
  · simpa using World.var?_cell Tryd.gKind (hvar 2 (by decide) (by omega)) 0
  · simpa using World.var?_cell Tryd.gFull (hvar 4 (by decide) (by omega)) 0
  · simpa using World.var?_cell Tryd.gExist (hvar 3 (by decide) (by omega)) 0
end Go.Proofs.YtcccaejjhodnkaaDoor
