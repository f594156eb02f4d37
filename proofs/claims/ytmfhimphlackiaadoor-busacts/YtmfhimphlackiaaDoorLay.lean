/-
  From what the program's own text lays (three errors of package api), and from a slice of words that came in, to what the walks ask.
-/
import Derived.Test.YtmfhimphlackiaaDoorSent
import Derived.Test.YtmfhimphlackiaaDoorParts
import Derived.LaidMore
import Derived.ProofKit
import Derived.OpenShut
namespace Go.Proofs.YtmfhimphlackiaaDoor
open Go.ChangeShapes Go.WideShapes Go.ChangeAt Go.RowKit
set_option linter.unusedVariables false
theorem Tryd.own : ownKnob Tryd.prog.godebug = none := by kernel_rfl
theorem Tryd.laidOut : laidOutB Tryd.prog = true := by kernel_rfl
theorem Tryd.c23 : Tryd.prog.cellsOf 23 = 1 := by kernel_rfl
theorem Tryd.c9 : Tryd.prog.cellsOf 9 = 1 := by kernel_rfl
theorem Tryd.gS : Tryd.prog.globalNamed "changeling/api.ErrShape" = some 1 := by kernel_rfl
theorem Tryd.gA : Tryd.prog.globalNamed "changeling/api.ErrAlign" = some 2 := by kernel_rfl
theorem Tryd.gF : Tryd.prog.globalNamed "changeling/api.ErrFar" = some 3 := by kernel_rfl
theorem Tryd.star : "*" ++ "errors.errorString" = "*errors.errorString" := by decide
theorem Tryd.rowS (u : TypeId) (h : Tryd.prog.typeName? 3 u = some "*errors.errorString") : u = 174 :=
  typeName_ptr_named (nm := "errors.errorString") (by rw [Tryd.star]; kernel_rfl) (by kernel_rfl) (by decide) u (by rw [Tryd.star]; exact h)
theorem Tryd.cellsES : Tryd.prog.cellsOf 194 = 1 := by kernel_rfl
/-- the errors that an access answers, by name and text -/
def three : List (String × List UInt8) := [("changeling/api.ErrShape", [99, 104, 97, 110, 103, 101, 108, 105, 110, 103, 58, 32, 115, 104, 97, 112, 101]), ("changeling/api.ErrAlign", [99, 104, 97, 110, 103, 101, 108, 105, 110, 103, 58, 32, 97, 108, 105, 103, 110]), ("changeling/api.ErrFar", [99, 104, 97, 110, 103, 101, 108, 105, 110, 103, 58, 32, 102, 97, 114])]
theorem three_named : ∀ x ∈ three, ∃ g, Tryd.prog.globalNamed x.1 = some g ∧ (Tryd.prog.globals[g]?).map (·.type) = some 30 := by
  intro x hx
  unfold three at hx
  rcases List.mem_cons.1 hx with rfl | hx
  · exact ⟨1, Tryd.gS, by kernel_rfl⟩
  · rcases List.mem_cons.1 hx with rfl | hx
    · exact ⟨2, Tryd.gA, by kernel_rfl⟩
    · rcases List.mem_cons.1 hx with rfl | hx
      · exact ⟨3, Tryd.gF, by kernel_rfl⟩
      · cases hx
theorem er_of_laid {W : World} (h : laidMet Tryd.prog (three.map fun x => (x.1, sentinel "*errors.errorString" x.2)) W) : ∃ ps pa pf, Er ps pa pf W := by
  obtain ⟨ps, hl, hnd, hrows⟩ := h
  obtain ⟨ads, hlen, hvar, hmem, hn⟩ := laid_all Tryd.underlying30 Tryd.rowS Tryd.underlying174 Tryd.underlying194 rfl rfl Tryd.underlying9 Tryd.cellsES Tryd.c9 three three_named ps hl hrows
  have h3 : ads.length = 3 := hlen
  refine ⟨ads[0], ads[1], ads[2], ?_, ?_, ?_⟩
  · have h := hvar 0 (by decide) (by omega)
    simpa using World.var?_cell Tryd.gS h 0
  · have h := hvar 1 (by decide) (by omega)
    simpa using World.var?_cell Tryd.gA h 0
  · have h := hvar 2 (by decide) (by omega)
    simpa using World.var?_cell Tryd.gF h 0
theorem bd_i64 {n : Int} (h : (Lit.int .i64 n).wf = true) : -9223372036854775808 ≤ n ∧ n ≤ 9223372036854775807 := by
  simp [Lit.wf, IntKind.min, IntKind.max, IntKind.signed, IntKind.bits] at h; omega
theorem bd_u32 {n : Int} (h : (Lit.int .u32 n).wf = true) : 0 ≤ n ∧ n < 4294967296 := by
  simp [Lit.wf, IntKind.min, IntKind.max, IntKind.signed, IntKind.bits] at h; omega
set_option maxRecDepth 100000 in
/-- a slice of words that came in -/
theorem words_of {H : Type} {enc : TypeId × Value → H} {W : World} {base : Nat} {v : Value} {d : DataW H} {p : List MemPlace} (hv : Value.okWide Tryd.prog W .any base 22 v) (h : DataW.Trod enc Tryd.prog W 0 (fun _ => true) true 22 v d p) :
    ∃ xs : List Int, WordsIn W v xs ∧ (xs.length : Int) ≤ 9223372036854775807 := by
  obtain ⟨a0, len, cap, rfl⟩ := okWide_slice Tryd.underlying22 hv
  obtain ⟨fuel, hf⟩ := h
  rcases open_ints Tryd.underlying22 Tryd.underlying23 Tryd.c23 hf with ⟨hcs, hx⟩ | ⟨a, len', cap', zs, hcs, _, hl, hm, hz, hx, hcell, hwz⟩
  · simp [Value.cells] at hcs
    obtain ⟨rfl, rfl, rfl⟩ := hcs
    exact ⟨[], ⟨⟨none, 0, rfl, Nat.le_refl _, fun h => absurd h (by simp)⟩, mw_wf [] (by simp)⟩, by simp⟩
  · simp [Value.cells] at hcs
    obtain ⟨rfl, rfl, rfl⟩ := hcs
    simp only [if_true] at hz
    have hlen : (zs.take len).length = len := by simp; omega
    refine ⟨zs.take len, ⟨⟨some a, cap, by rw [hlen], by omega, fun hp => ?_⟩, mw_wf _ (fun x hx => bd_u32 (hwz x (List.mem_of_mem_take hx)))⟩, ?_⟩
    · obtain ⟨b, off, spot⟩ := a
      have hspot : spot = none := by simpa [Addr.add] using World.cell?_spot (hcell 0 (by omega))
      subst hspot
      refine ⟨b, off, rfl, fun i hi => ?_⟩
      have := hcell i (by omega)
      rw [add_plain] at this
      rw [this, List.getD_eq_getElem?_getD, List.getD_eq_getElem?_getD, List.getElem?_take_of_lt (by omega)]
    · unfold maxLen at hm; omega
end Go.Proofs.YtmfhimphlackiaaDoor
