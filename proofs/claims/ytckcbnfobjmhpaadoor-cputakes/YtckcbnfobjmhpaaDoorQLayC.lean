/-
  From what the program's own text lays (five errors of package api, the table of first words), and from a slice of words that came in, to what the walks ask.
-/
import Derived.LaidMore
import Derived.ProofKit
import Derived.OpenShut
import Derived.Lib.LaidU8
import Derived.Test.YtckcbnfobjmhpaaDoorSent
import Derived.Test.YtckcbnfobjmhpaaDoorKPartsWalk
import Derived.Test.YtckcbnfobjmhpaaDoorQKEncode
namespace Go.Proofs.YtckcbnfobjmhpaaDoor
open Go.ChangeShapes Go.WideShapes Go.ChangeAt Go.RowKit Go.Lib
set_option linter.unusedVariables false
theorem laidVars_split {P : Program} {W : World} : ∀ (l1 : List (String × DataW Unit)) {l2 : List (String × DataW Unit)} {ps : List MemPlace}, DataW.LaidVars P W (l1 ++ l2) ps → ∃ p1 p2, ps = p1 ++ p2 ∧ DataW.LaidVars P W l1 p1 ∧ DataW.LaidVars P W l2 p2
  | [], l2, ps, h => ⟨[], ps, rfl, rfl, h⟩
  | x :: l1, l2, ps, h => by
    obtain ⟨g, t, cs, f, p, q, hg, ht, hv, hd, hq, e⟩ := h
    obtain ⟨p1, p2, rfl, h1, h2⟩ := laidVars_split l1 hq
    exact ⟨_, p2, by rw [e, ← List.append_assoc], ⟨g, t, cs, f, p, p1, hg, ht, hv, hd, h1, rfl⟩, h2⟩
theorem laidMet_left {P : Program} {W : World} (l1 l2 : List (String × DataW Unit)) (h : laidMet P (l1 ++ l2) W) : laidMet P l1 W := by
  obtain ⟨ps, hl, hn, hr⟩ := h
  obtain ⟨p1, p2, rfl, h1, h2⟩ := laidVars_split l1 hl
  exact ⟨p1, h1, (List.nodup_append.1 hn).1, fun b off hm => hr b off (List.mem_append_left _ hm)⟩
theorem Tryd.own : ownKnob Tryd.prog.godebug = none := by kernel_rfl
theorem Tryd.laidOut : laidOutB Tryd.prog = true := by kernel_rfl
theorem Tryd.c23 : Tryd.prog.cellsOf 23 = 1 := by kernel_rfl
theorem Tryd.cStr : Tryd.prog.cellsOf 9 = 1 := by kernel_rfl
theorem Tryd.star : "*" ++ "errors.errorString" = "*errors.errorString" := by decide
theorem Tryd.rowS (u : TypeId) (h : Tryd.prog.typeName? 3 u = some "*errors.errorString") : u = 192 :=
  typeName_ptr_named (nm := "errors.errorString") (by rw [Tryd.star]; kernel_rfl) (by kernel_rfl) (by decide) u (by rw [Tryd.star]; exact h)
theorem Tryd.cellsES : Tryd.prog.cellsOf 212 = 1 := by kernel_rfl
theorem Tryd.gFst : Tryd.prog.globalNamed "changeling/code.firsts" = some 2 := by kernel_rfl
theorem Tryd.tFst : (Tryd.prog.globals[2]?).map (·.type) = some 109 := by kernel_rfl
theorem Tryd.cFst : Tryd.prog.cellsOf 109 = 54 := by kernel_rfl
theorem Tryd.gBound : Tryd.prog.globalNamed "changeling/api.ErrBound" = some 3 := by kernel_rfl
theorem Tryd.gShape : Tryd.prog.globalNamed "changeling/api.ErrShape" = some 4 := by kernel_rfl
theorem Tryd.gKind : Tryd.prog.globalNamed "changeling/api.ErrKind" = some 1 := by kernel_rfl
theorem Tryd.gAlign : Tryd.prog.globalNamed "changeling/api.ErrAlign" = some 5 := by kernel_rfl
theorem Tryd.gFar : Tryd.prog.globalNamed "changeling/api.ErrFar" = some 6 := by kernel_rfl
/-- the errors that are named, by name and text -/
def five : List (String × List UInt8) := [("changeling/api.ErrBound", [99, 104, 97, 110, 103, 101, 108, 105, 110, 103, 58, 32, 98, 111, 117, 110, 100]), ("changeling/api.ErrShape", [99, 104, 97, 110, 103, 101, 108, 105, 110, 103, 58, 32, 115, 104, 97, 112, 101]), ("changeling/api.ErrKind", [99, 104, 97, 110, 103, 101, 108, 105, 110, 103, 58, 32, 107, 105, 110, 100]), ("changeling/api.ErrAlign", [99, 104, 97, 110, 103, 101, 108, 105, 110, 103, 58, 32, 97, 108, 105, 103, 110]), ("changeling/api.ErrFar", [99, 104, 97, 110, 103, 101, 108, 105, 110, 103, 58, 32, 102, 97, 114])]
theorem five_named : ∀ x ∈ five, ∃ g, Tryd.prog.globalNamed x.1 = some g ∧ (Tryd.prog.globals[g]?).map (·.type) = some 43 := by
  have h : (five.all fun x => match Tryd.prog.globalNamed x.1 with | some g => decide ((Tryd.prog.globals[g]?).map (·.type) = some 43) | none => false) = true := by kernel_rfl
  intro x hx
  have := List.all_eq_true.1 h x hx
  cases hg : Tryd.prog.globalNamed x.1 with
  | none => rw [hg] at this; cases this
  | some g => rw [hg] at this; exact ⟨g, rfl, of_decide_eq_true this⟩
theorem ft_of_reads {W : World} (h : VarReads Tryd.prog W "changeling/code.firsts" (tabData .u32 Tab.fstL)) : K.FT W := by
  obtain ⟨g, t, cs, fuel, p, hg, hty, hvar, hd⟩ := h
  obtain rfl := Option.some.inj (Tryd.gFst.symm.trans hg)
  obtain rfl := Option.some.inj (Tryd.tFst.symm.trans hty)
  have hcs := cells_of_tab Tryd.underlying109 Tryd.underlying23 Tryd.c23 Tryd.cFst hd
  intro i hi
  have := World.var?_cell hg hvar i
  rw [this, ← Array.getElem?_toList, hcs, List.getElem?_map]
  have hl : i < Tab.fstL.length := hi
  rw [List.getElem?_eq_getElem hl]
  show some (Value.int .u32 Tab.fstL[i]) = some (Value.int .u32 (Tab.fstL.getD i 0))
  rw [List.getD_eq_getElem?_getD, List.getElem?_eq_getElem hl]; rfl
theorem all_of_laid {W : World} (h : laidMet Tryd.prog ((five.map fun x => (x.1, sentinel "*errors.errorString" x.2)) ++ [("changeling/code.firsts", tabData .u32 Tab.fstL)]) W) : ∃ ps pa pf pk pb, Er ps pa pf W ∧ K.Tb pk pb W := by
  have hF := ft_of_reads (laidMet.reads h (List.mem_append_right _ (List.mem_singleton.2 rfl)))
  obtain ⟨ps, hl, hnd, hrows⟩ := laidMet_left _ _ h
  obtain ⟨ads, hlen, hvar, hmem, hn⟩ := laid_all Tryd.underlying43 Tryd.rowS Tryd.underlying192 Tryd.underlying212 rfl rfl Tryd.underlying9 Tryd.cellsES Tryd.cStr five five_named ps hl hrows
  have h5 : ads.length = 5 := hlen
  refine ⟨ads[1], ads[3], ads[4], ads[2], ads[0], ⟨?_, ?_, ?_⟩, ⟨?_, ?_, hF⟩⟩
  · simpa using World.var?_cell Tryd.gShape (hvar 1 (by decide) (by omega)) 0
  · simpa using World.var?_cell Tryd.gAlign (hvar 3 (by decide) (by omega)) 0
  · simpa using World.var?_cell Tryd.gFar (hvar 4 (by decide) (by omega)) 0
  · simpa using World.var?_cell Tryd.gKind (hvar 2 (by decide) (by omega)) 0
  · simpa using World.var?_cell Tryd.gBound (hvar 0 (by decide) (by omega)) 0
theorem bd_i64 {n : Int} (h : (Lit.int .i64 n).wf = true) : -9223372036854775808 ≤ n ∧ n ≤ 9223372036854775807 := by
  simp [Lit.wf, IntKind.min, IntKind.max, IntKind.signed, IntKind.bits] at h; omega
theorem bd_u32 {n : Int} (h : (Lit.int .u32 n).wf = true) : 0 ≤ n ∧ n < 4294967296 := by
  simp [Lit.wf, IntKind.min, IntKind.max, IntKind.signed, IntKind.bits] at h; omega
set_option maxRecDepth 100000 in
/-- a slice of words that came in -/
theorem words_of {H : Type} {enc : TypeId × Value → H} {W : World} {base : Nat} {v : Value} {d : DataW H} {p : List MemPlace} (hv : Value.okWide Tryd.prog W .any base 22 v) (h : DataW.Trod enc Tryd.prog W 0 (fun _ => true) true 22 v d p) :
    ∃ xs : List Int, WordsIn W v xs ∧ (xs.length : Int) ≤ 9223372036854775807 := by
  obtain ⟨a0, len, cap, rfl⟩ := okWide_slice Tryd.underlying22 hv
  obtain ⟨fuel, hf⟩ := h
  rcases open_ints Tryd.underlying22 Tryd.underlying23 Tryd.c23 hf with ⟨hcs, hx⟩ | ⟨a, len', cap', zs, hcs, _, hl, hm, hz, hx, hcell, hwz⟩
  · simp [Value.cells] at hcs
    obtain ⟨rfl, rfl, rfl⟩ := hcs
    exact ⟨[], ⟨⟨none, 0, rfl, Nat.le_refl _, fun h => absurd h (by simp)⟩, mw_wf [] (by simp)⟩, by simp⟩
  · simp [Value.cells] at hcs
    obtain ⟨rfl, rfl, rfl⟩ := hcs
    simp only [if_true] at hz
    have hlen : (zs.take len).length = len := by simp; omega
    refine ⟨zs.take len, ⟨⟨some a, cap, by rw [hlen], by omega, fun hp => ?_⟩, mw_wf _ (fun x hx => bd_u32 (hwz x (List.mem_of_mem_take hx)))⟩, ?_⟩
    · obtain ⟨b, off, spot⟩ := a
      have hspot : spot = none := by simpa [Addr.add] using World.cell?_spot (hcell 0 (by omega))
      subst hspot
      refine ⟨b, off, rfl, fun i hi => ?_⟩
      have := hcell i (by omega)
      rw [add_plain] at this
      rw [this, List.getD_eq_getElem?_getD, List.getD_eq_getElem?_getD, List.getElem?_take_of_lt (by omega)]
    · unfold maxLen at hm; omega
end Go.Proofs.YtckcbnfobjmhpaaDoor
