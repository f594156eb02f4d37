/-
  From what the program's own text lays (the ten errors of package api, the handle of 'error', the table of first words), and from a slice of words that came in, to what the walk of RegionForms asks.
-/
import Derived.Lib.LaidU8
import Derived.Test.YtckcbnfobjmhpaaDoorLaid
import Derived.Test.YtckcbnfobjmhpaaDoorRgC
namespace Go.Proofs.YtckcbnfobjmhpaaDoor
open Go.ChangeShapes Go.WideShapes Go.ChangeAt Go.RowKit Go.Lib
set_option linter.unusedVariables false
theorem laidVars_split {P : Program} {W : World} : ∀ (l1 : List (String × DataW Unit)) {l2 : List (String × DataW Unit)} {ps : List MemPlace}, DataW.LaidVars P W (l1 ++ l2) ps → ∃ p1 p2, ps = p1 ++ p2 ∧ DataW.LaidVars P W l1 p1 ∧ DataW.LaidVars P W l2 p2
  | [], l2, ps, h => ⟨[], ps, rfl, rfl, h⟩
  | x :: l1, l2, ps, h => by
    obtain ⟨g, t, cs, f, p, q, hg, ht, hv, hd, hq, e⟩ := h
    obtain ⟨p1, p2, rfl, h1, h2⟩ := laidVars_split l1 hq
    exact ⟨_, p2, by rw [e, ← List.append_assoc], ⟨g, t, cs, f, p, p1, hg, ht, hv, hd, h1, rfl⟩, h2⟩
theorem laidMet_left {P : Program} {W : World} (l1 l2 : List (String × DataW Unit)) (h : laidMet P (l1 ++ l2) W) : laidMet P l1 W := by
  obtain ⟨ps, hl, hn, hr⟩ := h
  obtain ⟨p1, p2, rfl, h1, h2⟩ := laidVars_split l1 hl
  exact ⟨p1, h1, (List.nodup_append.1 hn).1, fun b off hm => hr b off (List.mem_append_left _ hm)⟩
theorem Tryd.laidOut : laidOutB Tryd.prog = true := by kernel_rfl
theorem Tryd.cU32 : Tryd.prog.cellsOf 23 = 1 := by kernel_rfl
theorem Tryd.gFst : Tryd.prog.globalNamed "changeling/code.firsts" = some 2 := by kernel_rfl
theorem Tryd.tFst : (Tryd.prog.globals[2]?).map (·.type) = some 109 := by kernel_rfl
theorem Tryd.cFst : Tryd.prog.cellsOf 109 = 54 := by kernel_rfl
theorem ft_of_reads {W : World} (h : VarReads Tryd.prog W "changeling/code.firsts" (tabData .u32 Tab.fstL)) : K.FT W := by
  obtain ⟨g, t, cs, fuel, p, hg, hty, hvar, hd⟩ := h
  obtain rfl := Option.some.inj (Tryd.gFst.symm.trans hg)
  obtain rfl := Option.some.inj (Tryd.tFst.symm.trans hty)
  have hcs := cells_of_tab Tryd.underlying109 Tryd.underlying23 Tryd.cU32 Tryd.cFst hd
  intro i hi
  have := World.var?_cell hg hvar i
  rw [this, ← Array.getElem?_toList, hcs, List.getElem?_map]
  have hl : i < Tab.fstL.length := hi
  rw [List.getElem?_eq_getElem hl]
  show some (Value.int .u32 Tab.fstL[i]) = some (Value.int .u32 (Tab.fstL.getD i 0))
  rw [List.getD_eq_getElem?_getD, List.getElem?_eq_getElem hl]; rfl
theorem vs_of_ten {W : World} (h : laidMet Tryd.prog ((ten.map fun x => (x.1, sentinel "*errors.errorString" x.2)) ++ [("changeling/code.firsts", tabData .u32 Tab.fstL)]) W)
    (hh : handlesMet Tryd.prog [("errors.errorType", .iface "internal/reflectlite.rtype" (.agg [.ptr (.lit (.string [101, 114, 114, 111, 114]))]))] W) : ∃ S, Errs S W ∧ Vs (S 2) (S 8) (S 9) (S 3) (S 1) (S 5) W := by
  have hF := ft_of_reads (laidMet.reads h (List.mem_append_right _ (List.mem_singleton.2 rfl)))
  obtain ⟨S, E⟩ := errs_of_laid (laidMet_left _ _ h) hh
  exact ⟨S, E, ⟨E.c2, E.c8, E.c9⟩, ⟨E.c3, E.c1, hF⟩, E.c5⟩
theorem bd_i64 {n : Int} (h : (Lit.int .i64 n).wf = true) : -9223372036854775808 ≤ n ∧ n ≤ 9223372036854775807 := by
  simp [Lit.wf, IntKind.min, IntKind.max, IntKind.signed, IntKind.bits] at h; omega
theorem bd_u32 {n : Int} (h : (Lit.int .u32 n).wf = true) : 0 ≤ n ∧ n < 4294967296 := by
  simp [Lit.wf, IntKind.min, IntKind.max, IntKind.signed, IntKind.bits] at h; omega
set_option maxRecDepth 100000 in
/-- a slice of words that came in -/
theorem words_of {H : Type} {enc : TypeId × Value → H} {W : World} {base : Nat} {v : Value} {d : DataW H} {p : List MemPlace} (hv : Value.okWide Tryd.prog W .any base 22 v) (h : DataW.Trod enc Tryd.prog W 0 (fun _ => true) true 22 v d p) :
    ∃ xs : List Int, WordsIn W v xs ∧ (xs.length : Int) ≤ 9223372036854775807 := by
  obtain ⟨a0, len, cap, rfl⟩ := okWide_slice Tryd.underlying22 hv
  obtain ⟨fuel, hf⟩ := h
  rcases open_ints Tryd.underlying22 Tryd.underlying23 Tryd.cU32 hf with ⟨hcs, hx⟩ | ⟨a, len', cap', zs, hcs, _, hl, hm, hz, hx, hcell, hwz⟩
  · simp [Value.cells] at hcs
    obtain ⟨rfl, rfl, rfl⟩ := hcs
    exact ⟨[], ⟨⟨none, 0, rfl, Nat.le_refl _, fun h => absurd h (by simp)⟩, mw_wf [] (by simp)⟩, by simp⟩
  · simp [Value.cells] at hcs
    obtain ⟨rfl, rfl, rfl⟩ := hcs
    simp only [if_true] at hz
    have hlen : (zs.take len).length = len := by simp; omega
    refine ⟨zs.take len, ⟨⟨some a, cap, by rw [hlen], by omega, fun hp => ?_⟩, mw_wf _ (fun x hx => bd_u32 (hwz x (List.mem_of_mem_take hx)))⟩, ?_⟩
    · obtain ⟨b, off, spot⟩ := a
      have hspot : spot = none := by simpa [Addr.add] using World.cell?_spot (hcell 0 (by omega))
      subst hspot
      refine ⟨b, off, rfl, fun i hi => ?_⟩
      have := hcell i (by omega)
      rw [add_plain] at this
      rw [this, List.getD_eq_getElem?_getD, List.getD_eq_getElem?_getD, List.getElem?_take_of_lt (by omega)]
    · unfold maxLen at hm; omega
end Go.Proofs.YtckcbnfobjmhpaaDoor
