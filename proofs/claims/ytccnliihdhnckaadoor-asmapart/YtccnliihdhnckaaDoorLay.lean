/-
  From what the program's own text lays (two errors of package api, the tables of names, of first words and of powers) to what the walks ask.
-/
import Derived.Test.YtccnliihdhnckaaDoorSent
import Derived.Test.YtccnliihdhnckaaDoorText
import Derived.Lib.LaidU8
import Derived.LaidMore
namespace Go.Proofs.YtccnliihdhnckaaDoor
open Go.ChangeShapes Go.WideShapes Go.ChangeAt Go.RowKit Go.Lib
open Tab Fm
set_option linter.unusedVariables false
theorem laidVars_split {P : Program} {W : World} : ∀ (l1 : List (String × DataW Unit)) {l2 : List (String × DataW Unit)} {ps : List MemPlace}, DataW.LaidVars P W (l1 ++ l2) ps → ∃ p1 p2, ps = p1 ++ p2 ∧ DataW.LaidVars P W l1 p1 ∧ DataW.LaidVars P W l2 p2
  | [], l2, ps, h => ⟨[], ps, rfl, rfl, h⟩
  | x :: l1, l2, ps, h => by
    obtain ⟨g, t, cs, f, p, q, hg, ht, hv, hd, hq, e⟩ := h
    obtain ⟨p1, p2, rfl, h1, h2⟩ := laidVars_split l1 hq
    exact ⟨_, p2, by rw [e, ← List.append_assoc], ⟨g, t, cs, f, p, p1, hg, ht, hv, hd, h1, rfl⟩, h2⟩
theorem laidMet_left {P : Program} {W : World} (l1 l2 : List (String × DataW Unit)) (h : laidMet P (l1 ++ l2) W) : laidMet P l1 W := by
  obtain ⟨ps, hl, hn, hr⟩ := h
  obtain ⟨p1, p2, rfl, h1, h2⟩ := laidVars_split l1 hl
  exact ⟨p1, h1, (List.nodup_append.1 hn).1, fun b off hm => hr b off (List.mem_append_left _ hm)⟩
theorem laidMet_right {P : Program} {W : World} (l1 l2 : List (String × DataW Unit)) (h : laidMet P (l1 ++ l2) W) : laidMet P l2 W := by
  obtain ⟨ps, hl, hn, hr⟩ := h
  obtain ⟨p1, p2, rfl, h1, h2⟩ := laidVars_split l1 hl
  exact ⟨p2, h2, (List.nodup_append.1 hn).2.1, fun b off hm => hr b off (List.mem_append_right _ hm)⟩
/-- a table of texts, as a datum -/
def strData {H : Type} (zs : List (List UInt8)) : DataW H := .agg (zs.map fun z => .lit (.string z))
theorem cells_of_strs {H : Type} {enc : TypeId × Value → H} {P : Program} {w : World} {base : Nat} {sp : Nat → Bool} {held : Bool} {fuel : Nat} {t e : TypeId} {n : Nat} {cs : List Value} {zs : List (List UInt8)} {p : List MemPlace}
    (ht : P.underlying t = some (.array n e)) (he : P.underlying e = some .string) (hce : P.cellsOf e = 1) (hct : P.cellsOf t = n)
    (h : DataW.trod enc P w base sp held fuel t cs = some (strData zs, p)) : cs = zs.map fun z => Value.string ⟨z.toArray⟩ := by
  cases fuel with
  | zero => simp [DataW.trod] at h
  | succ fuel =>
    simp only [DataW.trod, ht, hce, hct, Nat.mul_one] at h
    split at h
    · rename_i hl
      obtain ⟨xs, hm, hx⟩ := Option.map_eq_some_iff.1 h
      have hxs : xs.map (·.1) = zs.map fun z => (DataW.lit (.string z) : DataW H) := by
        have := congrArg Prod.fst hx
        simpa [strData] using this
      have hxl : xs.length = n := by simpa using mapM_length hm
      have hzl : zs.length = n := by
        have := congrArg List.length hxs
        simp at this
        omega
      apply List.ext_getElem?
      intro i
      by_cases hi : i < n
      · obtain ⟨b, hb, hf⟩ := mapM_at hm i i (by simp [hi])
        obtain ⟨z, hc, rfl, _⟩ := DataW.trod_string he hf
        have h1 : cs[i]? = some (.string z) := by
          have := congrArg (·[0]?) hc
          simpa [List.getElem?_take, List.getElem?_drop] using this
        have h2 : (xs.map (·.1))[i]? = some (DataW.lit (.string z.data.toList) : DataW H) := by simp [hb]
        rw [hxs] at h2
        simp only [List.getElem?_map, Option.map_eq_some_iff, DataW.lit.injEq, Lit.string.injEq] at h2
        obtain ⟨z', hz', e'⟩ := h2
        rw [h1, List.getElem?_map, hz']
        simp [e']
      · rw [List.getElem?_eq_none (by omega), List.getElem?_eq_none (by simp; omega)]
    · cases h
theorem Tryd.gF : Tryd.prog.globalNamed "changeling/code.firsts" = some 2 := by kernel_rfl
theorem Tryd.tF : (Tryd.prog.globals[2]?).map (·.type) = some 39 := by kernel_rfl
theorem Tryd.c39 : Tryd.prog.cellsOf 39 = 54 := by kernel_rfl
theorem Tryd.c22 : Tryd.prog.cellsOf 22 = 1 := by kernel_rfl
theorem Tryd.gN : Tryd.prog.globalNamed "changeling/asm.names" = some 0 := by kernel_rfl
theorem Tryd.tN : (Tryd.prog.globals[0]?).map (·.type) = some 33 := by kernel_rfl
theorem Tryd.c33 : Tryd.prog.cellsOf 33 = 54 := by kernel_rfl
theorem Tryd.c9 : Tryd.prog.cellsOf 9 = 1 := by kernel_rfl
theorem Tryd.tP : (Tryd.prog.globals[4]?).map (·.type) = some 59 := by kernel_rfl
theorem Tryd.c59 : Tryd.prog.cellsOf 59 = 20 := by kernel_rfl
theorem Tryd.c42 : Tryd.prog.cellsOf 42 = 1 := by kernel_rfl
theorem Tryd.gK : Tryd.prog.globalNamed "changeling/api.ErrKind" = some 1 := by kernel_rfl
theorem Tryd.gB : Tryd.prog.globalNamed "changeling/api.ErrBound" = some 3 := by kernel_rfl
theorem Tryd.star : "*" ++ "errors.errorString" = "*errors.errorString" := by decide
theorem Tryd.rowS (u : TypeId) (h : Tryd.prog.typeName? 3 u = some "*errors.errorString") : u = 66 :=
  typeName_ptr_named (nm := "errors.errorString") (by rw [Tryd.star]; kernel_rfl) (by kernel_rfl) (by decide) u (by rw [Tryd.star]; exact h)
theorem Tryd.cellsES : Tryd.prog.cellsOf 83 = 1 := by kernel_rfl
theorem ft_of_reads {W : World} (h : VarReads Tryd.prog W "changeling/code.firsts" (tabData .u32 fstL)) : FT W := by
  obtain ⟨g, t, cs, fuel, p, hg, hty, hvar, hd⟩ := h
  obtain rfl := Option.some.inj (Tryd.gF.symm.trans hg)
  obtain rfl := Option.some.inj (Tryd.tF.symm.trans hty)
  have hcs := cells_of_tab Tryd.underlying39 Tryd.underlying22 Tryd.c22 Tryd.c39 hd
  intro i hi
  have := World.var?_cell hg hvar i
  rw [this, ← Array.getElem?_toList, hcs, List.getElem?_map]
  have hl : i < fstL.length := hi
  rw [List.getElem?_eq_getElem hl]
  show some (Value.int .u32 fstL[i]) = some (Value.int .u32 (fstL.getD i 0))
  rw [List.getD_eq_getElem?_getD, List.getElem?_eq_getElem hl]; rfl
theorem nm_of_reads {W : World} (h : VarReads Tryd.prog W "changeling/asm.names" (strData nmL)) : ∀ i : Nat, i < 54 → W.cell? ⟨0, i, none⟩ = some (.string ⟨(nme i).toArray⟩) := by
  obtain ⟨g, t, cs, fuel, p, hg, hty, hvar, hd⟩ := h
  obtain rfl := Option.some.inj (Tryd.gN.symm.trans hg)
  obtain rfl := Option.some.inj (Tryd.tN.symm.trans hty)
  have hcs := cells_of_strs Tryd.underlying33 Tryd.underlying9 Tryd.c9 Tryd.c33 hd
  intro i hi
  have := World.var?_cell hg hvar i
  rw [this, ← Array.getElem?_toList, hcs, List.getElem?_map]
  have hl : i < nmL.length := hi
  rw [List.getElem?_eq_getElem hl]
  show some (Value.string ⟨nmL[i].toArray⟩) = some (Value.string ⟨(nmL.getD i []).toArray⟩)
  rw [List.getD_eq_getElem?_getD, List.getElem?_eq_getElem hl]; rfl
theorem tab_of_reads {W : World} (h : VarReads Tryd.prog W "internal/strconv.uint64pow10" (tabData .u64 pow10Tab)) : TabIs Tryd.prog W "internal/strconv.uint64pow10" .u64 pow10Tab := by
  obtain ⟨g, t, cs, fuel, p, hg, hty, hvar, hd⟩ := h
  obtain rfl := Option.some.inj (Tryd.gPow.symm.trans hg)
  obtain rfl := Option.some.inj (Tryd.tP.symm.trans hty)
  have hcs := cells_of_tab Tryd.underlying59 Tryd.underlying42 Tryd.c42 Tryd.c59 hd
  unfold TabIs
  rw [hvar, ← hcs]
/-- the two errors that Encode answers, by name and text -/
def two : List (String × List UInt8) := [("changeling/api.ErrBound", [99, 104, 97, 110, 103, 101, 108, 105, 110, 103, 58, 32, 98, 111, 117, 110, 100]), ("changeling/api.ErrKind", [99, 104, 97, 110, 103, 101, 108, 105, 110, 103, 58, 32, 107, 105, 110, 100])]
theorem two_named : ∀ x ∈ two, ∃ g, Tryd.prog.globalNamed x.1 = some g ∧ (Tryd.prog.globals[g]?).map (·.type) = some 27 := by
  intro x hx
  unfold two at hx
  rcases List.mem_cons.1 hx with rfl | hx
  · exact ⟨3, Tryd.gB, by kernel_rfl⟩
  · rcases List.mem_cons.1 hx with rfl | hx
    · exact ⟨1, Tryd.gK, by kernel_rfl⟩
    · cases hx
theorem tb_of_laid {W : World} (a b : String × DataW Unit) (h : laidMet Tryd.prog (([a, b, ("internal/strconv.uint64pow10", tabData .u64 pow10Tab)] ++ (two.map fun x => (x.1, sentinel "*errors.errorString" x.2))) ++ [("changeling/code.firsts", tabData .u32 fstL), ("changeling/asm.names", strData nmL)]) W) : ∃ pk pb, Tb pk pb W ∧ Lb W := by
  have hF := ft_of_reads (laidMet.reads h (List.mem_append_right _ (by simp)))
  have hN := nm_of_reads (laidMet.reads h (List.mem_append_right _ (by simp)))
  have hP := tab_of_reads (laidMet.reads h (List.mem_append_left _ (List.mem_append_left _ (by simp))))
  obtain ⟨ps, hl, hnd, hrows⟩ := laidMet_right _ _ (laidMet_left _ _ h)
  obtain ⟨ads, hlen, hvar, hmem, hn⟩ := laid_all Tryd.underlying27 Tryd.rowS Tryd.underlying66 Tryd.underlying83 rfl rfl Tryd.underlying9 Tryd.cellsES Tryd.c9 two two_named ps hl hrows
  have h2 : ads.length = 2 := hlen
  refine ⟨ads[1], ads[0], ⟨?_, ?_, hF⟩, hN, hP⟩
  · have h := hvar 1 (by decide) (by omega)
    simpa using World.var?_cell Tryd.gK h 0
  · have h := hvar 0 (by decide) (by omega)
    simpa using World.var?_cell Tryd.gB h 0
end Go.Proofs.YtccnliihdhnckaaDoor
