/-
  From what the program's own text lays (errors of package api, the table of first words) to what the walks ask.
-/
import Derived.Test.YtnbinljgfipboabDoorLaid
import Derived.Test.YtnbinljgfipboabDoorEncode
import Derived.Lib.LaidU8
namespace Go.Proofs.YtnbinljgfipboabDoor
open Go.ChangeShapes Go.WideShapes Go.ChangeAt Go.RowKit Go.Lib
open Tab
set_option linter.unusedVariables false
theorem laidVars_split {P : Program} {W : World} : ∀ (l1 : List (String × DataW Unit)) {l2 : List (String × DataW Unit)} {ps : List MemPlace}, DataW.LaidVars P W (l1 ++ l2) ps → ∃ p1 p2, ps = p1 ++ p2 ∧ DataW.LaidVars P W l1 p1 ∧ DataW.LaidVars P W l2 p2
  | [], l2, ps, h => ⟨[], ps, rfl, rfl, h⟩
  | x :: l1, l2, ps, h => by
    obtain ⟨g, t, cs, f, p, q, hg, ht, hv, hd, hq, e⟩ := h
    obtain ⟨p1, p2, rfl, h1, h2⟩ := laidVars_split l1 hq
    exact ⟨_, p2, by rw [e, ← List.append_assoc], ⟨g, t, cs, f, p, p1, hg, ht, hv, hd, h1, rfl⟩, h2⟩
theorem laidMet_left {P : Program} {W : World} (l1 l2 : List (String × DataW Unit)) (h : laidMet P (l1 ++ l2) W) : laidMet P l1 W := by
  obtain ⟨ps, hl, hn, hr⟩ := h
  obtain ⟨p1, p2, rfl, h1, h2⟩ := laidVars_split l1 hl
  exact ⟨p1, h1, (List.nodup_append.1 hn).1, fun b off hm => hr b off (List.mem_append_left _ hm)⟩
theorem Tryd.gF : Tryd.prog.globalNamed "changeling/code.firsts" = some 1 := by kernel_rfl
theorem Tryd.tF : (Tryd.prog.globals[1]?).map (·.type) = some 53 := by kernel_rfl
theorem Tryd.c53 : Tryd.prog.cellsOf 53 = 54 := by kernel_rfl
theorem Tryd.c22 : Tryd.prog.cellsOf 22 = 1 := by kernel_rfl
theorem ft_of_reads {W : World} (h : VarReads Tryd.prog W "changeling/code.firsts" (tabData .u32 fstL)) : FT W := by
  obtain ⟨g, t, cs, fuel, p, hg, hty, hvar, hd⟩ := h
  obtain rfl := Option.some.inj (Tryd.gF.symm.trans hg)
  obtain rfl := Option.some.inj (Tryd.tF.symm.trans hty)
  have hcs := cells_of_tab Tryd.underlying53 Tryd.underlying22 Tryd.c22 Tryd.c53 hd
  intro i hi
  have := World.var?_cell hg hvar i
  rw [this, ← Array.getElem?_toList, hcs, List.getElem?_map]
  have hl : i < fstL.length := hi
  rw [List.getElem?_eq_getElem hl]
  show some (Value.int .u32 fstL[i]) = some (Value.int .u32 (fstL.getD i 0))
  rw [List.getD_eq_getElem?_getD, List.getElem?_eq_getElem hl]; rfl
/-- the two errors that Encode answers, by name and text -/
def two : List (String × List UInt8) := [("changeling/api.ErrBound", [99, 104, 97, 110, 103, 101, 108, 105, 110, 103, 58, 32, 98, 111, 117, 110, 100]), ("changeling/api.ErrKind", [99, 104, 97, 110, 103, 101, 108, 105, 110, 103, 58, 32, 107, 105, 110, 100])]
theorem two_named : ∀ x ∈ two, ∃ g, Tryd.prog.globalNamed x.1 = some g ∧ (Tryd.prog.globals[g]?).map (·.type) = some 28 := fun x hx => ten_named x (by
  have e : two = [ten[1], ten[3]] := rfl
  rw [e] at hx
  rcases List.mem_cons.1 hx with rfl | hx
  · exact List.getElem_mem _
  · rcases List.mem_cons.1 hx with rfl | hx
    · exact List.getElem_mem _
    · cases hx)
theorem tb_of_two {W : World} (h : laidMet Tryd.prog ((two.map fun x => (x.1, sentinel "*errors.errorString" x.2)) ++ [("changeling/code.firsts", tabData .u32 fstL)]) W) : ∃ pk pb, Tb pk pb W := by
  have hF := ft_of_reads (laidMet.reads h (List.mem_append_right _ (List.mem_singleton.2 rfl)))
  obtain ⟨ps, hl, hnd, hrows⟩ := laidMet_left _ _ h
  obtain ⟨ads, hlen, hvar, hmem, hn⟩ := laid_all Tryd.underlying28 Tryd.rowS Tryd.underlying97 Tryd.underlying118 rfl rfl Tryd.underlying9 Tryd.cellsES Tryd.cellsStr two two_named ps hl hrows
  have h2 : ads.length = 2 := hlen
  refine ⟨ads[1], ads[0], ?_, ?_, hF⟩
  · have h := hvar 1 (by decide) (by omega)
    simpa using World.var?_cell Tryd.gS3 h 0
  · have h := hvar 0 (by decide) (by omega)
    simpa using World.var?_cell Tryd.gS1 h 0
theorem tb_of_ten {W : World} (h : laidMet Tryd.prog ((ten.map fun x => (x.1, sentinel "*errors.errorString" x.2)) ++ [("changeling/code.firsts", tabData .u32 fstL)]) W)
    (hh : handlesMet Tryd.prog [("errors.errorType", .iface "internal/reflectlite.rtype" (.agg [.ptr (.lit (.string [101, 114, 114, 111, 114]))]))] W) : ∃ S, Errs S W ∧ Tb (S 3) (S 1) W := by
  have hF := ft_of_reads (laidMet.reads h (List.mem_append_right _ (List.mem_singleton.2 rfl)))
  obtain ⟨S, E⟩ := errs_of_laid (laidMet_left _ _ h) hh
  exact ⟨S, E, E.c3, E.c1, hF⟩
end Go.Proofs.YtnbinljgfipboabDoor
