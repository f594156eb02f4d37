/-
  From what the program's own text lays (the ten errors of package api, the handle of 'error', how many ops each part of a row may have) to what the walk asks.
-/
import Derived.Lib.LaidU8
import Derived.Test.YtcccaejjhodnkabGreatDoorQLaid
import Derived.Test.YtcccaejjhodnkabGreatDoorQPw1
namespace Go.Proofs.YtcccaejjhodnkabGreatDoor
open Go.ChangeShapes Go.WideShapes Go.ChangeAt Go.RowKit Go.Lib
set_option linter.unusedVariables false
theorem laidVars_split {P : Program} {W : World} : ∀ (l1 : List (String × DataW Unit)) {l2 : List (String × DataW Unit)} {ps : List MemPlace}, DataW.LaidVars P W (l1 ++ l2) ps → ∃ p1 p2, ps = p1 ++ p2 ∧ DataW.LaidVars P W l1 p1 ∧ DataW.LaidVars P W l2 p2
  | [], l2, ps, h => ⟨[], ps, rfl, rfl, h⟩
  | x :: l1, l2, ps, h => by
    obtain ⟨g, t, cs, f, p, q, hg, ht, hv, hd, hq, e⟩ := h
    obtain ⟨p1, p2, rfl, h1, h2⟩ := laidVars_split l1 hq
    exact ⟨_, p2, by rw [e, ← List.append_assoc], ⟨g, t, cs, f, p, p1, hg, ht, hv, hd, h1, rfl⟩, h2⟩
theorem laidMet_left {P : Program} {W : World} (l1 l2 : List (String × DataW Unit)) (h : laidMet P (l1 ++ l2) W) : laidMet P l1 W := by
  obtain ⟨ps, hl, hn, hr⟩ := h
  obtain ⟨p1, p2, rfl, h1, h2⟩ := laidVars_split l1 hl
  exact ⟨p1, h1, (List.nodup_append.1 hn).1, fun b off hm => hr b off (List.mem_append_left _ hm)⟩
theorem Tryz.laidOut : laidOutB Tryz.prog = true := by kernel_rfl
theorem Tryz.cInt : Tryz.prog.cellsOf 3 = 1 := by kernel_rfl
theorem Tryz.gMost : Tryz.prog.globalNamed "changeling/plan.most" = some 11 := by kernel_rfl
theorem Tryz.tMost : (Tryz.prog.globals[11]?).map (·.type) = some 119 := by kernel_rfl
theorem Tryz.cMost : Tryz.prog.cellsOf 119 = 3 := by kernel_rfl
theorem mst_of_reads {W : World} (h : VarReads Tryz.prog W "changeling/plan.most" (tabData .i64 [3, 1, 1])) : Mst W := by
  obtain ⟨g, t, cs, fuel, p, hg, hty, hvar, hd⟩ := h
  obtain rfl := Option.some.inj (Tryz.gMost.symm.trans hg)
  obtain rfl := Option.some.inj (Tryz.tMost.symm.trans hty)
  have hcs := cells_of_tab Tryz.underlying119 Tryz.underlying3 Tryz.cInt Tryz.cMost hd
  have at_ : ∀ i, W.cell? ⟨11, i, none⟩ = ([3, 1, 1].map (Value.int .i64))[i]? := fun i => by
    have := World.var?_cell hg hvar i
    rw [this, ← Array.getElem?_toList, hcs]
  exact ⟨at_ 0, at_ 1, at_ 2⟩
theorem ep_of_ten {W : World} (h : laidMet Tryz.prog ((ten.map fun x => (x.1, sentinel "*errors.errorString" x.2)) ++ [("changeling/plan.most", tabData .i64 [3, 1, 1])]) W)
    (hh : handlesMet Tryz.prog [("errors.errorType", .iface "internal/reflectlite.rtype" (.agg [.ptr (.lit (.string [101, 114, 114, 111, 114]))]))] W) : ∃ S, Errs S W ∧ Ep (peS S) W := by
  have hM := mst_of_reads (laidMet.reads h (List.mem_append_right _ (List.mem_singleton.2 rfl)))
  obtain ⟨S, E⟩ := errs_of_laid (laidMet_left _ _ h) hh
  exact ⟨S, E, ⟨⟨E.c1, E.c2, E.c3, E.c7⟩, E.c6, hM⟩⟩
theorem bd_i64 {n : Int} (h : (Lit.int .i64 n).wf = true) : -9223372036854775808 ≤ n ∧ n ≤ 9223372036854775807 := by
  simp [Lit.wf, IntKind.min, IntKind.max, IntKind.signed, IntKind.bits] at h; omega
end Go.Proofs.YtcccaejjhodnkabGreatDoor
