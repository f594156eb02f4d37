/-
  From what the program's own text lays (the ten errors of package api, the handle of 'error', how many ops each part of a row may have) to what the walk asks.
-/
import Derived.Lib.LaidU8
import Derived.Deep.Slices
import Derived.Test.YtjkencgcdlfjhaaGreatDoorLaid
import Derived.Test.YtjkencgcdlfjhaaGreatDoorQIrChk
import Derived.Test.YtjkencgcdlfjhaaGreatDoorJMk6
namespace Go.Proofs.YtjkencgcdlfjhaaGreatDoor
open Go.ChangeShapes Go.WideShapes Go.ChangeAt Go.RowKit Go.Lib
set_option linter.unusedVariables false
theorem laidVars_split {P : Program} {W : World} : ∀ (l1 : List (String × DataW Unit)) {l2 : List (String × DataW Unit)} {ps : List MemPlace}, DataW.LaidVars P W (l1 ++ l2) ps → ∃ p1 p2, ps = p1 ++ p2 ∧ DataW.LaidVars P W l1 p1 ∧ DataW.LaidVars P W l2 p2
  | [], l2, ps, h => ⟨[], ps, rfl, rfl, h⟩
  | x :: l1, l2, ps, h => by
    obtain ⟨g, t, cs, f, p, q, hg, ht, hv, hd, hq, e⟩ := h
    obtain ⟨p1, p2, rfl, h1, h2⟩ := laidVars_split l1 hq
    exact ⟨_, p2, by rw [e, ← List.append_assoc], ⟨g, t, cs, f, p, p1, hg, ht, hv, hd, h1, rfl⟩, h2⟩
theorem laidMet_left {P : Program} {W : World} (l1 l2 : List (String × DataW Unit)) (h : laidMet P (l1 ++ l2) W) : laidMet P l1 W := by
  obtain ⟨ps, hl, hn, hr⟩ := h
  obtain ⟨p1, p2, rfl, h1, h2⟩ := laidVars_split l1 hl
  exact ⟨p1, h1, (List.nodup_append.1 hn).1, fun b off hm => hr b off (List.mem_append_left _ hm)⟩
theorem Tryz.laidOut : laidOutB Tryz.prog = true := by kernel_rfl
theorem Tryz.cInt : Tryz.prog.cellsOf 3 = 1 := by kernel_rfl
theorem Tryz.gMost : Tryz.prog.globalNamed "changeling/plan.most" = some 12 := by kernel_rfl
theorem Tryz.tMost : (Tryz.prog.globals[12]?).map (·.type) = some 266 := by kernel_rfl
theorem Tryz.cMost : Tryz.prog.cellsOf 266 = 3 := by kernel_rfl
theorem mst_of_reads {W : World} (h : VarReads Tryz.prog W "changeling/plan.most" (tabData .i64 [3, 1, 1])) : Mst W := by
  obtain ⟨g, t, cs, fuel, p, hg, hty, hvar, hd⟩ := h
  obtain rfl := Option.some.inj (Tryz.gMost.symm.trans hg)
  obtain rfl := Option.some.inj (Tryz.tMost.symm.trans hty)
  have hcs := cells_of_tab Tryz.underlying266 Tryz.underlying3 Tryz.cInt Tryz.cMost hd
  have at_ : ∀ i, W.cell? ⟨12, i, none⟩ = ([3, 1, 1].map (Value.int .i64))[i]? := fun i => by
    have := World.var?_cell hg hvar i
    rw [this, ← Array.getElem?_toList, hcs]
  exact ⟨at_ 0, at_ 1, at_ 2⟩
theorem ep_of_ten {W : World} (h : laidMet Tryz.prog ((ten.map fun x => (x.1, sentinel "*errors.errorString" x.2)) ++ [("changeling/plan.most", tabData .i64 [3, 1, 1])]) W)
    (hh : handlesMet Tryz.prog [("errors.errorType", .iface "internal/reflectlite.rtype" (.agg [.ptr (.lit (.string [101, 114, 114, 111, 114]))]))] W) : ∃ S, Errs S W ∧ Ep (peS S) W := by
  have hM := mst_of_reads (laidMet.reads h (List.mem_append_right _ (List.mem_singleton.2 rfl)))
  obtain ⟨S, E⟩ := errs_of_laid (laidMet_left _ _ h) hh
  exact ⟨S, E, ⟨⟨E.c1, E.c2, E.c3, E.c7, E.c8, E.c9⟩, E.c6, hM⟩⟩
theorem lay_of {W : World} (hL : laidMetH Tryz.prog Rows.planEndsRow.laid W) : ∃ S, Errs S W ∧ Ep (peS S) W := ep_of_ten hL.1 hL.2
theorem bd_i64 {n : Int} (h : (Lit.int .i64 n).wf = true) : -9223372036854775808 ≤ n ∧ n ≤ 9223372036854775807 := by
  simp [Lit.wf, IntKind.min, IntKind.max, IntKind.signed, IntKind.bits] at h; omega
theorem bd_u32 {n : Int} (h : (Lit.int .u32 n).wf = true) : 0 ≤ n ∧ n < 4294967296 := by
  simp [Lit.wf, IntKind.min, IntKind.max, IntKind.signed, IntKind.bits] at h; omega
end Go.Proofs.YtjkencgcdlfjhaaGreatDoor
/-
  A slice of ops that came in.
-/
namespace Go.Proofs.YtjkencgcdlfjhaaGreatDoor
open Go.ChangeShapes Go.WideShapes Go.ChangeAt Go.RowKit
set_option linter.unusedVariables false
theorem cOp6 : Tryz.prog.cellsOf 92 = 6 := by kernel_rfl
theorem cI3 : Tryz.prog.cellsOf 3 = 1 := by kernel_rfl
theorem cS9 : Tryz.prog.cellsOf 9 = 1 := by kernel_rfl
theorem cU23 : Tryz.prog.cellsOf 22 = 1 := by kernel_rfl
set_option maxRecDepth 100000 in
theorem ops_of {H : Type} {enc : TypeId × Value → H} {W : World} {base : Nat} {v : Value} {d : DataW H} {p : List MemPlace} (hv : Value.okWide Tryz.prog W .any base 23 v) (h : DataW.Trod enc Tryz.prog W 0 (fun _ => true) true 23 v d p) :
    ∃ l : List Opx, OpsIn W v l ∧ (l.length : Int) ≤ 9223372036854775807 ∧ ∀ o ∈ l, (o.s.size : Int) ≤ 9223372036854775807 := by
  obtain ⟨a0, len, cap, rfl⟩ := okWide_slice Tryz.underlying23 hv
  obtain ⟨fuel, hf⟩ := h
  rcases Go.Deep.open_slice Tryz.underlying23 hf with ⟨hcs, hx⟩ | ⟨a, len', cap', m, n, D, Pl, hcs, _, hl, hm, hmm, _, hx⟩
  · simp [Value.cells] at hcs
    obtain ⟨rfl, rfl, rfl⟩ := hcs
    exact ⟨[], ⟨⟨none, 0, rfl, Nat.le_refl _, fun h => absurd h (by simp)⟩, fun o ho => by cases ho⟩, by simp, fun o ho => by cases ho⟩
  · simp [Value.cells] at hcs
    obtain ⟨rfl, rfl, rfl⟩ := hcs
    simp only [if_true] at hmm
    subst hmm
    have each : ∀ i, ∃ x : Opx, i < len → (x.ok ∧ (x.s.size : Int) ≤ 9223372036854775807) ∧ ∀ (j : Nat) (u : Value), (opC x)[j]? = some u → W.cell? ((a.add (i * 6)).add j) = some u := by
      intro i
      by_cases hi : i < len
      · obtain ⟨cs', h1, h2⟩ := hx i (by omega)
        rw [cOp6] at h1
        obtain ⟨_, hlen, hcell⟩ := World.cells?_some h1
        obtain ⟨xs, k, hk, hxy, _, hxl, hg⟩ := DataW.trod_struct Tryz.underlying92 h2
        match xs, hxl, cs', hlen with
        | [y0, y1, y2, y3, y4, y5], _, [c0, c1, c2, c3, c4, c5], _ =>
          have g0 := hg 0 _ rfl
          have g1 := hg 1 _ rfl
          have g2 := hg 2 _ rfl
          have g3 := hg 3 _ rfl
          have g4 := hg 4 _ rfl
          have g5 := hg 5 _ rfl
          simp [cI3, cS9, cU23] at g0 g1 g2 g3 g4 g5
          obtain ⟨s0, e0, rfl, w0⟩ := DataW.trod_string Tryz.underlying9 g0
          obtain ⟨a1, e1, rfl, w1⟩ := DataW.trod_int Tryz.underlying3 g1
          obtain ⟨a2, e2, rfl, w2⟩ := DataW.trod_int Tryz.underlying3 g2
          obtain ⟨a3, e3, rfl, w3⟩ := DataW.trod_int Tryz.underlying3 g3
          obtain ⟨a4, e4, rfl, w4⟩ := DataW.trod_int Tryz.underlying22 g4
          obtain ⟨a5, e5, rfl, w5⟩ := DataW.trod_int Tryz.underlying3 g5
          simp at e0 e1 e2 e3 e4 e5
          subst e0 e1 e2 e3 e4 e5
          refine ⟨⟨s0, a1, a2, a3, a4, a5⟩, fun _ => ⟨⟨⟨(bd_i64 w1).1, (bd_i64 w1).2, (bd_i64 w2).1, (bd_i64 w2).2, (bd_i64 w3).1, (bd_i64 w3).2, (bd_u32 w4).1, (bd_u32 w4).2, (bd_i64 w5).1, (bd_i64 w5).2⟩, by unfold maxLen at w0; show (s0.size : Int) ≤ _; omega⟩, fun j u hj => ?_⟩⟩
          have hj6 : j < 6 := by
            rcases Nat.lt_or_ge j 6 with h | h
            · exact h
            · rw [List.getElem?_eq_none (by simpa [opC] using h)] at hj; cases hj
          rw [hcell j hj6]
          exact hj
      · exact ⟨⟨ByteArray.empty, 0, 0, 0, 0, 0⟩, fun h => absurd h hi⟩
    have hch := Classical.axiomOfChoice each
    obtain ⟨x, hxx⟩ := hch
    have hll : ((List.range len).map x).length = len := by simp
    have hget : ∀ (i : Nat) (o : Opx), ((List.range len).map x)[i]? = some o → i < len ∧ o = x i := by
      intro i o ho
      have hi : i < len := by have := (List.getElem?_eq_some_iff.1 ho).1; simpa using this
      rw [List.getElem?_map, List.getElem?_range hi] at ho
      exact ⟨hi, (Option.some.inj ho).symm⟩
    refine ⟨(List.range len).map x, ⟨⟨some a, _, by rw [hll], by rw [hll]; exact hl, fun hp => ?_⟩, fun o ho => ?_⟩, by rw [hll]; unfold maxLen at hm; omega, fun o ho => ?_⟩
    · obtain ⟨b, off, spot⟩ := a
      have hp' : 0 < len := by omega
      have hspot : spot = none := by
        have := (hxx 0 hp').2 0 _ rfl
        simpa [Addr.add] using World.cell?_spot this
      subst hspot
      refine ⟨b, off, rfl, fun i o ho j u hj => ?_⟩
      obtain ⟨hi, rfl⟩ := hget i o ho
      have := (hxx i hi).2 j u hj
      rwa [add_plain, add_plain] at this
    · obtain ⟨i, hi, rfl⟩ := List.mem_map.1 ho
      exact (hxx i (List.mem_range.1 hi)).1.1
    · obtain ⟨i, hi, rfl⟩ := List.mem_map.1 ho
      exact (hxx i (List.mem_range.1 hi)).1.2
end Go.Proofs.YtjkencgcdlfjhaaGreatDoor
