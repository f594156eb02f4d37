/-
  A slice of ops that came in.
-/
import Derived.Test.YtcccaejjhodnkaaDoorLay
import Derived.Test.YtcccaejjhodnkaaDoorIrChk
import Derived.Deep.Slices
namespace Go.Proofs.YtcccaejjhodnkaaDoor
open Go.ChangeShapes Go.WideShapes Go.ChangeAt Go.RowKit
set_option linter.unusedVariables false
theorem cOp6 : Tryd.prog.cellsOf 60 = 6 := by kernel_rfl
theorem cI3 : Tryd.prog.cellsOf 3 = 1 := by kernel_rfl
theorem cS9 : Tryd.prog.cellsOf 9 = 1 := by kernel_rfl
theorem cU23 : Tryd.prog.cellsOf 23 = 1 := by kernel_rfl
set_option maxRecDepth 100000 in
theorem ops_of {H : Type} {enc : TypeId × Value → H} {W : World} {base : Nat} {v : Value} {d : DataW H} {p : List MemPlace} (hv : Value.okWide Tryd.prog W .any base 22 v) (h : DataW.Trod enc Tryd.prog W 0 (fun _ => true) true 22 v d p) :
    ∃ l : List Opx, OpsIn W v l ∧ (l.length : Int) ≤ 9223372036854775807 ∧ ∀ o ∈ l, (o.s.size : Int) ≤ 9223372036854775807 := by
  obtain ⟨a0, len, cap, rfl⟩ := okWide_slice Tryd.underlying22 hv
  obtain ⟨fuel, hf⟩ := h
  rcases Go.Deep.open_slice Tryd.underlying22 hf with ⟨hcs, hx⟩ | ⟨a, len', cap', m, n, D, Pl, hcs, _, hl, hm, hmm, _, hx⟩
  · simp [Value.cells] at hcs
    obtain ⟨rfl, rfl, rfl⟩ := hcs
    exact ⟨[], ⟨⟨none, 0, rfl, Nat.le_refl _, fun h => absurd h (by simp)⟩, fun o ho => by cases ho⟩, by simp, fun o ho => by cases ho⟩
  · simp [Value.cells] at hcs
    obtain ⟨rfl, rfl, rfl⟩ := hcs
    simp only [if_true] at hmm
    subst hmm
    have each : ∀ i, ∃ x : Opx, i < len → (x.ok ∧ (x.s.size : Int) ≤ 9223372036854775807) ∧ ∀ (j : Nat) (u : Value), (opC x)[j]? = some u → W.cell? ((a.add (i * 6)).add j) = some u := by
      intro i
      by_cases hi : i < len
      · obtain ⟨cs', h1, h2⟩ := hx i (by omega)
        rw [cOp6] at h1
        obtain ⟨_, hlen, hcell⟩ := World.cells?_some h1
        obtain ⟨xs, k, hk, hxy, _, hxl, hg⟩ := DataW.trod_struct Tryd.underlying60 h2
        match xs, hxl, cs', hlen with
        | [y0, y1, y2, y3, y4, y5], _, [c0, c1, c2, c3, c4, c5], _ =>
          have g0 := hg 0 _ rfl
          have g1 := hg 1 _ rfl
          have g2 := hg 2 _ rfl
          have g3 := hg 3 _ rfl
          have g4 := hg 4 _ rfl
          have g5 := hg 5 _ rfl
          simp [cI3, cS9, cU23] at g0 g1 g2 g3 g4 g5
          obtain ⟨s0, e0, rfl, w0⟩ := DataW.trod_string Tryd.underlying9 g0
          obtain ⟨a1, e1, rfl, w1⟩ := DataW.trod_int Tryd.underlying3 g1
          obtain ⟨a2, e2, rfl, w2⟩ := DataW.trod_int Tryd.underlying3 g2
          obtain ⟨a3, e3, rfl, w3⟩ := DataW.trod_int Tryd.underlying3 g3
          obtain ⟨a4, e4, rfl, w4⟩ := DataW.trod_int Tryd.underlying23 g4
          obtain ⟨a5, e5, rfl, w5⟩ := DataW.trod_int Tryd.underlying3 g5
          simp at e0 e1 e2 e3 e4 e5
          subst e0 e1 e2 e3 e4 e5
          refine ⟨⟨s0, a1, a2, a3, a4, a5⟩, fun _ => ⟨⟨⟨(bd_i64 w1).1, (bd_i64 w1).2, (bd_i64 w2).1, (bd_i64 w2).2, (bd_i64 w3).1, (bd_i64 w3).2, (bd_u32 w4).1, (bd_u32 w4).2, (bd_i64 w5).1, (bd_i64 w5).2⟩, by unfold maxLen at w0; show (s0.size : Int) ≤ _; omega⟩, fun j u hj => ?_⟩⟩
          have hj6 : j < 6 := by
            rcases Nat.lt_or_ge j 6 with h | h
            · exact h
            · rw [List.getElem?_eq_none (by simpa [opC] using h)] at hj; cases hj
          rw [hcell j hj6]
          exact hj
      · exact ⟨⟨ByteArray.empty, 0, 0, 0, 0, 0⟩, fun h => absurd h hi⟩
    have hch := Classical.axiomOfChoice each
    obtain ⟨x, hxx⟩ := hch
    have hll : ((List.range len).map x).length = len := by simp
    have hget : ∀ (i : Nat) (o : Opx), ((List.range len).map x)[i]? = some o → i < len ∧ o = x i := by
      intro i o ho
      have hi : i < len := by have := (List.getElem?_eq_some_iff.1 ho).1; simpa using this
      rw [List.getElem?_map, List.getElem?_range hi] at ho
      exact ⟨hi, (Option.some.inj ho).symm⟩
    refine ⟨(List.range len).map x, ⟨⟨some a, _, by rw [hll], by rw [hll]; exact hl, fun hp => ?_⟩, fun o ho => ?_⟩, by rw [hll]; unfold maxLen at hm; omega, fun o ho => ?_⟩
    · obtain ⟨b, off, spot⟩ := a
      have hp' : 0 < len := by omega
      have hspot : spot = none := by
        have := (hxx 0 hp').2 0 _ rfl
        simpa [Addr.add] using World.cell?_spot this
      subst hspot
      refine ⟨b, off, rfl, fun i o ho j u hj => ?_⟩
      obtain ⟨hi, rfl⟩ := hget i o ho
      have := (hxx i hi).2 j u hj
      rwa [add_plain, add_plain] at this
    · obtain ⟨i, hi, rfl⟩ := List.mem_map.1 ho
      exact (hxx i (List.mem_range.1 hi)).1.1
    · obtain ⟨i, hi, rfl⟩ := List.mem_map.1 ho
      exact (hxx i (List.mem_range.1 hi)).1.2
end Go.Proofs.YtcccaejjhodnkaaDoor
