/-
  What comes in: a slice of words, a slice of acts on memory.
-/
import Derived.Test.YtmfhimphlackiaaDoorLaid
import Derived.Test.YtmfhimphlackiaaDoorPartsWalk
import Derived.LaidMore
import Derived.ProofKit
import Derived.OpenShut
import Derived.Deep.Slices
namespace Go.Proofs.YtmfhimphlackiaaDoor
open Go.ChangeShapes Go.WideShapes Go.ChangeAt Go.RowKit
set_option linter.unusedVariables false
theorem Tryd.laidOut : laidOutB Tryd.prog = true := by kernel_rfl
theorem Tryd.c23 : Tryd.prog.cellsOf 23 = 1 := by kernel_rfl
theorem bd_i64 {n : Int} (h : (Lit.int .i64 n).wf = true) : -9223372036854775808 ≤ n ∧ n ≤ 9223372036854775807 := by
  simp [Lit.wf, IntKind.min, IntKind.max, IntKind.signed, IntKind.bits] at h; omega
theorem bd_u32 {n : Int} (h : (Lit.int .u32 n).wf = true) : 0 ≤ n ∧ n < 4294967296 := by
  simp [Lit.wf, IntKind.min, IntKind.max, IntKind.signed, IntKind.bits] at h; omega
set_option maxRecDepth 100000 in
/-- a slice of words that came in -/
theorem words_of {H : Type} {enc : TypeId × Value → H} {W : World} {base : Nat} {v : Value} {d : DataW H} {p : List MemPlace} (hv : Value.okWide Tryd.prog W .any base 22 v) (h : DataW.Trod enc Tryd.prog W 0 (fun _ => true) true 22 v d p) :
    ∃ xs : List Int, WordsIn W v xs ∧ (xs.length : Int) ≤ 9223372036854775807 := by
  obtain ⟨a0, len, cap, rfl⟩ := okWide_slice Tryd.underlying22 hv
  obtain ⟨fuel, hf⟩ := h
  rcases open_ints Tryd.underlying22 Tryd.underlying23 Tryd.c23 hf with ⟨hcs, hx⟩ | ⟨a, len', cap', zs, hcs, _, hl, hm, hz, hx, hcell, hwz⟩
  · simp [Value.cells] at hcs
    obtain ⟨rfl, rfl, rfl⟩ := hcs
    exact ⟨[], ⟨⟨none, 0, rfl, Nat.le_refl _, fun h => absurd h (by simp)⟩, mw_wf [] (by simp)⟩, by simp⟩
  · simp [Value.cells] at hcs
    obtain ⟨rfl, rfl, rfl⟩ := hcs
    simp only [if_true] at hz
    have hlen : (zs.take len).length = len := by simp; omega
    refine ⟨zs.take len, ⟨⟨some a, cap, by rw [hlen], by omega, fun hp => ?_⟩, mw_wf _ (fun x hx => bd_u32 (hwz x (List.mem_of_mem_take hx)))⟩, ?_⟩
    · obtain ⟨b, off, spot⟩ := a
      have hspot : spot = none := by simpa [Addr.add] using World.cell?_spot (hcell 0 (by omega))
      subst hspot
      refine ⟨b, off, rfl, fun i hi => ?_⟩
      have := hcell i (by omega)
      rw [add_plain] at this
      rw [this, List.getD_eq_getElem?_getD, List.getD_eq_getElem?_getD, List.getElem?_take_of_lt (by omega)]
    · unfold maxLen at hm; omega
/-- an act -/
structure Rc where
  s : ByteArray
  a : Int
  z : Int
  sg : Bool
  v : Int
  p : Int
  on : Bool
structure Rc.ok (x : Rc) : Prop where
  a0 : 0 ≤ x.a
  a1 : x.a < 4294967296
  z0 : -9223372036854775808 ≤ x.z
  z1 : x.z ≤ 9223372036854775807
  v0 : 0 ≤ x.v
  v1 : x.v < 4294967296
  p0 : -9223372036854775808 ≤ x.p
  p1 : x.p ≤ 9223372036854775807
def rcV (x : Rc) : List Value := [.string x.s, .int .u32 x.a, .int .i64 x.z, .bool x.sg, .int .u32 x.v, .int .i64 x.p, .bool x.on]
structure RcsIn (w : World) (v : Value) (n : Nat) (x : Nat → Rc) : Prop where
  sh : ∃ ao cap, v = .slice ao n cap ∧ n ≤ cap ∧ (0 < n → ∃ b off : Nat, ao = some ⟨b, off, none⟩ ∧ ∀ i, i < n → ∀ (j : Nat) (u : Value), (rcV (x i))[j]? = some u → w.cell? ⟨b, off + i * 7 + j, none⟩ = some u)
  ok : ∀ i, i < n → (x i).ok
theorem cAct7 : Tryd.prog.cellsOf 42 = 7 := by kernel_rfl
theorem cI3 : Tryd.prog.cellsOf 3 = 1 := by kernel_rfl
theorem cB4 : Tryd.prog.cellsOf 4 = 1 := by kernel_rfl
theorem cS9 : Tryd.prog.cellsOf 9 = 1 := by kernel_rfl
theorem cU23 : Tryd.prog.cellsOf 23 = 1 := by kernel_rfl
set_option maxRecDepth 100000 in
theorem rcs_of {H : Type} {enc : TypeId × Value → H} {W : World} {base : Nat} {v : Value} {d : DataW H} {p : List MemPlace} (hv : Value.okWide Tryd.prog W .any base 38 v) (h : DataW.Trod enc Tryd.prog W 0 (fun _ => true) true 38 v d p) :
    ∃ (n : Nat) (x : Nat → Rc), RcsIn W v n x ∧ (n : Int) ≤ 9223372036854775807 := by
  obtain ⟨a0, len, cap, rfl⟩ := okWide_slice Tryd.underlying38 hv
  obtain ⟨fuel, hf⟩ := h
  rcases Go.Deep.open_slice Tryd.underlying38 hf with ⟨hcs, hx⟩ | ⟨a, len', cap', m, n, D, Pl, hcs, _, hl, hm, hmm, _, hx⟩
  · simp [Value.cells] at hcs
    obtain ⟨rfl, rfl, rfl⟩ := hcs
    exact ⟨0, fun _ => ⟨ByteArray.empty, 0, 0, false, 0, 0, false⟩, ⟨⟨none, 0, rfl, Nat.le_refl _, fun h => absurd h (by simp)⟩, fun i hi => by omega⟩, by simp⟩
  · simp [Value.cells] at hcs
    obtain ⟨rfl, rfl, rfl⟩ := hcs
    simp only [if_true] at hmm
    subst hmm
    have each : ∀ i, ∃ x : Rc, i < len → x.ok ∧ ∀ (j : Nat) (u : Value), (rcV x)[j]? = some u → W.cell? ((a.add (i * 7)).add j) = some u := by
      intro i
      by_cases hi : i < len
      · obtain ⟨cs', h1, h2⟩ := hx i (by omega)
        rw [cAct7] at h1
        obtain ⟨_, hlen, hcell⟩ := World.cells?_some h1
        obtain ⟨xs, k, hk, hxy, _, hxl, hg⟩ := DataW.trod_struct Tryd.underlying42 h2
        match xs, hxl, cs', hlen with
        | [y0, y1, y2, y3, y4, y5, y6], _, [c0, c1, c2, c3, c4, c5, c6], _ =>
          have g0 := hg 0 _ rfl
          have g1 := hg 1 _ rfl
          have g2 := hg 2 _ rfl
          have g3 := hg 3 _ rfl
          have g4 := hg 4 _ rfl
          have g5 := hg 5 _ rfl
          have g6 := hg 6 _ rfl
          simp [cI3, cB4, cU23, cS9] at g0 g1 g2 g3 g4 g5 g6
          obtain ⟨s0, e0, rfl, w0⟩ := DataW.trod_string Tryd.underlying9 g0
          obtain ⟨a1, e1, rfl, w1⟩ := DataW.trod_int Tryd.underlying23 g1
          obtain ⟨a2, e2, rfl, w2⟩ := DataW.trod_int Tryd.underlying3 g2
          obtain ⟨b3, e3, rfl⟩ := DataW.trod_bool Tryd.underlying4 g3
          obtain ⟨a4, e4, rfl, w4⟩ := DataW.trod_int Tryd.underlying23 g4
          obtain ⟨a5, e5, rfl, w5⟩ := DataW.trod_int Tryd.underlying3 g5
          obtain ⟨b6, e6, rfl⟩ := DataW.trod_bool Tryd.underlying4 g6
          simp at e0 e1 e2 e3 e4 e5 e6
          subst e0 e1 e2 e3 e4 e5 e6
          refine ⟨⟨s0, a1, a2, b3, a4, a5, b6⟩, fun _ => ⟨⟨(bd_u32 w1).1, (bd_u32 w1).2, (bd_i64 w2).1, (bd_i64 w2).2, (bd_u32 w4).1, (bd_u32 w4).2, (bd_i64 w5).1, (bd_i64 w5).2⟩, fun j u hj => ?_⟩⟩
          have hj7 : j < 7 := by
            rcases Nat.lt_or_ge j 7 with h | h
            · exact h
            · rw [List.getElem?_eq_none (by simpa [rcV] using h)] at hj; cases hj
          rw [hcell j hj7]
          exact hj
      · exact ⟨⟨ByteArray.empty, 0, 0, false, 0, 0, false⟩, fun h => absurd h hi⟩
    have hch := Classical.axiomOfChoice each
    obtain ⟨x, hxx⟩ := hch
    refine ⟨len, x, ⟨⟨some a, _, rfl, hl, fun hp => ?_⟩, fun i hi => (hxx i hi).1⟩, by unfold maxLen at hm; omega⟩
    obtain ⟨b, off, spot⟩ := a
    have hspot : spot = none := by
      have := (hxx 0 hp).2 0 _ rfl
      simpa [Addr.add] using World.cell?_spot this
    subst hspot
    refine ⟨b, off, rfl, fun i hi j u hj => ?_⟩
    have := (hxx i hi).2 j u hj
    rwa [add_plain, add_plain] at this
end Go.Proofs.YtmfhimphlackiaaDoor
