/-
  A slice of acts that came in.
-/
import Derived.Test.YtmfhimphlackiaaDoorLay
import Derived.Test.YtmfhimphlackiaaDoorBus
import Derived.Deep.Slices
namespace Go.Proofs.YtmfhimphlackiaaDoor
open Go.ChangeShapes Go.WideShapes Go.ChangeAt Go.RowKit
set_option linter.unusedVariables false
/-- an act -/
structure Ac where
  st : Bool
  a : Int
  s : Int
  sg : Bool
  v : Int
  c : Int
structure Ac.ok (x : Ac) : Prop where
  a0 : 0 ≤ x.a
  a1 : x.a < 4294967296
  s0 : -9223372036854775808 ≤ x.s
  s1 : x.s ≤ 9223372036854775807
  v0 : 0 ≤ x.v
  v1 : x.v < 4294967296
  c0 : -9223372036854775808 ≤ x.c
  c1 : x.c ≤ 9223372036854775807
def acV (x : Ac) : List Value := [.bool x.st, .int .u32 x.a, .int .i64 x.s, .bool x.sg, .int .u32 x.v, .int .i64 x.c]
structure ActsIn (w : World) (v : Value) (n : Nat) (x : Nat → Ac) : Prop where
  sh : ∃ ao cap, v = .slice ao n cap ∧ n ≤ cap ∧ (0 < n → ∃ b off : Nat, ao = some ⟨b, off, none⟩ ∧ ∀ i, i < n → ∀ (j : Nat) (u : Value), (acV (x i))[j]? = some u → w.cell? ⟨b, off + i * 6 + j, none⟩ = some u)
  ok : ∀ i, i < n → (x i).ok
theorem ActsIn.stays {w w' : World} {v : Value} {n : Nat} {x : Nat → Ac} (A : ActsIn w v n x) (h : Below w.heap.size w w') : ActsIn w' v n x := by
  obtain ⟨ao, cap, rfl, hc, hh⟩ := A.sh
  refine ⟨⟨ao, cap, rfl, hc, fun hp => ?_⟩, A.ok⟩
  obtain ⟨b, off, rfl, hcell⟩ := hh hp
  exact ⟨b, off, rfl, fun i hi j u hj => by have := hcell i hi j u hj; rw [h.cell (World.block_lt_of_cell? _ _ this)]; exact this⟩
theorem Tryd.c60 : Tryd.prog.cellsOf 60 = 6 := by kernel_rfl
theorem Tryd.c3 : Tryd.prog.cellsOf 3 = 1 := by kernel_rfl
theorem Tryd.c4 : Tryd.prog.cellsOf 4 = 1 := by kernel_rfl
set_option maxRecDepth 100000 in
theorem acts_of {H : Type} {enc : TypeId × Value → H} {W : World} {base : Nat} {v : Value} {d : DataW H} {p : List MemPlace} (hv : Value.okWide Tryd.prog W .any base 56 v) (h : DataW.Trod enc Tryd.prog W 0 (fun _ => true) true 56 v d p) :
    ∃ (n : Nat) (x : Nat → Ac), ActsIn W v n x ∧ (n : Int) ≤ 9223372036854775807 := by
  obtain ⟨a0, len, cap, rfl⟩ := okWide_slice Tryd.underlying56 hv
  obtain ⟨fuel, hf⟩ := h
  rcases Go.Deep.open_slice Tryd.underlying56 hf with ⟨hcs, hx⟩ | ⟨a, len', cap', m, n, D, Pl, hcs, _, hl, hm, hmm, _, hx⟩
  · simp [Value.cells] at hcs
    obtain ⟨rfl, rfl, rfl⟩ := hcs
    exact ⟨0, fun _ => ⟨false, 0, 0, false, 0, 0⟩, ⟨⟨none, 0, rfl, Nat.le_refl _, fun h => absurd h (by simp)⟩, fun i hi => by omega⟩, by simp⟩
  · simp [Value.cells] at hcs
    obtain ⟨rfl, rfl, rfl⟩ := hcs
    simp only [if_true] at hmm
    subst hmm
    have each : ∀ i, ∃ x : Ac, i < len → x.ok ∧ ∀ (j : Nat) (u : Value), (acV x)[j]? = some u → W.cell? ((a.add (i * 6)).add j) = some u := by
      intro i
      by_cases hi : i < len
      · obtain ⟨cs', h1, h2⟩ := hx i (by omega)
        rw [Tryd.c60] at h1
        obtain ⟨_, hlen, hcell⟩ := World.cells?_some h1
        obtain ⟨xs, k, hk, hxy, _, hxl, hg⟩ := DataW.trod_struct Tryd.underlying60 h2
        match xs, hxl, cs', hlen with
        | [y0, y1, y2, y3, y4, y5], _, [c0, c1, c2, c3, c4, c5], _ =>
          have g0 := hg 0 _ rfl
          have g1 := hg 1 _ rfl
          have g2 := hg 2 _ rfl
          have g3 := hg 3 _ rfl
          have g4 := hg 4 _ rfl
          have g5 := hg 5 _ rfl
          simp [Tryd.c3, Tryd.c4, Tryd.c23] at g0 g1 g2 g3 g4 g5
          obtain ⟨b0, e0, rfl⟩ := DataW.trod_bool Tryd.underlying4 g0
          obtain ⟨a1, e1, rfl, w1⟩ := DataW.trod_int Tryd.underlying23 g1
          obtain ⟨a2, e2, rfl, w2⟩ := DataW.trod_int Tryd.underlying3 g2
          obtain ⟨b3, e3, rfl⟩ := DataW.trod_bool Tryd.underlying4 g3
          obtain ⟨a4, e4, rfl, w4⟩ := DataW.trod_int Tryd.underlying23 g4
          obtain ⟨a5, e5, rfl, w5⟩ := DataW.trod_int Tryd.underlying3 g5
          simp at e0 e1 e2 e3 e4 e5
          subst e0 e1 e2 e3 e4 e5
          refine ⟨⟨b0, a1, a2, b3, a4, a5⟩, fun _ => ⟨⟨(bd_u32 w1).1, (bd_u32 w1).2, (bd_i64 w2).1, (bd_i64 w2).2, (bd_u32 w4).1, (bd_u32 w4).2, (bd_i64 w5).1, (bd_i64 w5).2⟩, fun j u hj => ?_⟩⟩
          have hj6 : j < 6 := by
            rcases Nat.lt_or_ge j 6 with h | h
            · exact h
            · rw [List.getElem?_eq_none (by simpa [acV] using h)] at hj; cases hj
          rw [hcell j hj6]
          exact hj
      · exact ⟨⟨false, 0, 0, false, 0, 0⟩, fun h => absurd h hi⟩
    have hch := Classical.axiomOfChoice each
    obtain ⟨x, hxx⟩ := hch
    refine ⟨len, x, ⟨⟨some a, _, rfl, hl, fun hp => ?_⟩, fun i hi => (hxx i hi).1⟩, by unfold maxLen at hm; omega⟩
    obtain ⟨b, off, spot⟩ := a
    have hspot : spot = none := by
      have := (hxx 0 hp).2 0 _ rfl
      simpa [Addr.add] using World.cell?_spot this
    subst hspot
    refine ⟨b, off, rfl, fun i hi j u hj => ?_⟩
    have := (hxx i hi).2 j u hj
    rwa [add_plain, add_plain] at this
end Go.Proofs.YtmfhimphlackiaaDoor
