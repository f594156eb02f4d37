/-
  A state that came in.
-/
import Derived.Test.YtckcbnfobjmhpaaDoorQLayC
import Derived.Test.YtckcbnfobjmhpaaDoorQCpu1
import Derived.Test.YtckcbnfobjmhpaaDoorQEqSt0
namespace Go.Proofs.YtckcbnfobjmhpaaDoor
open Go.ChangeShapes Go.WideShapes Go.ChangeAt Go.RowKit
open Num
set_option linter.unusedVariables false
theorem c30 : Tryd.prog.cellsOf 30 = 32 := by kernel_rfl
theorem c32' : Tryd.prog.cellsOf 32 = 43 := by kernel_rfl
theorem c23' : Tryd.prog.cellsOf 23 = 1 := by kernel_rfl
theorem c4' : Tryd.prog.cellsOf 4 = 1 := by kernel_rfl
theorem c3' : Tryd.prog.cellsOf 3 = 1 := by kernel_rfl
theorem take_one {l : List Value} {k : Nat} {x : Value} (h : (l.drop k).take 1 = [x]) : l[k]? = some x := by
  have h2 : ((l.drop k).take 1)[0]? = some x := by rw [h]; rfl
  rw [List.getElem?_take_of_lt (by omega), List.getElem?_drop] at h2
  simpa using h2
def iv (v : Option Value) : Int := match v with | some (.int _ n) => n | _ => 0
def bv (v : Option Value) : Bool := match v with | some (.bool x) => x | _ => false
def stOf (cs : Array Value) : St := ⟨fun i => if i < 32 then iv cs[i]? else 0, iv cs[32]?, iv cs[33]?, iv cs[34]?, iv cs[35]?, bv cs[36]?, iv cs[37]?, iv cs[38]?, iv cs[39]?, iv cs[40]?, iv cs[41]?, iv cs[42]?⟩
theorem fields32' : (match Tryd.prog.underlying 32 with | some (.struct fs) => fs.toList.map (fun f => (f.type, f.offset)) | _ => []) = [(30, 0), (23, 32), (23, 33), (23, 34), (23, 35), (4, 36), (23, 37), (23, 38), (23, 39), (23, 40), (23, 41), (3, 42)] := by kernel_rfl
set_option maxRecDepth 100000 in
theorem open_st {H : Type} {enc : TypeId × Value → H} {W : World} {base : Nat} {sp : Nat → Bool} {held : Bool} {r : Reach} {b0 : Nat} {v : Value} {d : DataW H} {p : List MemPlace} (hv : Value.okWide Tryd.prog W r b0 32 v) (h : DataW.Trod enc Tryd.prog W base sp held 32 v d p) :
    ∃ S : St, v = .agg (stA S) ∧ (0 ≤ S.ct → S.ct ≤ 1099511627776 → S.ok) ∧ -9223372036854775808 ≤ S.ct ∧ S.ct ≤ 9223372036854775807 := by
  obtain ⟨cs, rfl, hsz⟩ := okWide_struct Tryd.underlying32 hv
  rw [c32'] at hsz
  obtain ⟨fuel, hf⟩ := h
  obtain ⟨xs, n, _, hx, hl, hlen, hg⟩ := DataW.trod_struct Tryd.underlying32 hf
  have hget : ∀ i (hi : i < 12), ∃ y, xs[i]? = some y := fun i hi => by
    have : i < xs.length := by rw [hlen]; exact hi
    exact ⟨_, List.getElem?_eq_getElem this⟩
  have word : ∀ (i o : Nat), (∃ y, DataW.trod enc Tryd.prog W base sp held n 23 ((cs.toList.drop o).take 1) = some y) → ∃ z : Int, cs[o]? = some (.int .u32 z) ∧ u32 z := by
    intro i o ⟨y, hy⟩
    obtain ⟨z, e, _, w⟩ := DataW.trod_int Tryd.underlying23 hy
    have := take_one e
    rw [Array.getElem?_toList] at this
    exact ⟨z, this, bd_u32 w⟩
  have hr : ∀ i, i < 32 → ∃ z : Int, cs[i]? = some (.int .u32 z) ∧ u32 z := by
    obtain ⟨y, hy⟩ := hget 0 (by omega)
    have g := hg 0 _ rfl
    rw [hy] at g
    obtain ⟨ys, m, _, _, _, hl2, hg2⟩ := DataW.trod_array Tryd.underlying30 g
    intro i hi
    have g2 := hg2 i hi
    have : i < ys.length := by rw [hl2]; exact hi
    rw [List.getElem?_eq_getElem this, c23', Nat.mul_one] at g2
    obtain ⟨z, e, _, w⟩ := DataW.trod_int Tryd.underlying23 g2
    have h1 := take_one e
    simp only [Value.cells] at h1
    rw [List.getElem?_take_of_lt (by show i < Tryd.prog.cellsOf 30; rw [c30]; exact hi)] at h1
    rw [List.getElem?_drop] at h1
    exact ⟨z, by simpa using h1, bd_u32 w⟩
  obtain ⟨z32, e32, b32⟩ : ∃ z : Int, cs[32]? = some (.int .u32 z) ∧ u32 z := by
    obtain ⟨y, hy⟩ := hget 1 (by omega)
    exact word 1 32 ⟨y, by have g := hg 1 _ rfl; rw [hy] at g; exact g⟩
  obtain ⟨z33, e33, b33⟩ : ∃ z : Int, cs[33]? = some (.int .u32 z) ∧ u32 z := by
    obtain ⟨y, hy⟩ := hget 2 (by omega)
    exact word 2 33 ⟨y, by have g := hg 2 _ rfl; rw [hy] at g; exact g⟩
  obtain ⟨z34, e34, b34⟩ : ∃ z : Int, cs[34]? = some (.int .u32 z) ∧ u32 z := by
    obtain ⟨y, hy⟩ := hget 3 (by omega)
    exact word 3 34 ⟨y, by have g := hg 3 _ rfl; rw [hy] at g; exact g⟩
  obtain ⟨z35, e35, b35⟩ : ∃ z : Int, cs[35]? = some (.int .u32 z) ∧ u32 z := by
    obtain ⟨y, hy⟩ := hget 4 (by omega)
    exact word 4 35 ⟨y, by have g := hg 4 _ rfl; rw [hy] at g; exact g⟩
  obtain ⟨z36, e36⟩ : ∃ z : Bool, cs[36]? = some (.bool z) := by
    obtain ⟨y, hy⟩ := hget 5 (by omega)
    have g := hg 5 _ rfl
    rw [hy] at g
    obtain ⟨z, e, _⟩ := DataW.trod_bool Tryd.underlying4 g
    have := take_one (l := cs.toList) (k := 36) e
    rw [Array.getElem?_toList] at this
    exact ⟨z, this⟩
  obtain ⟨z37, e37, b37⟩ : ∃ z : Int, cs[37]? = some (.int .u32 z) ∧ u32 z := by
    obtain ⟨y, hy⟩ := hget 6 (by omega)
    exact word 6 37 ⟨y, by have g := hg 6 _ rfl; rw [hy] at g; exact g⟩
  obtain ⟨z38, e38, b38⟩ : ∃ z : Int, cs[38]? = some (.int .u32 z) ∧ u32 z := by
    obtain ⟨y, hy⟩ := hget 7 (by omega)
    exact word 7 38 ⟨y, by have g := hg 7 _ rfl; rw [hy] at g; exact g⟩
  obtain ⟨z39, e39, b39⟩ : ∃ z : Int, cs[39]? = some (.int .u32 z) ∧ u32 z := by
    obtain ⟨y, hy⟩ := hget 8 (by omega)
    exact word 8 39 ⟨y, by have g := hg 8 _ rfl; rw [hy] at g; exact g⟩
  obtain ⟨z40, e40, b40⟩ : ∃ z : Int, cs[40]? = some (.int .u32 z) ∧ u32 z := by
    obtain ⟨y, hy⟩ := hget 9 (by omega)
    exact word 9 40 ⟨y, by have g := hg 9 _ rfl; rw [hy] at g; exact g⟩
  obtain ⟨z41, e41, b41⟩ : ∃ z : Int, cs[41]? = some (.int .u32 z) ∧ u32 z := by
    obtain ⟨y, hy⟩ := hget 10 (by omega)
    exact word 10 41 ⟨y, by have g := hg 10 _ rfl; rw [hy] at g; exact g⟩
  obtain ⟨z42, e42, b42⟩ : ∃ z : Int, cs[42]? = some (.int .i64 z) ∧ (-9223372036854775808 ≤ z ∧ z ≤ 9223372036854775807) := by
    obtain ⟨y, hy⟩ := hget 11 (by omega)
    have g := hg 11 _ rfl
    rw [hy] at g
    obtain ⟨z, e, _, w⟩ := DataW.trod_int Tryd.underlying3 g
    have := take_one (l := cs.toList) (k := 42) e
    rw [Array.getElem?_toList] at this
    exact ⟨z, this, bd_i64 w⟩
  refine ⟨stOf cs, ?_, fun h0 h1 => ?_, ?_, ?_⟩
  · congr 1
    apply Array.ext_getElem?
    intro j
    by_cases hj : j < 43
    · rw [stA_get _ hj]
      unfold stV
      by_cases h32 : j < 32
      · rw [if_pos h32]
        obtain ⟨z, e, _⟩ := hr j h32
        show cs[j]? = some (Value.int .u32 (if j < 32 then iv cs[j]? else 0))
        rw [if_pos h32, e]; rfl
      · rw [if_neg h32]
        have hj' : j = 32 ∨ j = 33 ∨ j = 34 ∨ j = 35 ∨ j = 36 ∨ j = 37 ∨ j = 38 ∨ j = 39 ∨ j = 40 ∨ j = 41 ∨ j = 42 := by omega
        rcases hj' with rfl | rfl | rfl | rfl | rfl | rfl | rfl | rfl | rfl | rfl | rfl <;> simp [stOf, e32, e33, e34, e35, e36, e37, e38, e39, e40, e41, e42, iv, bv]
    · rw [Array.getElem?_eq_none (by omega), Array.getElem?_eq_none (by rw [show (stA (stOf cs)).size = 43 by simp [stA, stL]]; omega)]
  · have h0' : 0 ≤ z42 := by simpa [stOf, e42, iv] using h0
    have h1' : z42 ≤ 1099511627776 := by simpa [stOf, e42, iv] using h1
    refine ⟨fun i => ?_, ?_, ?_, ?_, ?_, ?_, ?_, ?_, ?_, ?_, ?_, ?_⟩
    · show u32 (if i < 32 then iv cs[i]? else 0)
      split
      · rename_i hi
        obtain ⟨z, e, b⟩ := hr i hi
        rw [e]; exact b
      · exact ⟨by omega, by omega⟩
    · show u32 (iv cs[32]?); rw [e32]; exact b32
    · show u32 (iv cs[33]?); rw [e33]; exact b33
    · show u32 (iv cs[34]?); rw [e34]; exact b34
    · show u32 (iv cs[35]?); rw [e35]; exact b35
    · show u32 (iv cs[37]?); rw [e37]; exact b37
    · show u32 (iv cs[38]?); rw [e38]; exact b38
    · show u32 (iv cs[39]?); rw [e39]; exact b39
    · show u32 (iv cs[40]?); rw [e40]; exact b40
    · show u32 (iv cs[41]?); rw [e41]; exact b41
    · show _ ≤ iv cs[42]?; rw [e42]; show _ ≤ z42; omega
    · show iv cs[42]? < _; rw [e42]; show z42 < _; omega
  · show _ ≤ iv cs[42]?; rw [e42]; exact b42.1
  · show iv cs[42]? ≤ _; rw [e42]; exact b42.2
end Go.Proofs.YtckcbnfobjmhpaaDoor
