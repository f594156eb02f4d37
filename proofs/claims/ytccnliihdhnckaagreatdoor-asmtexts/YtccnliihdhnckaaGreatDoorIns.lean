/-
  An instruction that comes in, read: five numbers; and read again behind the call.
-/
import Derived.Test.YtccnliihdhnckaaGreatDoorLay
import Derived.Lib.SmallJoins
namespace Go.Proofs.YtccnliihdhnckaaGreatDoor
open Go.ChangeShapes Go.WideShapes Go.ChangeAt Go.RowKit Go.Joins
set_option linter.unusedVariables false
theorem Tryz.c24 : Tryz.prog.cellsOf 24 = 5 := by kernel_rfl
theorem Tryz.c3 : Tryz.prog.cellsOf 3 = 1 := by kernel_rfl
/-- an instruction's datum -/
abbrev insD {H : Type} (o s t d m : Int) : DataW H := .agg [.lit (.int .i64 o), .lit (.int .i64 s), .lit (.int .i64 t), .lit (.int .i64 d), .lit (.int .u32 m)]
section
variable {H : Type} {enc : TypeId × Value → H} {W : World} {base : Nat} {sp : Nat → Bool} {held : Bool}
set_option maxRecDepth 100000 in
theorem open_ins {r : Reach} {b0 : Nat} {v : Value} {d : DataW H} {p : List MemPlace} (hv : Value.okWide Tryz.prog W r b0 24 v) (h : DataW.Trod enc Tryz.prog W base sp held 24 v d p) :
    ∃ a0 a1 a2 a3 a4 : Int, v = ins a0 a1 a2 a3 a4 ∧ d = insD a0 a1 a2 a3 a4 ∧ p = [] ∧ (Lit.int .i64 a0).wf = true ∧ (Lit.int .i64 a1).wf = true ∧ (Lit.int .i64 a2).wf = true ∧ (Lit.int .i64 a3).wf = true ∧ (Lit.int .u32 a4).wf = true := by
  obtain ⟨cs, rfl, hsz⟩ := okWide_struct Tryz.underlying24 hv
  have h5 : cs.size = 5 := hsz.trans Tryz.c24
  obtain ⟨c0, c1, c2, c3, c4, rfl⟩ : ∃ c0 c1 c2 c3 c4, cs = #[c0, c1, c2, c3, c4] := by
    obtain ⟨l⟩ := cs
    match l, h5 with
    | [c0, c1, c2, c3, c4], _ => exact ⟨_, _, _, _, _, rfl⟩
  obtain ⟨fuel, hf⟩ := h
  obtain ⟨xs, n, _, hx, hl, hlen, hg⟩ := DataW.trod_struct Tryz.underlying24 hf
  match xs, hlen with
  | [y0, y1, y2, y3, y4], _ =>
    have g0 := hg 0 _ rfl
    have g1 := hg 1 _ rfl
    have g2 := hg 2 _ rfl
    have g3 := hg 3 _ rfl
    have g4 := hg 4 _ rfl
    simp [Value.cells, Tryz.c3, Tryz.c22] at g0 g1 g2 g3 g4
    obtain ⟨a0, e0, rfl, w0⟩ := DataW.trod_int Tryz.underlying3 g0
    obtain ⟨a1, e1, rfl, w1⟩ := DataW.trod_int Tryz.underlying3 g1
    obtain ⟨a2, e2, rfl, w2⟩ := DataW.trod_int Tryz.underlying3 g2
    obtain ⟨a3, e3, rfl, w3⟩ := DataW.trod_int Tryz.underlying3 g3
    obtain ⟨a4, e4, rfl, w4⟩ := DataW.trod_int Tryz.underlying22 g4
    simp at e0 e1 e2 e3 e4
    subst e0 e1 e2 e3 e4
    simp at hx
    exact ⟨a0, a1, a2, a3, a4, rfl, hx.1, hx.2, w0, w1, w2, w3, w4⟩
theorem shut_ins {a0 a1 a2 a3 a4 : Int} (w0 : (Lit.int .i64 a0).wf = true) (w1 : (Lit.int .i64 a1).wf = true) (w2 : (Lit.int .i64 a2).wf = true) (w3 : (Lit.int .i64 a3).wf = true) (w4 : (Lit.int .u32 a4).wf = true) :
    DataW.Trod enc Tryz.prog W base sp held 24 (ins a0 a1 a2 a3 a4) (insD a0 a1 a2 a3 a4) [] :=
  ⟨2, by
    have h := trod_struct_mk (enc := enc) (w := W) (base := base) (spare := sp) (held := held) (n := 1) (cs := (ins a0 a1 a2 a3 a4).cells.toList) (xs := [(.lit (.int .i64 a0), []), (.lit (.int .i64 a1), []), (.lit (.int .i64 a2), []), (.lit (.int .i64 a3), []), (.lit (.int .u32 a4), [])]) Tryz.underlying24 (by rw [Tryz.c24]; rfl)
      (by simp [Value.cells, Tryz.c3, Tryz.c22, DataW.trod, Tryz.underlying3, Tryz.underlying22, w0, w1, w2, w3, w4])
    simpa using h⟩
end
end Go.Proofs.YtccnliihdhnckaaGreatDoor
