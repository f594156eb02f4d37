/-
  From what the program's own text lays (four errors of package api) to what the walks ask.
-/
import Derived.Test.YtcccaejjhodnkaaDoorSent
import Derived.Test.YtcccaejjhodnkaaDoorIrChk
import Derived.LaidMore
import Derived.ProofKit
import Derived.OpenShut
import Derived.Lib.LaidU8
namespace Go.Proofs.YtcccaejjhodnkaaDoor
open Go.ChangeShapes Go.WideShapes Go.ChangeAt Go.RowKit Go.Lib
set_option linter.unusedVariables false
theorem laidVars_split {P : Program} {W : World} : ∀ (l1 : List (String × DataW Unit)) {l2 : List (String × DataW Unit)} {ps : List MemPlace}, DataW.LaidVars P W (l1 ++ l2) ps → ∃ p1 p2, ps = p1 ++ p2 ∧ DataW.LaidVars P W l1 p1 ∧ DataW.LaidVars P W l2 p2
  | [], l2, ps, h => ⟨[], ps, rfl, rfl, h⟩
  | x :: l1, l2, ps, h => by
    obtain ⟨g, t, cs, f, p, q, hg, ht, hv, hd, hq, e⟩ := h
    obtain ⟨p1, p2, rfl, h1, h2⟩ := laidVars_split l1 hq
    exact ⟨_, p2, by rw [e, ← List.append_assoc], ⟨g, t, cs, f, p, p1, hg, ht, hv, hd, h1, rfl⟩, h2⟩
theorem laidMet_left {P : Program} {W : World} (l1 l2 : List (String × DataW Unit)) (h : laidMet P (l1 ++ l2) W) : laidMet P l1 W := by
  obtain ⟨ps, hl, hn, hr⟩ := h
  obtain ⟨p1, p2, rfl, h1, h2⟩ := laidVars_split l1 hl
  exact ⟨p1, h1, (List.nodup_append.1 hn).1, fun b off hm => hr b off (List.mem_append_left _ hm)⟩
theorem Tryd.own : ownKnob Tryd.prog.godebug = none := by kernel_rfl
theorem Tryd.laidOut : laidOutB Tryd.prog = true := by kernel_rfl
theorem Tryd.cStr : Tryd.prog.cellsOf 9 = 1 := by kernel_rfl
theorem Tryd.star : "*" ++ "errors.errorString" = "*errors.errorString" := by decide
theorem Tryd.rowS (u : TypeId) (h : Tryd.prog.typeName? 3 u = some "*errors.errorString") : u = 222 :=
  typeName_ptr_named (nm := "errors.errorString") (by rw [Tryd.star]; kernel_rfl) (by kernel_rfl) (by decide) u (by rw [Tryd.star]; exact h)
theorem Tryd.cellsES : Tryd.prog.cellsOf 239 = 1 := by kernel_rfl
theorem Tryd.gShape : Tryd.prog.globalNamed "changeling/api.ErrShape" = some 0 := by kernel_rfl
theorem Tryd.gBound : Tryd.prog.globalNamed "changeling/api.ErrBound" = some 1 := by kernel_rfl
theorem Tryd.gFull : Tryd.prog.globalNamed "changeling/api.ErrFull" = some 2 := by kernel_rfl
theorem Tryd.gKind : Tryd.prog.globalNamed "changeling/api.ErrKind" = some 4 := by kernel_rfl
/-- the errors that are named, by name and text -/
def five : List (String × List UInt8) := [("changeling/api.ErrBound", [99, 104, 97, 110, 103, 101, 108, 105, 110, 103, 58, 32, 98, 111, 117, 110, 100]), ("changeling/api.ErrShape", [99, 104, 97, 110, 103, 101, 108, 105, 110, 103, 58, 32, 115, 104, 97, 112, 101]), ("changeling/api.ErrKind", [99, 104, 97, 110, 103, 101, 108, 105, 110, 103, 58, 32, 107, 105, 110, 100]), ("changeling/api.ErrFull", [99, 104, 97, 110, 103, 101, 108, 105, 110, 103, 58, 32, 102, 117, 108, 108])]
theorem five_named : ∀ x ∈ five, ∃ g, Tryd.prog.globalNamed x.1 = some g ∧ (Tryd.prog.globals[g]?).map (·.type) = some 42 := by
  have h : (five.all fun x => match Tryd.prog.globalNamed x.1 with | some g => decide ((Tryd.prog.globals[g]?).map (·.type) = some 42) | none => false) = true := by kernel_rfl
  intro x hx
  have := List.all_eq_true.1 h x hx
  cases hg : Tryd.prog.globalNamed x.1 with
  | none => rw [hg] at this; cases this
  | some g => rw [hg] at this; exact ⟨g, rfl, of_decide_eq_true this⟩
theorem all_of_laid {W : World} (h : laidMet Tryd.prog (five.map fun x => (x.1, sentinel "*errors.errorString" x.2)) W) : ∃ pe : Nat → Addr, Eg pe W := by
  obtain ⟨ps, hl, hnd, hrows⟩ := h
  obtain ⟨ads, hlen, hvar, hmem, hn⟩ := laid_all Tryd.underlying42 Tryd.rowS Tryd.underlying222 Tryd.underlying239 rfl rfl Tryd.underlying9 Tryd.cellsES Tryd.cStr five five_named ps hl hrows
  have h4 : ads.length = 4 := hlen
  refine ⟨fun n => if n = 2 then ads[0] else if n = 3 then ads[1] else if n = 4 then ads[2] else ads[3], ⟨?_, ?_, ?_, ?_⟩⟩
  · simpa using World.var?_cell Tryd.gBound (hvar 0 (by decide) (by omega)) 0
  · simpa using World.var?_cell Tryd.gShape (hvar 1 (by decide) (by omega)) 0
  · simpa using World.var?_cell Tryd.gKind (hvar 2 (by decide) (by omega)) 0
  · simpa using World.var?_cell Tryd.gFull (hvar 3 (by decide) (by omega)) 0
theorem bd_i64 {n : Int} (h : (Lit.int .i64 n).wf = true) : -9223372036854775808 ≤ n ∧ n ≤ 9223372036854775807 := by
  simp [Lit.wf, IntKind.min, IntKind.max, IntKind.signed, IntKind.bits] at h; omega
theorem bd_u32 {n : Int} (h : (Lit.int .u32 n).wf = true) : 0 ≤ n ∧ n < 4294967296 := by
  simp [Lit.wf, IntKind.min, IntKind.max, IntKind.signed, IntKind.bits] at h; omega
end Go.Proofs.YtcccaejjhodnkaaDoor
