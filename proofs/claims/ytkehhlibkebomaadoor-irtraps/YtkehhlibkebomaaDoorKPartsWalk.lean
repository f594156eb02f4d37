/-
  The closed fact of memory, and the walk of RamParts.
-/
import Derived.LaidMore
import Derived.ProofKit
import Derived.OpenShut
import Derived.Lib.LaidU8
import Derived.Test.YtkehhlibkebomaaDoorQSent
import Derived.Test.YtkehhlibkebomaaDoorKApp
import Derived.Test.YtkehhlibkebomaaDoorKMk5
import Derived.Test.YtkehhlibkebomaaDoorQNew
namespace Go.Proofs.YtkehhlibkebomaaDoor
open Go.RowKit Go.Maps
open Num
set_option linter.unusedVariables false
theorem RamIs.drewN {w : World} {sb bp bw bh N : Nat} {m : Nat → Int} {wt ht : Int → Bool} (R : RamIs w sb bp bw bh N m wt ht) (n : Nat) : RamIs (w.drewN n) sb bp bw bh N m wt ht :=
  ⟨R.c0, R.c1, R.c2, R.pw, R.ph, R.wh, R.sp, R.sh, R.ps, R.ws, R.hs, R.mb⟩
theorem mw_wf (xs : List Int) (h : ∀ x ∈ xs, 0 ≤ x ∧ x < 4294967296) : ∀ i, 0 ≤ mw xs i ∧ mw xs i < 4294967296 := by
  intro i
  unfold mw
  rw [List.getD_eq_getElem?_getD]
  cases e : xs[i]? with
  | none => exact ⟨Int.le_refl _, by decide⟩
  | some x => exact h x (List.mem_of_getElem? e)
theorem new_ex {w : World} {v : Value} {xs : List Int} (X : WordsIn w v xs) (hx : xs.length ≤ 5000) :
    Calls Tryd.prog 13 #[v] w fun e w' => ∃ sb bp bw bh : Nat, e = .returned (.pointer (some ⟨sb, 0, none⟩)) ∧ RamIs w' sb bp bw bh 64 (mw xs) (fun _ => false) (fun _ => false) ∧ Below w.heap.size w w' ∧ w.heap.size ≤ bp ∧ w.heap.size ≤ bh :=
  (new_any X hx).mono fun e w' ⟨h1, h2, h3⟩ => ⟨_, _, _, _, h1, h2, h3, by omega, by omega⟩
theorem words_ex {w : World} {sb bp bw bh N : Nat} {m : Nat → Int} {wt ht : Int → Bool} (R : RamIs w sb bp bw bh N m wt ht) :
    Calls Tryd.prog 12 #[.pointer (some ⟨sb, 0, none⟩)] w fun e w' => ∃ g : Nat, e = .returned (.slice (some ⟨g, 0, none⟩) 4096 4096) ∧ (∀ i, i < 4096 → w'.cell? ⟨g, i, none⟩ = some (.int .u32 (m i))) ∧ Below w.heap.size w w' ∧ w.heap.size ≤ g :=
  (words_any R).mono fun e w' ⟨h1, h2, h3⟩ => ⟨_, h1, h2, h3, Nat.le_refl _⟩
end Go.Proofs.YtkehhlibkebomaaDoor
/-
  What was stored is loaded; what other memory keeps.
-/
namespace Go.Proofs.YtkehhlibkebomaaDoor
open Go.RowKit Go.Maps
open Num
set_option linter.unusedVariables false
theorem Turned.cell {w w' : World} {b c : Nat} (t : Turned w w' b c) {A : Addr} {v : Value} (h : w.cell? A = some v) (n1 : A.block ≠ b) (n2 : A.block ≠ c) : w'.cell? A = some v :=
  (World.cell?_of_block (t.block _ (World.block_lt_of_cell? _ _ h) n1 n2)).trans h
theorem RamIs.turned {w w' : World} {sb bp bw bh N b c : Nat} {m : Nat → Int} {wt ht : Int → Bool} (R : RamIs w sb bp bw bh N m wt ht) (t : Turned w w' b c) (s1 : sb ≠ b) (s2 : sb ≠ c) (p1 : bp ≠ b) (p2 : bp ≠ c) (w1 : bw ≠ b) (w2 : bw ≠ c) (h1 : bh ≠ b) (h2 : bh ≠ c) : RamIs w' sb bp bw bh N m wt ht := by
  refine ⟨t.cell R.c0 s1 s2, t.cell R.c1 s1 s2, t.cell R.c2 s1 s2, R.pw, R.ph, R.wh, R.sp, R.sh, ?_, ?_, ?_, R.mb⟩
  · obtain ⟨D, ⟨es, clock, hb, r⟩, h⟩ := R.ps
    exact ⟨D, ⟨es, clock, (t.block _ (Array.getElem?_eq_some_iff.1 hb).1 p1 p2).trans hb, r⟩, h⟩
  · obtain ⟨D, ⟨es, clock, hb, r⟩, h⟩ := R.ws
    exact ⟨D, ⟨es, clock, (t.block _ (Array.getElem?_eq_some_iff.1 hb).1 w1 w2).trans hb, r⟩, h⟩
  · obtain ⟨D, ⟨es, clock, hb, r⟩, h⟩ := R.hs
    exact ⟨D, ⟨es, clock, (t.block _ (Array.getElem?_eq_some_iff.1 hb).1 h1 h2).trans hb, r⟩, h⟩
/-- a list of words in memory -/
def WordsAt (w : World) (g : Nat) (m : Nat → Int) : Prop := ∀ i, i < 4096 → w.cell? ⟨g, 0 + i, none⟩ = some (.int .u32 (m i))
theorem WordsAt.stays {w w' : World} {g : Nat} {m : Nat → Int} (X : WordsAt w g m) (h : Below w.heap.size w w') : WordsAt w' g m :=
  fun i hi => by rw [h.cell (World.block_lt_of_cell? _ _ (X i hi))]; exact X i hi
theorem WordsAt.turned {w w' : World} {g b c : Nat} {m : Nat → Int} (X : WordsAt w g m) (t : Turned w w' b c) (h1 : g ≠ b) (h2 : g ≠ c) : WordsAt w' g m :=
  fun i hi => t.cell (X i hi) h1 h2
theorem WordsAt.drewN {w : World} {g : Nat} {m : Nat → Int} (X : WordsAt w g m) (n : Nat) : WordsAt (w.drewN n) g m := X
theorem WordsAt.lt {w : World} {g : Nat} {m : Nat → Int} (X : WordsAt w g m) : g < w.heap.size := World.block_lt_of_cell? _ _ (X 0 (by omega))
end Go.Proofs.YtkehhlibkebomaaDoor
/-
  From what the program's own text lays (six errors of package api), and from a slice of words that came in, to what the walks ask.
-/
namespace Go.Proofs.YtkehhlibkebomaaDoor
open Go.ChangeShapes Go.WideShapes Go.ChangeAt Go.RowKit Go.Lib
set_option linter.unusedVariables false
theorem Tryd.own : ownKnob Tryd.prog.godebug = none := by kernel_rfl
theorem Tryd.laidOut : laidOutB Tryd.prog = true := by kernel_rfl
theorem Tryd.cStr : Tryd.prog.cellsOf 9 = 1 := by kernel_rfl
theorem Tryd.star : "*" ++ "errors.errorString" = "*errors.errorString" := by decide
theorem Tryd.rowS (u : TypeId) (h : Tryd.prog.typeName? 3 u = some "*errors.errorString") : u = 151 :=
  typeName_ptr_named (nm := "errors.errorString") (by rw [Tryd.star]; kernel_rfl) (by kernel_rfl) (by decide) u (by rw [Tryd.star]; exact h)
theorem Tryd.cellsES : Tryd.prog.cellsOf 168 = 1 := by kernel_rfl
theorem Tryd.gShape : Tryd.prog.globalNamed "changeling/api.ErrShape" = some 0 := by kernel_rfl
theorem Tryd.gAlign : Tryd.prog.globalNamed "changeling/api.ErrAlign" = some 3 := by kernel_rfl
theorem Tryd.gBound : Tryd.prog.globalNamed "changeling/api.ErrBound" = some 1 := by kernel_rfl
theorem Tryd.gFull : Tryd.prog.globalNamed "changeling/api.ErrFull" = some 2 := by kernel_rfl
theorem Tryd.gKind : Tryd.prog.globalNamed "changeling/api.ErrKind" = some 4 := by kernel_rfl
theorem Tryd.gFar : Tryd.prog.globalNamed "changeling/api.ErrFar" = some 5 := by kernel_rfl
/-- the errors that are named, by name and text -/
def five : List (String × List UInt8) := [("changeling/api.ErrBound", [99, 104, 97, 110, 103, 101, 108, 105, 110, 103, 58, 32, 98, 111, 117, 110, 100]), ("changeling/api.ErrShape", [99, 104, 97, 110, 103, 101, 108, 105, 110, 103, 58, 32, 115, 104, 97, 112, 101]), ("changeling/api.ErrKind", [99, 104, 97, 110, 103, 101, 108, 105, 110, 103, 58, 32, 107, 105, 110, 100]), ("changeling/api.ErrFull", [99, 104, 97, 110, 103, 101, 108, 105, 110, 103, 58, 32, 102, 117, 108, 108]), ("changeling/api.ErrAlign", [99, 104, 97, 110, 103, 101, 108, 105, 110, 103, 58, 32, 97, 108, 105, 103, 110]), ("changeling/api.ErrFar", [99, 104, 97, 110, 103, 101, 108, 105, 110, 103, 58, 32, 102, 97, 114])]
theorem five_named : ∀ x ∈ five, ∃ g, Tryd.prog.globalNamed x.1 = some g ∧ (Tryd.prog.globals[g]?).map (·.type) = some 42 := by
  have h : (five.all fun x => match Tryd.prog.globalNamed x.1 with | some g => decide ((Tryd.prog.globals[g]?).map (·.type) = some 42) | none => false) = true := by kernel_rfl
  intro x hx
  have := List.all_eq_true.1 h x hx
  cases hg : Tryd.prog.globalNamed x.1 with
  | none => rw [hg] at this; cases this
  | some g => rw [hg] at this; exact ⟨g, rfl, of_decide_eq_true this⟩
theorem all_of_laid {W : World} (h : laidMet Tryd.prog (five.map fun x => (x.1, sentinel "*errors.errorString" x.2)) W) : ∃ pe : Nat → Addr, Eg pe W := by
  obtain ⟨ps, hl, hnd, hrows⟩ := h
  obtain ⟨ads, hlen, hvar, hmem, hn⟩ := laid_all Tryd.underlying42 Tryd.rowS Tryd.underlying151 Tryd.underlying168 rfl rfl Tryd.underlying9 Tryd.cellsES Tryd.cStr five five_named ps hl hrows
  have h6 : ads.length = 6 := hlen
  refine ⟨fun n => if n = 2 then ads[0] else if n = 3 then ads[1] else if n = 4 then ads[2] else if n = 8 then ads[3] else if n = 9 then ads[4] else ads[5], ⟨?_, ?_, ?_, ?_, ?_, ?_⟩⟩
  · simpa using World.var?_cell Tryd.gBound (hvar 0 (by decide) (by omega)) 0
  · simpa using World.var?_cell Tryd.gShape (hvar 1 (by decide) (by omega)) 0
  · simpa using World.var?_cell Tryd.gKind (hvar 2 (by decide) (by omega)) 0
  · simpa using World.var?_cell Tryd.gFull (hvar 3 (by decide) (by omega)) 0
  · simpa using World.var?_cell Tryd.gAlign (hvar 4 (by decide) (by omega)) 0
  · simpa using World.var?_cell Tryd.gFar (hvar 5 (by decide) (by omega)) 0
theorem bd_i64 {n : Int} (h : (Lit.int .i64 n).wf = true) : -9223372036854775808 ≤ n ∧ n ≤ 9223372036854775807 := by
  simp [Lit.wf, IntKind.min, IntKind.max, IntKind.signed, IntKind.bits] at h; omega
theorem bd_u32 {n : Int} (h : (Lit.int .u32 n).wf = true) : 0 ≤ n ∧ n < 4294967296 := by
  simp [Lit.wf, IntKind.min, IntKind.max, IntKind.signed, IntKind.bits] at h; omega
end Go.Proofs.YtkehhlibkebomaaDoor
