/-
  The walk of BusApart.
-/
import Derived.Test.YtlibfnmdhbfngaaDoorKeepsPure
import Derived.Test.YtlibfnmdhbfngaaDoorBusTold
namespace Go.Proofs.YtlibfnmdhbfngaaDoor
open Go.RowKit Go.Maps
open Num
set_option linter.unusedVariables false
theorem new_ex2 {w : World} {v : Value} {xs : List Int} (X : WordsIn w v xs) (hx : xs.length ≤ 5000) :
    Calls Tryd.prog 18 #[v] w fun e w' => ∃ sb bp bw bh : Nat, e = .returned (.pointer (some ⟨sb, 0, none⟩)) ∧ RamIs w' sb bp bw bh 64 (mw xs) (fun _ => false) (fun _ => false) ∧ Below w.heap.size w w' ∧ w.heap.size ≤ sb ∧ w.heap.size ≤ bp ∧ w.heap.size ≤ bw ∧ w.heap.size ≤ bh :=
  (new_any X hx).mono fun e w' ⟨h1, h2, h3⟩ => ⟨_, _, _, _, h1, h2, h3, by omega, by omega, by omega, by omega⟩
theorem no_block (k B : Nat) (h : (Value.slice none 0 0).ownBlock = some k) : B ≤ k := by simp [Value.ownBlock] at h
theorem out65 : outS [65] = ⟨#[65]⟩ := by rfl
theorem words_nil (w : World) : WordsIn w (.slice none 0 0) [] := ⟨⟨none, 0, rfl, Nat.le_refl _, fun h => absurd h (by simp)⟩, mw_wf [] (by simp)⟩
end Go.Proofs.YtlibfnmdhbfngaaDoor
