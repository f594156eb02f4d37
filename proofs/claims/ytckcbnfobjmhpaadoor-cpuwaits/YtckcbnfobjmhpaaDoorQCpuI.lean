/-
  Whether an interrupt comes ahead of one of the next instructions.
-/
import Derived.Test.YtckcbnfobjmhpaaDoorQSt
namespace Go.Proofs.YtckcbnfobjmhpaaDoor
open Go.RowKit Go.Maps
open Num
set_option linter.unusedVariables false
/-- does an interrupt come ahead of one of the next so many? -/
def intM (S : St) (many : Int) : Bool := decide (S.cm ≠ 0) && decide (S.cm ≤ S.ct + many - 1) && decide (bits .and .u32 S.st 3 = 1)
set_option maxRecDepth 100000 in
set_option maxHeartbeats 4000000 in
theorem interrupts_any {w : World} {sb : Nat} {S : St} (A : StAt w sb S) (ok : S.ok) (many : Int) (y0 : 1 ≤ many) (y1 : many ≤ 100) (y2 : S.ct + many ≤ 9223372036854775807) : Calls Tryd.prog 57 #[.pointer (some ⟨sb, 0, none⟩), .int .i64 many] w fun e w' => e = .returned (.bool (intM S many)) ∧ w' = w := by
  obtain ⟨_, _, _, _, _, q37, _, _, _, q41, q42⟩ := A.told
  obtain ⟨cm0, cm1⟩ := ok.cm
  have c0 := ok.c0
  have c1 := ok.c1
  clear A ok
  unfold intM
  by_cases h1 : S.cm = 0
  · have b1 : (S.cm != 0) = false := by simp [h1]
    have e : (decide (S.cm ≠ 0) && decide (S.cm ≤ S.ct + many - 1) && decide (bits .and .u32 S.st 3 = 1)) = false := by simp [h1]
    rw [e]
    clear e
    go_enter Tryd.func57, Tryd.ntmps57
    go_wp2
    go_ret
    exact ⟨rfl, rfl⟩
  · have b1 : (S.cm != 0) = true := by simpa using h1
    by_cases h2 : S.cm ≤ S.ct + many - 1
    · have b2 : decide (S.cm ≤ S.ct + many - 1) = true := by simpa using h2
      have e : (decide (S.cm ≠ 0) && decide (S.cm ≤ S.ct + many - 1) && decide (bits .and .u32 S.st 3 = 1)) = (bits .and .u32 S.st 3 == 1) := by rw [show decide (S.cm ≠ 0) = true by simpa using h1, b2]; rfl
      rw [e]
      clear e h1
      go_enter Tryd.func57, Tryd.ntmps57
      go_wp2
      go_ret
      exact ⟨rfl, rfl⟩
    · have b2 : decide (S.cm ≤ S.ct + many - 1) = false := by simpa using h2
      have e : (decide (S.cm ≠ 0) && decide (S.cm ≤ S.ct + many - 1) && decide (bits .and .u32 S.st 3 = 1)) = false := by rw [b2]; simp
      rw [e]
      clear e h1
      go_enter Tryd.func57, Tryd.ntmps57
      go_wp2
      go_ret
      exact ⟨rfl, rfl⟩
end Go.Proofs.YtckcbnfobjmhpaaDoor
