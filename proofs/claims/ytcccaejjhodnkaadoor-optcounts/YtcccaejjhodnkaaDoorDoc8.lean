/-
  OptCounts's walk: SameInts.
-/
import Derived.Test.YtcccaejjhodnkaaDoorAgain
import Derived.Test.YtcccaejjhodnkaaDoorOptReads
import Derived.Test.YtcccaejjhodnkaaDoorOptNeeds
namespace Go.Proofs.YtcccaejjhodnkaaDoor
open Go.RowKit Go.Maps
open Num
set_option linter.unusedVariables false
set_option maxRecDepth 100000 in
set_option maxHeartbeats 2000000 in
/-- two slices of the same whole numbers -/
theorem sameInts_any {w : World} {ao bo : Option Addr} {ca cb : Nat} {L : List Int} (hA : IntsC w ao L) (hB : IntsC w bo L) (hl : (L.length : Int) ≤ 1000000) :
    Calls Tryd.prog 24 #[.slice ao L.length ca, .slice bo L.length cb] w fun e w' => e = .returned (.bool true) ∧ Below w.heap.size w w' := by
  have HA : Hid (IntsC w ao L) := hA
  have HB : Hid (IntsC w bo L) := hB
  clear hA hB
  go_enter Tryd.func24, Tryd.ntmps24
  go_wp2
  go_loopw [5] (fun i wr => ∃ (j n : Nat), j ≤ L.length ∧ i = .int .i64 j ∧ wr = w.drewN n) (fun i _ => L.length - (intOf i).toNat)
  case atStart => exact ⟨0, 0, Nat.zero_le _, rfl, rfl⟩
  case round =>
    obtain ⟨j, n, hj, rfl, rfl⟩ := hrel
    by_cases hlt : j < L.length
    · obtain ⟨y, hy⟩ : ∃ y, L[j]? = some y := ⟨_, List.getElem?_eq_getElem hlt⟩
      obtain ⟨g, rfl, hg⟩ := HA.out (by omega)
      obtain ⟨h, rfl, hh⟩ := HB.out (by omega)
      have yg := hg j y hy
      have yh := hh j y hy
      have zg := World.block_lt_of_cell? _ _ yg
      have zh := World.block_lt_of_cell? _ _ yh
      have hlt' : (j : Int) < L.length := by omega
      clear hg hh hy HA HB
      go_wp2
      go_quiet (fail)
      go_wp2
      go_roundw
      case rel => exact ⟨j + 1, n + nq, by omega, by go_num, by first | rfl | (rw [World.drewN_drewN]; done) | (simp; done)⟩
      case measure => simp [intOf]; omega
    · obtain rfl : j = L.length := by omega
      go_wp2
      go_ret
      exact ⟨rfl, below_drewN (Below.refl _ _) n⟩
end Go.Proofs.YtcccaejjhodnkaaDoor
