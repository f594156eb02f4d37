/-
  SameInts of the same numbers.
-/
import Derived.Test.YtcccaejjhodnkaaDoorKpInts
import Derived.BigQuiet
namespace Go.Proofs.YtcccaejjhodnkaaDoor
open Go.RowKit
open Num
set_option linter.unusedVariables false
theorem kbelow_drewN {B : Nat} {w w' : World} (h : Below B w w') (n : Nat) : Below B w (w'.drewN n) := ⟨h.os, h.tape, h.output, h.size, h.block⟩
set_option maxRecDepth 100000 in
set_option maxHeartbeats 2000000 in
theorem sameK_any {w : World} {va vb : Value} {L : List Int} (hA : IntsAt w va L) (hB : IntsAt w vb L) (hl : (L.length : Int) ≤ 1000000) :
    Calls Tryd.prog 24 #[va, vb] w fun e w' => e = .returned (.bool true) ∧ Below w.heap.size w w' := by
  have fm : ∀ {v : Value}, IntsAt w v L → ∃ ao ca, v = .slice ao L.length ca ∧ (0 < L.length → ∃ g o, ao = some ⟨g, o, none⟩ ∧ ∀ (i : Nat) (x : Int), L[i]? = some x → w.cell? ⟨g, o + i, none⟩ = some (.int .i64 x)) := fun {v} h => by
    rcases h with ⟨rfl, rfl⟩ | ⟨b, off, cap, rfl, _, _, hj⟩
    · exact ⟨none, 0, rfl, fun h => absurd h (by simp)⟩
    · refine ⟨_, cap, rfl, fun _ => ⟨b, off, rfl, fun i x hx => ?_⟩⟩
      have hi := (List.getElem?_eq_some_iff.1 hx).1
      rw [hj i hi]; simp [List.getD, hx]
  obtain ⟨ao, ca, rfl, ha⟩ := fm hA
  obtain ⟨bo, cb, rfl, hb⟩ := fm hB
  have HA : Hid (0 < L.length → ∃ g o, ao = some ⟨g, o, none⟩ ∧ ∀ (i : Nat) (x : Int), L[i]? = some x → w.cell? ⟨g, o + i, none⟩ = some (.int .i64 x)) := ha
  have HB : Hid (0 < L.length → ∃ g o, bo = some ⟨g, o, none⟩ ∧ ∀ (i : Nat) (x : Int), L[i]? = some x → w.cell? ⟨g, o + i, none⟩ = some (.int .i64 x)) := hb
  clear hA hB ha hb fm
  go_enter Tryd.func24, Tryd.ntmps24
  go_wp2
  go_loopw [5] (fun i wr => ∃ (j n : Nat), j ≤ L.length ∧ i = .int .i64 j ∧ wr = w.drewN n) (fun i _ => L.length - (intOf i).toNat)
  case atStart => exact ⟨0, 0, Nat.zero_le _, rfl, rfl⟩
  case round =>
    obtain ⟨j, n, hj, rfl, rfl⟩ := hrel
    by_cases hlt : j < L.length
    · obtain ⟨y, hy⟩ : ∃ y, L[j]? = some y := ⟨_, List.getElem?_eq_getElem hlt⟩
      obtain ⟨g, go, rfl, hg⟩ := HA.out (by omega)
      obtain ⟨h, ho, rfl, hh⟩ := HB.out (by omega)
      have yg := hg j y hy
      have yh := hh j y hy
      have zg := World.block_lt_of_cell? _ _ yg
      have zh := World.block_lt_of_cell? _ _ yh
      have hlt' : (j : Int) < L.length := by omega
      clear hg hh hy HA HB
      go_wp2
      go_quiet (fail)
      go_wp2
      go_roundw
      case rel => exact ⟨j + 1, n + nq, by omega, by go_num, by first | rfl | (rw [World.drewN_drewN]; done) | (simp; done)⟩
      case measure => simp [intOf]; omega
    · obtain rfl : j = L.length := by omega
      go_wp2
      go_ret
      exact ⟨rfl, kbelow_drewN (Below.refl _ _) n⟩
end Go.Proofs.YtcccaejjhodnkaaDoor
