/-
  What the walks of AsmBack and AsmLabels have in common.
-/
import Derived.Deep.CutRange
import Derived.Test.YtccnliihdhnckaaGreatDoorKText
import Derived.Test.YtccnliihdhnckaaGreatDoorKDec
import Derived.Test.YtccnliihdhnckaaGreatDoorQAsm
namespace Go.Proofs.YtccnliihdhnckaaGreatDoor
open Go.RowKit Go.Shelf Go.Joins Go.Maps
open Num Tab Fm Txt
set_option linter.unusedVariables false
theorem text_lw : ptext 48 ⟨4, 2, 0, 65532⟩ = [108, 119, 32, 36, 50, 44, 32, 45, 52, 40, 36, 52, 41] := by
  have e4 : Lib.itoa (-4) = [45, 52] := by rw [show (-4 : Int) = -((4 : Nat) : Int) by decide, itoa_min 4 (by omega), Lib.decDigits_one (by omega)]; rfl
  have e2 : Lib.itoa 2 = [50] := by rw [show (2 : Int) = ((2 : Nat) : Int) by decide, itoa_pos 2, Lib.decDigits_one (by omega)]; rfl
  have e5 : Lib.itoa 4 = [52] := by rw [show (4 : Int) = ((4 : Nat) : Int) by decide, itoa_pos 4, Lib.decDigits_one (by omega)]; rfl
  have hf : form 48 = [32, 36, 84, 44, 32, 105, 40, 36, 83, 41] := by decide
  have hn : nme 48 = [108, 119] := by decide
  have hs : s16 65532 = -4 := by decide
  unfold ptext
  rw [hf, hn]
  simp [rend, numB, regB, vl, hs, e4, e2, e5]
set_option maxHeartbeats 1000000 in
theorem texted_any (pk pb : Addr) (w : World) (T : Tb pk pb w) (b : Lb w) : Calls Tryz.prog 7 #[] w fun e w' => e = .returned (.bool true) ∧ Below w.heap.size w w' := by
  have hc := text_ok pk pb 48 (by omega) (by omega) 4 2 0 65532 (by omega) (by omega) (by omega) (by omega) (by omega) (by omega) (by omega) (by omega) (by decide) w T b
  rw [text_lw] at hc
  clear T b
  go_enter Tryz.func7, Tryz.ntmps7
  go_wp2_with (go_at_call 8; refine hc.mono ?_; rintro e w1 ⟨rfl, hb1⟩)
  go_ret
  exact ⟨rfl, hb1⟩
/-- words that lie in a slice -/
structure WIn (w : World) (ao : Option Addr) (vs : List Int) : Prop where
  sh : 0 < vs.length → ∃ b off, ao = some ⟨b, off, none⟩ ∧ ∀ i x, vs[i]? = some x → w.cell? ⟨b, off + i, none⟩ = some (.int .u32 x)
theorem WIn.stays {w w' : World} {ao : Option Addr} {vs : List Int} (X : WIn w ao vs) (h : Below w.heap.size w w') : WIn w' ao vs :=
  ⟨fun hp => by
    obtain ⟨b, off, e, hc⟩ := X.sh hp
    exact ⟨b, off, e, fun i x hx => cell_stays h (Nat.le_refl _) (hc i x hx)⟩⟩
set_option maxRecDepth 10000 in
set_option maxHeartbeats 2000000 in
theorem alike_any (w : World) {ao bo : Option Addr} {vs : List Int} (A : WIn w ao vs) (B : WIn w bo vs) (ca cb : Nat) (hn : (vs.length : Int) ≤ 1000000) :
    Calls Tryz.prog 19 #[.slice ao vs.length ca, .slice bo vs.length cb] w fun e w' => e = .returned (.int .i64 1) ∧ Below w.heap.size w w' := by
  have HA : Hid (WIn w ao vs) := A
  have HB : Hid (WIn w bo vs) := B
  clear A B
  go_enter Tryz.func19, Tryz.ntmps19
  go_wp2
  go_loopw [5] (fun i wr => ∃ j q : Nat, j ≤ vs.length ∧ i = .int .i64 j ∧ wr = w.drewN q) (fun i _ => vs.length - (intOf i).toNat)
  case atStart => exact ⟨0, 0, Nat.zero_le _, rfl, rfl⟩
  case round =>
    obtain ⟨j, q, hj, rfl, rfl⟩ := hrel
    by_cases hlt : j < vs.length
    · obtain ⟨x, hx⟩ : ∃ x, vs[j]? = some x := ⟨_, List.getElem?_eq_getElem hlt⟩
      obtain ⟨ba, oa, rfl, ha⟩ := HA.out.sh (by omega)
      obtain ⟨bb, ob, rfl, hb⟩ := HB.out.sh (by omega)
      have a1 := ha j x hx
      have b1 := hb j x hx
      have hlt' : (j : Int) < vs.length := by omega
      clear ha hb
      go_wp2_with fail
      go_quiet (fail)
      go_wp2
      go_roundw
      case rel => exact ⟨j + 1, q + nq, by omega, by go_num, by simp⟩
      case measure => simp [intOf]; omega
    · go_wp2
      go_ret
      exact ⟨rfl, below_drewN (Below.refl _ _) _⟩
theorem info9 : (Tryz.prog.info? 9).map (fun i => (i.zero, i.size, i.bytes)) = some (some (.string ⟨#[]⟩), 1, 16) := by kernel_rfl
theorem str_cell (w : World) (l : List UInt8) : ∀ (k : Nat) (u : Value), [strV l][k]? = some u → (w.alloc (.cells #[.string ⟨l.toArray⟩] 9)).cell? ((⟨w.heap.size, 0, none⟩ : Addr).add k) = some u := by
  intro k u hk
  rw [add_lit, cell_of_row _ _ _ _ _ _ (heap_alloc_new w _)]
  unfold strV at hk
  simpa using hk
theorem str_one (l : List UInt8) : ∀ u ∈ [strV l], u.oneCell' = true := by
  intro u hu; simp at hu; subst hu; rfl
end Go.Proofs.YtccnliihdhnckaaGreatDoor
