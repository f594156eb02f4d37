/-
  The closed fact of memory.
-/
import Derived.Test.YtmfhimphlackiaaDoorPartsWalk
namespace Go.Proofs.YtmfhimphlackiaaDoor
open Go.RowKit Go.Maps
open Num
set_option linter.unusedVariables false
theorem ld_stored : ld (mw [16909060]) 1 1 false = 2 := by decide
theorem upd_stored : upd (mw [16909060]) 2 2 43707 0 = 16951995 := by decide
set_option maxRecDepth 100000 in
set_option maxHeartbeats 400000 in
theorem stored_any (w : World) : Calls Tryd.prog 8 #[] w fun e w' => e = .returned (.bool true) ∧ Below w.heap.size w w' := by
  have X : WordsIn (w.alloc (.cells #[.int .u32 16909060] 23)) (.slice (some ⟨w.heap.size, 0, none⟩) 1 1) [16909060] :=
    ⟨⟨some ⟨w.heap.size, 0, none⟩, 1, rfl, by decide, fun _ => ⟨w.heap.size, 0, rfl, fun i hi => by
      have : i = 0 := by simpa using hi
      subst this; simp⟩⟩, mw_wf _ (by decide)⟩
  have hB0 : Below w.heap.size w (w.alloc (.cells #[.int .u32 16909060] 23)) := (Below.refl _ _).alloc (Nat.le_refl _) _
  go_enter Tryd.func8, Tryd.ntmps8
  go_wp2_with fail
  refine (new_ex X (by decide)).mono ?_
  rintro e w1 ⟨sb, bp, bw, bh, rfl, R1, hb1, hp1, hh1⟩
  have B1 : Hid (Below w.heap.size w w1) := hB0.trans (hb1.mono (by simp))
  have hp : w.heap.size ≤ bp := by simp at hp1; omega
  have hh : w.heap.size ≤ bh := by simp at hh1; omega
  have hl := load_ok R1 1 1 false (by decide) (by decide) (by decide)
  rw [ld_stored] at hl
  have R1h : Hid (RamIs w1 _ _ _ _ _ _ _ _) := R1
  clear X hB0 hb1 R1 hp1 hh1
  go_wp2_with fail
  refine hl.mono ?_
  rintro e w2 ⟨rfl, k, rfl⟩
  have hs := store_ok (R1h.out.drewN k) 2 2 43707 (by decide) (by decide) (by decide) (by decide) (by unfold maxLen; decide) (by decide)
  clear hl
  go_wp2_with fail
  refine hs.mono ?_
  rintro e w3 ⟨rfl, R3, T3⟩
  have B3 : Hid (Below w.heap.size w w3) := T3.below (below_drewN B1.out k) (Nat.le_refl _) hp hh
  have hw := words_ex R3
  clear hs T3 R3
  go_wp2_with fail
  refine hw.mono ?_
  rintro e w4 ⟨g, rfl, hc4, hb4, hg4⟩
  have c0 := hc4 0 (by decide)
  rw [upd_stored] at c0
  have B4 : Hid (Below w.heap.size w w4) := B3.out.trans (hb4.mono B3.out.size)
  clear hw hc4 hb4
  go_wp2
  go_ret
  exact ⟨rfl, B4.out⟩
end Go.Proofs.YtmfhimphlackiaaDoor
