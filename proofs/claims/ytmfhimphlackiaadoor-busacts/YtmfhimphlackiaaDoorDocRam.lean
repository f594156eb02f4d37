/-
  The document's memory: words in a slice; bytes are read and put.
-/
import Derived.Test.YtmfhimphlackiaaDoorDocFns
import Derived.Test.YtmfhimphlackiaaDoorWatch
namespace Go.Proofs.YtmfhimphlackiaaDoor
open Go.RowKit Go.Maps
open Num
set_option linter.unusedVariables false
def wl (m : Nat → Int) (k : Nat) : List Value := (List.range k).map fun i => .int .u32 (m i)
theorem wl_len (m : Nat → Int) (k : Nat) : (wl m k).length = k := by simp [wl]
theorem wl_get (m : Nat → Int) (k i : Nat) (h : i < k) : (wl m k)[i]? = some (.int .u32 (m i)) := by simp [wl, List.getElem?_map, List.getElem?_range h]
/-- block rb is the document's memory: its words in row gb; the pages that are watched in row kb -/
structure DRam (w : World) (rb gb kb : Nat) (m : Nat → Int) (wt : Int → Bool) : Prop where
  c0 : w.cell? ⟨rb, 0, none⟩ = some (.slice (some ⟨gb, 0, none⟩) 4096 4096)
  c1 : w.cell? ⟨rb, 1, none⟩ = some (.slice (some ⟨kb, 0, none⟩) 64 64)
  row : w.heap[gb]? = some (.cells (wl m 4096).toArray 23)
  wc : ∀ p : Nat, p < 64 → w.cell? ⟨kb, p, none⟩ = some (.bool (wt p))
  nr : rb ≠ gb
  nk : kb ≠ gb
  mb : ∀ i, 0 ≤ m i ∧ m i < 4294967296
theorem DRam.cell {w : World} {rb gb kb : Nat} {m : Nat → Int} {wt : Int → Bool} (D : DRam w rb gb kb m wt) (i : Nat) (h : i < 4096) : w.cell? ⟨gb, i, none⟩ = some (.int .u32 (m i)) := by
  rw [cell_of_row _ _ _ _ _ _ D.row, List.getElem?_toArray]; exact wl_get m 4096 i h
theorem DRam.blocks {w w' : World} {rb gb kb : Nat} {m : Nat → Int} {wt : Int → Bool} (D : DRam w rb gb kb m wt) (h : ∀ k, k = rb ∨ k = gb ∨ k = kb → w'.heap[k]? = w.heap[k]?) : DRam w' rb gb kb m wt := by
  have c : ∀ (k j : Nat) (v : Value), k = rb ∨ k = gb ∨ k = kb → w.cell? ⟨k, j, none⟩ = some v → w'.cell? ⟨k, j, none⟩ = some v := fun k j v hk e => (World.cell?_of_block (a := ⟨k, j, none⟩) (h k hk)).trans e
  exact ⟨c _ _ _ (by simp) D.c0, c _ _ _ (by simp) D.c1, (h gb (by simp)).trans D.row, fun p hp => c _ _ _ (by simp) (D.wc p hp), D.nr, D.nk, D.mb⟩
theorem DRam.lt {w : World} {rb gb kb : Nat} {m : Nat → Int} {wt : Int → Bool} (D : DRam w rb gb kb m wt) {k : Nat} (h : k = rb ∨ k = gb ∨ k = kb) : k < w.heap.size := by
  rcases h with rfl | rfl | rfl
  · exact World.block_lt_of_cell? _ _ D.c0
  · exact (Array.getElem?_eq_some_iff.1 D.row).1
  · exact World.block_lt_of_cell? _ _ (D.wc 0 (by omega))
theorem DRam.stays {w w' : World} {rb gb kb : Nat} {m : Nat → Int} {wt : Int → Bool} (D : DRam w rb gb kb m wt) (h : Below w.heap.size w w') : DRam w' rb gb kb m wt := D.blocks fun k hk => h.block k (D.lt hk)
theorem pw_bhd (a : Int) : pw (24 - 8 * (a % 4)) = 2 ^ (bhd a 1).toNat := by
  unfold pw; rw [bhd1, Int.emod_eq_of_lt (by omega) (by omega)]
theorem pw8 : pw 8 = 256 := by decide
theorem wl_set (m : Nat → Int) (i : Nat) (x : Int) (m' : Nat → Int) (hx : m' i = x) (ho : ∀ j, j ≠ i → m' j = m j) : (wl m 4096).toArray.setIfInBounds i (.int .u32 x) = (wl m' 4096).toArray := by
  apply Array.ext_getElem?
  intro k
  rw [show (wl m' 4096).toArray[k]? = (wl m' 4096)[k]? by simp]
  by_cases hk : k < 4096
  · rw [wl_get m' 4096 k hk]
    by_cases e : i = k
    · subst e; rw [Array.getElem?_setIfInBounds_self, if_pos (by simp [wl_len]; exact hk), hx]
    · rw [Array.getElem?_setIfInBounds_ne e, List.getElem?_toArray, wl_get m 4096 k hk, ho k (Ne.symm e)]
  · rw [Array.getElem?_eq_none (by simp [wl_len]; omega), List.getElem?_eq_none (by rw [wl_len]; omega)]
set_option maxRecDepth 100000 in
set_option maxHeartbeats 1000000 in
theorem at_any {w : World} {rb gb kb : Nat} {m : Nat → Int} {wt : Int → Bool} (D : DRam w rb gb kb m wt) (a : Int) (h0 : 0 ≤ a) (h1 : a < 16384) : Calls Tryd.prog 46 #[.pointer (some ⟨rb, 0, none⟩), .int .i64 a] w fun e w' => e = .returned (.int .u8 (byt m a)) ∧ w' = w := by
  have c0 := D.c0
  have hcell := D.cell (a / 4).toNat (by omega)
  obtain ⟨m0, m1⟩ := D.mb (a / 4).toNat
  have HB : Hid (m (a / 4).toNat / pw (24 - 8 * (a % 4)) % pw 8 = byt m a) := by show _ = _; unfold byt; rw [pw_bhd, pw8]
  have hb := byt_bd m a
  have hp := part_any (m (a / 4).toNat) (24 - 8 * (a % 4)) 8 m0 m1 (by omega) (by omega) (by omega) (by omega) w
  rw [HB.out] at hp
  clear D HB
  generalize byt m a = bb at *
  go_enter Tryd.func46, Tryd.ntmps46
  go_wp2_with (go_at_call 49; refine hp.mono ?_; rintro e w' ⟨rfl, rfl⟩)
  go_ret
  exact ⟨rfl, rfl⟩
end Go.Proofs.YtmfhimphlackiaaDoor
