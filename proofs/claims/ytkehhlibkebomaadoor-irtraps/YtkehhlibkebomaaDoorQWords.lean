/-
  Words; two lists of words that are alike.
-/
import Derived.Test.YtkehhlibkebomaaDoorQStore
import Derived.Test.YtkehhlibkebomaaDoorKDocNum
namespace Go.Proofs.YtkehhlibkebomaaDoor
open Go.RowKit Go.Maps
open Num
set_option linter.unusedVariables false
set_option maxRecDepth 10000 in
set_option maxHeartbeats 2000000 in
theorem alike_eq (w : World) (ba oa bb ob : Nat) (n ca cb : Nat) (f : Nat → Int) (hn : (n : Int) ≤ 1000000) (ha : ∀ i, i < n → w.cell? ⟨ba, oa + i, none⟩ = some (.int .u32 (f i))) (hb : ∀ i, i < n → w.cell? ⟨bb, ob + i, none⟩ = some (.int .u32 (f i))) :
    Calls Tryd.prog 11 #[.slice (some ⟨ba, oa, none⟩) n ca, .slice (some ⟨bb, ob, none⟩) n cb] w fun e w' => e = .returned (.int .i64 1) ∧ ∃ k, w' = w.drewN k := by
  go_enter Tryd.func11, Tryd.ntmps11
  go_wp2
  go_loopw [5] (fun i wr => ∃ j q : Nat, j ≤ n ∧ i = .int .i64 j ∧ wr = w.drewN q) (fun i _ => n - (intOf i).toNat)
  case atStart => exact ⟨0, 0, Nat.zero_le _, rfl, rfl⟩
  case round =>
    obtain ⟨j, q, hj, rfl, rfl⟩ := hrel
    by_cases hlt : j < n
    · have a1 := ha j hlt
      have b1 := hb j hlt
      have hlt' : (j : Int) < n := by omega
      clear ha hb
      go_wp2_with fail
      go_quiet (fail)
      go_wp2
      go_roundw
      case rel => exact ⟨j + 1, q + nq, by omega, by go_num, by simp⟩
      case measure => simp [intOf]; omega
    · clear ha hb
      go_wp2
      go_ret
      exact ⟨rfl, q, rfl⟩
theorem below_grown {B : Nat} {w wr w2 : World} {r : Nat} (h : Below B w wr) (hg : wr.grownBy w2 (some r)) (hr : B ≤ r) (hB : B ≤ w.heap.size) : Below B w w2 :=
  ⟨hg.os.trans h.os, hg.tape.trans h.tape, hg.output.trans h.output, Nat.le_trans h.size hg.size, fun k hk => (hg.block k (by have := h.size; omega) (by intro e; injection e with e; omega)).trans (h.block k hk)⟩
theorem add_lit (g k : Nat) : (⟨g, 0, none⟩ : Addr).add k = ⟨g, k, none⟩ := by unfold Addr.add; split <;> simp_all
theorem wl_page (m : Nat → Int) (j : Nat) : wl m (64 * j) ++ pgL m j = wl m (64 * j + 64) := by
  unfold wl pgL
  rw [List.range_add, List.map_append, List.map_map]
  rfl
set_option maxRecDepth 100000 in
set_option maxHeartbeats 4000000 in
theorem words_any {w : World} {sb bp bw bh N : Nat} {m : Nat → Int} {wt ht : Int → Bool} (R : RamIs w sb bp bw bh N m wt ht) :
    Calls Tryd.prog 12 #[.pointer (some ⟨sb, 0, none⟩)] w fun e w' => e = .returned (.slice (some ⟨w.heap.size, 0, none⟩) 4096 4096) ∧ (∀ i, i < 4096 → w'.cell? ⟨w.heap.size, i, none⟩ = some (.int .u32 (m i))) ∧ Below w.heap.size w w' := by
  obtain ⟨i0, hi, hz0, hz1, hz2⟩ := info_parts info23
  go_enter Tryd.func12, Tryd.ntmps12
  go_wp2_with (at_make; refine wpList_make_own _ rfl _ _ 27 rfl w.heap.size 23 i0 (.int .u32 0) 1 Tryd.underlying27 hi hz0 hz1 _ _ _ 4096 rfl rfl rfl (by rw [hz2]; decide) (by decide) (Nat.le_refl _) ?_; intro w1 hown1 hg1)
  have hb1 : Below w.heap.size w w1 := ⟨hg1.os, hg1.tape, hg1.output, hg1.size, fun k hk => hg1.block k hk (by simp)⟩
  go_loopw [3, 7] (fun s i wr => ∃ j : Nat, j ≤ 64 ∧ i = .int .i64 j ∧ s = .slice (some ⟨w.heap.size, 0, none⟩) (64 * j) 4096 ∧ wr.ownsRow w.heap.size 23 1 (.slice (some ⟨w.heap.size, 0, none⟩) (64 * j) 4096) (64 * j) (wl m (64 * j)) ∧ Below w.heap.size w wr) (fun _ i _ => 64 - (intOf i).toNat)
  case atStart => exact ⟨0, by omega, rfl, rfl, hown1, hb1⟩
  case round =>
    obtain ⟨j, hj, rfl, rfl, hown, hbl⟩ := hrel
    clear hown1 hg1 hb1
    by_cases hlt : j < 64
    · have R1 := R.stays hbl (Nat.le_refl _)
      have c0 := R1.c0
      have hlook := R1.ps.look j hlt
      have hlt' : (j : Int) < 64 := by omega
      clear R1
      have hcells : ∀ (k : Nat) (u : Value), (pgL m j)[k]? = some u → (wr.alloc (.cells (pgA m j) 69)).cell? ((⟨wr.heap.size, 0, none⟩ : Addr).add k) = some u := by
        intro k u hk
        have hadd : (⟨wr.heap.size, 0, none⟩ : Addr).add k = ⟨wr.heap.size, k, none⟩ := by unfold Addr.add; split <;> simp_all
        rw [hadd, cell_of_row _ _ _ _ _ _ (heap_alloc_new wr _)]
        unfold pgA; rw [List.getElem?_toArray]; exact hk
      go_wp2_with (first | (refine wpList_alloc61 rfl rfl ?_) | (refine wpList_store61 rfl _ _ rfl zeroPg (pgA m j) rfl rfl (pgA_size _ _) (pgA_size _ _) (pgA_one _ _) ?_) | (at_builtin; refine wpList_append_fits _ rfl _ _ 27 rfl w.heap.size 23 i0 1 Tryd.underlying27 hi hz1 w.heap.size (64 * j) 4096 _ rfl (hown.alloc _) ⟨wr.heap.size, 0, none⟩ 64 64 (pgL m j) rfl (by simp [pgL_len]) hcells (pgL_one m j) (by omega) ?_; intro w2 hown2 hg2))
      go_roundw
      case rel =>
        rw [wl_page] at hown2
        exact ⟨j + 1, by omega, by go_num, rfl, hown2, below_grown (hbl.alloc (by have := hbl.size; omega) _) hg2 (Nat.le_refl _) (Nat.le_refl _)⟩
      case measure => simp [intOf]; omega
    · obtain rfl : j = 64 := by omega
      clear R
      go_wp2
      go_ret
      refine ⟨rfl, fun i hi => ?_, hbl⟩
      have := hown.cells (g := w.heap.size) rfl i _ (wl_get m (64 * 64) i (by omega))
      rwa [add_lit] at this
end Go.Proofs.YtkehhlibkebomaaDoor
