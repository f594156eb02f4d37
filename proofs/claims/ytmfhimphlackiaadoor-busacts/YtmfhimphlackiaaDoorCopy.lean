/-
  Copy.
-/
import Derived.Test.YtmfhimphlackiaaDoorPartsWalk
import Derived.Shelf.SlMaps.Clone
namespace Go.Proofs.YtmfhimphlackiaaDoor
open Go.RowKit Go.Maps
open Num
set_option linter.unusedVariables false
set_option maxRecDepth 100000 in
set_option maxHeartbeats 2000000 in
theorem clone56 (b : Nat) (es : Array MapEntry) (clock : Nat) (w : World) (hb : w.heap[b]? = some (.map es clock)) :
    Calls Tryd.prog 37 #[.map (some b)] w fun e w' => e = .returned (.map (some w.heap.size)) ∧ w' = w.alloc (.map es clock) := by
  have hq := fun w => run_eql_map_nil_sl (P := Tryd.prog) w 72 _ _ (some b) Tryd.underlying72
  go_enter Tryd.func37, Tryd.ntmps37
  go_wp2
  rw [run_callFunc_extern Tryd.func62 (by kernel_rfl) (by kernel_rfl) (by kernel_rfl) (e := Extern.MapsClone.clone) (by kernel_rfl), run_maps_clone_sl w 72 hb]
  simp only [Result.andThen]
  rw [Oper.upon_value]
  go_wp2
  rw [run_typeAssert_map_sl _ 72 20 _ _ _ Tryd.underlying72]
  simp only [Result.andThen]
  rw [Oper.upon_value]
  go_wp2
  go_ret
  exact ⟨rfl, rfl⟩
set_option maxRecDepth 100000 in
set_option maxHeartbeats 2000000 in
theorem clone57 (b : Nat) (es : Array MapEntry) (clock : Nat) (w : World) (hb : w.heap[b]? = some (.map es clock)) :
    Calls Tryd.prog 38 #[.map (some b)] w fun e w' => e = .returned (.map (some w.heap.size)) ∧ w' = w.alloc (.map es clock) := by
  have hq := fun w => run_eql_map_nil_sl (P := Tryd.prog) w 73 _ _ (some b) Tryd.underlying73
  go_enter Tryd.func38, Tryd.ntmps38
  go_wp2
  rw [run_callFunc_extern Tryd.func62 (by kernel_rfl) (by kernel_rfl) (by kernel_rfl) (e := Extern.MapsClone.clone) (by kernel_rfl), run_maps_clone_sl w 73 hb]
  simp only [Result.andThen]
  rw [Oper.upon_value]
  go_wp2
  rw [run_typeAssert_map_sl _ 73 20 _ _ _ Tryd.underlying73]
  simp only [Result.andThen]
  rw [Oper.upon_value]
  go_wp2
  go_ret
  exact ⟨rfl, rfl⟩
theorem alloc_keep {w : World} {o x : Obj} {k : Nat} (h : w.heap[k]? = some x) : (w.alloc o).heap[k]? = some x := by
  have hk : k < w.heap.size := (Array.getElem?_eq_some_iff.1 h).1
  show (w.heap.push o)[k]? = some x
  rw [Array.getElem?_push_lt hk]
  exact (Array.getElem?_eq_some_iff.1 h).2 ▸ rfl
set_option maxRecDepth 100000 in
set_option maxHeartbeats 4000000 in
theorem copy_any {w : World} {sb bp bw bh N : Nat} {m : Nat → Int} {wt ht : Int → Bool} (R : RamIs w sb bp bw bh N m wt ht) :
    Calls Tryd.prog 11 #[.pointer (some ⟨sb, 0, none⟩)] w fun e w' => ∃ sb' bp' bw' bh' : Nat, e = .returned (.pointer (some ⟨sb', 0, none⟩)) ∧ RamIs w' sb' bp' bw' bh' N m wt ht ∧ Below w.heap.size w w' ∧ w.heap.size ≤ sb' ∧ w.heap.size ≤ bp' ∧ w.heap.size ≤ bw' ∧ w.heap.size ≤ bh' := by
  obtain ⟨Dp, ⟨ep, cp, hp, Fp, sp, dp⟩, ap⟩ := R.ps
  obtain ⟨Dw, ⟨ew, cw, hw, Fw, sw, dw⟩, aw⟩ := R.ws
  obtain ⟨Dh, ⟨eh, ch, hh, Fh, sh, dh⟩, ah⟩ := R.hs
  have c0 := R.c0
  have c1 := R.c1
  have c2 := R.c2
  have hz : sb < w.heap.size := World.block_lt_of_cell? _ _ c0
  have RH : Hid (RamIs w sb bp bw bh N m wt ht) := R
  have FIN : Hid (RamIs ((((w.alloc (.map ep cp)).alloc (.map ew cw)).alloc (.map eh ch)).alloc (.cells #[.map (some w.heap.size), .map (some (w.heap.size + 1)), .map (some (w.heap.size + 1 + 1))] 75)).drew (w.heap.size + 1 + 1 + 1) w.heap.size (w.heap.size + 1) (w.heap.size + 1 + 1) N m wt ht ∧ Below w.heap.size w ((((w.alloc (.map ep cp)).alloc (.map ew cw)).alloc (.map eh ch)).alloc (.cells #[.map (some w.heap.size), .map (some (w.heap.size + 1)), .map (some (w.heap.size + 1 + 1))] 75)).drew) := by
    have hr := heap_alloc_new (((w.alloc (.map ep cp)).alloc (.map ew cw)).alloc (.map eh ch)) (.cells #[.map (some w.heap.size), .map (some (w.heap.size + 1)), .map (some (w.heap.size + 1 + 1))] 75)
    rw [show (((w.alloc (.map ep cp)).alloc (.map ew cw)).alloc (.map eh ch)).heap.size = w.heap.size + 1 + 1 + 1 by simp] at hr
    have hr : ((((w.alloc (.map ep cp)).alloc (.map ew cw)).alloc (.map eh ch)).alloc (.cells #[.map (some w.heap.size), .map (some (w.heap.size + 1)), .map (some (w.heap.size + 1 + 1))] 75)).drew.heap[w.heap.size + 1 + 1 + 1]? = some (.cells #[.map (some w.heap.size), .map (some (w.heap.size + 1)), .map (some (w.heap.size + 1 + 1))] 75) := hr
    have m1 : ((((w.alloc (.map ep cp)).alloc (.map ew cw)).alloc (.map eh ch)).alloc (.cells #[.map (some w.heap.size), .map (some (w.heap.size + 1)), .map (some (w.heap.size + 1 + 1))] 75)).drew.heap[w.heap.size]? = some (.map ep cp) := alloc_keep (alloc_keep (alloc_keep (heap_alloc_new w _)))
    have m2 : ((((w.alloc (.map ep cp)).alloc (.map ew cw)).alloc (.map eh ch)).alloc (.cells #[.map (some w.heap.size), .map (some (w.heap.size + 1)), .map (some (w.heap.size + 1 + 1))] 75)).drew.heap[w.heap.size + 1]? = some (.map ew cw) := by
      have := heap_alloc_new (w.alloc (.map ep cp)) (.map ew cw)
      rw [show (w.alloc (.map ep cp)).heap.size = w.heap.size + 1 by simp] at this
      exact alloc_keep (alloc_keep this)
    have m3 : ((((w.alloc (.map ep cp)).alloc (.map ew cw)).alloc (.map eh ch)).alloc (.cells #[.map (some w.heap.size), .map (some (w.heap.size + 1)), .map (some (w.heap.size + 1 + 1))] 75)).drew.heap[w.heap.size + 1 + 1]? = some (.map eh ch) := by
      have := heap_alloc_new ((w.alloc (.map ep cp)).alloc (.map ew cw)) (.map eh ch)
      rw [show ((w.alloc (.map ep cp)).alloc (.map ew cw)).heap.size = w.heap.size + 1 + 1 by simp] at this
      exact alloc_keep this
    refine ⟨⟨by rw [cell_of_row _ _ _ _ _ _ hr]; rfl, by rw [cell_of_row _ _ _ _ _ _ hr]; rfl, by rw [cell_of_row _ _ _ _ _ _ hr]; rfl, by omega, by omega, by omega, by omega, by omega, ⟨Dp, ⟨ep, cp, m1, Fp, sp, dp⟩, ap⟩, ⟨Dw, ⟨ew, cw, m2, Fw, sw, dw⟩, aw⟩, ⟨Dh, ⟨eh, ch, m3, Fh, sh, dh⟩, ah⟩, R.mb⟩, ?_⟩
    exact below_drew (((((Below.refl _ _).alloc (Nat.le_refl _) _).alloc (by simp) _).alloc (by simp; omega) _).alloc (by simp; omega) _)
  clear R Fp sp dp Fw sw dw Fh sh dh RH ap aw ah
  go_enter Tryd.func11, Tryd.ntmps11
  go_wp2_with fail
  go_region_with ((first | (go_at_call 37; refine (clone56 _ _ _ _ (by first | exact hp | exact alloc_keep hp | exact alloc_keep (alloc_keep hp))).mono ?_; rintro e w' ⟨rfl, rfl⟩) | (go_at_call 38; refine (clone57 _ _ _ _ (by first | exact hw | exact hh | exact alloc_keep hw | exact alloc_keep hh | exact alloc_keep (alloc_keep hw) | exact alloc_keep (alloc_keep hh))).mono ?_; rintro e w' ⟨rfl, rfl⟩)))
  all_goals
    go_wp2
    go_ret
    exact ⟨_, _, _, _, rfl, FIN.out.1, FIN.out.2, by omega, by omega, by omega, by omega⟩
end Go.Proofs.YtmfhimphlackiaaDoor
