/-
  A Ram's maps, made where they are not there.
-/
import Derived.Test.YtckcbnfobjmhpaaDoorLoad
import Derived.WalkSpells
namespace Go.Proofs.YtckcbnfobjmhpaaDoor
open Go.RowKit Go.Maps
open Num
set_option linter.unusedVariables false
set_option maxRecDepth 100000 in
set_option maxHeartbeats 2000000 in
theorem ready_old {w : World} {sb bp bw bh N : Nat} {m : Nat → Int} {wt ht : Int → Bool} (R : RamIs w sb bp bw bh N m wt ht) :
    Calls Tryd.prog 37 #[.pointer (some ⟨sb, 0, none⟩)] w fun e w' => e = .returned (.tuple #[]) ∧ w' = w := by
  have c0 := R.c0
  have hq := fun w => run_eql_map_nil (P := Tryd.prog) w 80 _ _ (some bp) Tryd.underlying80
  clear R
  go_enter Tryd.func37, Tryd.ntmps37
  go_wp2
  go_end0
  exact ⟨rfl, rfl⟩
/-- memory as it is made first -/
theorem ram_made (w : World) : RamIs ((((w.alloc (.cells #[.map (some (w.heap.size + 1)), .map (some (w.heap.size + 1 + 1)), .map (some (w.heap.size + 1 + 1 + 1))] 83)).alloc (.map #[] 0)).alloc (.map #[] 0)).alloc (.map #[] 0)) w.heap.size (w.heap.size + 1) (w.heap.size + 2) (w.heap.size + 3) 0 (fun _ => 0) (fun _ => false) (fun _ => false) := by
  have hr := heap_alloc_new w (.cells #[.map (some (w.heap.size + 1)), .map (some (w.heap.size + 1 + 1)), .map (some (w.heap.size + 1 + 1 + 1))] 83)
  have hc : ∀ j v, (w.alloc (.cells #[.map (some (w.heap.size + 1)), .map (some (w.heap.size + 1 + 1)), .map (some (w.heap.size + 1 + 1 + 1))] 83)).cell? ⟨w.heap.size, j, none⟩ = some v → ((((w.alloc (.cells #[.map (some (w.heap.size + 1)), .map (some (w.heap.size + 1 + 1)), .map (some (w.heap.size + 1 + 1 + 1))] 83)).alloc (.map #[] 0)).alloc (.map #[] 0)).alloc (.map #[] 0)).cell? ⟨w.heap.size, j, none⟩ = some v := by
    intro j v h
    exact (World.grownBy_alloc _ _ none).cell ((World.grownBy_alloc _ _ none).cell ((World.grownBy_alloc _ _ none).cell h (by simp)) (by simp)) (by simp)
  refine ⟨hc _ _ (by rw [cell_of_row _ _ _ _ _ _ hr]; rfl), hc _ _ (by rw [cell_of_row _ _ _ _ _ _ hr]; rfl), hc _ _ (by rw [cell_of_row _ _ _ _ _ _ hr]; rfl), by omega, by omega, by omega, by omega, by omega, ?_, ?_, ?_, fun _ => by omega⟩
  · refine ⟨.map [], ?_, fun n hn => ?_⟩
    · have := ((World.ownsMap_made (w.alloc (.cells #[.map (some (w.heap.size + 1)), .map (some (w.heap.size + 1 + 1)), .map (some (w.heap.size + 1 + 1 + 1))] 83)) Tryd.prog 3 heldE).alloc (.map #[] 0)).alloc (.map #[] 0)
      simpa using this
    · show DataW.held (Value.agg zeroPg) = _
      unfold zeroPg
      rw [pgA_congr]
      intro i _; rfl
  · refine ⟨.map [], ?_, fun x => rfl⟩
    have := (World.ownsMap_made (H := Unit) ((w.alloc (.cells #[.map (some (w.heap.size + 1)), .map (some (w.heap.size + 1 + 1)), .map (some (w.heap.size + 1 + 1 + 1))] 83)).alloc (.map #[] 0)) Tryd.prog 3 unitElem).alloc (.map #[] 0)
    simpa using this
  · refine ⟨.map [], ?_, fun x => rfl⟩
    have := World.ownsMap_made (H := Unit) (((w.alloc (.cells #[.map (some (w.heap.size + 1)), .map (some (w.heap.size + 1 + 1)), .map (some (w.heap.size + 1 + 1 + 1))] 83)).alloc (.map #[] 0)).alloc (.map #[] 0)) Tryd.prog 3 unitElem
    simpa using this
set_option maxRecDepth 100000 in
set_option maxHeartbeats 2000000 in
theorem ready_new (w : World) :
    Calls Tryd.prog 37 #[.pointer (some ⟨w.heap.size, 0, none⟩)] (w.alloc (.cells #[.map none, .map none, .map none] 83)) fun e w' => e = .returned (.tuple #[]) ∧ RamIs w' w.heap.size (w.heap.size + 1) (w.heap.size + 2) (w.heap.size + 3) 0 (fun _ => 0) (fun _ => false) (fun _ => false) ∧ Below w.heap.size w w' := by
  have hmm := @run_makeMap Tryd.prog
  have hq := fun w => run_eql_map_nil (P := Tryd.prog) w 80 _ _ none Tryd.underlying80
  go_enter Tryd.func37, Tryd.ntmps37
  go_wp2
  go_end0
  exact ⟨rfl, ram_made w, (((Below.refl _ _).alloc (Nat.le_refl _) _).alloc (by simp) _ |>.alloc (by simp; omega) _).alloc (by simp; omega) _⟩
end Go.Proofs.YtckcbnfobjmhpaaDoor
