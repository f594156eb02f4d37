/-
  Load.
-/
import Derived.WalkSpells
import Derived.Test.YtkehhlibkebomaaDoorKOwn
namespace Go.Proofs.YtkehhlibkebomaaDoor
open Go.RowKit Go.Maps
open Num
set_option linter.unusedVariables false
theorem run_index (m : Nat → Int) (n i : Nat) (h : i < 64) (w : World) : (Instr.index 69 (.agg (pgA m n)) (.int .i64 i)).run Tryd.prog w = .ok (.int .u32 (m (64 * n + i))) w := by
  have e1 : (sizeOf 23).run Tryd.prog w = .ok 1 w := by kernel_rfl
  have hg := pgA_get m n i h
  simp [Instr.index, run_underlying Tryd.underlying69, e1, h, part, hg, go_sem]
set_option maxHeartbeats 1000000 in
theorem load_ok {w : World} {sb bp bw bh N : Nat} {m : Nat → Int} {wt ht : Int → Bool} (R : RamIs w sb bp bw bh N m wt ht) (a s : Int) (sg : Bool) (h0 : 0 ≤ a) (h1 : a < 4294967296) (hc : chk a s = 0) :
    Calls Tryd.prog 41 #[.pointer (some ⟨sb, 0, none⟩), .int .u32 a, .int .i64 s, .bool sg] w fun e w' => e = .returned (.tuple #[.int .u32 (ld m a s sg), .nilIface]) ∧ ∃ n, w' = w.drewN n := by
  obtain ⟨hs, hm, hf⟩ := chk_ok hc
  have c0 := R.c0
  have hlook : ∀ n, (Instr.lookup 70 (.map (some bp)) (.int .i64 (a / 256)) false).run Tryd.prog (w.drewN n) = .ok (.agg (pgA m (a / 256).toNat)) (w.drewN n) := by
    intro n
    have hp : PagesAt (w.drewN n) bp N m := R.ps
    have := hp.look (a / 256).toNat (by omega)
    rwa [Int.toNat_of_nonneg (by omega)] at this
  have hidx : ∀ w, (Instr.index 69 (.agg (pgA m (a / 256).toNat)) (.int .i64 (a % 256 / 4))).run Tryd.prog w = .ok (.int .u32 (m (a / 4).toNat)) w := by
    intro w
    have := run_index m (a / 256).toNat (a % 256 / 4).toNat (by omega) w
    rwa [Int.toNat_of_nonneg (by omega), show 64 * (a / 256).toNat + (a % 256 / 4).toNat = (a / 4).toNat by omega] at this
  have hck := fun w => check_ok a s h0 h1 hc w
  have hbits := fun w => bits_any a s h0 h1 hc w
  have hb0 : 0 ≤ bhd a s ∧ bhd a s ≤ 24 := by unfold bhd; rcases hs with rfl | rfl | rfl <;> omega
  obtain ⟨b0, b1⟩ := hb0
  have mb := R.mb (a / 4).toNat
  have hs' : 1 ≤ s ∧ s ≤ 4 := by omega
  have W1 : Hid (0 ≤ m (a / 4).toNat / 2 ^ (bhd a s).toNat ∧ m (a / 4).toNat / 2 ^ (bhd a s).toNat < 4294967296) := by
    have := ediv_bd (d := 2 ^ (bhd a s).toNat) mb.1 (Int.pow_pos (by omega)); exact ⟨this.1, by omega⟩
  obtain ⟨s0, s1⟩ := hs'
  clear R hs hm hf hc
  go_enter Tryd.func41, Tryd.ntmps41
  go_wp2_with (go_at_call 51; refine (hck _).mono ?_; rintro e w' ⟨rfl, rfl⟩)
  go_quiet ((first | (go_at_call 52; exact Calls.quiet_of_same (pageOf_any _ h0 h1 _)) | (go_at_call 53; exact Calls.quiet_of_same (wordOf_any _ h0 h1 _))))
  go_wp2_with (first | (go_at_call 54; refine (hbits _).mono ?_; rintro e w' ⟨rfl, rfl⟩) | (go_at_call 43; refine (wide_any _ _ _ W1.out.1 W1.out.2 _).mono ?_; rintro e w' ⟨rfl, rfl⟩))
  go_ret2
  exact ⟨rfl, nq, rfl⟩
set_option maxHeartbeats 1000000 in
theorem load_no (ps pa pf : Addr) {w : World} (E : Er ps pa pf w) (v : Value) (a s : Int) (sg : Bool) (h0 : 0 ≤ a) (h1 : a < 4294967296) (s0 : -9223372036854775808 ≤ s) (s1 : s ≤ 9223372036854775807) (hc : chk a s ≠ 0) :
    Calls Tryd.prog 41 #[v, .int .u32 a, .int .i64 s, .bool sg] w fun e w' => e = .returned (.tuple #[.int .u32 0, .iface 151 (.pointer (some (erA ps pa pf (chk a s))))]) ∧ w' = w := by
  have hck := check_no ps pa pf a s h0 h1 s0 s1 hc w E
  clear E hc
  go_enter Tryd.func41, Tryd.ntmps41
  go_wp2_with (go_at_call 51; refine hck.mono ?_; rintro e w' ⟨rfl, rfl⟩)
  go_ret2
  exact ⟨rfl, rfl⟩
end Go.Proofs.YtkehhlibkebomaaDoor
/-
  A Ram's maps, made where they are not there.
-/
namespace Go.Proofs.YtkehhlibkebomaaDoor
open Go.RowKit Go.Maps
open Num
set_option linter.unusedVariables false
set_option maxRecDepth 100000 in
set_option maxHeartbeats 2000000 in
theorem ready_old {w : World} {sb bp bw bh N : Nat} {m : Nat → Int} {wt ht : Int → Bool} (R : RamIs w sb bp bw bh N m wt ht) :
    Calls Tryd.prog 21 #[.pointer (some ⟨sb, 0, none⟩)] w fun e w' => e = .returned (.tuple #[]) ∧ w' = w := by
  have c0 := R.c0
  have hq := fun w => run_eql_map_nil (P := Tryd.prog) w 70 _ _ (some bp) Tryd.underlying70
  clear R
  go_enter Tryd.func21, Tryd.ntmps21
  go_wp2
  go_end0
  exact ⟨rfl, rfl⟩
/-- memory as it is made first -/
theorem ram_made (w : World) : RamIs ((((w.alloc (.cells #[.map (some (w.heap.size + 1)), .map (some (w.heap.size + 1 + 1)), .map (some (w.heap.size + 1 + 1 + 1))] 73)).alloc (.map #[] 0)).alloc (.map #[] 0)).alloc (.map #[] 0)) w.heap.size (w.heap.size + 1) (w.heap.size + 2) (w.heap.size + 3) 0 (fun _ => 0) (fun _ => false) (fun _ => false) := by
  have hr := heap_alloc_new w (.cells #[.map (some (w.heap.size + 1)), .map (some (w.heap.size + 1 + 1)), .map (some (w.heap.size + 1 + 1 + 1))] 73)
  have hc : ∀ j v, (w.alloc (.cells #[.map (some (w.heap.size + 1)), .map (some (w.heap.size + 1 + 1)), .map (some (w.heap.size + 1 + 1 + 1))] 73)).cell? ⟨w.heap.size, j, none⟩ = some v → ((((w.alloc (.cells #[.map (some (w.heap.size + 1)), .map (some (w.heap.size + 1 + 1)), .map (some (w.heap.size + 1 + 1 + 1))] 73)).alloc (.map #[] 0)).alloc (.map #[] 0)).alloc (.map #[] 0)).cell? ⟨w.heap.size, j, none⟩ = some v := by
    intro j v h
    exact (World.grownBy_alloc _ _ none).cell ((World.grownBy_alloc _ _ none).cell ((World.grownBy_alloc _ _ none).cell h (by simp)) (by simp)) (by simp)
  refine ⟨hc _ _ (by rw [cell_of_row _ _ _ _ _ _ hr]; rfl), hc _ _ (by rw [cell_of_row _ _ _ _ _ _ hr]; rfl), hc _ _ (by rw [cell_of_row _ _ _ _ _ _ hr]; rfl), by omega, by omega, by omega, by omega, by omega, ?_, ?_, ?_, fun _ => by omega⟩
  · refine ⟨.map [], ?_, fun n hn => ?_⟩
    · have := ((World.ownsMap_made (w.alloc (.cells #[.map (some (w.heap.size + 1)), .map (some (w.heap.size + 1 + 1)), .map (some (w.heap.size + 1 + 1 + 1))] 73)) Tryd.prog 3 heldE).alloc (.map #[] 0)).alloc (.map #[] 0)
      simpa using this
    · show DataW.held (Value.agg zeroPg) = _
      unfold zeroPg
      rw [pgA_congr]
      intro i _; rfl
  · refine ⟨.map [], ?_, fun x => rfl⟩
    have := (World.ownsMap_made (H := Unit) ((w.alloc (.cells #[.map (some (w.heap.size + 1)), .map (some (w.heap.size + 1 + 1)), .map (some (w.heap.size + 1 + 1 + 1))] 73)).alloc (.map #[] 0)) Tryd.prog 3 unitElem).alloc (.map #[] 0)
    simpa using this
  · refine ⟨.map [], ?_, fun x => rfl⟩
    have := World.ownsMap_made (H := Unit) (((w.alloc (.cells #[.map (some (w.heap.size + 1)), .map (some (w.heap.size + 1 + 1)), .map (some (w.heap.size + 1 + 1 + 1))] 73)).alloc (.map #[] 0)).alloc (.map #[] 0)) Tryd.prog 3 unitElem
    simpa using this
set_option maxRecDepth 100000 in
set_option maxHeartbeats 2000000 in
theorem ready_new (w : World) :
    Calls Tryd.prog 21 #[.pointer (some ⟨w.heap.size, 0, none⟩)] (w.alloc (.cells #[.map none, .map none, .map none] 73)) fun e w' => e = .returned (.tuple #[]) ∧ RamIs w' w.heap.size (w.heap.size + 1) (w.heap.size + 2) (w.heap.size + 3) 0 (fun _ => 0) (fun _ => false) (fun _ => false) ∧ Below w.heap.size w w' := by
  have hmm := @run_makeMap Tryd.prog
  have hq := fun w => run_eql_map_nil (P := Tryd.prog) w 70 _ _ none Tryd.underlying70
  go_enter Tryd.func21, Tryd.ntmps21
  go_wp2
  go_end0
  exact ⟨rfl, ram_made w, (((Below.refl _ _).alloc (Nat.le_refl _) _).alloc (by simp) _ |>.alloc (by simp; omega) _).alloc (by simp; omega) _⟩
end Go.Proofs.YtkehhlibkebomaaDoor
