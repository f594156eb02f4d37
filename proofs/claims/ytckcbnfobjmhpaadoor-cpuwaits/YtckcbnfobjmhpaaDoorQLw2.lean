/-
  What instructions have at once, their bytes, their targets; operands and kinds of the ops that they are made.
-/
import Derived.Deep.RegionWith
import Derived.WalkSmall
import Derived.Test.YtckcbnfobjmhpaaDoorKKFns2
import Derived.Test.YtckcbnfobjmhpaaDoorQLowPure
import Derived.Test.YtckcbnfobjmhpaaDoorQWord2
namespace Go.Proofs.YtckcbnfobjmhpaaDoor.Low
open Go.RowKit Go.Maps
open Num
set_option linter.unusedVariables false
theorem bdN {B : Nat} {a w : World} (h : Below B a w) (n : Nat) : Below B a (w.drewN n) := h.trans ⟨rfl, rfl, rfl, Nat.le_refl _, fun _ _ => rfl⟩
theorem nkL {k n : Nat} (h : k ≠ n) : ((k : Int) == (n : Int)) = false := by simp; omega
section
variable {w : World}
set_option maxHeartbeats 2000000 in
theorem immC_any (k : Nat) (s t d m : Int) (m0 : 0 ≤ m) (m1 : m < 4294967296) : Calls Tryd.prog 102 #[.agg #[.int .i64 k, .int .i64 s, .int .i64 t, .int .i64 d, .int .u32 m]] w fun e w' => e = .returned (.int .u32 (immI k m)) ∧ Below w.heap.size w w' := by
  by_cases h39 : k = 39
  · subst h39; go_enter Tryd.func102, Tryd.ntmps102; go_wp2; go_ret; exact ⟨rfl, (Below.refl _ _).alloc (Nat.le_refl _) _⟩
  by_cases h40 : k = 40
  · subst h40; go_enter Tryd.func102, Tryd.ntmps102; go_wp2; go_ret; exact ⟨rfl, (Below.refl _ _).alloc (Nat.le_refl _) _⟩
  by_cases h41 : k = 41
  · subst h41; go_enter Tryd.func102, Tryd.ntmps102; go_wp2; go_ret; exact ⟨rfl, (Below.refl _ _).alloc (Nat.le_refl _) _⟩
  by_cases h42 : k = 42
  · subst h42; go_enter Tryd.func102, Tryd.ntmps102; go_wp2; go_ret; exact ⟨rfl, (Below.refl _ _).alloc (Nat.le_refl _) _⟩
  have e : immI k m = wd m 16 true := by unfold immI; rw [if_neg (by omega)]
  rw [e]
  have b39 := nkL h39
  have b40 := nkL h40
  have b41 := nkL h41
  have b42 := nkL h42
  clear e h39 h40 h41 h42
  go_enter Tryd.func102, Tryd.ntmps102
  go_wp2_with (go_at_call 41; refine (wide_any _ _ _ m0 m1 _).mono ?_; rintro e w' ⟨rfl, rfl⟩)
  go_ret
  exact ⟨rfl, (Below.refl _ _).alloc (Nat.le_refl _) _⟩
set_option maxHeartbeats 2000000 in
theorem bytesC_any (k : Nat) (hk : 46 ≤ k ∧ k ≤ 53) : Calls Tryd.prog 80 #[.int .i64 k] w fun e w' => e = .returned (.tuple #[.int .i64 (szI k), .bool (sgI k)]) ∧ Below w.heap.size w w' := by
  have h : k = 46 ∨ k = 47 ∨ k = 48 ∨ k = 49 ∨ k = 50 ∨ k = 51 ∨ k = 52 ∨ k = 53 := by omega
  rcases h with rfl | rfl | rfl | rfl | rfl | rfl | rfl | rfl <;>
    (go_enter Tryd.func80, Tryd.ntmps80
     go_wp2
     first
       | (go_ret2; exact ⟨rfl, Below.refl _ _⟩)
       | (go_quiet (fail); go_wp2; go_ret2; exact ⟨rfl, bdN (Below.refl _ _) _⟩))
theorem u32_w (x : Int) : IntKind.u32.wrap x = lo x := rfl
set_option maxHeartbeats 4000000 in
theorem targetC_any (k : Nat) (s t d m pc : Int) (m0 : 0 ≤ m) (m1 : m < 4294967296) : Calls Tryd.prog 101 #[.agg #[.int .i64 k, .int .i64 s, .int .i64 t, .int .i64 d, .int .u32 m], .int .u32 pc] w fun e w' => e = .returned (.int .u32 (tgI ⟨k, s, t, d, m⟩ pc)) ∧ Below w.heap.size w w' := by
  have hI := fun W => immC_any (w := W) k s t d m m0 m1
  by_cases h29 : k = 29
  · subst h29; go_enter Tryd.func101, Tryd.ntmps101; go_wp2; go_ret; exact ⟨rfl, (Below.refl _ _).alloc (Nat.le_refl _) _⟩
  by_cases h30 : k = 30
  · subst h30; go_enter Tryd.func101, Tryd.ntmps101; go_wp2; go_ret; exact ⟨rfl, (Below.refl _ _).alloc (Nat.le_refl _) _⟩
  have e : tgI ⟨k, s, t, d, m⟩ pc = lo (lo (pc + 4) + lo (4 * immI k m)) := by unfold tgI; rw [if_neg (by simp [Ix.n]; omega)]; rfl
  rw [e]
  have b29 := nkL h29
  have b30 := nkL h30
  clear e h29 h30
  go_enter Tryd.func101, Tryd.ntmps101
  go_wp2_with fail
  refine (hI _).mono ?_
  rintro e w1 ⟨rfl, hb⟩
  have hB : Hid (Below w.heap.size w w1) := ((Below.refl _ _).alloc (Nat.le_refl _) _).trans (hb.mono (by simp))
  clear hb hI
  go_wp2
  go_ret
  exact ⟨rfl, hB.out⟩
end
end Go.Proofs.YtckcbnfobjmhpaaDoor.Low
