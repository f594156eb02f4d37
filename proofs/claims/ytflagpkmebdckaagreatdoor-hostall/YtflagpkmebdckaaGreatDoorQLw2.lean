/-
  What instructions have at once, their bytes, their targets; operands and kinds of the ops that they are made.
-/
import Derived.Deep.RegionWith
import Derived.WalkSmall
import Derived.Test.YtflagpkmebdckaaGreatDoorKSerial
namespace Go.Proofs.YtflagpkmebdckaaGreatDoor.Low
open Go.RowKit Go.Maps
open Num
set_option linter.unusedVariables false
theorem bdN {B : Nat} {a w : World} (h : Below B a w) (n : Nat) : Below B a (w.drewN n) := h.trans ⟨rfl, rfl, rfl, Nat.le_refl _, fun _ _ => rfl⟩
theorem nkL {k n : Nat} (h : k ≠ n) : ((k : Int) == (n : Int)) = false := by simp; omega
section
variable {w : World}
set_option maxHeartbeats 2000000 in
theorem immC_any (k : Nat) (s t d m : Int) (m0 : 0 ≤ m) (m1 : m < 4294967296) : Calls Tryz.prog 110 #[.agg #[.int .i64 k, .int .i64 s, .int .i64 t, .int .i64 d, .int .u32 m]] w fun e w' => e = .returned (.int .u32 (immI k m)) ∧ Below w.heap.size w w' := by
  by_cases h39 : k = 39
  · subst h39; go_enter Tryz.func110, Tryz.ntmps110; go_wp2; go_ret; exact ⟨rfl, (Below.refl _ _).alloc (Nat.le_refl _) _⟩
  by_cases h40 : k = 40
  · subst h40; go_enter Tryz.func110, Tryz.ntmps110; go_wp2; go_ret; exact ⟨rfl, (Below.refl _ _).alloc (Nat.le_refl _) _⟩
  by_cases h41 : k = 41
  · subst h41; go_enter Tryz.func110, Tryz.ntmps110; go_wp2; go_ret; exact ⟨rfl, (Below.refl _ _).alloc (Nat.le_refl _) _⟩
  by_cases h42 : k = 42
  · subst h42; go_enter Tryz.func110, Tryz.ntmps110; go_wp2; go_ret; exact ⟨rfl, (Below.refl _ _).alloc (Nat.le_refl _) _⟩
  have e : immI k m = wd m 16 true := by unfold immI; rw [if_neg (by omega)]
  rw [e]
  have b39 := nkL h39
  have b40 := nkL h40
  have b41 := nkL h41
  have b42 := nkL h42
  clear e h39 h40 h41 h42
  go_enter Tryz.func110, Tryz.ntmps110
  go_wp2_with (go_at_call 42; refine (wide_any _ _ _ m0 m1 _).mono ?_; rintro e w' ⟨rfl, rfl⟩)
  go_ret
  exact ⟨rfl, (Below.refl _ _).alloc (Nat.le_refl _) _⟩
set_option maxHeartbeats 2000000 in
theorem bytesC_any (k : Nat) (hk : 46 ≤ k ∧ k ≤ 53) : Calls Tryz.prog 108 #[.int .i64 k] w fun e w' => e = .returned (.tuple #[.int .i64 (szI k), .bool (sgI k)]) ∧ Below w.heap.size w w' := by
  have h : k = 46 ∨ k = 47 ∨ k = 48 ∨ k = 49 ∨ k = 50 ∨ k = 51 ∨ k = 52 ∨ k = 53 := by omega
  rcases h with rfl | rfl | rfl | rfl | rfl | rfl | rfl | rfl <;>
    (go_enter Tryz.func108, Tryz.ntmps108
     go_wp2
     first
       | (go_ret2; exact ⟨rfl, Below.refl _ _⟩)
       | (go_quiet (fail); go_wp2; go_ret2; exact ⟨rfl, bdN (Below.refl _ _) _⟩))
set_option maxHeartbeats 4000000 in
theorem overOf_any (k : Nat) : Calls Tryz.prog 223 #[.int .i64 k] w fun e w' => e = .returned (.string (kindS (ovK k))) ∧ w' = w := by
  by_cases h19 : k = 19
  · subst h19; go_enter Tryz.func223, Tryz.ntmps223; go_wp2; go_ret; exact ⟨rfl, rfl⟩
  by_cases h35 : k = 35
  · subst h35; go_enter Tryz.func223, Tryz.ntmps223; go_wp2; go_ret; exact ⟨rfl, rfl⟩
  by_cases h21 : k = 21
  · subst h21; go_enter Tryz.func223, Tryz.ntmps223; go_wp2; go_ret; exact ⟨rfl, rfl⟩
  have e : kindS (ovK k) = kindS 0 := by unfold ovK; rw [if_neg (by omega), if_neg (by omega)]
  rw [e]
  have b19 := nkL h19
  have b35 := nkL h35
  have b21 := nkL h21
  clear e h19 h35 h21
  go_enter Tryz.func223, Tryz.ntmps223
  go_wp2
  go_ret
  exact ⟨rfl, rfl⟩
set_option maxHeartbeats 4000000 in
theorem kindOfL_any (k : Nat) : Calls Tryz.prog 224 #[.int .i64 k] w fun e w' => e = .returned (.string (kindS (rsK k))) ∧ w' = w := by
  by_cases h21 : k = 21
  · subst h21; go_enter Tryz.func224, Tryz.ntmps224; go_wp2; go_ret; exact ⟨rfl, rfl⟩
  by_cases h22 : k = 22
  · subst h22; go_enter Tryz.func224, Tryz.ntmps224; go_wp2; go_ret; exact ⟨rfl, rfl⟩
  by_cases h23 : k = 23
  · subst h23; go_enter Tryz.func224, Tryz.ntmps224; go_wp2; go_ret; exact ⟨rfl, rfl⟩
  by_cases h39 : k = 39
  · subst h39; go_enter Tryz.func224, Tryz.ntmps224; go_wp2; go_ret; exact ⟨rfl, rfl⟩
  by_cases h24 : k = 24
  · subst h24; go_enter Tryz.func224, Tryz.ntmps224; go_wp2; go_ret; exact ⟨rfl, rfl⟩
  by_cases h40 : k = 40
  · subst h40; go_enter Tryz.func224, Tryz.ntmps224; go_wp2; go_ret; exact ⟨rfl, rfl⟩
  by_cases h25 : k = 25
  · subst h25; go_enter Tryz.func224, Tryz.ntmps224; go_wp2; go_ret; exact ⟨rfl, rfl⟩
  by_cases h41 : k = 41
  · subst h41; go_enter Tryz.func224, Tryz.ntmps224; go_wp2; go_ret; exact ⟨rfl, rfl⟩
  by_cases h26 : k = 26
  · subst h26; go_enter Tryz.func224, Tryz.ntmps224; go_wp2; go_ret; exact ⟨rfl, rfl⟩
  by_cases h27 : k = 27
  · subst h27; go_enter Tryz.func224, Tryz.ntmps224; go_wp2; go_ret; exact ⟨rfl, rfl⟩
  by_cases h37 : k = 37
  · subst h37; go_enter Tryz.func224, Tryz.ntmps224; go_wp2; go_ret; exact ⟨rfl, rfl⟩
  by_cases h28 : k = 28
  · subst h28; go_enter Tryz.func224, Tryz.ntmps224; go_wp2; go_ret; exact ⟨rfl, rfl⟩
  by_cases h38 : k = 38
  · subst h38; go_enter Tryz.func224, Tryz.ntmps224; go_wp2; go_ret; exact ⟨rfl, rfl⟩
  by_cases h1 : k = 1
  · subst h1; go_enter Tryz.func224, Tryz.ntmps224; go_wp2; go_ret; exact ⟨rfl, rfl⟩
  by_cases h4 : k = 4
  · subst h4; go_enter Tryz.func224, Tryz.ntmps224; go_wp2; go_ret; exact ⟨rfl, rfl⟩
  by_cases h2 : k = 2
  · subst h2; go_enter Tryz.func224, Tryz.ntmps224; go_wp2; go_ret; exact ⟨rfl, rfl⟩
  by_cases h5 : k = 5
  · subst h5; go_enter Tryz.func224, Tryz.ntmps224; go_wp2; go_ret; exact ⟨rfl, rfl⟩
  by_cases h3 : k = 3
  · subst h3; go_enter Tryz.func224, Tryz.ntmps224; go_wp2; go_ret; exact ⟨rfl, rfl⟩
  by_cases h6 : k = 6
  · subst h6; go_enter Tryz.func224, Tryz.ntmps224; go_wp2; go_ret; exact ⟨rfl, rfl⟩
  have e : kindS (rsK k) = kindS 3 := by unfold rsK; rw [if_neg (by omega), if_neg (by omega), if_neg (by omega), if_neg (by omega), if_neg (by omega), if_neg (by omega), if_neg (by omega), if_neg (by omega), if_neg (by omega), if_neg (by omega)]
  rw [e]
  have b21 := nkL h21
  have b22 := nkL h22
  have b23 := nkL h23
  have b39 := nkL h39
  have b24 := nkL h24
  have b40 := nkL h40
  have b25 := nkL h25
  have b41 := nkL h41
  have b26 := nkL h26
  have b27 := nkL h27
  have b37 := nkL h37
  have b28 := nkL h28
  have b38 := nkL h38
  have b1 := nkL h1
  have b4 := nkL h4
  have b2 := nkL h2
  have b5 := nkL h5
  have b3 := nkL h3
  have b6 := nkL h6
  clear e h21 h22 h23 h39 h24 h40 h25 h41 h26 h27 h37 h28 h38 h1 h4 h2 h5 h3 h6
  go_enter Tryz.func224, Tryz.ntmps224
  go_wp2
  go_ret
  exact ⟨rfl, rfl⟩
set_option maxHeartbeats 8000000 in
theorem operandsL_any (k : Nat) (s t d m : Int) : Calls Tryz.prog 222 #[.agg #[.int .i64 k, .int .i64 s, .int .i64 t, .int .i64 d, .int .u32 m]] w fun e w' => e = .returned (.tuple #[.int .i64 (oD k ⟨k, s, t, d, m⟩), .int .i64 (oA k ⟨k, s, t, d, m⟩), .int .i64 (oB k ⟨k, s, t, d, m⟩)]) ∧ Below w.heap.size w w' := by
  by_cases h1 : k = 1 ∨ k = 2 ∨ k = 3 ∨ k = 4 ∨ k = 5 ∨ k = 6 ∨ k = 35 ∨ k = 36 ∨ k = 37 ∨ k = 38 ∨ k = 39 ∨ k = 40 ∨ k = 41
  · rcases h1 with rfl | rfl | rfl | rfl | rfl | rfl | rfl | rfl | rfl | rfl | rfl | rfl | rfl <;>
      (go_enter Tryz.func222, Tryz.ntmps222
       go_wp2
       go_quiet (fail)
       go_wp2
       go_ret3
       exact ⟨rfl, bdN ((Below.refl _ _).alloc (Nat.le_refl _) _) _⟩)
  have eD : oD k ⟨k, s, t, d, m⟩ = d := by unfold oD; rw [if_neg (by omega)]
  have eA : oA k ⟨k, s, t, d, m⟩ = s := by unfold oA; rw [if_neg (by omega)]
  have eB : oB k ⟨k, s, t, d, m⟩ = t := by unfold oB; rw [if_neg (by omega), if_neg (by omega), if_neg (by omega)]
  rw [eD, eA, eB]
  have b1 := nkL (k := k) (n := 1) (by omega)
  have b2 := nkL (k := k) (n := 2) (by omega)
  have b3 := nkL (k := k) (n := 3) (by omega)
  have b4 := nkL (k := k) (n := 4) (by omega)
  have b5 := nkL (k := k) (n := 5) (by omega)
  have b6 := nkL (k := k) (n := 6) (by omega)
  have b35 := nkL (k := k) (n := 35) (by omega)
  have b36 := nkL (k := k) (n := 36) (by omega)
  have b37 := nkL (k := k) (n := 37) (by omega)
  have b38 := nkL (k := k) (n := 38) (by omega)
  have b39 := nkL (k := k) (n := 39) (by omega)
  have b40 := nkL (k := k) (n := 40) (by omega)
  have b41 := nkL (k := k) (n := 41) (by omega)
  clear eD eA eB h1
  go_enter Tryz.func222, Tryz.ntmps222
  go_wp2
  go_quiet (fail)
  go_wp2
  go_ret3
  exact ⟨rfl, bdN ((Below.refl _ _).alloc (Nat.le_refl _) _) _⟩
set_option maxHeartbeats 4000000 in
theorem targetC_any (k : Nat) (s t d m pc : Int) (m0 : 0 ≤ m) (m1 : m < 4294967296) : Calls Tryz.prog 115 #[.agg #[.int .i64 k, .int .i64 s, .int .i64 t, .int .i64 d, .int .u32 m], .int .u32 pc] w fun e w' => e = .returned (.int .u32 (tgI ⟨k, s, t, d, m⟩ pc)) ∧ Below w.heap.size w w' := by
  have hI := fun W => immC_any (w := W) k s t d m m0 m1
  by_cases h29 : k = 29
  · subst h29; go_enter Tryz.func115, Tryz.ntmps115; go_wp2; go_ret; exact ⟨rfl, (Below.refl _ _).alloc (Nat.le_refl _) _⟩
  by_cases h30 : k = 30
  · subst h30; go_enter Tryz.func115, Tryz.ntmps115; go_wp2; go_ret; exact ⟨rfl, (Below.refl _ _).alloc (Nat.le_refl _) _⟩
  have e : tgI ⟨k, s, t, d, m⟩ pc = lo (lo (pc + 4) + lo (4 * immI k m)) := by unfold tgI; rw [if_neg (by simp [Ix.n]; omega)]; rfl
  rw [e]
  have b29 := nkL h29
  have b30 := nkL h30
  clear e h29 h30
  go_enter Tryz.func115, Tryz.ntmps115
  go_wp2_with fail
  refine (hI _).mono ?_
  rintro e w1 ⟨rfl, hb⟩
  have hB : Hid (Below w.heap.size w w1) := ((Below.refl _ _).alloc (Nat.le_refl _) _).trans (hb.mono (by simp))
  clear hb hI
  go_wp2
  go_ret
  exact ⟨rfl, hB.out⟩
end
end Go.Proofs.YtflagpkmebdckaaGreatDoor.Low
