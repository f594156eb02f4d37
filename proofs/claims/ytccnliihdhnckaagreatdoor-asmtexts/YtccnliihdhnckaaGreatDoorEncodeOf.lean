/-
  What the verifier's EncodeOf answers of any instruction.
-/
import Derived.Test.YtccnliihdhnckaaGreatDoorEOa
import Derived.Test.YtccnliihdhnckaaGreatDoorEOb
namespace Go.Proofs.YtccnliihdhnckaaGreatDoor
open Go.RowKit Go.Extern.Stop Go.Stop Go.Extern
open Num Tab Fm
set_option linter.unusedVariables false
theorem encodeOf_in (k : Nat) (h1 : 1 ≤ k) (hk : k < 54) (s t d m : Int) (m0 : 0 ≤ m) (m1 : m < 4294967296) (w : World) :
    Calls Tryz.prog 9 #[ins k s t d m] w fun e w' => e = .returned (encO k s t d m) ∧ Below w.heap.size w w' := by
  have hf := fit_all k hk
  have hn := sh_all k hk
  have h45 := sh_45 k hk
  have hm := mn_0 k hk
  unfold fitB at hf
  obtain ⟨n, hsh⟩ : ∃ n, sh k = n := ⟨_, rfl⟩
  rw [hsh] at hf hn h45 hm
  have hc : n = 0 ∨ n = 1 ∨ n = 2 ∨ n = 3 ∨ n = 4 ∨ n = 5 ∨ n = 6 ∨ n = 7 ∨ n = 8 ∨ n = 9 ∨ n = 10 ∨ n = 11 := by omega
  clear hn
  rcases hc with rfl | rfl | rfl | rfl | rfl | rfl | rfl | rfl | rfl | rfl | rfl | rfl
  · by_cases e45 : k = 45
    · simp [hasI, hasJ, lt, ltL, e45] at hf
      subst e45
      exact encodeOf_e 45 h1 hk hsh hf.1 hf.2.2.2.1 hf.2.2.2.2 s t d m m0 m1 w
    · simp [hasI, hasJ, lt, ltL, e45] at hf
      exact encodeOf_0 k h1 hk hsh hf.1 hf.2.1 hf.2.2.1 hf.2.2.2 s t d m m0 m1 w
  · have e45 : ¬ k = 45 := fun e => by have := h45 e; omega
    simp [hasI, hasJ, lt, ltL, e45] at hf
    exact encodeOf_1 k h1 hk hsh hf.1 hf.2.1 hf.2.2.1 hf.2.2.2 s t d m m0 m1 w
  · have e45 : ¬ k = 45 := fun e => by have := h45 e; omega
    simp [hasI, hasJ, lt, ltL, e45] at hf
    exact encodeOf_2 k h1 hk hsh hf.1 hf.2.1 hf.2.2.1 hf.2.2.2 s t d m m0 m1 w
  · have e45 : ¬ k = 45 := fun e => by have := h45 e; omega
    simp [hasI, hasJ, lt, ltL, e45] at hf
    exact encodeOf_3 k h1 hk hsh hf.1 hf.2.1 hf.2.2.1 hf.2.2.2 s t d m m0 m1 w
  · have e45 : ¬ k = 45 := fun e => by have := h45 e; omega
    simp [hasI, hasJ, lt, ltL, e45] at hf
    exact encodeOf_4 k h1 hk hsh hf.1 hf.2.1 hf.2.2.1 hf.2.2.2 s t d m m0 m1 w
  · have e45 : ¬ k = 45 := fun e => by have := h45 e; omega
    simp [hasI, hasJ, lt, ltL, e45] at hf
    exact encodeOf_5 k h1 hk hsh hf.1 hf.2.1 hf.2.2.1 hf.2.2.2 s t d m m0 m1 w
  · have e45 : ¬ k = 45 := fun e => by have := h45 e; omega
    simp [hasI, hasJ, lt, ltL, e45] at hf
    exact encodeOf_6 k h1 hk hsh hf.1 hf.2.1 hf.2.2.1 hf.2.2.2 s t d m m0 m1 w
  · have hN : mn k = 0 := hm (by decide)
    simp [hasI, hasJ, lt, ltL] at hf
    exact encodeOf_7 k h1 hk hsh hf.2.1 hf.2.2.1 hf.2.2.2 hN hf.1 s t d m m0 m1 w
  · have hN : mn k = 0 := hm (by decide)
    simp [hasI, hasJ, lt, ltL] at hf
    exact encodeOf_8 k h1 hk hsh hf.2.1 hf.2.2.1 hf.2.2.2 hN hf.1 s t d m m0 m1 w
  · have hN : mn k = 0 := hm (by decide)
    simp [hasI, hasJ, lt, ltL] at hf
    exact encodeOf_9 k h1 hk hsh hf.2.1 hf.2.2.1 hf.2.2.2 hN hf.1 s t d m m0 m1 w
  · have hN : mn k = 0 := hm (by decide)
    simp [hasI, hasJ, lt, ltL] at hf
    exact encodeOf_10 k h1 hk hsh hf.2.1 hf.2.2.1 hf.2.2.2 hN hf.1 s t d m m0 m1 w
  · have e45 : ¬ k = 45 := fun e => by have := h45 e; omega
    simp [hasI, hasJ, lt, ltL, e45] at hf
    exact encodeOf_11 k h1 hk hsh hf.1 hf.2.1 hf.2.2.1 hf.2.2.2.1 hf.2.2.2.2 s t d m m0 m1 w
set_option maxHeartbeats 1000000 in
theorem encodeOf_out (o s t d m : Int) (ho : ¬ (0 < o ∧ o < 54)) (w : World) :
    Calls Tryz.prog 9 #[ins o s t d m] w fun e w' => e = .returned (.tuple #[.int .u32 0, .int .i64 4]) ∧ Below w.heap.size w w' := by
  by_cases h : o < 1
  · go_enter Tryz.func9, Tryz.ntmps9
    go_wp2
    go_ret2
    exact ⟨rfl, (Below.refl _ _).alloc (Nat.le_refl _) _⟩
  · have h' : 1 ≤ o := by omega
    have h2 : 54 ≤ o := by omega
    go_enter Tryz.func9, Tryz.ntmps9
    go_wp2
    go_ret2
    exact ⟨rfl, (Below.refl _ _).alloc (Nat.le_refl _) _⟩
end Go.Proofs.YtccnliihdhnckaaGreatDoor
