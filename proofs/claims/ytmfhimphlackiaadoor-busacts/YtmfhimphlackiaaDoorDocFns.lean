/-
  Functions of the document's answer: parts of a word, the errors of an access.
-/
import Derived.Test.YtmfhimphlackiaaDoorDocNum
import Derived.Test.YtmfhimphlackiaaDoorDocW
import Derived.BigQuiet
namespace Go.Proofs.YtmfhimphlackiaaDoor
open Go.RowKit
open Num
set_option linter.unusedVariables false
theorem part_eq (a up bits : Int) : shf 62 a up = a / pw up ∧ shf 60 1 bits = lo (1 * pw bits) := by unfold shf; simp
set_option maxHeartbeats 1000000 in
theorem part_any (a up bits : Int) (h0 : 0 ≤ a) (h1 : a < 4294967296) (g0 : 0 ≤ up) (g1 : up < 32) (b0 : 0 ≤ bits) (b1 : bits < 32) (w : World) :
    Calls Tryd.prog 49 #[.int .u32 a, .int .i64 up, .int .i64 bits] w fun e w' => e = .returned (.int .i64 (a / pw up % pw bits)) ∧ w' = w := by
  have s1 := shf_bd (k := 62) (n := up) h0 h1
  have hp := pw_bd bits
  have he := (part_eq a up bits).1
  have hf : shf 60 1 bits = pw bits := by rw [(part_eq a up bits).2, Int.one_mul]; exact lo_of (by omega) (by omega)
  rw [← hf] at hp
  have HE : Hid (shf 62 a up = a / pw up ∧ shf 60 1 bits = pw bits) := ⟨he, hf⟩
  clear he hf
  have hz : ¬ shf 60 1 bits = 0 := by omega
  go_enter Tryd.func49, Tryd.ntmps49
  go_wp2_with (go_at_call 66; refine (shiftOf_any _ _ _ (by omega) (by omega) (by omega) _).mono ?_; rintro e w' ⟨rfl, rfl⟩)
  go_ret
  exact ⟨ret_int (by rw [HE.out.1, HE.out.2]), rfl⟩
/-- an access's error, by its number -/
def rc (a s : Int) : Int := if chk a s = 1 then 3 else if chk a s = 2 then 9 else if chk a s = 3 then 10 else 0
theorem rc_eq (a s : Int) : rc a s = if s ≠ 1 ∧ s ≠ 2 ∧ s ≠ 4 then 3 else if a % s ≠ 0 then 9 else if 16384 ≤ a then 10 else 0 := by
  unfold rc chk
  split
  · rfl
  · split
    · rfl
    · split <;> rfl
set_option maxRecDepth 100000 in
set_option maxHeartbeats 1000000 in
theorem reach_any (a s : Int) (h0 : 0 ≤ a) (h1 : a < 4294967296) (s0 : -9223372036854775808 ≤ s) (s1 : s ≤ 9223372036854775807) (w : World) : Calls Tryd.prog 45 #[.int .u32 a, .int .i64 s] w fun e w' => e = .returned (.int .i64 (rc a s)) ∧ w' = w := by
  by_cases hs : s ≠ 1 ∧ s ≠ 2 ∧ s ≠ 4
  · have hr : rc a s = 3 := by rw [rc_eq, if_pos hs]
    rw [hr]
    have e1 : (s != 1) = true := by simpa using hs.1
    have e2 : (s != 2) = true := by simpa using hs.2.1
    have e4 : (s != 4) = true := by simpa using hs.2.2
    clear hr hs
    go_enter Tryd.func45, Tryd.ntmps45
    go_wp2
    go_ret
    exact ⟨rfl, rfl⟩
  · have hs' : s = 1 ∨ s = 2 ∨ s = 4 := by omega
    have hr : rc a s = if a % s ≠ 0 then 9 else if 16384 ≤ a then 10 else 0 := by rw [rc_eq, if_neg hs]
    rw [hr]
    clear hr hs
    rcases hs' with rfl | rfl | rfl
    · rw [if_neg (by omega)]
      by_cases hf : 16384 ≤ a
      · rw [if_pos hf]
        go_enter Tryd.func45, Tryd.ntmps45
        go_wp2
        go_ret
        exact ⟨rfl, rfl⟩
      · rw [if_neg hf]
        go_enter Tryd.func45, Tryd.ntmps45
        go_wp2
        go_ret
        exact ⟨rfl, rfl⟩
    · by_cases hm : a % 2 = 0
      · have em : (a % 2 != 0) = false := by simpa using hm
        rw [if_neg (by omega)]
        clear hm
        by_cases hf : 16384 ≤ a
        · rw [if_pos hf]
          go_enter Tryd.func45, Tryd.ntmps45
          go_wp2
          go_ret
          exact ⟨rfl, rfl⟩
        · rw [if_neg hf]
          go_enter Tryd.func45, Tryd.ntmps45
          go_wp2
          go_ret
          exact ⟨rfl, rfl⟩
      · have em : (a % 2 != 0) = true := by simpa using hm
        rw [if_pos hm]
        clear hm
        go_enter Tryd.func45, Tryd.ntmps45
        go_wp2
        go_ret
        exact ⟨rfl, rfl⟩
    · by_cases hm : a % 4 = 0
      · have em : (a % 4 != 0) = false := by simpa using hm
        rw [if_neg (by omega)]
        clear hm
        by_cases hf : 16384 ≤ a
        · rw [if_pos hf]
          go_enter Tryd.func45, Tryd.ntmps45
          go_wp2
          go_ret
          exact ⟨rfl, rfl⟩
        · rw [if_neg hf]
          go_enter Tryd.func45, Tryd.ntmps45
          go_wp2
          go_ret
          exact ⟨rfl, rfl⟩
      · have em : (a % 4 != 0) = true := by simpa using hm
        rw [if_pos hm]
        clear hm
        go_enter Tryd.func45, Tryd.ntmps45
        go_wp2
        go_ret
        exact ⟨rfl, rfl⟩
end Go.Proofs.YtmfhimphlackiaaDoor
