/-
  Functions of the document's answer: shifts, parts, bytes, the errors of an access.
-/
import Derived.Test.YtmfhimphlackiaaDoorDocFns
import Derived.Test.YtmfhimphlackiaaDoorBusDev
import Derived.Test.YtmfhimphlackiaaDoorBusFns
import Derived.Test.YtmfhimphlackiaaDoorDocNum
import Derived.BigQuiet
namespace Go.Proofs.YtmfhimphlackiaaDoor
open Go.RowKit
open Num
set_option linter.unusedVariables false
set_option maxRecDepth 100000 in
set_option maxHeartbeats 1000000 in
theorem devErr_any (a s : Int) (h0 : 16384 ≤ a) (h1 : a < 4294967296) (s0 : -9223372036854775808 ≤ s) (s1 : s ≤ 9223372036854775807) (w : World) : Calls Tryd.prog 57 #[.int .u32 a, .int .i64 s] w fun e w' => e = .returned (.int .i64 (if dev a s = true then 0 else rc a s)) ∧ w' = w := by
  have hre := reach_any a s (by omega) h1 s0 s1 w
  have HR : Hid (rc a s = if s ≠ 1 ∧ s ≠ 2 ∧ s ≠ 4 then 3 else if a % s ≠ 0 then 9 else if 16384 ≤ a then 10 else 0) := rc_eq a s
  by_cases hc : rc a s = 10
  · have hc' : (rc a s != 10) = false := by simpa using hc
    have hsm : (s = 1 ∨ s = 2 ∨ s = 4) ∧ a % s = 0 := by
      have := HR.out; rw [hc] at this
      split at this
      · omega
      · split at this
        · omega
        · exact ⟨by omega, by omega⟩
    rw [hc] at hre
    cases hd : dev a s with
    | true =>
      rw [if_pos rfl]
      unfold dev at hd; simp at hd
      obtain ⟨rfl, hm, h2, h3⟩ := hd
      clear hc HR hsm hm hc'
      go_enter Tryd.func57, Tryd.ntmps57
      go_wp2_with (go_at_call 45; refine hre.mono ?_; rintro e w' ⟨rfl, rfl⟩)
      go_ret
      exact ⟨rfl, rfl⟩
    | false =>
      rw [if_neg (by decide), hc]
      by_cases h4 : s = 4
      · have e4 : (s == 4) = true := by simpa using h4
        subst h4
        have hm : a % 4 = 0 := hsm.2
        unfold dev at hd; simp at hd
        have hd := hd hm
        clear hc HR hsm hc' hm
        by_cases hl : 65536 ≤ a
        · have hh : ¬ a ≤ 65548 := by have := hd hl; omega
          clear hd
          go_enter Tryd.func57, Tryd.ntmps57
          go_wp2_with (go_at_call 45; refine hre.mono ?_; rintro e w' ⟨rfl, rfl⟩)
          go_ret
          exact ⟨rfl, rfl⟩
        · clear hd
          go_enter Tryd.func57, Tryd.ntmps57
          go_wp2_with (go_at_call 45; refine hre.mono ?_; rintro e w' ⟨rfl, rfl⟩)
          go_ret
          exact ⟨rfl, rfl⟩
      · have e4 : (s == 4) = false := by simpa using h4
        clear hc HR hsm hc' hd h4
        go_enter Tryd.func57, Tryd.ntmps57
        go_wp2_with (go_at_call 45; refine hre.mono ?_; rintro e w' ⟨rfl, rfl⟩)
        go_ret
        exact ⟨rfl, rfl⟩
  · have hc' : (rc a s != 10) = true := by simpa using hc
    have hd : dev a s = false := by
      cases hd : dev a s with
      | false => rfl
      | true =>
        unfold dev at hd; simp at hd
        obtain ⟨rfl, hm, h2, h3⟩ := hd
        exact absurd (by rw [HR.out, if_neg (by omega), if_neg (by omega), if_pos h0]) hc
    rw [if_neg (by rw [hd]; decide)]
    clear HR hd hc
    generalize rc a s = r at *
    go_enter Tryd.func57, Tryd.ntmps57
    go_wp2_with (go_at_call 45; refine hre.mono ?_; rintro e w' ⟨rfl, rfl⟩)
    go_ret
    exact ⟨rfl, rfl⟩
end Go.Proofs.YtmfhimphlackiaaDoor

