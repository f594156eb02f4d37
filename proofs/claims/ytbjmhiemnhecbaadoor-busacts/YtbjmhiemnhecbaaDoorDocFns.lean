/-
  Functions of the document's answer: shifts, parts, bytes, the errors of an access.
-/
import Derived.Test.YtbjmhiemnhecbaaDoorBusFns
import Derived.Test.YtbjmhiemnhecbaaDoorDocNum
import Derived.BigQuiet
namespace Go.Proofs.YtbjmhiemnhecbaaDoor
open Go.RowKit
open Num
set_option linter.unusedVariables false
set_option maxHeartbeats 1000000 in
theorem signed_any (a : Int) (h0 : 0 ≤ a) (h1 : a < 4294967296) (w : World) :
    Calls Tryd.prog 61 #[.int .u32 a] w fun e w' => e = .returned (.int .i64 (sg a)) ∧ w' = w := by
  by_cases h : 2147483648 ≤ a
  · go_enter Tryd.func61, Tryd.ntmps61
    go_wp2
    go_ret
    exact ⟨ret_int (by unfold sg; rw [if_neg (by omega)]), rfl⟩
  · go_enter Tryd.func61, Tryd.ntmps61
    go_wp2
    go_ret
    exact ⟨ret_int (by unfold sg; rw [if_pos (by omega)]), rfl⟩
set_option maxHeartbeats 2000000 in
theorem shiftOf_any (k a n : Int) (h0 : 0 ≤ a) (h1 : a < 4294967296) (g0 : 0 ≤ n) (w : World) :
    Calls Tryd.prog 50 #[.int .u8 k, .int .u32 a, .int .u32 n] w fun e w' => e = .returned (.int .u32 (shf k a n)) ∧ w' = w := by
  have ha := sg_bd h0 h1
  go_enter Tryd.func50, Tryd.ntmps50
  go_wp2
  go_loop [7, 8] (fun y i => ∃ j : Nat, (j : Int) ≤ n % 32 ∧ i = .int .u32 j ∧ y = .int .i64 (2 ^ j)) (fun _ i => 32 - (intOf i).toNat)
  case atStart => exact ⟨0, by simp; omega, rfl, rfl⟩
  case round =>
    obtain ⟨j, hj, rfl, rfl⟩ := hrel
    have hp := two_le (k := j) (by omega)
    by_cases hlt : (j : Int) < n % 32
    · go_wp2
      go_round
      case rel => exact ⟨j + 1, by omega, by go_num, by rw [Int.pow_succ]; go_num⟩
      case measure => simp [intOf]; omega
    · have hj' : j = (n % 32).toNat := by omega
      have hpw : Hid (pw n = 2 ^ j) := by rw [hj']; exact rfl
      have hd := p_div (k := j) (by omega)
      have hs := shl_of a (2 ^ j) hp.1 hd.1 hd.2
      obtain ⟨s0, s1, s2, s3, s4⟩ := hs
      have hs4 : Hid (a % (4294967296 / 2 ^ j) * 2 ^ j = lo (a * 2 ^ j)) := s4
      obtain ⟨hd1, hd2⟩ := hd
      clear s4 hj' hd1
      have e1 := ediv_bd (d := 2 ^ j) h0 hp.1
      by_cases k1 : k = 60
      · subst k1
        go_wp2_with (go_at_call 40; refine (word_any _ (by omega) (by omega) _).mono ?_; rintro e w' ⟨rfl, rfl⟩)
        go_ret
        exact ⟨ret_int (by rw [hs4.out, ← hpw.out]; unfold shf; rw [if_pos rfl]; exact lo_of (lo_bd _).1 (lo_bd _).2), rfl⟩
      by_cases k2 : k = 62
      · subst k2
        go_wp2_with (go_at_call 40; refine (word_any _ (by omega) (by omega) _).mono ?_; rintro e w' ⟨rfl, rfl⟩)
        go_ret
        exact ⟨ret_int (by rw [lo_of e1.1 (by omega), ← hpw.out]; unfold shf; rw [if_neg (by decide), if_pos rfl]), rfl⟩
      by_cases k3 : k = 126
      · subst k3
        have fin : shf 126 a n = lo (sg a / 2 ^ j) := by unfold shf; rw [if_neg (by decide), if_neg (by decide), if_pos rfl, hpw.out]
        have hfin : Hid (shf 126 a n = lo (sg a / 2 ^ j)) := fin
        clear fin
        by_cases hn : sg a < 0
        · obtain ⟨dn, de⟩ := down (sg a) (2 ^ j) hn ha.1 hp.1
          have hde : Hid (sg a / 2 ^ j = if (sg a).tmod (2 ^ j) = 0 then (sg a).tdiv (2 ^ j) else (sg a).tdiv (2 ^ j) - 1) := de
          clear de
          by_cases hr : (sg a).tmod (2 ^ j) = 0
          · go_wp2_with (first | (go_at_call 61; refine (signed_any _ (by omega) (by omega) _).mono ?_; rintro e w' ⟨rfl, rfl⟩) | (go_at_call 40; refine (word_any _ (by omega) (by omega) _).mono ?_; rintro e w' ⟨rfl, rfl⟩))
            go_ret
            exact ⟨ret_int (by rw [hfin.out, hde.out, if_pos hr]), rfl⟩
          · go_wp2_with (first | (go_at_call 61; refine (signed_any _ (by omega) (by omega) _).mono ?_; rintro e w' ⟨rfl, rfl⟩) | (go_at_call 40; refine (word_any _ (by omega) (by omega) _).mono ?_; rintro e w' ⟨rfl, rfl⟩))
            go_ret
            exact ⟨ret_int (by rw [hfin.out, hde.out, if_neg hr]), rfl⟩
        · have e2 := ediv_bd (d := 2 ^ j) (show 0 ≤ sg a by omega) hp.1
          go_wp2_with (first | (go_at_call 61; refine (signed_any _ (by omega) (by omega) _).mono ?_; rintro e w' ⟨rfl, rfl⟩) | (go_at_call 40; refine (word_any _ (by omega) (by omega) _).mono ?_; rintro e w' ⟨rfl, rfl⟩))
          go_ret
          exact ⟨ret_int (by rw [hfin.out]), rfl⟩
      have f1 : (k == 60) = false := by simpa using k1
      have f2 : (k == 62) = false := by simpa using k2
      have f3 : (k == 126) = false := by simpa using k3
      have e' : shf k a n = a := by unfold shf; rw [if_neg k1, if_neg k2, if_neg k3]
      have e : Hid (shf k a n = a) := e'
      clear e' k1 k2 k3
      go_wp2
      go_ret
      exact ⟨ret_int e.out.symm, rfl⟩
theorem part_eq (a up bits : Int) : shf 62 a up = a / pw up ∧ shf 60 1 bits = lo (1 * pw bits) := by unfold shf; simp
set_option maxHeartbeats 1000000 in
theorem part_any (a up bits : Int) (h0 : 0 ≤ a) (h1 : a < 4294967296) (g0 : 0 ≤ up) (g1 : up < 32) (b0 : 0 ≤ bits) (b1 : bits < 32) (w : World) :
    Calls Tryd.prog 38 #[.int .u32 a, .int .i64 up, .int .i64 bits] w fun e w' => e = .returned (.int .i64 (a / pw up % pw bits)) ∧ w' = w := by
  have s1 := shf_bd (k := 62) (n := up) h0 h1
  have hp := pw_bd bits
  have he := (part_eq a up bits).1
  have hf : shf 60 1 bits = pw bits := by rw [(part_eq a up bits).2, Int.one_mul]; exact lo_of (by omega) (by omega)
  rw [← hf] at hp
  have HE : Hid (shf 62 a up = a / pw up ∧ shf 60 1 bits = pw bits) := ⟨he, hf⟩
  clear he hf
  have hz : ¬ shf 60 1 bits = 0 := by omega
  go_enter Tryd.func38, Tryd.ntmps38
  go_wp2_with (go_at_call 50; refine (shiftOf_any _ _ _ (by omega) (by omega) (by omega) _).mono ?_; rintro e w' ⟨rfl, rfl⟩)
  go_ret
  exact ⟨ret_int (by rw [HE.out.1, HE.out.2]), rfl⟩
/-- an access's error, by its number -/
def rc (a s : Int) : Int := if chk a s = 1 then 3 else if chk a s = 2 then 9 else if chk a s = 3 then 10 else 0
theorem rc_eq (a s : Int) : rc a s = if s ≠ 1 ∧ s ≠ 2 ∧ s ≠ 4 then 3 else if a % s ≠ 0 then 9 else if 16384 ≤ a then 10 else 0 := by
  unfold rc chk
  split
  · rfl
  · split
    · rfl
    · split <;> rfl
set_option maxRecDepth 100000 in
set_option maxHeartbeats 1000000 in
theorem reach_any (a s : Int) (h0 : 0 ≤ a) (h1 : a < 4294967296) (s0 : -9223372036854775808 ≤ s) (s1 : s ≤ 9223372036854775807) (w : World) : Calls Tryd.prog 48 #[.int .u32 a, .int .i64 s] w fun e w' => e = .returned (.int .i64 (rc a s)) ∧ w' = w := by
  by_cases hs : s ≠ 1 ∧ s ≠ 2 ∧ s ≠ 4
  · have hr : rc a s = 3 := by rw [rc_eq, if_pos hs]
    rw [hr]
    have e1 : (s != 1) = true := by simpa using hs.1
    have e2 : (s != 2) = true := by simpa using hs.2.1
    have e4 : (s != 4) = true := by simpa using hs.2.2
    clear hr hs
    go_enter Tryd.func48, Tryd.ntmps48
    go_wp2
    go_ret
    exact ⟨rfl, rfl⟩
  · have hs' : s = 1 ∨ s = 2 ∨ s = 4 := by omega
    have hr : rc a s = if a % s ≠ 0 then 9 else if 16384 ≤ a then 10 else 0 := by rw [rc_eq, if_neg hs]
    rw [hr]
    clear hr hs
    rcases hs' with rfl | rfl | rfl
    · rw [if_neg (by omega)]
      by_cases hf : 16384 ≤ a
      · rw [if_pos hf]
        go_enter Tryd.func48, Tryd.ntmps48
        go_wp2
        go_ret
        exact ⟨rfl, rfl⟩
      · rw [if_neg hf]
        go_enter Tryd.func48, Tryd.ntmps48
        go_wp2
        go_ret
        exact ⟨rfl, rfl⟩
    · by_cases hm : a % 2 = 0
      · have em : (a % 2 != 0) = false := by simpa using hm
        rw [if_neg (by omega)]
        clear hm
        by_cases hf : 16384 ≤ a
        · rw [if_pos hf]
          go_enter Tryd.func48, Tryd.ntmps48
          go_wp2
          go_ret
          exact ⟨rfl, rfl⟩
        · rw [if_neg hf]
          go_enter Tryd.func48, Tryd.ntmps48
          go_wp2
          go_ret
          exact ⟨rfl, rfl⟩
      · have em : (a % 2 != 0) = true := by simpa using hm
        rw [if_pos hm]
        clear hm
        go_enter Tryd.func48, Tryd.ntmps48
        go_wp2
        go_ret
        exact ⟨rfl, rfl⟩
    · by_cases hm : a % 4 = 0
      · have em : (a % 4 != 0) = false := by simpa using hm
        rw [if_neg (by omega)]
        clear hm
        by_cases hf : 16384 ≤ a
        · rw [if_pos hf]
          go_enter Tryd.func48, Tryd.ntmps48
          go_wp2
          go_ret
          exact ⟨rfl, rfl⟩
        · rw [if_neg hf]
          go_enter Tryd.func48, Tryd.ntmps48
          go_wp2
          go_ret
          exact ⟨rfl, rfl⟩
      · have em : (a % 4 != 0) = true := by simpa using hm
        rw [if_pos hm]
        clear hm
        go_enter Tryd.func48, Tryd.ntmps48
        go_wp2
        go_ret
        exact ⟨rfl, rfl⟩
set_option maxRecDepth 100000 in
set_option maxHeartbeats 1000000 in
theorem devErr_any (a s : Int) (h0 : 16384 ≤ a) (h1 : a < 4294967296) (s0 : -9223372036854775808 ≤ s) (s1 : s ≤ 9223372036854775807) (w : World) : Calls Tryd.prog 36 #[.int .u32 a, .int .i64 s] w fun e w' => e = .returned (.int .i64 (if dev a s = true then 0 else rc a s)) ∧ w' = w := by
  have hre := reach_any a s (by omega) h1 s0 s1 w
  have HR : Hid (rc a s = if s ≠ 1 ∧ s ≠ 2 ∧ s ≠ 4 then 3 else if a % s ≠ 0 then 9 else if 16384 ≤ a then 10 else 0) := rc_eq a s
  by_cases hc : rc a s = 10
  · have hc' : (rc a s != 10) = false := by simpa using hc
    have hsm : (s = 1 ∨ s = 2 ∨ s = 4) ∧ a % s = 0 := by
      have := HR.out; rw [hc] at this
      split at this
      · omega
      · split at this
        · omega
        · exact ⟨by omega, by omega⟩
    rw [hc] at hre
    cases hd : dev a s with
    | true =>
      rw [if_pos rfl]
      unfold dev at hd; simp at hd
      obtain ⟨rfl, hm, h2, h3⟩ := hd
      clear hc HR hsm hm hc'
      go_enter Tryd.func36, Tryd.ntmps36
      go_wp2_with (go_at_call 48; refine hre.mono ?_; rintro e w' ⟨rfl, rfl⟩)
      go_ret
      exact ⟨rfl, rfl⟩
    | false =>
      rw [if_neg (by decide), hc]
      by_cases h4 : s = 4
      · have e4 : (s == 4) = true := by simpa using h4
        subst h4
        have hm : a % 4 = 0 := hsm.2
        unfold dev at hd; simp at hd
        have hd := hd hm
        clear hc HR hsm hc' hm
        by_cases hl : 65536 ≤ a
        · have hh : ¬ a ≤ 65548 := by have := hd hl; omega
          clear hd
          go_enter Tryd.func36, Tryd.ntmps36
          go_wp2_with (go_at_call 48; refine hre.mono ?_; rintro e w' ⟨rfl, rfl⟩)
          go_ret
          exact ⟨rfl, rfl⟩
        · clear hd
          go_enter Tryd.func36, Tryd.ntmps36
          go_wp2_with (go_at_call 48; refine hre.mono ?_; rintro e w' ⟨rfl, rfl⟩)
          go_ret
          exact ⟨rfl, rfl⟩
      · have e4 : (s == 4) = false := by simpa using h4
        clear hc HR hsm hc' hd h4
        go_enter Tryd.func36, Tryd.ntmps36
        go_wp2_with (go_at_call 48; refine hre.mono ?_; rintro e w' ⟨rfl, rfl⟩)
        go_ret
        exact ⟨rfl, rfl⟩
  · have hc' : (rc a s != 10) = true := by simpa using hc
    have hd : dev a s = false := by
      cases hd : dev a s with
      | false => rfl
      | true =>
        unfold dev at hd; simp at hd
        obtain ⟨rfl, hm, h2, h3⟩ := hd
        exact absurd (by rw [HR.out, if_neg (by omega), if_neg (by omega), if_pos h0]) hc
    rw [if_neg (by rw [hd]; decide)]
    clear HR hd hc
    generalize rc a s = r at *
    go_enter Tryd.func36, Tryd.ntmps36
    go_wp2_with (go_at_call 48; refine hre.mono ?_; rintro e w' ⟨rfl, rfl⟩)
    go_ret
    exact ⟨rfl, rfl⟩
end Go.Proofs.YtbjmhiemnhecbaaDoor
