/-
  The document's answer's numerals: Byte, below, Decimal, register.
-/
import Derived.Test.YtccnliihdhnckaaGreatDoorText
namespace Go.Proofs.YtccnliihdhnckaaGreatDoor
open Go.RowKit Go.Shelf Go.Joins
open Num Tab Fm Txt
set_option linter.unusedVariables false
set_option maxHeartbeats 1000000 in
set_option maxRecDepth 100000 in
theorem byte_any (c : UInt8) (w : World) :
    Calls Tryz.prog 81 #[.int .i64 c.toNat] w fun e w' => e = .returned (.string ⟨[c].toArray⟩) ∧ Below w.heap.size w w' := by
  have h0 : (0 : Int) ≤ c.toNat := by omega
  have h1 : (c.toNat : Int) < 256 := by have := c.toNat_lt; omega
  have hc : (convert 133 9 (.slice (some ⟨w.heap.size, 0, none⟩) 1 1)).run Tryz.prog (w.alloc (.cells #[.int .u8 (c.toNat : Int)] 5)) = .ok (.string ⟨[c].toArray⟩) (w.alloc (.cells #[.int .u8 (c.toNat : Int)] 5)) :=
    run_convert_bytes_back (P := Tryz.prog) _ 133 9 5 ⟨w.heap.size, 0, none⟩ 1 [c] Tryz.underlying133 Tryz.underlying5 Tryz.underlying9 (fun j hj => by
      obtain rfl : j = 0 := by simpa using hj
      simp [Addr.add])
  generalize (c.toNat : Int) = n at *
  go_enter Tryz.func81, Tryz.ntmps81
  go_wp2
  go_ret
  exact ⟨rfl, (Below.refl _ _).alloc (Nat.le_refl _) _⟩
theorem dec_step (u : Nat) (h : ¬ u < 10) : Lib.decDigits u = Lib.decDigits (u / 10) ++ [UInt8.ofNat (48 + u % 10)] := by rw [Lib.decDigits, dif_neg h]
theorem below_len (u : Nat) (h : u ≤ 9223372036854775807) : (Lib.decDigits u).length ≤ 20 := by
  have := nDigits_le 19 u (by omega)
  rw [Lib.decDigits_length]; omega
set_option maxRecDepth 100000 in
set_option maxHeartbeats 1000000 in
theorem below_any (u : Nat) (hu : u ≤ 9223372036854775807) (w : World) :
    Calls Tryz.prog 57 #[.int .i64 (-(u : Int))] w fun e w' => e = .returned (.string ⟨(Lib.decDigits u).toArray⟩) ∧ Below w.heap.size w w' := by
  induction u using Nat.strongRecOn generalizing w with
  | ind u ih =>
    by_cases h : u < 10
    · have h1 : -10 < -(u : Int) := by omega
      have e : (48 : Int) + (u : Int) = (UInt8.ofNat (48 + u)).toNat := by rw [ofNat_dig u h]; omega
      have hd := Lib.decDigits_one h
      rw [hd]
      have hb := byte_any (UInt8.ofNat (48 + u)) w
      rw [← e] at hb
      clear e ih hd
      generalize UInt8.ofNat (48 + u) = c at *
      go_enter Tryz.func57, Tryz.ntmps57
      go_wp2_with (go_at_call 81; refine hb.mono ?_; rintro e w1 ⟨rfl, hb1⟩)
      go_ret
      exact ⟨rfl, hb1⟩
    · have h1 : ¬ -10 < -(u : Int) := by omega
      obtain ⟨q, hqv⟩ : ∃ q, q = u / 10 := ⟨_, rfl⟩
      obtain ⟨r, hrv⟩ : ∃ r, r = u % 10 := ⟨_, rfl⟩
      have hq : (-(u : Int)).tdiv 10 = -(q : Int) := by rw [Int.neg_tdiv, hqv]; rfl
      have hr : (-(u : Int)).tmod 10 = -(r : Int) := by rw [Int.neg_tmod, hrv]; rfl
      have hr10 : r < 10 := by omega
      have IH := ih q (by omega) (by omega) w
      have HD : Hid (Lib.decDigits u = Lib.decDigits q ++ [UInt8.ofNat (48 + r)]) := by show Lib.decDigits u = _; rw [hqv, hrv]; exact dec_step u h
      have e : (48 : Int) + (r : Int) = (UInt8.ofNat (48 + r)).toNat := by rw [ofNat_dig r hr10]; omega
      have hb := fun w => byte_any (UInt8.ofNat (48 + r)) w
      rw [← e] at hb
      have hadd := run_add (Lib.decDigits q) [UInt8.ofNat (48 + r)] (by have := below_len q (by omega); simp; omega)
      have hq1 : (q : Int) ≤ 9223372036854775807 := by omega
      have hr1 : (r : Int) < 10 := by omega
      clear e ih hqv hrv
      generalize UInt8.ofNat (48 + r) = c at *
      generalize Lib.decDigits q = dq at *
      go_enter Tryz.func57, Tryz.ntmps57
      go_wp2_with (first | (go_at_call 57; refine IH.mono ?_; rintro e w1 ⟨rfl, hb1⟩) | (go_at_call 81; refine (hb _).mono ?_; rintro e w2 ⟨rfl, hb2⟩))
      go_ret
      refine ⟨?_, hb1.trans (hb2.mono hb1.size)⟩
      rw [HD.out]; rfl
set_option maxRecDepth 100000 in
set_option maxHeartbeats 1000000 in
theorem decimal_any (n : Int) (h0 : -9223372036854775807 ≤ n) (h1 : n ≤ 9223372036854775807) (w : World) :
    Calls Tryz.prog 21 #[.int .i64 n] w fun e w' => e = .returned (.string ⟨(Lib.itoa n).toArray⟩) ∧ Below w.heap.size w w' := by
  rcases int_cases n with ⟨u, rfl⟩ | ⟨u, hu, rfl⟩
  · have hb := below_any u (by omega) w
    rw [itoa_pos]
    have hn : ¬ (u : Int) < 0 := by omega
    generalize Lib.decDigits u = x at *
    go_enter Tryz.func21, Tryz.ntmps21
    go_wp2_with (go_at_call 57; refine hb.mono ?_; rintro e w1 ⟨rfl, hb1⟩)
    go_ret
    exact ⟨rfl, hb1⟩
  · have hb := below_any u (by omega) w
    rw [itoa_min u hu]
    have hn : -(u : Int) < 0 := by omega
    have hadd := run_add [45] (Lib.decDigits u) (by have := below_len u (by omega); simp; omega)
    generalize Lib.decDigits u = x at *
    go_enter Tryz.func21, Tryz.ntmps21
    go_wp2_with (go_at_call 57; refine hb.mono ?_; rintro e w1 ⟨rfl, hb1⟩)
    go_ret
    exact ⟨rfl, hb1⟩
set_option maxRecDepth 100000 in
set_option maxHeartbeats 1000000 in
theorem regT_any (n : Int) (h0 : -9223372036854775807 ≤ n) (h1 : n ≤ 9223372036854775807) (w : World) :
    Calls Tryz.prog 38 #[.int .i64 n] w fun e w' => e = .returned (.string ⟨(36 :: Lib.itoa n).toArray⟩) ∧ Below w.heap.size w w' := by
  have hb := decimal_any n h0 h1 w
  have hadd := run_add [36] (Lib.itoa n) (by have := Lib.itoa_length_le n (by omega) h1; simp; omega)
  generalize Lib.itoa n = x at *
  go_enter Tryz.func38, Tryz.ntmps38
  go_wp2_with (go_at_call 21; refine hb.mono ?_; rintro e w1 ⟨rfl, hb1⟩)
  go_ret
  exact ⟨rfl, hb1⟩
end Go.Proofs.YtccnliihdhnckaaGreatDoor
