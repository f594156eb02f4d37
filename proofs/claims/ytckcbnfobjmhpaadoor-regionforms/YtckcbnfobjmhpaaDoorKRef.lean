/-
  Functions of the document that the seat D has not: Signed, Word, ShiftOf, IsOf, Part.
-/
import Derived.Test.YtckcbnfobjmhpaaDoorKFns2
namespace Go.Proofs.YtckcbnfobjmhpaaDoor.K
open Go.RowKit
open Num Tab
set_option linter.unusedVariables false
set_option maxHeartbeats 1000000 in
theorem signed_any (a : Int) (h0 : 0 ≤ a) (h1 : a < 4294967296) (w : World) :
    Calls Tryd.prog 113 #[.int .u32 a] w fun e w' => e = .returned (.int .i64 (sg a)) ∧ w' = w := by
  by_cases h : 2147483648 ≤ a
  · go_enter Tryd.func113, Tryd.ntmps113
    go_wp2
    go_ret
    exact ⟨ret_int (by unfold sg; rw [if_neg (by omega)]), rfl⟩
  · go_enter Tryd.func113, Tryd.ntmps113
    go_wp2
    go_ret
    exact ⟨ret_int (by unfold sg; rw [if_pos (by omega)]), rfl⟩
set_option maxHeartbeats 1000000 in
theorem word_any (n : Int) (h0 : -9223372036854775808 ≤ n) (h1 : n ≤ 9223372036854775807) (w : World) :
    Calls Tryd.prog 112 #[.int .i64 n] w fun e w' => e = .returned (.int .u32 (lo n)) ∧ w' = w := by
  have ht := tm n
  have he : Hid (n = 4294967296 * n.tdiv 4294967296 + n.tmod 4294967296) := ht.1
  obtain ⟨hx, ht1, ht2⟩ := ht
  clear hx
  by_cases hn : n.tmod 4294967296 < 0
  · go_enter Tryd.func112, Tryd.ntmps112
    go_wp2
    go_ret
    exact ⟨ret_int (by have := he.out; unfold lo; omega), rfl⟩
  · go_enter Tryd.func112, Tryd.ntmps112
    go_wp2
    go_ret
    exact ⟨ret_int (by have := he.out; unfold lo; omega), rfl⟩
set_option maxHeartbeats 2000000 in
theorem shiftOf_any (k a n : Int) (h0 : 0 ≤ a) (h1 : a < 4294967296) (g0 : 0 ≤ n) (w : World) :
    Calls Tryd.prog 97 #[.int .u8 k, .int .u32 a, .int .u32 n] w fun e w' => e = .returned (.int .u32 (shf k a n)) ∧ w' = w := by
  have ha := sg_bd h0 h1
  go_enter Tryd.func97, Tryd.ntmps97
  go_wp2
  go_loop [7, 8] (fun y i => ∃ j : Nat, (j : Int) ≤ n % 32 ∧ i = .int .u32 j ∧ y = .int .i64 (2 ^ j)) (fun _ i => 32 - (intOf i).toNat)
  case atStart => exact ⟨0, by simp; omega, rfl, rfl⟩
  case round =>
    obtain ⟨j, hj, rfl, rfl⟩ := hrel
    have hp := two_le (k := j) (by omega)
    by_cases hlt : (j : Int) < n % 32
    · go_wp2
      go_round
      case rel => exact ⟨j + 1, by omega, by go_num, by rw [Int.pow_succ]; go_num⟩
      case measure => simp [intOf]; omega
    · have hj' : j = (n % 32).toNat := by omega
      have hpw : Hid (pw n = 2 ^ j) := by rw [hj']; exact rfl
      have hd := p_div (k := j) (by omega)
      have hs := shl_of a (2 ^ j) hp.1 hd.1 hd.2
      obtain ⟨s0, s1, s2, s3, s4⟩ := hs
      have hs4 : Hid (a % (4294967296 / 2 ^ j) * 2 ^ j = lo (a * 2 ^ j)) := s4
      obtain ⟨hd1, hd2⟩ := hd
      clear s4 hj' hd1
      have e1 := ediv_bd (d := 2 ^ j) h0 hp.1
      by_cases k1 : k = 60
      · subst k1
        go_wp2_with (go_at_call 112; refine (word_any _ (by omega) (by omega) _).mono ?_; rintro e w' ⟨rfl, rfl⟩)
        go_ret
        exact ⟨ret_int (by rw [hs4.out, ← hpw.out]; unfold shf; rw [if_pos rfl]; exact lo_of (lo_bd _).1 (lo_bd _).2), rfl⟩
      by_cases k2 : k = 62
      · subst k2
        go_wp2_with (go_at_call 112; refine (word_any _ (by omega) (by omega) _).mono ?_; rintro e w' ⟨rfl, rfl⟩)
        go_ret
        exact ⟨ret_int (by rw [lo_of e1.1 (by omega), ← hpw.out]; unfold shf; rw [if_neg (by decide), if_pos rfl]), rfl⟩
      by_cases k3 : k = 126
      · subst k3
        have fin : shf 126 a n = lo (sg a / 2 ^ j) := by unfold shf; rw [if_neg (by decide), if_neg (by decide), if_pos rfl, hpw.out]
        have hfin : Hid (shf 126 a n = lo (sg a / 2 ^ j)) := fin
        clear fin
        by_cases hn : sg a < 0
        · obtain ⟨dn, de⟩ := down (sg a) (2 ^ j) hn ha.1 hp.1
          have hde : Hid (sg a / 2 ^ j = if (sg a).tmod (2 ^ j) = 0 then (sg a).tdiv (2 ^ j) else (sg a).tdiv (2 ^ j) - 1) := de
          clear de
          by_cases hr : (sg a).tmod (2 ^ j) = 0
          · go_wp2_with (first | (go_at_call 113; refine (signed_any _ (by omega) (by omega) _).mono ?_; rintro e w' ⟨rfl, rfl⟩) | (go_at_call 112; refine (word_any _ (by omega) (by omega) _).mono ?_; rintro e w' ⟨rfl, rfl⟩))
            go_ret
            exact ⟨ret_int (by rw [hfin.out, hde.out, if_pos hr]), rfl⟩
          · go_wp2_with (first | (go_at_call 113; refine (signed_any _ (by omega) (by omega) _).mono ?_; rintro e w' ⟨rfl, rfl⟩) | (go_at_call 112; refine (word_any _ (by omega) (by omega) _).mono ?_; rintro e w' ⟨rfl, rfl⟩))
            go_ret
            exact ⟨ret_int (by rw [hfin.out, hde.out, if_neg hr]), rfl⟩
        · have e2 := ediv_bd (d := 2 ^ j) (show 0 ≤ sg a by omega) hp.1
          go_wp2_with (first | (go_at_call 113; refine (signed_any _ (by omega) (by omega) _).mono ?_; rintro e w' ⟨rfl, rfl⟩) | (go_at_call 112; refine (word_any _ (by omega) (by omega) _).mono ?_; rintro e w' ⟨rfl, rfl⟩))
          go_ret
          exact ⟨ret_int (by rw [hfin.out]), rfl⟩
      have f1 : (k == 60) = false := by simpa using k1
      have f2 : (k == 62) = false := by simpa using k2
      have f3 : (k == 126) = false := by simpa using k3
      have e' : shf k a n = a := by unfold shf; rw [if_neg k1, if_neg k2, if_neg k3]
      have e : Hid (shf k a n = a) := e'
      clear e' k1 k2 k3
      go_wp2
      go_ret
      exact ⟨ret_int e.out.symm, rfl⟩
set_option maxHeartbeats 1000000 in
theorem isOf_any (l : List UInt8) (c : Int) (hl : l.length ≤ 10) (w : World) : Calls Tryd.prog 73 #[.string ⟨l.toArray⟩, .int .u8 c] w fun e w' => e = .returned (.bool (hasB l c)) ∧ w' = w := by
  have hz : (ByteArray.mk l.toArray).size = l.length := by simp [ByteArray.size]
  go_enter Tryd.func73, Tryd.ntmps73
  go_wp2
  go_loop [5] (fun i => ∃ k : Nat, k ≤ l.length ∧ i = .int .i64 k ∧ hasB (l.take k) c = false) (fun i => l.length - (intOf i).toNat)
  case atStart => exact ⟨0, Nat.zero_le _, rfl, rfl⟩
  case round =>
    obtain ⟨k, hk, rfl, hb⟩ := hrel
    have HB : Hid (hasB (l.take k) c = false) := hb
    clear hb
    by_cases hlt : k < l.length
    · have ht := hasB_take l c k hlt
      have HT : Hid (hasB (l.take (k + 1)) c = (hasB (l.take k) c || ((l[k].toNat : Int) == c))) := ht
      clear ht
      have hge : ∀ h, (ByteArray.mk l.toArray)[k]'h = l[k] := fun h => rfl
      by_cases he : ((l[k].toNat : Int) == c) = true
      · have hy : Hid (hasB l c = true) := hasB_no l c k hlt he
        go_wp2
        go_ret
        exact ⟨ret_bool hy.out.symm, rfl⟩
      · have he' : ((l[k].toNat : Int) == c) = false := by simpa using he
        clear he
        go_wp2
        go_round
        case rel => exact ⟨k + 1, by omega, by go_num, by rw [HT.out, HB.out, he']; rfl⟩
        case measure => simp [intOf]; omega
    · have e : Hid (hasB l c = false) := by rw [← HB.out, List.take_of_length_le (by omega)]; exact rfl
      go_wp2
      go_ret
      exact ⟨ret_bool e.out.symm, rfl⟩
set_option maxHeartbeats 1000000 in
theorem part_any (a up bits : Int) (h0 : 0 ≤ a) (h1 : a < 4294967296) (g0 : 0 ≤ up) (g1 : up < 32) (b0 : 0 ≤ bits) (b1 : bits < 32) (w : World) :
    Calls Tryd.prog 74 #[.int .u32 a, .int .i64 up, .int .i64 bits] w fun e w' => e = .returned (.int .i64 (a / pw up % pw bits)) ∧ w' = w := by
  have s1 := shf_bd (k := 62) (n := up) h0 h1
  have hp := pw_bd bits
  have he := (part_eq a up bits).1
  have hf : shf 60 1 bits = pw bits := by rw [(part_eq a up bits).2, Int.one_mul]; exact lo_of (by omega) (by omega)
  rw [← hf] at hp
  have HE : Hid (shf 62 a up = a / pw up ∧ shf 60 1 bits = pw bits) := ⟨he, hf⟩
  clear he hf
  have hz : ¬ shf 60 1 bits = 0 := by omega
  go_enter Tryd.func74, Tryd.ntmps74
  go_wp2_with (go_at_call 97; refine (shiftOf_any _ _ _ (by omega) (by omega) (by omega) _).mono ?_; rintro e w' ⟨rfl, rfl⟩)
  go_ret
  exact ⟨ret_int (by rw [HE.out.1, HE.out.2]), rfl⟩
end Go.Proofs.YtckcbnfobjmhpaaDoor.K
