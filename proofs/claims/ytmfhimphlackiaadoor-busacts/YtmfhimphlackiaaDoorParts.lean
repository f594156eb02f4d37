/-
  The walk of RamParts.
-/
import Derived.Test.YtmfhimphlackiaaDoorStored
namespace Go.Proofs.YtmfhimphlackiaaDoor
open Go.RowKit Go.Maps
open Num
set_option linter.unusedVariables false
theorem wd_whole {x : Int} (h0 : 0 ≤ x) (h1 : x < 4294967296) (s : Bool) : wd x 32 s = x := by
  have e : (2 : Int) ^ (32 : Int).toNat = 4294967296 := by decide
  unfold wd
  rw [if_neg (by omega), e]
  unfold lo
  split <;> omega
theorem wd_byte (x : Int) : wd x 8 false = x % 256 := by
  have := wd_u (v := x) (bits := 8) (by omega) (by omega)
  rw [this]; rfl
theorem wd_half (x : Int) : wd x 16 false = x % 65536 := by
  have := wd_u (v := x) (bits := 16) (by omega) (by omega)
  rw [this]; rfl
theorem ld_word (m : Nat → Int) (a : Int) (s : Bool) (ha : a % 4 = 0) (mb : ∀ i, 0 ≤ m i ∧ m i < 4294967296) : ld m a 4 s = m (a / 4).toNat := by
  unfold ld
  have e : (bhd a 4).toNat = 0 := by unfold bhd; omega
  rw [e, show (2 : Int) ^ 0 = 1 from rfl, Int.ediv_one]
  exact wd_whole (mb _).1 (mb _).2 s
/-- a byte of a word, the highest first -/
def bytP (x : Int) (j : Nat) : Int := x / 2 ^ (24 - 8 * j) % 256
theorem ld_byte (m : Nat → Int) (a : Int) (j : Nat) (hj : j < 4) (h0 : 0 ≤ a) (ha : a % 4 = 0) : ld m (a + j) 1 false = bytP (m (a / 4).toNat) j := by
  unfold ld bytP
  have e : (bhd (a + j) 1).toNat = 24 - 8 * j := by unfold bhd; omega
  rw [e, show ((a + j) / 4).toNat = (a / 4).toNat by omega]
  exact wd_byte _
theorem ld_hi (m : Nat → Int) (a : Int) (ha : a % 4 = 0) (mb : ∀ i, 0 ≤ m i ∧ m i < 4294967296) : ld m a 2 false = m (a / 4).toNat / 65536 := by
  have b := mb (a / 4).toNat
  unfold ld
  have e : (bhd a 2).toNat = 16 := by unfold bhd; omega
  rw [e, show (2 : Int) ^ 16 = 65536 from rfl]
  show wd _ 16 false = _
  rw [wd_half]; omega
theorem ld_lo (m : Nat → Int) (a : Int) (h0 : 0 ≤ a) (ha : a % 4 = 0) : ld m (a + 2) 2 false = m (a / 4).toNat % 65536 := by
  unfold ld
  have e : (bhd (a + 2) 2).toNat = 0 := by unfold bhd; omega
  rw [e, show ((a + 2) / 4).toNat = (a / 4).toNat by omega, show (2 : Int) ^ 0 = 1 from rfl, Int.ediv_one]
  exact wd_half _
theorem ld_lo_s (m : Nat → Int) (a : Int) (h0 : 0 ≤ a) (ha : a % 4 = 0) : ld m (a + 2) 2 true = wd (m (a / 4).toNat) 16 true := by
  unfold ld
  have e : (bhd (a + 2) 2).toNat = 0 := by unfold bhd; omega
  rw [e, show ((a + 2) / 4).toNat = (a / 4).toNat by omega, show (2 : Int) ^ 0 = 1 from rfl, Int.ediv_one]
  rfl
theorem wd_lo_s (x : Int) : wd (wd x 16 true) 16 false = x % 65536 := by
  rw [wd_half]
  exact wd_s_mod (v := x) (bits := 16) (by omega) (by omega)
/-- the first bytes, as one number -/
def nnP (x : Int) (j : Nat) : Int := x / 2 ^ (32 - 8 * j)
theorem nn_step (x : Int) (j : Nat) (hj : j < 4) : 256 * nnP x j + bytP x j = nnP x (j + 1) := by
  unfold nnP bytP
  rw [show 32 - 8 * (j + 1) = 24 - 8 * j by omega, show 32 - 8 * j = (24 - 8 * j) + 8 by omega, Int.pow_add, show (2 : Int) ^ 8 = 256 from rfl, ← Int.ediv_ediv_of_nonneg (Int.pow_nonneg (by omega))]
  omega
theorem nn_bd (x : Int) (j : Nat) (h0 : 0 ≤ x) (h1 : x < 4294967296) : 0 ≤ nnP x j ∧ nnP x j < 4294967296 := by
  unfold nnP
  have := ediv_bd (d := 2 ^ (32 - 8 * j)) h0 (Int.pow_pos (by omega))
  omega
theorem bytP_bd (x : Int) (j : Nat) : 0 ≤ bytP x j ∧ bytP x j < 256 := by unfold bytP; omega
theorem WordsIn.stays {w w' : World} {v : Value} {xs : List Int} (X : WordsIn w v xs) (h : Below w.heap.size w w') : WordsIn w' v xs := by
  obtain ⟨⟨ao, cap, hv, hc, hx⟩, wf⟩ := X
  refine ⟨⟨ao, cap, hv, hc, fun hp => ?_⟩, wf⟩
  obtain ⟨b, off, e, hcell⟩ := hx hp
  exact ⟨b, off, e, fun i hi => by rw [h.cell (World.block_lt_of_cell? _ _ (hcell i hi))]; exact hcell i hi⟩
theorem Er.stays {ps pa pf : Addr} {w w' : World} (E : Er ps pa pf w) (h : Below w.heap.size w w') : Er ps pa pf w' :=
  ⟨by rw [h.cell (World.block_lt_of_cell? _ _ E.s)]; exact E.s, by rw [h.cell (World.block_lt_of_cell? _ _ E.a)]; exact E.a, by rw [h.cell (World.block_lt_of_cell? _ _ E.f)]; exact E.f⟩
set_option maxRecDepth 100000 in
set_option maxHeartbeats 1000000 in
theorem ramParts_any (ps pa pf : Addr) {w : World} (E : Er ps pa pf w) {v : Value} {xs : List Int} (X : WordsIn w v xs) (hlen : (xs.length : Int) ≤ 9223372036854775807) (a : Int) (h0 : 0 ≤ a) (h1 : a < 4294967296) :
    Calls Tryd.prog 4 #[v, .int .u32 a] w fun e w' => e = .returned (.bool true) ∧ Below w.heap.size w w' := by
  obtain ⟨ao, cap, rfl, hcap, _⟩ := X.sh
  have hst := stored_any w
  have XH : Hid (WordsIn w (.slice ao xs.length cap) xs) := X
  have EH : Hid (Er ps pa pf w) := E
  clear X E
  go_enter Tryd.func4, Tryd.ntmps4
  go_wp2_with fail
  refine hst.mono ?_
  rintro e w1 ⟨rfl, hb1⟩
  clear hst
  by_cases hl : 5000 < (xs.length : Int)
  · go_wp2
    go_ret
    exact ⟨rfl, hb1⟩
  · have hl' : (xs.length : Int) ≤ 5000 := by omega
    clear hl
    go_wp2_with fail
    refine (new_ex (XH.out.stays hb1) (by omega)).mono ?_
    rintro e w2 ⟨sb, bp, bw, bh, rfl, R, hb2, _, _⟩
    have B2 : Hid (Below w.heap.size w w2) := hb1.trans (hb2.mono hb1.size)
    have E2 : Hid (Er ps pa pf w2) := EH.out.stays B2.out
    have mb := R.mb
    have RH : Hid (RamIs w2 sb bp bw bh 64 (mw xs) (fun _ => false) (fun _ => false)) := R
    clear R hb1 hb2 XH EH
    by_cases hc : chk a 4 = 0
    · obtain ⟨_, ha, hf⟩ := chk_ok hc
      have hl4 := load_ok RH.out a 4 true h0 h1 hc
      rw [ld_word _ _ _ ha mb] at hl4
      have hby : Hid (∀ j q : Nat, j < 4 → Calls Tryd.prog 14 #[.pointer (some ⟨sb, 0, none⟩), .int .u32 (a + j), .int .i64 1, .bool false] (w2.drewN q) fun e w' => e = .returned (.tuple #[.int .u32 (bytP (mw xs (a / 4).toNat) j), .nilIface]) ∧ ∃ n, w' = (w2.drewN q).drewN n) := by
        intro j q hj
        have := load_ok (RH.out.drewN q) (a + j) 1 false (by omega) (by omega) (by unfold chk; rw [if_neg (by omega), if_neg (by omega), if_neg (by omega)])
        rwa [ld_byte _ _ _ hj h0 ha] at this
      have hhi : Hid (∀ q : Nat, Calls Tryd.prog 14 #[.pointer (some ⟨sb, 0, none⟩), .int .u32 a, .int .i64 2, .bool false] (w2.drewN q) fun e w' => e = .returned (.tuple #[.int .u32 (mw xs (a / 4).toNat / 65536), .nilIface]) ∧ ∃ n, w' = (w2.drewN q).drewN n) := by
        intro q
        have := load_ok (RH.out.drewN q) a 2 false h0 h1 (by unfold chk; rw [if_neg (by omega), if_neg (by omega), if_neg (by omega)])
        rwa [ld_hi _ _ ha mb] at this
      have hlo : Hid (∀ q : Nat, Calls Tryd.prog 14 #[.pointer (some ⟨sb, 0, none⟩), .int .u32 (a + 2), .int .i64 2, .bool false] (w2.drewN q) fun e w' => e = .returned (.tuple #[.int .u32 (mw xs (a / 4).toNat % 65536), .nilIface]) ∧ ∃ n, w' = (w2.drewN q).drewN n) := by
        intro q
        have := load_ok (RH.out.drewN q) (a + 2) 2 false (by omega) (by omega) (by unfold chk; rw [if_neg (by omega), if_neg (by omega), if_neg (by omega)])
        rwa [ld_lo _ _ h0 ha] at this
      have hls : Hid (∀ q : Nat, Calls Tryd.prog 14 #[.pointer (some ⟨sb, 0, none⟩), .int .u32 (a + 2), .int .i64 2, .bool true] (w2.drewN q) fun e w' => e = .returned (.tuple #[.int .u32 (wd (mw xs (a / 4).toNat) 16 true), .nilIface]) ∧ ∃ n, w' = (w2.drewN q).drewN n) := by
        intro q
        have := load_ok (RH.out.drewN q) (a + 2) 2 true (by omega) (by omega) (by unfold chk; rw [if_neg (by omega), if_neg (by omega), if_neg (by omega)])
        rwa [ld_lo_s _ _ h0 ha] at this
      have x0 := mb (a / 4).toNat
      generalize mw xs (a / 4).toNat = x at *
      clear RH mb hc
      go_wp2_with fail
      refine hl4.mono ?_
      rintro e w3 ⟨rfl, k, rfl⟩
      clear hl4
      go_wp2_with fail
      go_loopw [9, 10] (fun n i wr => ∃ j q : Nat, j ≤ 4 ∧ i = .int .i64 j ∧ n = .int .i64 (nnP x j) ∧ wr = w2.drewN q) (fun _ i _ => 4 - (intOf i).toNat)
      case atStart => exact ⟨0, k, by omega, rfl, by unfold nnP; rw [show (32 - 8 * 0 : Nat) = 32 by omega, Int.ediv_eq_zero_of_lt x0.1 (by have := x0.2; simpa using this)], rfl⟩
      case round =>
        obtain ⟨j, q, hj, rfl, rfl, rfl⟩ := hrel
        have hnb := nn_bd x j x0.1 x0.2
        by_cases hlt : j < 4
        · have hlt' : (j : Int) < 4 := by omega
          have hbb := bytP_bd x j
          go_wp2_with (go_at_call 14; refine (hby.out j q hlt).mono ?_; rintro e w4 ⟨rfl, k4, rfl⟩)
          go_roundw
          case rel => exact ⟨j + 1, q + k4, by omega, by go_num, by rw [← nn_step x j hlt], by simp⟩
          case measure => simp [intOf]; omega
        · obtain rfl : j = 4 := by omega
          have e4 : nnP x 4 = x := by unfold nnP; rw [show (32 - 8 * 4 : Nat) = 0 by omega]; simp
          rw [e4]
          have hwo : Hid (∀ w, Calls Tryd.prog 15 #[.int .u32 (wd x 16 true), .int .i64 16, .bool false] w fun e w' => e = .returned (.int .u32 (x % 65536)) ∧ w' = w) := by
            intro w
            have b := wd_bd (bits := 16) x0.1 x0.2 true
            have := wideOf_any (wd x 16 true) 16 false b.1 b.2 w
            rwa [wd_lo_s] at this
          have hsum : 65536 * (x / 65536) + x % 65536 = x := by omega
          obtain ⟨x0a, x0b⟩ := x0
          have d0 : 0 ≤ x / 65536 ∧ x / 65536 < 65536 := by omega
          obtain ⟨d1, d2⟩ := d0
          clear hnb hby e4
          go_wp2_with fail
          refine (hhi.out q).mono ?_
          rintro e w4 ⟨rfl, k4, rfl⟩
          clear hhi
          go_wp2_with fail
          refine (hlo.out (q + k4)).mono ?_
          rintro e w5 ⟨rfl, k5, rfl⟩
          clear hlo
          go_wp2_with fail
          refine (hls.out (q + k4 + k5)).mono ?_
          rintro e w6 ⟨rfl, k6, rfl⟩
          clear hls
          go_wp2_with (go_at_call 15; refine (hwo.out _).mono ?_; rintro e w7 ⟨rfl, rfl⟩)
          go_ret
          exact ⟨rfl, below_drewN B2.out _⟩
    · have hno := load_no ps pa pf E2.out (.pointer (some ⟨sb, 0, none⟩)) a 4 true h0 h1 (by omega) (by omega) hc
      clear RH E2 hc
      go_wp2_with (go_at_call 14; refine hno.mono ?_; rintro e w3 ⟨rfl, rfl⟩)
      go_ret
      exact ⟨rfl, B2.out⟩
end Go.Proofs.YtmfhimphlackiaaDoor
