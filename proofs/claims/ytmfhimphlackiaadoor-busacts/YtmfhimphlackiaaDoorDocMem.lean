/-
  The document's memory: its loads and stores.
-/
import Derived.Test.YtmfhimphlackiaaDoorDocPut
namespace Go.Proofs.YtmfhimphlackiaaDoor
open Go.RowKit Go.Maps
open Num
set_option linter.unusedVariables false
theorem dgrown_trans {w w1 w2 : World} {g : Nat} (a : w.grownBy w1 (some g)) (b : w1.grownBy w2 (some g)) : w.grownBy w2 (some g) :=
  ⟨b.os.trans a.os, b.tape.trans a.tape, b.output.trans a.output, Nat.le_trans a.size b.size, fun k hk hn => (b.block k (Nat.lt_of_lt_of_le hk a.size) hn).trans (a.block k hk hn)⟩
theorem dgrown_refl (w : World) (r : Option Nat) : w.grownBy w r := ⟨rfl, rfl, rfl, Nat.le_refl _, fun _ _ _ => rfl⟩
theorem rc_ok {a s : Int} (h : chk a s = 0) : rc a s = 0 := by unfold rc; rw [h]; rfl
theorem rc_no {a s : Int} (h : chk a s ≠ 0) : 0 < rc a s := by
  unfold rc chk at *
  split at h
  · rename_i hs; simp [hs]
  · rename_i hs
    split at h
    · rename_i hm; simp [hs, hm]
    · rename_i hm
      split at h
      · rename_i hf; simp [hs, hm, hf]
      · exact absurd rfl h
set_option maxRecDepth 100000 in
set_option maxHeartbeats 1000000 in
theorem dload_ok {w : World} {rb gb kb : Nat} {m : Nat → Int} {wt : Int → Bool} (D : DRam w rb gb kb m wt) (a s : Int) (sgn : Bool) (h0 : 0 ≤ a) (h1 : a < 4294967296) (hc : chk a s = 0) : Calls Tryd.prog 17 #[.pointer (some ⟨rb, 0, none⟩), .int .u32 a, .int .i64 s, .bool sgn] w fun e w' => e = .returned (.tuple #[.int .u32 (ld m a s sgn), .int .i64 0]) ∧ w' = w := by
  obtain ⟨hs, hm, hf⟩ := chk_ok hc
  have hre := reach_any a s h0 h1 (by omega) (by omega) w
  rw [rc_ok hc] at hre
  have s0 : 1 ≤ s := by omega
  have s1 : s ≤ 4 := by omega
  have hgo : a + s ≤ 16384 := by rcases hs with rfl | rfl | rfl <;> omega
  have HG : Hid (gets m a s.toNat = m (a / 4).toNat / 2 ^ (bhd a s).toNat % 2 ^ (8 * s).toNat) := gets_all m a s h0 hs hm D.mb
  have HS : Hid (s = 1 ∨ s = 2 ∨ s = 4) := hs
  have hgb := gets_bd m a
  have DH : Hid (DRam w rb gb kb m wt) := D
  clear D hc hm hs
  go_enter Tryd.func17, Tryd.ntmps17
  go_wp2_with fail
  refine hre.mono ?_
  rintro e w' ⟨rfl, rfl⟩
  clear hre
  go_wp2_with fail
  go_loopw [11, 12] (fun x i wr => ∃ j : Nat, (j : Int) ≤ s ∧ i = .int .i64 j ∧ x = .int .i64 (gets m a j) ∧ wr = w') (fun _ i _ => s.toNat - (intOf i).toNat)
  case atStart => exact ⟨0, by omega, rfl, rfl, rfl⟩
  case round =>
    obtain ⟨j, hj, rfl, rfl, rfl⟩ := hrel
    by_cases hlt : (j : Int) < s
    · have hat := at_any DH.out (a + j) (by omega) (by omega)
      have hb := byt_bd m (a + j)
      have hj4 : j = 0 ∨ j = 1 ∨ j = 2 ∨ j = 3 := by omega
      have hg : 0 ≤ gets m a j ∧ gets m a j < 16777216 := by rcases hj4 with rfl | rfl | rfl | rfl <;> omega
      have HN : Hid (gets m a (j + 1) = 256 * gets m a j + byt m (a + j)) := rfl
      clear hgb hj4
      generalize byt m (a + j) = bo at *
      generalize gets m a j = g at *
      obtain ⟨g0, g1⟩ := hg
      obtain ⟨b0, b1⟩ := hb
      go_wp2_with fail
      refine hat.mono ?_
      rintro e w'' ⟨rfl, rfl⟩
      clear hat
      go_wp2
      go_roundw
      case rel => exact ⟨j + 1, by omega, by go_num, by rw [HN.out], by first | rfl | trivial⟩
      case measure => simp [intOf]; omega
    · have hjs : (j : Int) = s := by omega
      have hjn : j = s.toNat := by omega
      have hg : 0 ≤ gets m a j ∧ gets m a j < 4294967296 := by
        have : j = 1 ∨ j = 2 ∨ j = 4 := by have := HS.out; omega
        rcases this with rfl | rfl | rfl <;> omega
      have HL : Hid (wd (gets m a j) (8 * s) sgn = ld m a s sgn) := by
        show _ = _
        rw [hjn, HG.out, wd_mod _ _ _ HS.out]; rfl
      have hwo := wideOf_any (gets m a j) (8 * s) sgn hg.1 hg.2 wr
      rw [HL.out] at hwo
      clear hgb HL HG hjn hjs
      generalize gets m a j = g at *
      obtain ⟨g0, g1⟩ := hg
      go_wp2_with fail
      refine hwo.mono ?_
      rintro e w'' ⟨rfl, rfl⟩
      clear hwo
      go_wp2
      go_ret2
      exact ⟨rfl, rfl⟩
set_option maxRecDepth 100000 in
set_option maxHeartbeats 1000000 in
theorem dload_no (w : World) (p : Value) (a s : Int) (sgn : Bool) (h0 : 0 ≤ a) (h1 : a < 4294967296) (s0 : -9223372036854775808 ≤ s) (s1 : s ≤ 9223372036854775807) (hc : chk a s ≠ 0) : Calls Tryd.prog 17 #[p, .int .u32 a, .int .i64 s, .bool sgn] w fun e w' => e = .returned (.tuple #[.int .u32 0, .int .i64 (rc a s)]) ∧ w' = w := by
  have hre := reach_any a s h0 h1 s0 s1 w
  have hp := rc_no hc
  clear hc
  generalize rc a s = r at *
  go_enter Tryd.func17, Tryd.ntmps17
  go_wp2_with fail
  refine hre.mono ?_
  rintro e w' ⟨rfl, rfl⟩
  clear hre
  go_wp2
  go_ret2
  exact ⟨rfl, rfl⟩
set_option maxRecDepth 100000 in
set_option maxHeartbeats 1000000 in
theorem dstore_no (w : World) (p : Value) (a s v : Int) (h0 : 0 ≤ a) (h1 : a < 4294967296) (s0 : -9223372036854775808 ≤ s) (s1 : s ≤ 9223372036854775807) (hc : chk a s ≠ 0) : Calls Tryd.prog 19 #[p, .int .u32 a, .int .i64 s, .int .u32 v] w fun e w' => e = .returned (.int .i64 (rc a s)) ∧ w' = w := by
  have hre := reach_any a s h0 h1 s0 s1 w
  have hp := rc_no hc
  clear hc
  generalize rc a s = r at *
  go_enter Tryd.func19, Tryd.ntmps19
  go_wp2_with fail
  refine hre.mono ?_
  rintro e w' ⟨rfl, rfl⟩
  clear hre
  go_wp2
  go_ret
  exact ⟨rfl, rfl⟩
theorem pw_b (s j : Int) (h0 : 0 ≤ s - 1 - j) (h1 : s - 1 - j ≤ 3) : pw (8 * (s - 1 - j)) = 2 ^ (8 * (s - 1 - j)).toNat := by
  unfold pw; rw [Int.emod_eq_of_lt (by omega) (by omega)]
set_option maxRecDepth 100000 in
set_option maxHeartbeats 1000000 in
theorem dstore_ok {w : World} {rb gb kb : Nat} {m : Nat → Int} {wt : Int → Bool} (D : DRam w rb gb kb m wt) (a s v : Int) (h0 : 0 ≤ a) (h1 : a < 4294967296) (v0 : 0 ≤ v) (v1 : v < 4294967296) (hc : chk a s = 0) (hwt : wt (a / 256) = false) : Calls Tryd.prog 19 #[.pointer (some ⟨rb, 0, none⟩), .int .u32 a, .int .i64 s, .int .u32 v] w fun e w' => e = .returned (.int .i64 0) ∧ DRam w' rb gb kb (upd m a s v) wt ∧ w.grownBy w' (some gb) := by
  obtain ⟨hs, hm, hf⟩ := chk_ok hc
  have hre := reach_any a s h0 h1 (by omega) (by omega) w
  rw [rc_ok hc] at hre
  have s0 : 1 ≤ s := by omega
  have s1 : s ≤ 4 := by omega
  have hgo : a + s ≤ 16384 := by rcases hs with rfl | rfl | rfl <;> omega
  have HP : Hid (puts m a s v s.toNat = upd m a s v) := puts_all m a s v h0 hs hm v0 v1 D.mb
  have DH : Hid (DRam w rb gb kb m wt) := D
  clear D hc hm hs
  go_enter Tryd.func19, Tryd.ntmps19
  go_wp2_with fail
  refine hre.mono ?_
  rintro e w' ⟨rfl, rfl⟩
  clear hre
  go_wp2_with fail
  go_loopw [10] (fun i wr => ∃ j : Nat, (j : Int) ≤ s ∧ i = .int .i64 j ∧ Hid (DRam wr rb gb kb (puts m a s v j) wt) ∧ Hid (w'.grownBy wr (some gb))) (fun i _ => s.toNat - (intOf i).toNat)
  case atStart => exact ⟨0, by omega, rfl, DH.out, dgrown_refl _ _⟩
  case round =>
    obtain ⟨j, hj, rfl, DR, GR⟩ := hrel
    by_cases hlt : (j : Int) < s
    · have hpa := part_any v (8 * (s - 1 - j)) 8 v0 v1 (by omega) (by omega) (by omega) (by omega) wr
      rw [pw8, pw_b s j (by omega) (by omega)] at hpa
      have hb : 0 ≤ bOf v s j ∧ bOf v s j < 256 := by unfold bOf; omega
      have hpu := put_any DR.out (a + j) (bOf v s j) (by omega) (by omega) hb.1 hb.2
      have e : v / 2 ^ (8 * (s - 1 - (j : Int))).toNat % 256 = bOf v s j := rfl
      rw [e] at hpa
      have HN : Hid (puts m a s v (j + 1) = upd (puts m a s v j) (a + j) 1 (bOf v s j)) := rfl
      clear e
      generalize bOf v s j = bo at *
      obtain ⟨b0, b1⟩ := hb
      go_wp2_with fail
      refine hpa.mono ?_
      rintro e w'' ⟨rfl, rfl⟩
      clear hpa
      go_wp2_with fail
      refine hpu.mono ?_
      rintro e w2 ⟨rfl, D2, G2⟩
      clear hpu
      go_wp2
      go_roundw
      case rel => exact ⟨j + 1, by omega, by go_num, by show DRam _ _ _ _ _ _; rw [HN.out]; exact D2, dgrown_trans GR.out G2⟩
      case measure => simp [intOf]; omega
    · have hjn : j = s.toNat := by omega
      have D2 : Hid (DRam wr rb gb kb (upd m a s v) wt) := by show DRam _ _ _ _ _ _; rw [← HP.out, ← hjn]; exact DR.out
      have c1 := D2.out.c1
      have hw := D2.out.wc (a / 256).toNat (by omega)
      rw [show (((a / 256).toNat : Nat) : Int) = a / 256 by omega, hwt] at hw
      clear DR hjn HP
      go_wp2
      go_ret
      exact ⟨rfl, D2.out, GR.out⟩
end Go.Proofs.YtmfhimphlackiaaDoor
