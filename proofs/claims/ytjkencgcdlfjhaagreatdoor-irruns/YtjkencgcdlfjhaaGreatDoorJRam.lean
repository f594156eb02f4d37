/-
  The document's memory: words in a slice; bytes are read and put.
-/
import Derived.StillTailTactics
import Derived.Test.YtjkencgcdlfjhaaGreatDoorKIrChk
import Derived.Test.YtjkencgcdlfjhaaGreatDoorJDocW
namespace Go.Proofs.YtjkencgcdlfjhaaGreatDoor
open Go.RowKit Go.Maps
open Num
set_option linter.unusedVariables false
def wl (m : Nat → Int) (k : Nat) : List Value := (List.range k).map fun i => .int .u32 (m i)
theorem wl_len (m : Nat → Int) (k : Nat) : (wl m k).length = k := by simp [wl]
theorem wl_get (m : Nat → Int) (k i : Nat) (h : i < k) : (wl m k)[i]? = some (.int .u32 (m i)) := by simp [wl, List.getElem?_map, List.getElem?_range h]
/-- block rb is the document's memory: its words in row gb; the pages that are watched in row kb -/
structure DRam (w : World) (rb gb kb : Nat) (m : Nat → Int) (wt : Int → Bool) : Prop where
  c0 : w.cell? ⟨rb, 0, none⟩ = some (.slice (some ⟨gb, 0, none⟩) 4096 4096)
  c1 : w.cell? ⟨rb, 1, none⟩ = some (.slice (some ⟨kb, 0, none⟩) 64 64)
  row : w.heap[gb]? = some (.cells (wl m 4096).toArray 22)
  wc : ∀ p : Nat, p < 64 → w.cell? ⟨kb, p, none⟩ = some (.bool (wt p))
  nr : rb ≠ gb
  nk : kb ≠ gb
  mb : ∀ i, 0 ≤ m i ∧ m i < 4294967296
theorem DRam.cell {w : World} {rb gb kb : Nat} {m : Nat → Int} {wt : Int → Bool} (D : DRam w rb gb kb m wt) (i : Nat) (h : i < 4096) : w.cell? ⟨gb, i, none⟩ = some (.int .u32 (m i)) := by
  rw [cell_of_row _ _ _ _ _ _ D.row, List.getElem?_toArray]; exact wl_get m 4096 i h
theorem DRam.blocks {w w' : World} {rb gb kb : Nat} {m : Nat → Int} {wt : Int → Bool} (D : DRam w rb gb kb m wt) (h : ∀ k, k = rb ∨ k = gb ∨ k = kb → w'.heap[k]? = w.heap[k]?) : DRam w' rb gb kb m wt := by
  have c : ∀ (k j : Nat) (v : Value), k = rb ∨ k = gb ∨ k = kb → w.cell? ⟨k, j, none⟩ = some v → w'.cell? ⟨k, j, none⟩ = some v := fun k j v hk e => (World.cell?_of_block (a := ⟨k, j, none⟩) (h k hk)).trans e
  exact ⟨c _ _ _ (by simp) D.c0, c _ _ _ (by simp) D.c1, (h gb (by simp)).trans D.row, fun p hp => c _ _ _ (by simp) (D.wc p hp), D.nr, D.nk, D.mb⟩
theorem DRam.lt {w : World} {rb gb kb : Nat} {m : Nat → Int} {wt : Int → Bool} (D : DRam w rb gb kb m wt) {k : Nat} (h : k = rb ∨ k = gb ∨ k = kb) : k < w.heap.size := by
  rcases h with rfl | rfl | rfl
  · exact World.block_lt_of_cell? _ _ D.c0
  · exact (Array.getElem?_eq_some_iff.1 D.row).1
  · exact World.block_lt_of_cell? _ _ (D.wc 0 (by omega))
theorem DRam.stays {w w' : World} {rb gb kb : Nat} {m : Nat → Int} {wt : Int → Bool} (D : DRam w rb gb kb m wt) (h : Below w.heap.size w w') : DRam w' rb gb kb m wt := D.blocks fun k hk => h.block k (D.lt hk)
theorem pw_bhd (a : Int) : pw (24 - 8 * (a % 4)) = 2 ^ (bhd a 1).toNat := by
  unfold pw; rw [bhd1, Int.emod_eq_of_lt (by omega) (by omega)]
theorem pw8 : pw 8 = 256 := by decide
theorem wl_set (m : Nat → Int) (i : Nat) (x : Int) (m' : Nat → Int) (hx : m' i = x) (ho : ∀ j, j ≠ i → m' j = m j) : (wl m 4096).toArray.setIfInBounds i (.int .u32 x) = (wl m' 4096).toArray := by
  apply Array.ext_getElem?
  intro k
  rw [show (wl m' 4096).toArray[k]? = (wl m' 4096)[k]? by simp]
  by_cases hk : k < 4096
  · rw [wl_get m' 4096 k hk]
    by_cases e : i = k
    · subst e; rw [Array.getElem?_setIfInBounds_self, if_pos (by simp [wl_len]; exact hk), hx]
    · rw [Array.getElem?_setIfInBounds_ne e, List.getElem?_toArray, wl_get m 4096 k hk, ho k (Ne.symm e)]
  · rw [Array.getElem?_eq_none (by simp [wl_len]; omega), List.getElem?_eq_none (by rw [wl_len]; omega)]
set_option maxRecDepth 100000 in
set_option maxHeartbeats 1000000 in
theorem at_any {w : World} {rb gb kb : Nat} {m : Nat → Int} {wt : Int → Bool} (D : DRam w rb gb kb m wt) (a : Int) (h0 : 0 ≤ a) (h1 : a < 16384) : Calls Tryz.prog 185 #[.pointer (some ⟨rb, 0, none⟩), .int .i64 a] w fun e w' => e = .returned (.int .u8 (byt m a)) ∧ w' = w := by
  have c0 := D.c0
  have hcell := D.cell (a / 4).toNat (by omega)
  obtain ⟨m0, m1⟩ := D.mb (a / 4).toNat
  have HB : Hid (m (a / 4).toNat / pw (24 - 8 * (a % 4)) % pw 8 = byt m a) := by show _ = _; unfold byt; rw [pw_bhd, pw8]
  have hb := byt_bd m a
  have hp := part_any (m (a / 4).toNat) (24 - 8 * (a % 4)) 8 m0 m1 (by omega) (by omega) (by omega) (by omega) w
  rw [HB.out] at hp
  clear D HB
  generalize byt m a = bb at *
  go_enter Tryz.func185, Tryz.ntmps185
  go_wp2_with (go_at_call 141; refine hp.mono ?_; rintro e w' ⟨rfl, rfl⟩)
  go_ret
  exact ⟨rfl, rfl⟩
end Go.Proofs.YtjkencgcdlfjhaaGreatDoor
/-
  A byte is put into the document's memory.
-/
namespace Go.Proofs.YtjkencgcdlfjhaaGreatDoor
open Go.RowKit Go.Maps
open Num
set_option linter.unusedVariables false
theorem pw_lo (a b : Int) (h : b * 2 ^ (bhd a 1).toNat < 4294967296) (h0 : 0 ≤ b * 2 ^ (bhd a 1).toNat) : shf 60 b (24 - 8 * (a % 4)) = b * 2 ^ (bhd a 1).toNat := by
  unfold shf; rw [if_pos rfl, pw_bhd]; exact lo_of h0 h
set_option maxRecDepth 100000 in
set_option maxHeartbeats 1000000 in
theorem put_any {w : World} {rb gb kb : Nat} {m : Nat → Int} {wt : Int → Bool} (D : DRam w rb gb kb m wt) (a b : Int) (h0 : 0 ≤ a) (h1 : a < 16384) (b0 : 0 ≤ b) (b1 : b < 256) : Calls Tryz.prog 140 #[.pointer (some ⟨rb, 0, none⟩), .int .i64 a, .int .u8 b] w fun e w' => e = .returned (.tuple #[]) ∧ DRam w' rb gb kb (upd m a 1 b) wt ∧ w.grownBy w' (some gb) := by
  have c0 := D.c0
  have hcell := D.cell (a / 4).toNat (by omega)
  have hfz : w.frozen? ⟨gb, (a / 4).toNat, none⟩ = false := by unfold World.frozen?; rw [D.row]; simp
  obtain ⟨m0, m1⟩ := D.mb (a / 4).toNat
  have hat := at_any D a h0 h1
  have hbb := byt_bd m a
  have hpe := put_eq (m (a / 4).toNat) b a m0 m1 b0 b1
  have hy : m (a / 4).toNat / 2 ^ (bhd a 1).toNat % 256 = byt m a := rfl
  rw [hy] at hpe
  obtain ⟨p1, p2, p3, p4, p5, p6, p7⟩ := hpe
  have hs1 := shiftOf_any 60 (byt m a) (24 - 8 * (a % 4)) hbb.1 (by omega) (by omega) w
  rw [pw_lo a (byt m a) p4 p5] at hs1
  have hs2 := shiftOf_any 60 b (24 - 8 * (a % 4)) b0 (by omega) (by omega) w
  rw [pw_lo a b p3 p6] at hs2
  have HU : Hid (upd m a 1 b (a / 4).toNat = m (a / 4).toNat - byt m a * 2 ^ (bhd a 1).toNat + b * 2 ^ (bhd a 1).toNat) := by
    show _ = _
    rw [upd_at, ← p7]
  have DH : Hid (DRam w rb gb kb m wt) := D
  clear D p7 hy
  generalize byt m a * 2 ^ (bhd a 1).toNat = x1 at *
  generalize b * 2 ^ (bhd a 1).toNat = x2 at *
  have key : ∀ (n : Nat), DRam ((w.drewN n).setCell ⟨gb, (a / 4).toNat, none⟩ (.int .u32 (m (a / 4).toNat - x1 + x2))) rb gb kb (upd m a 1 b) wt ∧ w.grownBy ((w.drewN n).setCell ⟨gb, (a / 4).toNat, none⟩ (.int .u32 (m (a / 4).toNat - x1 + x2))) (some gb) := by
    intro n
    have d := DH.out
    have oth : ∀ (k j : Nat) (v : Value), k ≠ gb → w.cell? ⟨k, j, none⟩ = some v → ((w.drewN n).setCell ⟨gb, (a / 4).toNat, none⟩ (.int .u32 (m (a / 4).toNat - x1 + x2))).cell? ⟨k, j, none⟩ = some v := fun k j v hk e => by
      rw [World.cell?_setCell_other _ _ _ _ (by intro e; injection e with e1 e2; exact hk e1.symm)]; exact e
    refine ⟨⟨oth _ _ _ d.nr d.c0, oth _ _ _ d.nr d.c1, ?_, fun p hp => oth _ _ _ d.nk (d.wc p hp), d.nr, d.nk, upd_bd m a 1 b (Or.inl rfl) (by omega) d.mb⟩, ⟨rfl, rfl, rfl, by simp, fun k hk hne => Below.heap_setCell _ _ _ k (by intro e; exact hne (by rw [e]))⟩⟩
    rw [heap_setCell_same (w.drewN n) gb (a / 4).toNat (wl m 4096).toArray 22 _ d.row]
    rw [wl_set m (a / 4).toNat _ (upd m a 1 b) HU.out (fun j hj => upd_ne m a 1 b j hj)]
  clear HU DH
  generalize byt m a = bo at *
  go_enter Tryz.func140, Tryz.ntmps140
  go_wp2_with fail
  refine hat.mono ?_
  rintro e w' ⟨rfl, rfl⟩
  clear hat
  go_wp2_with fail
  refine hs1.mono ?_
  rintro e w' ⟨rfl, rfl⟩
  clear hs1
  go_wp2_with fail
  refine hs2.mono ?_
  rintro e w' ⟨rfl, rfl⟩
  clear hs2
  go_upto_region 3 with fail
  have key1 := key 1
  clear key
  go_region
  all_goals
    go_wp2
    first | go_end0 | refine bodyPost_ret (results_none rfl _ _ _) rfl ?_
    exact ⟨rfl, key1⟩
end Go.Proofs.YtjkencgcdlfjhaaGreatDoor
/-
  The document's memory: its loads and stores.
-/
namespace Go.Proofs.YtjkencgcdlfjhaaGreatDoor
open Go.RowKit Go.Maps
open Num
set_option linter.unusedVariables false
theorem dgrown_trans {w w1 w2 : World} {g : Nat} (a : w.grownBy w1 (some g)) (b : w1.grownBy w2 (some g)) : w.grownBy w2 (some g) :=
  ⟨b.os.trans a.os, b.tape.trans a.tape, b.output.trans a.output, Nat.le_trans a.size b.size, fun k hk hn => (b.block k (Nat.lt_of_lt_of_le hk a.size) hn).trans (a.block k hk hn)⟩
theorem dgrown_refl (w : World) (r : Option Nat) : w.grownBy w r := ⟨rfl, rfl, rfl, Nat.le_refl _, fun _ _ _ => rfl⟩
theorem rc_ok {a s : Int} (h : chk a s = 0) : rc a s = 0 := by unfold rc; rw [h]; rfl
theorem rc_no {a s : Int} (h : chk a s ≠ 0) : 0 < rc a s := by
  unfold rc chk at *
  split at h
  · rename_i hs; simp [hs]
  · rename_i hs
    split at h
    · rename_i hm; simp [hs, hm]
    · rename_i hm
      split at h
      · rename_i hf; simp [hs, hm, hf]
      · exact absurd rfl h
set_option maxRecDepth 100000 in
set_option maxHeartbeats 1000000 in
theorem dload_ok {w : World} {rb gb kb : Nat} {m : Nat → Int} {wt : Int → Bool} (D : DRam w rb gb kb m wt) (a s : Int) (sgn : Bool) (h0 : 0 ≤ a) (h1 : a < 4294967296) (hc : chk a s = 0) : Calls Tryz.prog 135 #[.pointer (some ⟨rb, 0, none⟩), .int .u32 a, .int .i64 s, .bool sgn] w fun e w' => e = .returned (.tuple #[.int .u32 (ld m a s sgn), .int .i64 0]) ∧ w' = w := by
  obtain ⟨hs, hm, hf⟩ := chk_ok hc
  have hre := reach_any a s h0 h1 (by omega) (by omega) w
  rw [rc_ok hc] at hre
  have s0 : 1 ≤ s := by omega
  have s1 : s ≤ 4 := by omega
  have hgo : a + s ≤ 16384 := by rcases hs with rfl | rfl | rfl <;> omega
  have HG : Hid (gets m a s.toNat = m (a / 4).toNat / 2 ^ (bhd a s).toNat % 2 ^ (8 * s).toNat) := gets_all m a s h0 hs hm D.mb
  have HS : Hid (s = 1 ∨ s = 2 ∨ s = 4) := hs
  have hgb := gets_bd m a
  have DH : Hid (DRam w rb gb kb m wt) := D
  clear D hc hm hs
  go_enter Tryz.func135, Tryz.ntmps135
  go_wp2_with fail
  refine hre.mono ?_
  rintro e w' ⟨rfl, rfl⟩
  clear hre
  go_wp2_with fail
  go_loopw [11, 12] (fun x i wr => ∃ j : Nat, (j : Int) ≤ s ∧ i = .int .i64 j ∧ x = .int .i64 (gets m a j) ∧ wr = w') (fun _ i _ => s.toNat - (intOf i).toNat)
  case atStart => exact ⟨0, by omega, rfl, rfl, rfl⟩
  case round =>
    obtain ⟨j, hj, rfl, rfl, rfl⟩ := hrel
    by_cases hlt : (j : Int) < s
    · have hat := at_any DH.out (a + j) (by omega) (by omega)
      have hb := byt_bd m (a + j)
      have hj4 : j = 0 ∨ j = 1 ∨ j = 2 ∨ j = 3 := by omega
      have hg : 0 ≤ gets m a j ∧ gets m a j < 16777216 := by rcases hj4 with rfl | rfl | rfl | rfl <;> omega
      have HN : Hid (gets m a (j + 1) = 256 * gets m a j + byt m (a + j)) := rfl
      clear hgb hj4
      generalize byt m (a + j) = bo at *
      generalize gets m a j = g at *
      obtain ⟨g0, g1⟩ := hg
      obtain ⟨b0, b1⟩ := hb
      go_wp2_with fail
      refine hat.mono ?_
      rintro e w'' ⟨rfl, rfl⟩
      clear hat
      go_wp2
      go_roundw
      case rel => exact ⟨j + 1, by omega, by go_num, by rw [HN.out], by first | rfl | trivial⟩
      case measure => simp [intOf]; omega
    · have hjs : (j : Int) = s := by omega
      have hjn : j = s.toNat := by omega
      have hg : 0 ≤ gets m a j ∧ gets m a j < 4294967296 := by
        have : j = 1 ∨ j = 2 ∨ j = 4 := by have := HS.out; omega
        rcases this with rfl | rfl | rfl <;> omega
      have HL : Hid (wd (gets m a j) (8 * s) sgn = ld m a s sgn) := by
        show _ = _
        rw [hjn, HG.out, wd_mod _ _ _ HS.out]; rfl
      have hwo := wideOf_any (gets m a j) (8 * s) sgn hg.1 hg.2 wr
      rw [HL.out] at hwo
      clear hgb HL HG hjn hjs
      generalize gets m a j = g at *
      obtain ⟨g0, g1⟩ := hg
      go_wp2_with fail
      refine hwo.mono ?_
      rintro e w'' ⟨rfl, rfl⟩
      clear hwo
      go_wp2
      go_ret2
      exact ⟨rfl, rfl⟩
set_option maxRecDepth 100000 in
set_option maxHeartbeats 1000000 in
theorem dload_no (w : World) (p : Value) (a s : Int) (sgn : Bool) (h0 : 0 ≤ a) (h1 : a < 4294967296) (s0 : -9223372036854775808 ≤ s) (s1 : s ≤ 9223372036854775807) (hc : chk a s ≠ 0) : Calls Tryz.prog 135 #[p, .int .u32 a, .int .i64 s, .bool sgn] w fun e w' => e = .returned (.tuple #[.int .u32 0, .int .i64 (rc a s)]) ∧ w' = w := by
  have hre := reach_any a s h0 h1 s0 s1 w
  have hp := rc_no hc
  clear hc
  generalize rc a s = r at *
  go_enter Tryz.func135, Tryz.ntmps135
  go_wp2_with fail
  refine hre.mono ?_
  rintro e w' ⟨rfl, rfl⟩
  clear hre
  go_wp2
  go_ret2
  exact ⟨rfl, rfl⟩
theorem pw_b (s j : Int) (h0 : 0 ≤ s - 1 - j) (h1 : s - 1 - j ≤ 3) : pw (8 * (s - 1 - j)) = 2 ^ (8 * (s - 1 - j)).toNat := by
  unfold pw; rw [Int.emod_eq_of_lt (by omega) (by omega)]
set_option maxRecDepth 100000 in
set_option maxHeartbeats 1000000 in
theorem dstore_ok {w : World} {rb gb kb : Nat} {m : Nat → Int} {wt : Int → Bool} (D : DRam w rb gb kb m wt) (a s v : Int) (h0 : 0 ≤ a) (h1 : a < 4294967296) (v0 : 0 ≤ v) (v1 : v < 4294967296) (hc : chk a s = 0) (hwt : wt (a / 256) = false) : Calls Tryz.prog 79 #[.pointer (some ⟨rb, 0, none⟩), .int .u32 a, .int .i64 s, .int .u32 v] w fun e w' => e = .returned (.int .i64 0) ∧ DRam w' rb gb kb (upd m a s v) wt ∧ w.grownBy w' (some gb) := by
  obtain ⟨hs, hm, hf⟩ := chk_ok hc
  have hre := reach_any a s h0 h1 (by omega) (by omega) w
  rw [rc_ok hc] at hre
  have s0 : 1 ≤ s := by omega
  have s1 : s ≤ 4 := by omega
  have hgo : a + s ≤ 16384 := by rcases hs with rfl | rfl | rfl <;> omega
  have HP : Hid (puts m a s v s.toNat = upd m a s v) := puts_all m a s v h0 hs hm v0 v1 D.mb
  have DH : Hid (DRam w rb gb kb m wt) := D
  clear D hc hm hs
  go_enter Tryz.func79, Tryz.ntmps79
  go_wp2_with fail
  refine hre.mono ?_
  rintro e w' ⟨rfl, rfl⟩
  clear hre
  go_wp2_with fail
  go_loopw [10] (fun i wr => ∃ j : Nat, (j : Int) ≤ s ∧ i = .int .i64 j ∧ Hid (DRam wr rb gb kb (puts m a s v j) wt) ∧ Hid (w'.grownBy wr (some gb))) (fun i _ => s.toNat - (intOf i).toNat)
  case atStart => exact ⟨0, by omega, rfl, DH.out, dgrown_refl _ _⟩
  case round =>
    obtain ⟨j, hj, rfl, DR, GR⟩ := hrel
    by_cases hlt : (j : Int) < s
    · have hpa := part_any v (8 * (s - 1 - j)) 8 v0 v1 (by omega) (by omega) (by omega) (by omega) wr
      rw [pw8, pw_b s j (by omega) (by omega)] at hpa
      have hb : 0 ≤ bOf v s j ∧ bOf v s j < 256 := by unfold bOf; omega
      have hpu := put_any DR.out (a + j) (bOf v s j) (by omega) (by omega) hb.1 hb.2
      have e : v / 2 ^ (8 * (s - 1 - (j : Int))).toNat % 256 = bOf v s j := rfl
      rw [e] at hpa
      have HN : Hid (puts m a s v (j + 1) = upd (puts m a s v j) (a + j) 1 (bOf v s j)) := rfl
      clear e
      generalize bOf v s j = bo at *
      obtain ⟨b0, b1⟩ := hb
      go_wp2_with fail
      refine hpa.mono ?_
      rintro e w'' ⟨rfl, rfl⟩
      clear hpa
      go_wp2_with fail
      refine hpu.mono ?_
      rintro e w2 ⟨rfl, D2, G2⟩
      clear hpu
      go_wp2
      go_roundw
      case rel => exact ⟨j + 1, by omega, by go_num, by show DRam _ _ _ _ _ _; rw [HN.out]; exact D2, dgrown_trans GR.out G2⟩
      case measure => simp [intOf]; omega
    · have hjn : j = s.toNat := by omega
      have D2 : Hid (DRam wr rb gb kb (upd m a s v) wt) := by show DRam _ _ _ _ _ _; rw [← HP.out, ← hjn]; exact DR.out
      have c1 := D2.out.c1
      have hw := D2.out.wc (a / 256).toNat (by omega)
      rw [show (((a / 256).toNat : Nat) : Int) = a / 256 by omega, hwt] at hw
      clear DR hjn HP
      go_wp2
      go_ret
      exact ⟨rfl, D2.out, GR.out⟩
end Go.Proofs.YtjkencgcdlfjhaaGreatDoor
