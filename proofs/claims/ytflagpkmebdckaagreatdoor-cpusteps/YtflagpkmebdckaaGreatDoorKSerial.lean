/-
  The document's memory: words in a slice; bytes are read and put.
-/
import Derived.StillTailTactics
import Derived.Orders
import Derived.Deep.QuietTactic
import Derived.Deep.Cut
import Derived.Test.YtflagpkmebdckaaGreatDoorKNum
import Derived.Test.YtflagpkmebdckaaGreatDoorJDocW
import Derived.Test.YtflagpkmebdckaaGreatDoorKIrChk
import Derived.Test.YtflagpkmebdckaaGreatDoorKIrChk2
namespace Go.Proofs.YtflagpkmebdckaaGreatDoor
open Go.RowKit Go.Maps
open Num
set_option linter.unusedVariables false
def wl (m : Nat → Int) (k : Nat) : List Value := (List.range k).map fun i => .int .u32 (m i)
theorem wl_len (m : Nat → Int) (k : Nat) : (wl m k).length = k := by simp [wl]
theorem wl_get (m : Nat → Int) (k i : Nat) (h : i < k) : (wl m k)[i]? = some (.int .u32 (m i)) := by simp [wl, List.getElem?_map, List.getElem?_range h]
/-- block rb is the document's memory: its words in row gb; the pages that are watched in row kb -/
structure DRam (w : World) (rb gb kb : Nat) (m : Nat → Int) (wt : Int → Bool) : Prop where
  c0 : w.cell? ⟨rb, 0, none⟩ = some (.slice (some ⟨gb, 0, none⟩) 4096 4096)
  c1 : w.cell? ⟨rb, 1, none⟩ = some (.slice (some ⟨kb, 0, none⟩) 64 64)
  row : w.heap[gb]? = some (.cells (wl m 4096).toArray 22)
  wc : ∀ p : Nat, p < 64 → w.cell? ⟨kb, p, none⟩ = some (.bool (wt p))
  nr : rb ≠ gb
  nk : kb ≠ gb
  mb : ∀ i, 0 ≤ m i ∧ m i < 4294967296
theorem DRam.cell {w : World} {rb gb kb : Nat} {m : Nat → Int} {wt : Int → Bool} (D : DRam w rb gb kb m wt) (i : Nat) (h : i < 4096) : w.cell? ⟨gb, i, none⟩ = some (.int .u32 (m i)) := by
  rw [cell_of_row _ _ _ _ _ _ D.row, List.getElem?_toArray]; exact wl_get m 4096 i h
theorem DRam.blocks {w w' : World} {rb gb kb : Nat} {m : Nat → Int} {wt : Int → Bool} (D : DRam w rb gb kb m wt) (h : ∀ k, k = rb ∨ k = gb ∨ k = kb → w'.heap[k]? = w.heap[k]?) : DRam w' rb gb kb m wt := by
  have c : ∀ (k j : Nat) (v : Value), k = rb ∨ k = gb ∨ k = kb → w.cell? ⟨k, j, none⟩ = some v → w'.cell? ⟨k, j, none⟩ = some v := fun k j v hk e => (World.cell?_of_block (a := ⟨k, j, none⟩) (h k hk)).trans e
  exact ⟨c _ _ _ (by simp) D.c0, c _ _ _ (by simp) D.c1, (h gb (by simp)).trans D.row, fun p hp => c _ _ _ (by simp) (D.wc p hp), D.nr, D.nk, D.mb⟩
theorem DRam.lt {w : World} {rb gb kb : Nat} {m : Nat → Int} {wt : Int → Bool} (D : DRam w rb gb kb m wt) {k : Nat} (h : k = rb ∨ k = gb ∨ k = kb) : k < w.heap.size := by
  rcases h with rfl | rfl | rfl
  · exact World.block_lt_of_cell? _ _ D.c0
  · exact (Array.getElem?_eq_some_iff.1 D.row).1
  · exact World.block_lt_of_cell? _ _ (D.wc 0 (by omega))
theorem DRam.stays {w w' : World} {rb gb kb : Nat} {m : Nat → Int} {wt : Int → Bool} (D : DRam w rb gb kb m wt) (h : Below w.heap.size w w') : DRam w' rb gb kb m wt := D.blocks fun k hk => h.block k (D.lt hk)
theorem pw_bhd (a : Int) : pw (24 - 8 * (a % 4)) = 2 ^ (bhd a 1).toNat := by
  unfold pw; rw [bhd1, Int.emod_eq_of_lt (by omega) (by omega)]
theorem pw8 : pw 8 = 256 := by decide
theorem wl_set (m : Nat → Int) (i : Nat) (x : Int) (m' : Nat → Int) (hx : m' i = x) (ho : ∀ j, j ≠ i → m' j = m j) : (wl m 4096).toArray.setIfInBounds i (.int .u32 x) = (wl m' 4096).toArray := by
  apply Array.ext_getElem?
  intro k
  rw [show (wl m' 4096).toArray[k]? = (wl m' 4096)[k]? by simp]
  by_cases hk : k < 4096
  · rw [wl_get m' 4096 k hk]
    by_cases e : i = k
    · subst e; rw [Array.getElem?_setIfInBounds_self, if_pos (by simp [wl_len]; exact hk), hx]
    · rw [Array.getElem?_setIfInBounds_ne e, List.getElem?_toArray, wl_get m 4096 k hk, ho k (Ne.symm e)]
  · rw [Array.getElem?_eq_none (by simp [wl_len]; omega), List.getElem?_eq_none (by rw [wl_len]; omega)]
set_option maxRecDepth 100000 in
set_option maxHeartbeats 1000000 in
theorem at_any {w : World} {rb gb kb : Nat} {m : Nat → Int} {wt : Int → Bool} (D : DRam w rb gb kb m wt) (a : Int) (h0 : 0 ≤ a) (h1 : a < 16384) : Calls Tryz.prog 86 #[.pointer (some ⟨rb, 0, none⟩), .int .i64 a] w fun e w' => e = .returned (.int .u8 (byt m a)) ∧ w' = w := by
  have c0 := D.c0
  have hcell := D.cell (a / 4).toNat (by omega)
  obtain ⟨m0, m1⟩ := D.mb (a / 4).toNat
  have HB : Hid (m (a / 4).toNat / pw (24 - 8 * (a % 4)) % pw 8 = byt m a) := by show _ = _; unfold byt; rw [pw_bhd, pw8]
  have hb := byt_bd m a
  have hp := part_any (m (a / 4).toNat) (24 - 8 * (a % 4)) 8 m0 m1 (by omega) (by omega) (by omega) (by omega) w
  rw [HB.out] at hp
  clear D HB
  generalize byt m a = bb at *
  go_enter Tryz.func86, Tryz.ntmps86
  go_wp2_with (go_at_call 46; refine hp.mono ?_; rintro e w' ⟨rfl, rfl⟩)
  go_ret
  exact ⟨rfl, rfl⟩
end Go.Proofs.YtflagpkmebdckaaGreatDoor
/-
  A byte is put into the document's memory.
-/
namespace Go.Proofs.YtflagpkmebdckaaGreatDoor
open Go.RowKit Go.Maps
open Num
set_option linter.unusedVariables false
theorem pw_lo (a b : Int) (h : b * 2 ^ (bhd a 1).toNat < 4294967296) (h0 : 0 ≤ b * 2 ^ (bhd a 1).toNat) : shf 60 b (24 - 8 * (a % 4)) = b * 2 ^ (bhd a 1).toNat := by
  unfold shf; rw [if_pos rfl, pw_bhd]; exact lo_of h0 h
set_option maxRecDepth 100000 in
set_option maxHeartbeats 1000000 in
theorem put_any {w : World} {rb gb kb : Nat} {m : Nat → Int} {wt : Int → Bool} (D : DRam w rb gb kb m wt) (a b : Int) (h0 : 0 ≤ a) (h1 : a < 16384) (b0 : 0 ≤ b) (b1 : b < 256) : Calls Tryz.prog 45 #[.pointer (some ⟨rb, 0, none⟩), .int .i64 a, .int .u8 b] w fun e w' => e = .returned (.tuple #[]) ∧ DRam w' rb gb kb (upd m a 1 b) wt ∧ w.grownBy w' (some gb) := by
  have c0 := D.c0
  have hcell := D.cell (a / 4).toNat (by omega)
  have hfz : w.frozen? ⟨gb, (a / 4).toNat, none⟩ = false := by unfold World.frozen?; rw [D.row]; simp
  obtain ⟨m0, m1⟩ := D.mb (a / 4).toNat
  have hat := at_any D a h0 h1
  have hbb := byt_bd m a
  have hpe := put_eq (m (a / 4).toNat) b a m0 m1 b0 b1
  have hy : m (a / 4).toNat / 2 ^ (bhd a 1).toNat % 256 = byt m a := rfl
  rw [hy] at hpe
  obtain ⟨p1, p2, p3, p4, p5, p6, p7⟩ := hpe
  have hs1 := shiftOf_any 60 (byt m a) (24 - 8 * (a % 4)) hbb.1 (by omega) (by omega) w
  rw [pw_lo a (byt m a) p4 p5] at hs1
  have hs2 := shiftOf_any 60 b (24 - 8 * (a % 4)) b0 (by omega) (by omega) w
  rw [pw_lo a b p3 p6] at hs2
  have HU : Hid (upd m a 1 b (a / 4).toNat = m (a / 4).toNat - byt m a * 2 ^ (bhd a 1).toNat + b * 2 ^ (bhd a 1).toNat) := by
    show _ = _
    rw [upd_at, ← p7]
  have DH : Hid (DRam w rb gb kb m wt) := D
  clear D p7 hy
  generalize byt m a * 2 ^ (bhd a 1).toNat = x1 at *
  generalize b * 2 ^ (bhd a 1).toNat = x2 at *
  have key : ∀ (n : Nat), DRam ((w.drewN n).setCell ⟨gb, (a / 4).toNat, none⟩ (.int .u32 (m (a / 4).toNat - x1 + x2))) rb gb kb (upd m a 1 b) wt ∧ w.grownBy ((w.drewN n).setCell ⟨gb, (a / 4).toNat, none⟩ (.int .u32 (m (a / 4).toNat - x1 + x2))) (some gb) := by
    intro n
    have d := DH.out
    have oth : ∀ (k j : Nat) (v : Value), k ≠ gb → w.cell? ⟨k, j, none⟩ = some v → ((w.drewN n).setCell ⟨gb, (a / 4).toNat, none⟩ (.int .u32 (m (a / 4).toNat - x1 + x2))).cell? ⟨k, j, none⟩ = some v := fun k j v hk e => by
      rw [World.cell?_setCell_other _ _ _ _ (by intro e; injection e with e1 e2; exact hk e1.symm)]; exact e
    refine ⟨⟨oth _ _ _ d.nr d.c0, oth _ _ _ d.nr d.c1, ?_, fun p hp => oth _ _ _ d.nk (d.wc p hp), d.nr, d.nk, upd_bd m a 1 b (Or.inl rfl) (by omega) d.mb⟩, ⟨rfl, rfl, rfl, by simp, fun k hk hne => Below.heap_setCell _ _ _ k (by intro e; exact hne (by rw [e]))⟩⟩
    rw [heap_setCell_same (w.drewN n) gb (a / 4).toNat (wl m 4096).toArray 22 _ d.row]
    rw [wl_set m (a / 4).toNat _ (upd m a 1 b) HU.out (fun j hj => upd_ne m a 1 b j hj)]
  clear HU DH
  generalize byt m a = bo at *
  go_enter Tryz.func45, Tryz.ntmps45
  go_wp2_with fail
  refine hat.mono ?_
  rintro e w' ⟨rfl, rfl⟩
  clear hat
  go_wp2_with fail
  refine hs1.mono ?_
  rintro e w' ⟨rfl, rfl⟩
  clear hs1
  go_wp2_with fail
  refine hs2.mono ?_
  rintro e w' ⟨rfl, rfl⟩
  clear hs2
  go_upto_region 3 with fail
  have key1 := key 1
  clear key
  go_region
  all_goals
    go_wp2
    first | go_end0 | refine bodyPost_ret (results_none rfl _ _ _) rfl ?_
    exact ⟨rfl, key1⟩
end Go.Proofs.YtflagpkmebdckaaGreatDoor
/-
  The document's memory: its loads and stores.
-/
namespace Go.Proofs.YtflagpkmebdckaaGreatDoor
open Go.RowKit Go.Maps
open Num
set_option linter.unusedVariables false
theorem dgrown_trans {w w1 w2 : World} {g : Nat} (a : w.grownBy w1 (some g)) (b : w1.grownBy w2 (some g)) : w.grownBy w2 (some g) :=
  ⟨b.os.trans a.os, b.tape.trans a.tape, b.output.trans a.output, Nat.le_trans a.size b.size, fun k hk hn => (b.block k (Nat.lt_of_lt_of_le hk a.size) hn).trans (a.block k hk hn)⟩
theorem dgrown_refl (w : World) (r : Option Nat) : w.grownBy w r := ⟨rfl, rfl, rfl, Nat.le_refl _, fun _ _ _ => rfl⟩
theorem rc_ok {a s : Int} (h : chk a s = 0) : rc a s = 0 := by unfold rc; rw [h]; rfl
theorem rc_no {a s : Int} (h : chk a s ≠ 0) : 0 < rc a s := by
  unfold rc chk at *
  split at h
  · rename_i hs; simp [hs]
  · rename_i hs
    split at h
    · rename_i hm; simp [hs, hm]
    · rename_i hm
      split at h
      · rename_i hf; simp [hs, hm, hf]
      · exact absurd rfl h
set_option maxRecDepth 100000 in
set_option maxHeartbeats 1000000 in
theorem dload_ok {w : World} {rb gb kb : Nat} {m : Nat → Int} {wt : Int → Bool} (D : DRam w rb gb kb m wt) (a s : Int) (sgn : Bool) (h0 : 0 ≤ a) (h1 : a < 4294967296) (hc : chk a s = 0) : Calls Tryz.prog 99 #[.pointer (some ⟨rb, 0, none⟩), .int .u32 a, .int .i64 s, .bool sgn] w fun e w' => e = .returned (.tuple #[.int .u32 (ld m a s sgn), .int .i64 0]) ∧ w' = w := by
  obtain ⟨hs, hm, hf⟩ := chk_ok hc
  have hre := reach_any a s h0 h1 (by omega) (by omega) w
  rw [rc_ok hc] at hre
  have s0 : 1 ≤ s := by omega
  have s1 : s ≤ 4 := by omega
  have hgo : a + s ≤ 16384 := by rcases hs with rfl | rfl | rfl <;> omega
  have HG : Hid (gets m a s.toNat = m (a / 4).toNat / 2 ^ (bhd a s).toNat % 2 ^ (8 * s).toNat) := gets_all m a s h0 hs hm D.mb
  have HS : Hid (s = 1 ∨ s = 2 ∨ s = 4) := hs
  have hgb := gets_bd m a
  have DH : Hid (DRam w rb gb kb m wt) := D
  clear D hc hm hs
  go_enter Tryz.func99, Tryz.ntmps99
  go_wp2_with fail
  refine hre.mono ?_
  rintro e w' ⟨rfl, rfl⟩
  clear hre
  go_wp2_with fail
  go_loopw [11, 12] (fun x i wr => ∃ j : Nat, (j : Int) ≤ s ∧ i = .int .i64 j ∧ x = .int .i64 (gets m a j) ∧ wr = w') (fun _ i _ => s.toNat - (intOf i).toNat)
  case atStart => exact ⟨0, by omega, rfl, rfl, rfl⟩
  case round =>
    obtain ⟨j, hj, rfl, rfl, rfl⟩ := hrel
    by_cases hlt : (j : Int) < s
    · have hat := at_any DH.out (a + j) (by omega) (by omega)
      have hb := byt_bd m (a + j)
      have hj4 : j = 0 ∨ j = 1 ∨ j = 2 ∨ j = 3 := by omega
      have hg : 0 ≤ gets m a j ∧ gets m a j < 16777216 := by rcases hj4 with rfl | rfl | rfl | rfl <;> omega
      have HN : Hid (gets m a (j + 1) = 256 * gets m a j + byt m (a + j)) := rfl
      clear hgb hj4
      generalize byt m (a + j) = bo at *
      generalize gets m a j = g at *
      obtain ⟨g0, g1⟩ := hg
      obtain ⟨b0, b1⟩ := hb
      go_wp2_with fail
      refine hat.mono ?_
      rintro e w'' ⟨rfl, rfl⟩
      clear hat
      go_wp2
      go_roundw
      case rel => exact ⟨j + 1, by omega, by go_num, by rw [HN.out], by first | rfl | trivial⟩
      case measure => simp [intOf]; omega
    · have hjs : (j : Int) = s := by omega
      have hjn : j = s.toNat := by omega
      have hg : 0 ≤ gets m a j ∧ gets m a j < 4294967296 := by
        have : j = 1 ∨ j = 2 ∨ j = 4 := by have := HS.out; omega
        rcases this with rfl | rfl | rfl <;> omega
      have HL : Hid (wd (gets m a j) (8 * s) sgn = ld m a s sgn) := by
        show _ = _
        rw [hjn, HG.out, wd_mod _ _ _ HS.out]; rfl
      have hwo := wideOf_any (gets m a j) (8 * s) sgn hg.1 hg.2 wr
      rw [HL.out] at hwo
      clear hgb HL HG hjn hjs
      generalize gets m a j = g at *
      obtain ⟨g0, g1⟩ := hg
      go_wp2_with fail
      refine hwo.mono ?_
      rintro e w'' ⟨rfl, rfl⟩
      clear hwo
      go_wp2
      go_ret2
      exact ⟨rfl, rfl⟩
set_option maxRecDepth 100000 in
set_option maxHeartbeats 1000000 in
theorem dload_no (w : World) (p : Value) (a s : Int) (sgn : Bool) (h0 : 0 ≤ a) (h1 : a < 4294967296) (s0 : -9223372036854775808 ≤ s) (s1 : s ≤ 9223372036854775807) (hc : chk a s ≠ 0) : Calls Tryz.prog 99 #[p, .int .u32 a, .int .i64 s, .bool sgn] w fun e w' => e = .returned (.tuple #[.int .u32 0, .int .i64 (rc a s)]) ∧ w' = w := by
  have hre := reach_any a s h0 h1 s0 s1 w
  have hp := rc_no hc
  clear hc
  generalize rc a s = r at *
  go_enter Tryz.func99, Tryz.ntmps99
  go_wp2_with fail
  refine hre.mono ?_
  rintro e w' ⟨rfl, rfl⟩
  clear hre
  go_wp2
  go_ret2
  exact ⟨rfl, rfl⟩
set_option maxRecDepth 100000 in
set_option maxHeartbeats 1000000 in
theorem dstore_no (w : World) (p : Value) (a s v : Int) (h0 : 0 ≤ a) (h1 : a < 4294967296) (s0 : -9223372036854775808 ≤ s) (s1 : s ≤ 9223372036854775807) (hc : chk a s ≠ 0) : Calls Tryz.prog 12 #[p, .int .u32 a, .int .i64 s, .int .u32 v] w fun e w' => e = .returned (.int .i64 (rc a s)) ∧ w' = w := by
  have hre := reach_any a s h0 h1 s0 s1 w
  have hp := rc_no hc
  clear hc
  generalize rc a s = r at *
  go_enter Tryz.func12, Tryz.ntmps12
  go_wp2_with fail
  refine hre.mono ?_
  rintro e w' ⟨rfl, rfl⟩
  clear hre
  go_wp2
  go_ret
  exact ⟨rfl, rfl⟩
theorem pw_b (s j : Int) (h0 : 0 ≤ s - 1 - j) (h1 : s - 1 - j ≤ 3) : pw (8 * (s - 1 - j)) = 2 ^ (8 * (s - 1 - j)).toNat := by
  unfold pw; rw [Int.emod_eq_of_lt (by omega) (by omega)]
end Go.Proofs.YtflagpkmebdckaaGreatDoor
/-
  A region that draws its order, some of whose operations yield one value in every world of a class, and whose other operations come up in one order alone and leave a world of the class: walked once, by a plan.
-/
namespace Go.Proofs.YtflagpkmebdckaaGreatDoor
set_option linter.unusedVariables false
section
variable {P : Program} {ops : Array Oper} {Q : Exit → Act → World → Prop} {md : Region.Mode} {C : World → Prop}
/-- as wpAny, every world on the way being of the class -/
def wpAnyC (P : Program) (md : Region.Mode) (ops : Array Oper) (C : World → Prop) (Q : Exit → Act → World → Prop) : Nat → Array Bool → Act → World → Prop
  | 0, listed, a, w => C w ∧ Region.ready md ops listed = [] ∧ Q .normal a w
  | fuel + 1, listed, a, w => C w ∧ (Region.ready md ops listed = [] → Q .normal a w) ∧ ∀ i ∈ Region.ready md ops listed, wpOp P ops Q i (wpAnyC P md ops C Q fuel (listed.setIfInBounds i true)) a w
theorem wpAny_of_C : ∀ (fuel : Nat) (listed : Array Bool) (a : Act) (w : World), wpAnyC P md ops C Q fuel listed a w → wpAny P md ops Q fuel listed a w
  | 0, _, _, _, h => ⟨h.2.1, h.2.2⟩
  | fuel + 1, _, _, _, h => ⟨h.2.1, fun i hi => wpOp_mono (fun a' w' => wpAny_of_C fuel _ a' w') (h.2.2 i hi)⟩
def upon (W : World) (v : Value) : Result Next → Prop
  | .ok (.value u) w' => w' = W ∧ u = v
  | .ok .skip w' => w' = W ∧ v = undef
  | _ => False
/-- one value in every world of the class -/
def YieldsC (P : Program) (ops : Array Oper) (C : World → Prop) (o : Oper) (v : Value) (a : Act) : Prop :=
  (Region.wanted o (yielded ops a.tmps) = true ∧ ∀ w, C w → upon w v ((execOp a.eval o).run P w)) ∨
  (Region.wanted o (yielded ops a.tmps) = false ∧ v = undef)
theorem YieldsC.wpOp {i : Nat} {o : Oper} {v : Value} {a : Act} (hi : ops[i]? = some o) (hy : YieldsC P ops C o v a) {K : Act → World → Prop} {w : World} (hw : C w) (h : K (a.put o.dst v) w) : wpOp P ops Q i K a w := by
  unfold Go.wpOp
  simp only [hi]
  rcases hy with ⟨hwt, hv⟩ | ⟨hwt, rfl⟩
  · simp only [hwt, if_true, Oper.wp]
    have h1 := hv w hw
    generalize (execOp a.eval o).run P w = r at h1
    cases r with
    | ok n w' =>
      cases n <;> simp only [upon] at h1
      case value u => obtain ⟨rfl, rfl⟩ := h1; simp only [Oper.upon]; exact .inl h
      case skip => obtain ⟨rfl, rfl⟩ := h1; simp only [Oper.upon]; exact .inl h
    | halt x w' => simp only [upon] at h1
  · simp only [hwt, Bool.false_eq_true, if_false]; exact h
theorem YieldsC.of_same {o : Oper} {v : Value} {a a' : Act} (hy : YieldsC P ops C o v a) (he : execOp a'.eval o = execOp a.eval o) (hw : Region.wanted o (yielded ops a'.tmps) = Region.wanted o (yielded ops a.tmps)) : YieldsC P ops C o v a' := by
  unfold YieldsC at *
  rw [he, hw]
  exact hy
theorem wpOp_putC {j : Nat} {oi oj : Oper} {v : Value} (hj : ops[j]? = some oj) (hap : oi.apart ops oj = true)
    (hsi : ∀ cs b, oi.op ≠ .select cs b) (hsj : ∀ cs b, oj.op ≠ .select cs b)
    (hQ : ∀ c a w, Q (.panic c) (a.put oi.dst v) w → Q (.panic c) a w) {K : Act → World → Prop} {a : Act} {w : World}
    (hy : YieldsC P ops C oi v a) (h : wpOp P ops Q j K (a.put oi.dst v) w) :
    wpOp P ops Q j (fun a' w' => YieldsC P ops C oi v a' ∧ K (a'.put oi.dst v) w') a w := by
  obtain ⟨h1, h2, h3⟩ := Oper.apart_spec hap
  have keep : ∀ (a : Act), YieldsC P ops C oi v a → ∀ u, YieldsC P ops C oi v (a.put oj.dst u) := fun a hy u =>
    hy.of_same (execOp_put oi hsi a oj.dst u h3) (wanted_put oi a oj.dst u h3)
  have keepD : ∀ d, YieldsC P ops C oi v { a with defers := d :: a.defers } := fun d => hy.of_same rfl rfl
  unfold wpOp at *
  simp only [hj] at *
  rw [wanted_put oj a oi.dst v h1] at h
  split
  · rename_i hw
    simp only [hw, if_true] at h
    rcases h with h | ⟨hasks, hlets⟩
    case inr => exact .inr ⟨by unfold Oper.asks at *; rw [execOp_put oj hsj a oi.dst v h1] at hasks; exact hasks, hlets⟩
    refine .inl ?_
    unfold Oper.wp at *
    rw [execOp_put oj hsj a oi.dst v h1] at h
    generalize (execOp a.eval oj).run P w = r at *
    cases r with
    | ok n w' =>
      cases n <;> simp only [Oper.upon] at h ⊢
      case value u => exact ⟨keep a hy u, by rw [← Act.put_comm a v u h2]; exact h⟩
      case skip => exact ⟨keep a hy _, by rw [← Act.put_comm a v undef h2]; exact h⟩
      case defer d =>
        refine ⟨keep _ (keepD d) _, ?_⟩
        rw [← Act.put_comm _ v undef h2, ← Act.put_defers]
        exact h
      case enter f args =>
        refine Calls.mono h fun e w'' he => ?_
        cases e with
        | returned u => exact ⟨keep a hy u, by rw [← Act.put_comm a v u h2]; exact he⟩
        | panicked c => exact hQ _ _ _ he
        | outgrown => exact he
      case row row args => exact Rows.mono h fun u w'' he => ⟨keep a hy u, by rw [← Act.put_comm a v u h2]; exact he⟩
    | halt x w' =>
      cases x <;> simp only [Oper.upon] at h ⊢
      case panic u => exact hQ _ _ _ h
  · rename_i hw
    simp only [hw] at h
    exact ⟨keep a hy _, by rw [← Act.put_comm a v undef h2]; exact h⟩
/-- what yields one value in every world of the class may be taken first -/
theorem wpAnyC_first {i : Nat} {oi : Oper} {v : Value} (hi : ops[i]? = some oi) (hsel : ∀ (j : Nat) (o : Oper) cs b, ops[j]? = some o → o.op ≠ .select cs b)
    (hQ : ∀ c a w, Q (.panic c) (a.put oi.dst v) w → Q (.panic c) a w) :
    ∀ (fuel : Nat) (listed : Array Bool) (a : Act) (w : World),
      (∀ j oj, ops[j]? = some oj → j ≠ i → listed.getD j true = false → (∀ e ∈ oj.after, Region.binds md e = true → e.on ≠ i) → oi.apart ops oj = true) →
      i ∈ Region.ready md ops listed → YieldsC P ops C oi v a →
      wpAnyC P md ops C Q fuel (listed.setIfInBounds i true) (a.put oi.dst v) w → wpAnyC P md ops C Q (fuel + 1) listed a w := by
  intro fuel
  induction fuel with
  | zero =>
    intro listed a w _ hr hy H
    refine ⟨H.1, fun h => (by rw [h] at hr; cases hr), fun j hj => ?_⟩
    by_cases hji : j = i
    · subst hji; exact hy.wpOp hi H.1 H
    · have := ready_mono hj hji
      rw [H.2.1] at this
      cases this
  | succ fuel ih =>
    intro listed a w hfree hr hy H
    refine ⟨H.1, fun h => (by rw [h] at hr; cases hr), fun j hj => ?_⟩
    by_cases hji : j = i
    · subst hji; exact hy.wpOp hi H.1 H
    · have h1 := H.2.2 j (ready_mono hj hji)
      obtain ⟨hjun, oj, hoj, hall⟩ := mem_ready.1 hj
      have hnot : ∀ e ∈ oj.after, Region.binds md e = true → e.on ≠ i := fun e he hb heq => by
        have h1 := hall e he hb
        have h0 := (mem_ready.1 hr).1
        rw [heq] at h1
        rcases Nat.lt_or_ge i listed.size with h' | h'
        · simp [h'] at h0 h1; rw [h0] at h1; cases h1
        · simp [Array.getElem?_eq_none h'] at h1
      have h2 := wpOp_putC hoj (hfree j oj hoj hji hjun hnot) (fun cs b => hsel i oi cs b hi) (fun cs b => hsel j oj cs b hoj) hQ hy h1
      have hfree' : ∀ k ok, ops[k]? = some ok → k ≠ i → (listed.setIfInBounds j true).getD k true = false →
          (∀ e ∈ ok.after, Region.binds md e = true → e.on ≠ i) → oi.apart ops ok = true := fun k ok hk hki hun hno => by
        refine hfree k ok hk hki ?_ hno
        by_cases hjk : j = k
        · subst hjk; exact hjun
        · rw [getD_set_ne true hjk] at hun; exact hun
      refine wpOp_mono (fun a' w' h3 => ih (listed.setIfInBounds j true) a' w' hfree' (ready_mono hr (Ne.symm hji)) h3.1 ?_) h2
      rw [Array.setIfInBounds_comm _ _ hji]
      exact h3.2
/-- a plan: the operations in the order in which they are walked; true: nothing else may come up there -/
def planB (md : Region.Mode) (ops : Array Oper) : List (Nat × Bool) → Array Bool → Bool
  | [], listed => (Region.ready md ops listed).isEmpty
  | (i, s) :: rest, listed => (if s then Region.ready md ops listed == [i] else (Region.ready md ops listed).contains i && Region.free md ops listed i) && planB md ops rest (listed.setIfInBounds i true)
def allB (ops : Array Oper) (plan : List (Nat × Bool)) : Bool := Region.noSelect ops && plan.length == ops.size && planB .any ops plan (Array.replicate ops.size false)
def one (P : Program) (ops : Array Oper) (C : World → Prop) (Q : Exit → Act → World → Prop) (s : Bool) (o : Oper) (K : Act → World → Prop) (a : Act) (w : World) : Prop :=
  if Region.wanted o (yielded ops a.tmps) = true then
    if s = true then o.wp P a w (fun a' w' => C w' ∧ K a' w') Q else ∃ v, (∀ W, C W → upon W v ((execOp a.eval o).run P W)) ∧ K (a.put o.dst v) w
  else K (a.put o.dst undef) w
def wpPlan (P : Program) (ops : Array Oper) (C : World → Prop) (Q : Exit → Act → World → Prop) : List (Nat × Bool) → Act → World → Prop
  | [], a, w => Q .normal a w
  | (i, s) :: rest, a, w => ∃ o, ops[i]? = some o ∧ one P ops C Q s o (wpPlan P ops C Q rest) a w
theorem wpAnyC_plan (hs : Region.noSelect ops = true) (hQ : ∀ c a w d v, Q (.panic c) (a.put d v) w → Q (.panic c) a w) : ∀ (plan : List (Nat × Bool)) (listed : Array Bool) (a : Act) (w : World), planB md ops plan listed = true → C w → wpPlan P ops C Q plan a w → wpAnyC P md ops C Q plan.length listed a w
  | [], listed, a, w, hB, hw, h => ⟨hw, by simpa [planB] using hB, h⟩
  | (i, s) :: rest, listed, a, w, hB, hw, ⟨o, ho, h⟩ => by
    simp only [planB, Bool.and_eq_true] at hB
    obtain ⟨hB1, hB2⟩ := hB
    have ih := wpAnyC_plan hs hQ rest (listed.setIfInBounds i true)
    unfold one at h
    cases s with
    | false =>
      simp only [Bool.false_eq_true, if_false, Bool.and_eq_true] at hB1 h
      obtain ⟨hr, hf⟩ := hB1
      by_cases hwt : Region.wanted o (yielded ops a.tmps) = true
      · simp only [hwt, if_true] at h
        obtain ⟨v, hy, hK⟩ := h
        exact wpAnyC_first ho (Region.noSelect_spec hs) (fun c a w => hQ c a w _ _) rest.length listed a w (Region.free_spec ho hf) (by simpa using hr) (.inl ⟨hwt, hy⟩) (ih _ _ hB2 hw hK)
      · simp only [hwt] at h
        exact wpAnyC_first ho (Region.noSelect_spec hs) (fun c a w => hQ c a w _ _) rest.length listed a w (Region.free_spec ho hf) (by simpa using hr) (.inr ⟨by simpa using hwt, rfl⟩) (ih _ _ hB2 hw h)
    | true =>
      simp only [if_true, beq_iff_eq] at hB1 h
      refine ⟨hw, fun h0 => (by rw [hB1] at h0; cases h0), fun j hj => ?_⟩
      rw [hB1, List.mem_singleton] at hj
      subst hj
      unfold wpOp
      simp only [ho]
      by_cases hwt : Region.wanted o (yielded ops a.tmps) = true
      · simp only [hwt, if_true] at h ⊢
        exact .inl (Oper.wp_mono (fun a' w' h' => ih a' w' hB2 h'.1 h'.2) h)
      · simp only [hwt] at h ⊢
        exact ih _ _ hB2 hw h
theorem wp_region_plan {id : Nat} {a : Act} {w : World} (plan : List (Nat × Bool)) (C : World → Prop) (hm : P.follows .mixedOrders = true) (hB : allB ops plan = true) (hQ : ∀ c a w d v, Q (.panic c) (a.put d v) w → Q (.panic c) a w)
    (hC : C w.drew) (h : wpPlan P ops C Q plan a w.drew) : (Code.region id ops true).wp P Q a w := by
  simp only [allB, Bool.and_eq_true, beq_iff_eq] at hB
  obtain ⟨⟨h1, h2⟩, h3⟩ := hB
  have := wpAny_of_C _ _ _ _ (wpAnyC_plan (md := .any) h1 hQ plan _ a w.drew h3 hC h)
  rw [h2] at this
  exact wp_region_any hm this
theorem wpPlan_nil {a : Act} {w : World} (h : Q .normal a w) : wpPlan P ops C Q [] a w := h
/-- a step of a plan whose operation yields in every world of the class -/
theorem wpPlan_quiet {i : Nat} {rest : List (Nat × Bool)} {a : Act} {w : World} {o : Oper} {v : Value} (ho : ops[i]? = some o) (hwt : Region.wanted o (yielded ops a.tmps) = true) (hv : ∀ W, C W → (execOp a.eval o).run P W = .ok (.value v) W) (h : ∀ K : Act → Prop, (∀ a', wpPlan P ops C Q rest a' w → K a') → K (a.put o.dst v)) : wpPlan P ops C Q ((i, false) :: rest) a w :=
  ⟨o, ho, by unfold one; rw [if_pos hwt, if_neg (by simp)]; exact ⟨v, fun W hW => by rw [hv W hW]; exact ⟨rfl, rfl⟩, h _ (fun _ h => h)⟩⟩
/-- a step that is done where it stands -/
theorem wpPlan_serial {i : Nat} {rest : List (Nat × Bool)} {a : Act} {w : World} {o : Oper} (ho : ops[i]? = some o) (hwt : Region.wanted o (yielded ops a.tmps) = true) (h : ∀ K : Act → World → Prop, (∀ a' w', C w' → wpPlan P ops C Q rest a' w' → K a' w') → o.wp P a w K Q) : wpPlan P ops C Q ((i, true) :: rest) a w :=
  ⟨o, ho, by unfold one; rw [if_pos hwt, if_pos rfl]; exact h _ (fun a' w' h1 h2 => ⟨h1, h2⟩)⟩
end
end Go.Proofs.YtflagpkmebdckaaGreatDoor
/-
  As Serial, where the class is asked for only till one operation, z, has come up: what reads by the class has come up ahead of z.
-/
namespace Go.Proofs.YtflagpkmebdckaaGreatDoor
set_option linter.unusedVariables false
section
variable {P : Program} {ops : Array Oper} {Q : Exit → Act → World → Prop} {md : Region.Mode} {C : World → Prop} {z : Nat}
/-- what has come up had all that it waits for -/
def Dn (md : Region.Mode) (ops : Array Oper) (listed : Array Bool) : Prop := ∀ (j : Nat) (oj : Oper), ops[j]? = some oj → listed.getD j false = true → ∀ e ∈ oj.after, Region.binds md e = true → listed.getD e.on false = true
theorem Dn.set {listed : Array Bool} (d : Dn md ops listed) {i : Nat} (hi : i ∈ Region.ready md ops listed) : Dn md ops (listed.setIfInBounds i true) := by
  intro j oj hj hl e he hb
  by_cases hij : i = j
  · subst hij
    obtain ⟨_, o, ho, hall⟩ := mem_ready.1 hi
    obtain rfl : o = oj := Option.some.inj (ho.symm.trans hj)
    exact getD_set_true (hall e he hb)
  · rw [getD_set_ne false hij] at hl
    exact getD_set_true (d j oj hj hl e he hb)
theorem Dn.none (n : Nat) : Dn md ops (Array.replicate n false) := by
  intro j oj hj hl
  by_cases h : j < n <;> simp [h] at hl
def Cz (C : World → Prop) (z : Nat) (listed : Array Bool) (w : World) : Prop := listed.getD z false = false → C w
def wpAnyZ (P : Program) (md : Region.Mode) (ops : Array Oper) (C : World → Prop) (z : Nat) (Q : Exit → Act → World → Prop) : Nat → Array Bool → Act → World → Prop
  | 0, listed, a, w => Cz C z listed w ∧ Region.ready md ops listed = [] ∧ Q .normal a w
  | fuel + 1, listed, a, w => Cz C z listed w ∧ (Region.ready md ops listed = [] → Q .normal a w) ∧ ∀ i ∈ Region.ready md ops listed, wpOp P ops Q i (wpAnyZ P md ops C z Q fuel (listed.setIfInBounds i true)) a w
theorem wpAny_of_Z : ∀ (fuel : Nat) (listed : Array Bool) (a : Act) (w : World), wpAnyZ P md ops C z Q fuel listed a w → wpAny P md ops Q fuel listed a w
  | 0, _, _, _, h => ⟨h.2.1, h.2.2⟩
  | fuel + 1, _, _, _, h => ⟨h.2.1, fun i hi => wpOp_mono (fun a' w' => wpAny_of_Z fuel _ a' w') (h.2.2 i hi)⟩
/-- does z wait for i? -/
def waitsB (md : Region.Mode) (ops : Array Oper) (z i : Nat) : Bool := match ops[z]? with | none => true | some oz => oz.after.any fun e => Region.binds md e && e.on == i
theorem waits_not {i : Nat} {listed : Array Bool} (d : Dn md ops listed) (hsz : listed.size = ops.size) (h : waitsB md ops z i = true) (hi : i ∈ Region.ready md ops listed) : listed.getD z false = false := by
  cases hz : ops[z]? with
  | none =>
    have : ¬ z < ops.size := fun h => by rw [Array.getElem?_eq_getElem h] at hz; cases hz
    have : ¬ z < listed.size := by omega
    simp [this]
  | some oz =>
    unfold waitsB at h
    rw [hz] at h
    obtain ⟨e, he, hb⟩ := Array.any_eq_true'.1 h
    simp only [Bool.and_eq_true, beq_iff_eq] at hb
    cases hl : listed.getD z false with
    | false => rfl
    | true =>
      have h1 := d z oz hz hl e he hb.1
      have h0 := (mem_ready.1 hi).1
      rw [hb.2] at h1
      rcases Nat.lt_or_ge i listed.size with h' | h'
      · simp [h'] at h0 h1; rw [h0] at h1; cases h1
      · simp [Array.getElem?_eq_none h'] at h1
/-- u: is the class asked for? -/
theorem wpAnyZ_first {i : Nat} {oi : Oper} {v : Value} (u : Bool) (hi : ops[i]? = some oi) (hsel : ∀ (j : Nat) (o : Oper) cs b, ops[j]? = some o → o.op ≠ .select cs b)
    (hQ : ∀ c a w, Q (.panic c) (a.put oi.dst v) w → Q (.panic c) a w) (hu : u = true → waitsB md ops z i = true) (hiz : i ≠ z) :
    ∀ (fuel : Nat) (listed : Array Bool) (a : Act) (w : World), Dn md ops listed → listed.size = ops.size →
      (∀ j oj, ops[j]? = some oj → j ≠ i → listed.getD j true = false → (∀ e ∈ oj.after, Region.binds md e = true → e.on ≠ i) → oi.apart ops oj = true) →
      i ∈ Region.ready md ops listed → YieldsC P ops (fun w => u = true → C w) oi v a →
      wpAnyZ P md ops C z Q fuel (listed.setIfInBounds i true) (a.put oi.dst v) w → wpAnyZ P md ops C z Q (fuel + 1) listed a w := by
  intro fuel
  induction fuel with
  | zero =>
    intro listed a w d hsz _ hr hy H
    have hc : Cz C z listed w := fun h => H.1 (by rw [getD_set_ne false hiz]; exact h)
    refine ⟨hc, fun h => (by rw [h] at hr; cases hr), fun j hj => ?_⟩
    by_cases hji : j = i
    · subst hji; exact hy.wpOp hi (fun h => hc (waits_not d hsz (hu h) hr)) H
    · have := ready_mono hj hji
      rw [H.2.1] at this
      cases this
  | succ fuel ih =>
    intro listed a w d hsz hfree hr hy H
    have hc : Cz C z listed w := fun h => H.1 (by rw [getD_set_ne false hiz]; exact h)
    refine ⟨hc, fun h => (by rw [h] at hr; cases hr), fun j hj => ?_⟩
    by_cases hji : j = i
    · subst hji; exact hy.wpOp hi (fun h => hc (waits_not d hsz (hu h) hr)) H
    · have h1 := H.2.2 j (ready_mono hj hji)
      obtain ⟨hjun, oj, hoj, hall⟩ := mem_ready.1 hj
      have hnot : ∀ e ∈ oj.after, Region.binds md e = true → e.on ≠ i := fun e he hb heq => by
        have h1 := hall e he hb
        have h0 := (mem_ready.1 hr).1
        rw [heq] at h1
        rcases Nat.lt_or_ge i listed.size with h' | h'
        · simp [h'] at h0 h1; rw [h0] at h1; cases h1
        · simp [Array.getElem?_eq_none h'] at h1
      have h2 := wpOp_putC hoj (hfree j oj hoj hji hjun hnot) (fun cs b => hsel i oi cs b hi) (fun cs b => hsel j oj cs b hoj) hQ hy h1
      have hfree' : ∀ k ok, ops[k]? = some ok → k ≠ i → (listed.setIfInBounds j true).getD k true = false →
          (∀ e ∈ ok.after, Region.binds md e = true → e.on ≠ i) → oi.apart ops ok = true := fun k ok hk hki hun hno => by
        refine hfree k ok hk hki ?_ hno
        by_cases hjk : j = k
        · subst hjk; exact hjun
        · rw [getD_set_ne true hjk] at hun; exact hun
      refine wpOp_mono (fun a' w' h3 => ih (listed.setIfInBounds j true) a' w' (d.set hj) (by simpa using hsz) hfree' (ready_mono hr (Ne.symm hji)) h3.1 ?_) h2
      rw [Array.setIfInBounds_comm _ _ hji]
      exact h3.2
/-- a plan: 0: yields in every world; 1: in every world of the class; 2: done where it stands, nothing else may come up there -/
def planZ (md : Region.Mode) (ops : Array Oper) (z : Nat) : List (Nat × Nat) → Array Bool → Bool
  | [], listed => (Region.ready md ops listed).isEmpty
  | (i, k) :: rest, listed => (if k = 2 then Region.ready md ops listed == [i] else (Region.ready md ops listed).contains i && Region.free md ops listed i && decide (i ≠ z) && (decide (k = 0) || waitsB md ops z i)) && planZ md ops z rest (listed.setIfInBounds i true)
def allZ (ops : Array Oper) (z : Nat) (plan : List (Nat × Nat)) : Bool := Region.noSelect ops && plan.length == ops.size && planZ .any ops z plan (Array.replicate ops.size false)
def oneZ (P : Program) (ops : Array Oper) (C : World → Prop) (Q : Exit → Act → World → Prop) (k : Nat) (on : Bool) (o : Oper) (K : Act → World → Prop) (a : Act) (w : World) : Prop :=
  if Region.wanted o (yielded ops a.tmps) = true then
    if k = 2 then o.wp P a w (fun a' w' => (on = true → C w') ∧ K a' w') Q else ∃ v, (∀ W, (k ≠ 0 → C W) → upon W v ((execOp a.eval o).run P W)) ∧ K (a.put o.dst v) w
  else K (a.put o.dst undef) w
def wpPlanZ (P : Program) (ops : Array Oper) (C : World → Prop) (z : Nat) (Q : Exit → Act → World → Prop) : Bool → List (Nat × Nat) → Act → World → Prop
  | _, [], a, w => Q .normal a w
  | on, (i, k) :: rest, a, w => ∃ o, ops[i]? = some o ∧ oneZ P ops C Q k (on && i != z) o (wpPlanZ P ops C z Q (on && i != z) rest) a w
theorem wpAnyZ_plan (hs : Region.noSelect ops = true) (hQ : ∀ c a w d v, Q (.panic c) (a.put d v) w → Q (.panic c) a w) : ∀ (plan : List (Nat × Nat)) (on : Bool) (listed : Array Bool) (a : Act) (w : World), Dn md ops listed → listed.size = ops.size → (on = false → listed.getD z false = true) → planZ md ops z plan listed = true → (on = true → C w) → wpPlanZ P ops C z Q on plan a w → wpAnyZ P md ops C z Q plan.length listed a w
  | [], on, listed, a, w, d, hsz, ho, hB, hw, h => ⟨fun hz => (by cases on with | true => exact hw rfl | false => rw [ho rfl] at hz; cases hz), by simpa [planZ] using hB, h⟩
  | (i, k) :: rest, on, listed, a, w, d, hsz, hon, hB, hw, ⟨o, ho, h⟩ => by
    simp only [planZ, Bool.and_eq_true] at hB
    obtain ⟨hB1, hB2⟩ := hB
    have ih := wpAnyZ_plan hs hQ rest (on && i != z) (listed.setIfInBounds i true)
    have hcz : Cz C z listed w := fun hz => (by cases on with | true => exact hw rfl | false => rw [hon rfl] at hz; cases hz)
    have hon' : ∀ (hl : i < ops.size), (on && i != z) = false → (listed.setIfInBounds i true).getD z false = true := by
      intro hl h
      by_cases e : i = z
      · subst e; have : i < listed.size := by omega
        simp [this]
      · have : on = false := by simpa [e] using h
        exact getD_set_true (hon this)
    have hl : i < ops.size := (Array.getElem?_eq_some_iff.1 ho).1
    unfold oneZ at h
    by_cases hk : k = 2
    · simp only [hk, if_true, beq_iff_eq] at hB1 h
      have hm : i ∈ Region.ready md ops listed := by rw [hB1]; exact List.mem_singleton.2 rfl
      refine ⟨hcz, fun h0 => (by rw [hB1] at h0; cases h0), fun j hj => ?_⟩
      rw [hB1, List.mem_singleton] at hj
      subst hj
      unfold wpOp
      simp only [ho]
      by_cases hwt : Region.wanted o (yielded ops a.tmps) = true
      · simp only [hwt, if_true] at h ⊢
        exact .inl (Oper.wp_mono (fun a' w' h' => ih a' w' (d.set hm) (by simpa using hsz) (hon' hl) hB2 h'.1 h'.2) h)
      · simp only [hwt] at h ⊢
        exact ih _ _ (d.set hm) (by simpa using hsz) (hon' hl) hB2 (fun h => hw (by simp only [Bool.and_eq_true] at h; exact h.1)) h
    · simp only [hk, if_false, Bool.and_eq_true] at hB1 h
      obtain ⟨⟨⟨hr, hf⟩, hiz⟩, hwz⟩ := hB1
      have hiz' : i ≠ z := of_decide_eq_true hiz
      have hm : i ∈ Region.ready md ops listed := by simpa using hr
      have hu : (decide (k ≠ 0)) = true → waitsB md ops z i = true := by
        intro hk0
        have : k ≠ 0 := of_decide_eq_true hk0
        simpa [this] using hwz
      have hw' : (on && i != z) = true → C w := fun h => hw (by simp only [Bool.and_eq_true] at h; exact h.1)
      by_cases hwt : Region.wanted o (yielded ops a.tmps) = true
      · simp only [hwt, if_true] at h
        obtain ⟨v, hy, hK⟩ := h
        exact wpAnyZ_first (decide (k ≠ 0)) ho (Region.noSelect_spec hs) (fun c a w => hQ c a w _ _) hu hiz' rest.length listed a w d hsz (Region.free_spec ho hf) hm (.inl ⟨hwt, fun W hW => hy W (fun hk0 => hW (decide_eq_true hk0))⟩) (ih _ _ (d.set hm) (by simpa using hsz) (hon' hl) hB2 hw' hK)
      · simp only [hwt] at h
        exact wpAnyZ_first (decide (k ≠ 0)) ho (Region.noSelect_spec hs) (fun c a w => hQ c a w _ _) hu hiz' rest.length listed a w d hsz (Region.free_spec ho hf) hm (.inr ⟨by simpa using hwt, rfl⟩) (ih _ _ (d.set hm) (by simpa using hsz) (hon' hl) hB2 hw' h)
theorem wp_region_phase {id : Nat} {a : Act} {w : World} (z : Nat) (plan : List (Nat × Nat)) (C : World → Prop) (hm : P.follows .mixedOrders = true) (hB : allZ ops z plan = true) (hQ : ∀ c a w d v, Q (.panic c) (a.put d v) w → Q (.panic c) a w)
    (hC : C w.drew) (h : wpPlanZ P ops C z Q true plan a w.drew) : (Code.region id ops true).wp P Q a w := by
  simp only [allZ, Bool.and_eq_true, beq_iff_eq] at hB
  obtain ⟨⟨h1, h2⟩, h3⟩ := hB
  have := wpAny_of_Z _ _ _ _ (wpAnyZ_plan (md := .any) h1 hQ plan true _ a w.drew (Dn.none _) (by simp) (fun h => by cases h) h3 (fun _ => hC) h)
  rw [h2] at this
  exact wp_region_any hm this
theorem wpPlanZ_nil {on : Bool} {a : Act} {w : World} (h : Q .normal a w) : wpPlanZ P ops C z Q on [] a w := by cases on <;> exact h
theorem wpPlanZ_free {on : Bool} {i : Nat} {rest : List (Nat × Nat)} {a : Act} {w : World} {o : Oper} {v : Value} (ho : ops[i]? = some o) (hwt : Region.wanted o (yielded ops a.tmps) = true) (hv : ∀ W, (execOp a.eval o).run P W = .ok (.value v) W) (h : ∀ K : Act → Prop, (∀ a', wpPlanZ P ops C z Q (on && i != z) rest a' w → K a') → K (a.put o.dst v)) : wpPlanZ P ops C z Q on ((i, 0) :: rest) a w :=
  ⟨o, ho, by unfold oneZ; rw [if_pos hwt, if_neg (by simp)]; exact ⟨v, fun W _ => by rw [hv W]; exact ⟨rfl, rfl⟩, h _ (fun _ h => h)⟩⟩
theorem wpPlanZ_quiet {on : Bool} {i : Nat} {rest : List (Nat × Nat)} {a : Act} {w : World} {o : Oper} {v : Value} (ho : ops[i]? = some o) (hwt : Region.wanted o (yielded ops a.tmps) = true) (hv : ∀ W, C W → (execOp a.eval o).run P W = .ok (.value v) W) (h : ∀ K : Act → Prop, (∀ a', wpPlanZ P ops C z Q (on && i != z) rest a' w → K a') → K (a.put o.dst v)) : wpPlanZ P ops C z Q on ((i, 1) :: rest) a w :=
  ⟨o, ho, by unfold oneZ; rw [if_pos hwt, if_neg (by simp)]; exact ⟨v, fun W hW => by rw [hv W (hW (by simp))]; exact ⟨rfl, rfl⟩, h _ (fun _ h => h)⟩⟩
theorem wpPlanZ_serial {on : Bool} {i : Nat} {rest : List (Nat × Nat)} {a : Act} {w : World} {o : Oper} (ho : ops[i]? = some o) (hwt : Region.wanted o (yielded ops a.tmps) = true) (h : ∀ K : Act → World → Prop, (∀ a' w', ((on && i != z) = true → C w') → wpPlanZ P ops C z Q (on && i != z) rest a' w' → K a' w') → o.wp P a w K Q) : wpPlanZ P ops C z Q on ((i, 2) :: rest) a w :=
  ⟨o, ho, by unfold oneZ; rw [if_pos hwt, if_pos rfl]; exact h _ (fun a' w' h1 h2 => ⟨h1, h2⟩)⟩
end
end Go.Proofs.YtflagpkmebdckaaGreatDoor
/-
  As Phase, where two operations may come up at one place: both orders are walked.
-/
namespace Go.Proofs.YtflagpkmebdckaaGreatDoor
set_option linter.unusedVariables false
section
variable {P : Program} {ops : Array Oper} {Q : Exit → Act → World → Prop} {md : Region.Mode} {C : World → Prop} {z : Nat}
end
end Go.Proofs.YtflagpkmebdckaaGreatDoor
/-
  A code on its way: what it has so far; an op is added.
-/
namespace Go.Proofs.YtflagpkmebdckaaGreatDoor.Low
open Go.RowKit Go.Maps
open Num
set_option linter.unusedVariables false
theorem oper_append_movedL {P : Program} {o : Oper} {a : Act} {w : World} {K : Act → World → Prop} {Q : Exit → Act → World → Prop} (s x : Operand) (t : TypeId)
    (ho : o.op = .call { callee := .builtin .append, args := #[s, x], argTypes := #[t, t] })
    (base : Nat) (e : TypeId) (i : TypeInfo) (z : Value) (size bytes : Nat) (ht : P.underlying t = some (.slice e)) (hi : P.info? e = some i) (hz : i.zero = some z)
    (hsize : i.size = size) (hby : i.bytes = bytes) (hzs : z.cells.size = size) (hsz : 0 < size)
    (v : Value) (n : Nat) (xs : List Value) (hs : a.eval s = v) (hown : w.ownsRow base e size v n xs)
    (ad : Addr) (m c : Nat) (news : List Value) (hx : a.eval x = .slice (some ad) m c) (hl : news.length = m * size) (hnews : ∀ j u, news[j]? = some u → w.cell? (ad.add j) = some u) (h1 : ∀ u ∈ news, u.oneCell' = true)
    (h63 : n + m ≤ maxLen) (hbytes : (n + m) * bytes ≤ 140737488355328) (hbase : base ≤ w.heap.size)
    (h : ∀ v' w', w'.ownsRow base e size v' (n + m) (xs ++ news) → w.grownBy w' v.ownBlock → Moved w v v' → K (a.put o.dst v') w') : Oper.wp P o a w K Q := by
  obtain ⟨v', w', hr, h2, h3, h4⟩ := run_append_moved (P := P) w base t o.type e i z size bytes ht hi hz hsize hby hzs hsz v n xs hown ad m c news hl hnews h1 h63 hbytes hbase
  unfold Oper.wp execOp
  simp only [ho, resolve, invoke, builtin, Sem.run_bind, Sem.run_pure, Result.andThen_ok, List.map_toArray, List.map_cons, List.map_nil, hs, hx, hr]
  exact h v' w' h2 h3 h4
theorem owns_posL {w : World} {base : Nat} {e : TypeId} {size n : Nat} {v : Value} {xs : List Value} (h : w.ownsRow base e size v (n + 1) xs) : ∃ g cap, v = .slice (some ⟨g, 0, none⟩) (n + 1) cap := by
  rcases h.2 with ⟨_, h⟩ | ⟨g, cap, cur, rfl, _⟩
  · omega
  · exact ⟨g, cap, rfl⟩
theorem owns_ltL {w : World} {base : Nat} {e : TypeId} {size n : Nat} {v : Value} {xs : List Value} (h : w.ownsRow base e size v n xs) (k : Nat) (hk : v.ownBlock = some k) : base ≤ k ∧ k < w.heap.size := by
  rcases h.2 with ⟨rfl, _⟩ | ⟨g, cap, cur, rfl, hb, hg, _⟩
  · cases hk
  · injection hk with hk; subst hk; exact ⟨hb, (Array.getElem?_eq_some_iff.1 hg).1⟩
/-- a code on its way -/
structure LAt (w0 w : World) (lb : Nat) (pc many at_ : Int) (l : List Opx) (v : Value) : Prop where
  c0 : w.cell? ⟨lb, 0, none⟩ = some (.int .u32 pc)
  c1 : w.cell? ⟨lb, 1, none⟩ = some (.int .i64 many)
  c2 : w.cell? ⟨lb, 2, none⟩ = some v
  c3 : w.cell? ⟨lb, 3, none⟩ = some (.int .i64 at_)
  fz : ∀ j, w.frozen? ⟨lb, j, none⟩ = false
  row : w.ownsRow w0.heap.size 139 6 v l.length (opL l)
  be : Below w0.heap.size w0 w
  lf : w0.heap.size ≤ lb
  vb : ∀ k, v.ownBlock = some k → k ≠ lb
/-- what else stays while ops are added -/
structure LKept (w w' : World) (lb : Nat) (v v' : Value) : Prop where
  size : w.heap.size ≤ w'.heap.size
  keep : ∀ k, k < w.heap.size → k ≠ lb → v.ownBlock ≠ some k → w'.heap[k]? = w.heap[k]? ∧ v'.ownBlock ≠ some k
theorem LKept.refl (w : World) (lb : Nat) (v : Value) : LKept w w lb v v := ⟨Nat.le_refl _, fun _ _ _ h => ⟨rfl, h⟩⟩
theorem LKept.trans {w w1 w2 : World} {lb : Nat} {v v1 v2 : Value} (a : LKept w w1 lb v v1) (b : LKept w1 w2 lb v1 v2) : LKept w w2 lb v v2 :=
  ⟨Nat.le_trans a.size b.size, fun k h1 h2 h3 => have x := a.keep k h1 h2 h3; have y := b.keep k (Nat.lt_of_lt_of_le h1 a.size) h2 x.2; ⟨y.1.trans x.1, y.2⟩⟩
theorem LKept.ahead {w w1 w2 : World} {lb : Nat} {v v' : Value} (h : Below w.heap.size w w1) (b : LKept w1 w2 lb v v') : LKept w w2 lb v v' :=
  ⟨Nat.le_trans h.size b.size, fun k h1 h2 h3 => have y := b.keep k (Nat.lt_of_lt_of_le h1 h.size) h2 h3; ⟨y.1.trans (h.block k h1), y.2⟩⟩
theorem LKept.behind {w w1 w2 : World} {lb : Nat} {v v' : Value} (a : LKept w w1 lb v v') (h : Below w1.heap.size w1 w2) : LKept w w2 lb v v' :=
  ⟨Nat.le_trans a.size h.size, fun k h1 h2 h3 => have y := a.keep k h1 h2 h3; ⟨(h.block k (Nat.lt_of_lt_of_le h1 a.size)).trans y.1, y.2⟩⟩
section
variable {w0 w : World} {lb : Nat} {pc many at_ : Int} {l : List Opx} {v : Value}
theorem LAt.lt (F : LAt w0 w lb pc many at_ l v) : lb < w.heap.size := World.block_lt_of_cell? _ _ F.c0
theorem LAt.stays {w' : World} (F : LAt w0 w lb pc many at_ l v) (h : Below w.heap.size w w') : LAt w0 w' lb pc many at_ l v := by
  have c : ∀ j, w'.cell? ⟨lb, j, none⟩ = w.cell? ⟨lb, j, none⟩ := fun j => h.cell (p := ⟨lb, j, none⟩) F.lt
  exact ⟨(c 0).trans F.c0, (c 1).trans F.c1, (c 2).trans F.c2, (c 3).trans F.c3, fun j => (h.frozen (p := ⟨lb, j, none⟩) F.lt).trans (F.fz j),
    owns_blocks F.row (fun k hk => h.block k (owns_ltL F.row k hk).2), F.be.trans (h.mono F.be.size), F.lf, F.vb⟩
theorem LAt.set {x : World} {gb j : Nat} {u : Value} (F : LAt w0 x lb pc many at_ l v) (h : w0.heap.size ≤ gb) (h1 : gb ≠ lb) (h2 : v.ownBlock ≠ some gb) : LAt w0 (x.setCell ⟨gb, j, none⟩ u) lb pc many at_ l v := by
  have c : ∀ i, (x.setCell ⟨gb, j, none⟩ u).cell? ⟨lb, i, none⟩ = x.cell? ⟨lb, i, none⟩ := fun i => World.cell?_setCell_other _ _ _ _ (by intro e; injection e with e1 e2; exact h1 e1)
  exact ⟨(c 0).trans F.c0, (c 1).trans F.c1, (c 2).trans F.c2, (c 3).trans F.c3, fun i => by rw [World.frozen?_setCell]; exact F.fz i,
    owns_blocks F.row (fun k hk => Below.heap_setCell x ⟨gb, j, none⟩ u k (fun e => h2 (by rw [hk, e]))), F.be.setCell h _, F.lf, F.vb⟩
theorem LAt.put (F : LAt w0 w lb pc many at_ l v) {w1 : World} {v' : Value} {o : Opx} (ho : w1.ownsRow w0.heap.size 139 6 v' (l.length + 1) (opL l ++ opC o)) (hg : w.grownBy w1 v.ownBlock) (hm : Moved w v v') :
    (w1.cell? ⟨lb, 2, none⟩ = some v ∧ w1.frozen? ⟨lb, 2, none⟩ = false) ∧ LAt w0 (w1.setCell ⟨lb, 2, none⟩ v') lb pc many at_ (l ++ [o]) v' ∧ LKept w (w1.setCell ⟨lb, 2, none⟩ v') lb v v' := by
  have hk : ∀ k, k < w.heap.size → v.ownBlock ≠ some k → w1.heap[k]? = w.heap[k]? := fun k hk h => hg.block k hk (fun e => h e.symm)
  have hs : w1.heap[lb]? = w.heap[lb]? := hk lb F.lt (fun e => F.vb lb e rfl)
  have c : ∀ (j : Nat) (u : Value), w.cell? ⟨lb, j, none⟩ = some u → w1.cell? ⟨lb, j, none⟩ = some u := fun j u e => (World.cell?_of_block (a := ⟨lb, j, none⟩) hs).trans e
  have f : ∀ j, w1.frozen? ⟨lb, j, none⟩ = false := fun j => (World.frozen?_of_block (a := ⟨lb, j, none⟩) hs).trans (F.fz j)
  have oth : ∀ (j : Nat) (u : Value), j ≠ 2 → w.cell? ⟨lb, j, none⟩ = some u → (w1.setCell ⟨lb, 2, none⟩ v').cell? ⟨lb, j, none⟩ = some u := fun j u hj e => by
    rw [World.cell?_setCell_other _ _ _ _ (by intro e; injection e with e1 e2; exact hj e2.symm)]; exact c j u e
  have blk : ∀ k, k ≠ lb → (w1.setCell ⟨lb, 2, none⟩ v').heap[k]? = w1.heap[k]? := fun k h => Below.heap_setCell w1 ⟨lb, 2, none⟩ v' k h
  have hv' : ∀ k, v'.ownBlock = some k → k ≠ lb := fun k e => by
    rcases hm k e with h | h
    · exact F.vb k h
    · have := F.lt; omega
  refine ⟨⟨c _ _ F.c2, f 2⟩, ⟨oth 0 _ (by omega) F.c0, oth 1 _ (by omega) F.c1, World.cell?_setCell_same _ _ _ (c _ _ F.c2), oth 3 _ (by omega) F.c3, fun j => by rw [World.frozen?_setCell]; exact f j, ?_, ?_, F.lf, hv'⟩, ?_, ?_⟩
  · have e : opL (l ++ [o]) = opL l ++ opC o := by simp [opL]
    rw [e, List.length_append]
    exact owns_blocks ho fun k e => blk k (hv' k e)
  · have hb : Below w0.heap.size w0 w1 := ⟨hg.os.trans F.be.os, hg.tape.trans F.be.tape, hg.output.trans F.be.output, Nat.le_trans F.be.size hg.size, fun k hk' => (hk k (Nat.lt_of_lt_of_le hk' F.be.size) (fun e => by have := (owns_ltL F.row k e).1; omega)).trans (F.be.block k hk')⟩
    exact hb.setCell F.lf _
  · rw [World.size_setCell]; exact hg.size
  · intro k h1 h2 h3
    refine ⟨(blk k h2).trans (hk k h1 h3), fun e => ?_⟩
    rcases hm k e with h | h
    · exact h3 h
    · omega
theorem opC_cellsL (w : World) (o : Opx) (t : TypeId) : ∀ j u, (opC o)[j]? = some u → (w.alloc (.cells (opC o).toArray t)).cell? ((⟨w.heap.size, 0, none⟩ : Addr).add j) = some u := by
  intro j u h
  have hj : j < 6 := by
    have := (List.getElem?_eq_some_iff.1 h).1
    simpa [opC] using this
  rw [add_lit]
  have : j = 0 ∨ j = 1 ∨ j = 2 ∨ j = 3 ∨ j = 4 ∨ j = 5 := by omega
  rcases this with rfl | rfl | rfl | rfl | rfl | rfl <;> (simp [opC] at h ⊢; exact h)
theorem opC_oneL (o : Opx) : ∀ u ∈ opC o, u.oneCell' = true := by
  intro u h; simp [opC] at h; rcases h with rfl | rfl | rfl | rfl | rfl | rfl <;> rfl
set_option maxRecDepth 100000 in
set_option maxHeartbeats 8000000 in
theorem add_any (F : LAt w0 w lb pc many at_ l v) (hn : l.length ≤ 1000) (s : ByteArray) (d a b i t0 : Int) :
    Calls Tryz.prog 109 #[.pointer (some ⟨lb, 0, none⟩), opV ⟨s, d, a, b, i, t0⟩] w fun e w' => e = .returned (.tuple #[]) ∧ ∃ v', LAt w0 w' lb pc many at_ (l ++ [⟨s, d, a, b, i, at_⟩]) v' ∧ LKept w w' lb v v' := by
  obtain ⟨i0, hi, hz0, hz1, hz2⟩ := info_parts infoOp
  have hA : Below w.heap.size w (w.alloc (.cells #[.string s, .int .i64 d, .int .i64 a, .int .i64 b, .int .u32 i, .int .i64 at_] 139)) := (Below.refl _ _).alloc (Nat.le_refl _) _
  have FA : Hid (LAt w0 (w.alloc (.cells #[.string s, .int .i64 d, .int .i64 a, .int .i64 b, .int .u32 i, .int .i64 at_] 139)) lb pc many at_ l v) := F.stays hA
  have hne : lb ≠ w.heap.size := by have := F.lt; omega
  have hlt := F.lt
  have hb0 := F.be.size
  have hvl : ∀ k, v.ownBlock = some k → k < w.heap.size := fun k e => (owns_ltL F.row k e).2
  have hAH : Hid (Below w.heap.size w (w.alloc (.cells #[.string s, .int .i64 d, .int .i64 a, .int .i64 b, .int .u32 i, .int .i64 at_] 139))) := hA
  have c3 := F.c3
  clear F hA
  unfold opV
  go_enter Tryz.func109, Tryz.ntmps109
  go_upto_region 2 with fail
  have hgb : w.heap.size < (w.alloc (.cells #[.string s, .int .i64 d, .int .i64 a, .int .i64 b, .int .u32 i, .int .i64 at_] 139)).heap.size := by simp
  have hvg : v.ownBlock ≠ some w.heap.size := fun e => by have := hvl _ e; omega
  have g0 : (w.alloc (.cells #[.string s, .int .i64 d, .int .i64 a, .int .i64 b, .int .u32 i, .int .i64 at_] 139)).cell? ⟨w.heap.size, 0, none⟩ = some (.string s) := by simp
  have g1 : (w.alloc (.cells #[.string s, .int .i64 d, .int .i64 a, .int .i64 b, .int .u32 i, .int .i64 at_] 139)).cell? ⟨w.heap.size, 1, none⟩ = some (.int .i64 d) := by simp
  have g2 : (w.alloc (.cells #[.string s, .int .i64 d, .int .i64 a, .int .i64 b, .int .u32 i, .int .i64 at_] 139)).cell? ⟨w.heap.size, 2, none⟩ = some (.int .i64 a) := by simp
  have g3 : (w.alloc (.cells #[.string s, .int .i64 d, .int .i64 a, .int .i64 b, .int .u32 i, .int .i64 at_] 139)).cell? ⟨w.heap.size, 3, none⟩ = some (.int .i64 b) := by simp
  have g4 : (w.alloc (.cells #[.string s, .int .i64 d, .int .i64 a, .int .i64 b, .int .u32 i, .int .i64 at_] 139)).cell? ⟨w.heap.size, 4, none⟩ = some (.int .u32 i) := by simp
  have g5 : (w.alloc (.cells #[.string s, .int .i64 d, .int .i64 a, .int .i64 b, .int .u32 i, .int .i64 at_] 139)).cell? ⟨w.heap.size, 5, none⟩ = some (.int .i64 at_) := by simp
  generalize w.alloc (.cells #[.string s, .int .i64 d, .int .i64 a, .int .i64 b, .int .u32 i, .int .i64 at_] 139) = w1 at *
  have hws : w.heap.size ≤ w1.heap.size := hAH.out.size
  clear c3
  generalize hgbe : w.heap.size = gb at hgb hvg hne hlt hvl g0 g1 g2 g3 g4 g5 ⊢
  have hbD : Below w1.heap.size w1 w1.drew := (Below.refl _ _).drew
  have hnews : ∀ j u, ([.string s, .int .i64 d, .int .i64 a, .int .i64 b, .int .u32 i, .int .i64 at_] : List Value)[j]? = some u → (w1.alloc (.cells #[.string s, .int .i64 d, .int .i64 a, .int .i64 b, .int .u32 i, .int .i64 at_] 139)).drew.cell? ((⟨w1.heap.size, 0, none⟩ : Addr).add j) = some u := fun j u h => by
    have := opC_cellsL w1 ⟨s, d, a, b, i, at_⟩ 139 j u h
    simpa [opC] using this
  have hone : ∀ u ∈ ([.string s, .int .i64 d, .int .i64 a, .int .i64 b, .int .u32 i, .int .i64 at_] : List Value), u.oneCell' = true := opC_oneL ⟨s, d, a, b, i, at_⟩
  have hbA : ∀ o, Below w1.heap.size w1 (w1.alloc o).drew := fun o => ((Below.refl _ _).alloc (Nat.le_refl _) _).drew
  have hcC : ∀ W, Below w1.heap.size w1 W → W.cell? ⟨lb, 2, none⟩ = some v ∧ W.cell? ⟨gb, 0, none⟩ = some (.string s) ∧ W.cell? ⟨gb, 1, none⟩ = some (.int .i64 d) ∧ W.cell? ⟨gb, 2, none⟩ = some (.int .i64 a) ∧ W.cell? ⟨gb, 3, none⟩ = some (.int .i64 b) ∧ W.cell? ⟨gb, 4, none⟩ = some (.int .u32 i) ∧ W.cell? ⟨gb, 5, none⟩ = some (.int .i64 at_) := fun W h =>
    ⟨K.cell_stays h (Nat.le_refl _) FA.out.c2, K.cell_stays h (Nat.le_refl _) g0, K.cell_stays h (Nat.le_refl _) g1, K.cell_stays h (Nat.le_refl _) g2, K.cell_stays h (Nat.le_refl _) g3, K.cell_stays h (Nat.le_refl _) g4, K.cell_stays h (Nat.le_refl _) g5⟩
  have hC1 : Hid _ := hcC _ hbD
  have hC2 : Hid _ := fun o => hcC _ (hbA o)
  have F2 : Hid (∀ o, LAt w0 (w1.alloc o).drew lb pc many at_ l v) := fun o => FA.out.stays (hbA o)
  have hsz1 : ∀ o, w1.heap.size < (w1.alloc o).drew.heap.size := fun o => by simp
  clear g0 g1 g2 g3 g4 g5 hcC hbD
  refine wp_region_phase 12 [(0, 0), (1, 0), (2, 0), (3, 0), (4, 0), (5, 1), (6, 1), (7, 2), (8, 2), (9, 0), (10, 0), (11, 0), (12, 2)] (fun W => W.cell? ⟨lb, 2, none⟩ = some v ∧ W.cell? ⟨gb, 0, none⟩ = some (.string s) ∧ W.cell? ⟨gb, 1, none⟩ = some (.int .i64 d) ∧ W.cell? ⟨gb, 2, none⟩ = some (.int .i64 a) ∧ W.cell? ⟨gb, 3, none⟩ = some (.int .i64 b) ∧ W.cell? ⟨gb, 4, none⟩ = some (.int .u32 i) ∧ W.cell? ⟨gb, 5, none⟩ = some (.int .i64 at_)) (by kernel_rfl) (by kernel_rfl) (fun _ _ _ d _ h => by cases d <;> exact h) hC1.out ?_
  repeat (first | (refine wpPlanZ_free (by rfl) (by rfl) (fun W => by (go_simp; try with_reducible rfl)) (fun K hK => ?_); go_simp; refine hK _ ?_; clear hK K) | (refine wpPlanZ_quiet (by rfl) (by rfl) (fun W hW => by (obtain ⟨c1, g0, g1, g2, g3, g4, g5⟩ := hW; go_simp; try with_reducible rfl)) (fun K hK => ?_); go_simp; refine hK _ ?_; clear hK K))
  refine wpPlanZ_serial (by rfl) (by rfl) (fun K hK => ?_)
  go_simp
  refine hK _ _ (fun _ => hC2.out _) ?_
  clear hK K
  have F3 : Hid _ := F2.out (.cells #[.string s, .int .i64 d, .int .i64 a, .int .i64 b, .int .u32 i, .int .i64 at_] 139)
  have hC3 : Hid _ := hC2.out (.cells #[.string s, .int .i64 d, .int .i64 a, .int .i64 b, .int .u32 i, .int .i64 at_] 139)
  have hsz2 := hsz1 (.cells #[.string s, .int .i64 d, .int .i64 a, .int .i64 b, .int .u32 i, .int .i64 at_] 139)
  have hA2 : Hid (Below w.heap.size w (w1.alloc (.cells #[.string s, .int .i64 d, .int .i64 a, .int .i64 b, .int .u32 i, .int .i64 at_] 139)).drew) := hAH.out.trans ((hbA _).mono hws)
  clear F2 hC2 hC1 hsz1 FA hbA hAH
  generalize (w1.alloc (.cells #[.string s, .int .i64 d, .int .i64 a, .int .i64 b, .int .u32 i, .int .i64 at_] 139)).drew = w2 at *
  have hbase : w0.heap.size ≤ w2.heap.size := F3.out.be.size
  have hgb2 : gb < w2.heap.size := World.block_lt_of_cell? _ _ hC3.out.2.1
  refine wpPlanZ_serial (by rfl) (by rfl) (fun K hK => ?_)
  refine oper_append_movedL _ _ 52 rfl w0.heap.size 139 i0 _ 6 56 Tryz.underlying52 hi hz0 hz1 hz2 rfl (by decide) v l.length (opL l) rfl F3.out.row ⟨w1.heap.size, 0, none⟩ 1 1 [.string s, .int .i64 d, .int .i64 a, .int .i64 b, .int .u32 i, .int .i64 at_] rfl rfl hnews hone (by unfold maxLen; omega) (by omega) hbase ?_
  intro v' w4 ho hg hm
  obtain ⟨g', cap', rfl⟩ := owns_posL ho
  obtain ⟨⟨hc1, hf1⟩, F4, L4⟩ := F3.out.put (o := ⟨s, d, a, b, i, at_⟩) ho hg hm
  have hgk : w4.heap[gb]? = w2.heap[gb]? := hg.block gb hgb2 (fun e => hvg e.symm)
  have gc : ∀ (j : Nat) (v : Value), w2.cell? ⟨gb, j, none⟩ = some v → w4.cell? ⟨gb, j, none⟩ = some v := fun j v e => (World.cell?_of_block (a := ⟨gb, j, none⟩) hgk).trans e
  have hq := hC3.out
  refine hK _ _ (fun _ => ⟨hc1, gc _ _ hq.2.1, gc _ _ hq.2.2.1, gc _ _ hq.2.2.2.1, gc _ _ hq.2.2.2.2.1, gc _ _ hq.2.2.2.2.2.1, gc _ _ hq.2.2.2.2.2.2⟩) ?_
  clear hK K gc hgk hq hC3
  repeat (first | (refine wpPlanZ_free (by rfl) (by rfl) (fun W => by (go_simp; try with_reducible rfl)) (fun K hK => ?_); go_simp; refine hK _ ?_; clear hK K))
  refine wpPlanZ_serial (by rfl) (by rfl) (fun K hK => ?_)
  go_simp
  refine hK _ _ (fun h => absurd h (by decide)) ?_
  clear hK K
  refine wpPlanZ_nil ?_
  have F5 : Hid _ := F4
  have L5 : Hid _ := LKept.ahead hA2.out L4
  clear hg hm ho hc1 hf1 F4 L4 F3 hA2
  generalize w4.setCell ⟨lb, 2, none⟩ (.slice (some ⟨g', 0, none⟩) (l.length + 1) cap') = w5 at *
  go_end0
  exact ⟨rfl, _, F5.out, L5.out⟩
end
end Go.Proofs.YtflagpkmebdckaaGreatDoor.Low
/-
  Ops are written, one or two; a code leaves.
-/
namespace Go.Proofs.YtflagpkmebdckaaGreatDoor.Low
open Go.RowKit Go.Maps
open Num
set_option linter.unusedVariables false
/-- a cell of one's own stays while ops are added -/
theorem LKept.cell {w w' : World} {lb : Nat} {v v' : Value} (h : LKept w w' lb v v') {b j : Nat} {u : Value} (hc : w.cell? ⟨b, j, none⟩ = some u) (h1 : b ≠ lb) (h2 : v.ownBlock ≠ some b) : w'.cell? ⟨b, j, none⟩ = some u :=
  (World.cell?_of_block (a := ⟨b, j, none⟩) (h.keep b (World.block_lt_of_cell? _ _ hc) h1 h2).1).trans hc
section
variable {w0 w : World} {lb : Nat} {pc many at_ : Int} {l : List Opx} {v : Value}
end
end Go.Proofs.YtflagpkmebdckaaGreatDoor.Low
