/-
  A byte is put into the document's memory.
-/
import Derived.Test.YtmfhimphlackiaaDoorDocRam
import Derived.StillTailTactics
namespace Go.Proofs.YtmfhimphlackiaaDoor
open Go.RowKit Go.Maps
open Num
set_option linter.unusedVariables false
theorem pw_lo (a b : Int) (h : b * 2 ^ (bhd a 1).toNat < 4294967296) (h0 : 0 ≤ b * 2 ^ (bhd a 1).toNat) : shf 60 b (24 - 8 * (a % 4)) = b * 2 ^ (bhd a 1).toNat := by
  unfold shf; rw [if_pos rfl, pw_bhd]; exact lo_of h0 h
set_option maxRecDepth 100000 in
set_option maxHeartbeats 1000000 in
theorem put_any {w : World} {rb gb kb : Nat} {m : Nat → Int} {wt : Int → Bool} (D : DRam w rb gb kb m wt) (a b : Int) (h0 : 0 ≤ a) (h1 : a < 16384) (b0 : 0 ≤ b) (b1 : b < 256) : Calls Tryd.prog 48 #[.pointer (some ⟨rb, 0, none⟩), .int .i64 a, .int .u8 b] w fun e w' => e = .returned (.tuple #[]) ∧ DRam w' rb gb kb (upd m a 1 b) wt ∧ w.grownBy w' (some gb) := by
  have c0 := D.c0
  have hcell := D.cell (a / 4).toNat (by omega)
  have hfz : w.frozen? ⟨gb, (a / 4).toNat, none⟩ = false := by unfold World.frozen?; rw [D.row]; simp
  obtain ⟨m0, m1⟩ := D.mb (a / 4).toNat
  have hat := at_any D a h0 h1
  have hbb := byt_bd m a
  have hpe := put_eq (m (a / 4).toNat) b a m0 m1 b0 b1
  have hy : m (a / 4).toNat / 2 ^ (bhd a 1).toNat % 256 = byt m a := rfl
  rw [hy] at hpe
  obtain ⟨p1, p2, p3, p4, p5, p6, p7⟩ := hpe
  have hs1 := shiftOf_any 60 (byt m a) (24 - 8 * (a % 4)) hbb.1 (by omega) (by omega) w
  rw [pw_lo a (byt m a) p4 p5] at hs1
  have hs2 := shiftOf_any 60 b (24 - 8 * (a % 4)) b0 (by omega) (by omega) w
  rw [pw_lo a b p3 p6] at hs2
  have HU : Hid (upd m a 1 b (a / 4).toNat = m (a / 4).toNat - byt m a * 2 ^ (bhd a 1).toNat + b * 2 ^ (bhd a 1).toNat) := by
    show _ = _
    rw [upd_at, ← p7]
  have DH : Hid (DRam w rb gb kb m wt) := D
  clear D p7 hy
  generalize byt m a * 2 ^ (bhd a 1).toNat = x1 at *
  generalize b * 2 ^ (bhd a 1).toNat = x2 at *
  have key : ∀ (n : Nat), DRam ((w.drewN n).setCell ⟨gb, (a / 4).toNat, none⟩ (.int .u32 (m (a / 4).toNat - x1 + x2))) rb gb kb (upd m a 1 b) wt ∧ w.grownBy ((w.drewN n).setCell ⟨gb, (a / 4).toNat, none⟩ (.int .u32 (m (a / 4).toNat - x1 + x2))) (some gb) := by
    intro n
    have d := DH.out
    have oth : ∀ (k j : Nat) (v : Value), k ≠ gb → w.cell? ⟨k, j, none⟩ = some v → ((w.drewN n).setCell ⟨gb, (a / 4).toNat, none⟩ (.int .u32 (m (a / 4).toNat - x1 + x2))).cell? ⟨k, j, none⟩ = some v := fun k j v hk e => by
      rw [World.cell?_setCell_other _ _ _ _ (by intro e; injection e with e1 e2; exact hk e1.symm)]; exact e
    refine ⟨⟨oth _ _ _ d.nr d.c0, oth _ _ _ d.nr d.c1, ?_, fun p hp => oth _ _ _ d.nk (d.wc p hp), d.nr, d.nk, upd_bd m a 1 b (Or.inl rfl) (by omega) d.mb⟩, ⟨rfl, rfl, rfl, by simp, fun k hk hne => Below.heap_setCell _ _ _ k (by intro e; exact hne (by rw [e]))⟩⟩
    rw [heap_setCell_same (w.drewN n) gb (a / 4).toNat (wl m 4096).toArray 23 _ d.row]
    rw [wl_set m (a / 4).toNat _ (upd m a 1 b) HU.out (fun j hj => upd_ne m a 1 b j hj)]
  clear HU DH
  generalize byt m a = bo at *
  go_enter Tryd.func48, Tryd.ntmps48
  go_wp2_with fail
  refine hat.mono ?_
  rintro e w' ⟨rfl, rfl⟩
  clear hat
  go_wp2_with fail
  refine hs1.mono ?_
  rintro e w' ⟨rfl, rfl⟩
  clear hs1
  go_wp2_with fail
  refine hs2.mono ?_
  rintro e w' ⟨rfl, rfl⟩
  clear hs2
  go_upto_region 3 with fail
  have key1 := key 1
  clear key
  go_region
  all_goals
    go_wp2
    first | go_end0 | refine bodyPost_ret (results_none rfl _ _ _) rfl ?_
    exact ⟨rfl, key1⟩
end Go.Proofs.YtmfhimphlackiaaDoor
