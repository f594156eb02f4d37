/-
  Branches, as the document has them: by a sign.
-/
import Derived.Test.YtflagpkmebdckaaGreatDoorKSt
import Derived.Test.YtflagpkmebdckaaGreatDoorKIrRes
import Derived.Test.YtflagpkmebdckaaGreatDoorKDK0
import Derived.Test.YtflagpkmebdckaaGreatDoorKDKs3
import Derived.Test.YtflagpkmebdckaaGreatDoorQDKm
namespace Go.Proofs.YtflagpkmebdckaaGreatDoor
open Go.RowKit Go.Maps
open Num
set_option linter.unusedVariables false
section
variable {w : World} {sb : Nat} {S : St} {k s t d : Nat} {m : Int}
set_option maxRecDepth 100000 in
set_option maxHeartbeats 8000000 in
theorem br_33t (A : StAt w sb S) (ok : S.ok) (hs : s < 32) (ht : t < 32) (hd : d < 32) (m0 : 0 ≤ m) (m1 : m < 4294967296) (hk : k = 33) (hsl : S.sl = false) (hc : ¬ 0 < sg (S.r s)) : Calls Tryz.prog 191 #[.pointer (some ⟨sb, 0, none⟩), .agg #[.int .i64 k, .int .i64 s, .int .i64 t, .int .i64 d, .int .u32 m]] w fun e w' => e = .returned (.tuple #[.int .i64 (branchD S k s t d m).1, .int .i64 (branchD S k s t d m).2.1]) ∧ StAt w' sb (branchD S k s t d m).2.2 ∧ Kept w w' (· = sb) := by
  subst hk
  have X : branchD S 33 s t d m = (lo (lo (S.pc + 4) + lo (4 * wd m 16 true)), -1, S) := by unfold branchD; rw [if_neg (by rw [hsl]; decide)]; simp [takenI, targI, Low.immI, lessB, nm, show sg 0 = 0 from rfl, hc]
  rw [X]
  clear X
  have hp4 := fun W => plus2_any S.pc 4 ok.pc.1 ok.pc.2 (by omega) (by omega) W
  have hi := fun W => immOf_any 33 s t d m m0 m1 W
  have hwb : u32 (wd m 16 true) := wd_bd m0 m1 _
  have hsg := fun W => signed_any (wd m 16 true) hwb.1 hwb.2 W
  obtain ⟨sb1, sb2⟩ := sg_bd hwb.1 hwb.2
  have e4w : IntKind.i64.wrap (4 * sg (wd m 16 true)) = 4 * sg (wd m 16 true) := by rw [IntKind.wrap_i64]; omega
  have hwd := fun W => word_any (4 * sg (wd m 16 true)) (by omega) (by omega) W
  rw [lo_sg4 hwb.1 hwb.2] at hwd
  have b4 := lo_bd (S.pc + 4)
  have b5 := lo_bd (4 * wd m 16 true)
  have hnr := fun W => plus2_any (lo (S.pc + 4)) (lo (4 * wd m 16 true)) b4.1 b4.2 b5.1 b5.2 W
  have bn := lo_bd (lo (S.pc + 4) + lo (4 * wd m 16 true))
  have hsx := fun W => signed_any (S.r s) (ok.r s).1 (ok.r s).2 W
  obtain ⟨n0, n1⟩ := bn
  obtain ⟨p40, p41⟩ := b4
  have fa0 : 0 ≤ lo (S.pc + 4) / 268435456 := by omega
  have fa1 : lo (S.pc + 4) / 268435456 < 16 := by omega
  clear b5 hwb
  generalize lo (lo (S.pc + 4) + lo (4 * wd m 16 true)) = nr at *
  generalize lo (4 * wd m 16 true) = w5 at *
  generalize sg (wd m 16 true) = gi at *
  generalize wd m 16 true = wi at *
  generalize lo (S.pc + 4) = p4 at *
  have qd : p4.tdiv 268435456 = p4 / 268435456 := Int.tdiv_eq_ediv_of_nonneg p40
  generalize p4 / 268435456 = fq at *
  have wn : IntKind.i64.wrap nr = nr := by rw [IntKind.wrap_i64]; omega
  have wp : IntKind.i64.wrap p4 = p4 := by rw [IntKind.wrap_i64]; omega
  have wm : IntKind.i64.wrap m = m := by rw [IntKind.wrap_i64]; omega
  have w1 : IntKind.i64.wrap fq = fq := by rw [IntKind.wrap_i64]; omega
  have w2 : IntKind.i64.wrap (fq * 268435456) = fq * 268435456 := by rw [IntKind.wrap_i64]; omega
  have w3 : IntKind.i64.wrap (4 * m) = 4 * m := by rw [IntKind.wrap_i64]; omega
  have w4 : IntKind.i64.wrap (fq * 268435456 + 4 * m) = fq * 268435456 + 4 * m := by rw [IntKind.wrap_i64]; omega
  generalize sg (S.r s) = gx at *
  have hc1 : gx ≤ 0 := by omega
  have hc2 : decide (gx ≤ 0) = true := by simp; omega
  clear hc
  have D0 : Hid (Dq (w.alloc (.cells #[.int .i64 33, .int .i64 s, .int .i64 t, .int .i64 d, .int .u32 m] 113)) w.heap.size sb S 33 s t d m) := Dq.start A ok 33 hs ht hd m0 m1
  have K0 : Kept w (w.alloc (.cells #[.int .i64 33, .int .i64 s, .int .i64 t, .int .i64 d, .int .u32 m] 113)) (· = sb) := Kept.of_below _ ((Below.refl _ _).alloc (Nat.le_refl _) _)
  clear A
  go_enter Tryz.func191, Tryz.ntmps191
  go_upto_region 1 with fail
  generalize w.alloc (.cells #[.int .i64 33, .int .i64 s, .int .i64 t, .int .i64 d, .int .u32 m] 113) = W at *
  generalize w.heap.size = ib at *
  have i0 := D0.out.i0
  have i1 := D0.out.i1
  have i2 := D0.out.i2
  have i3 := D0.out.i3
  have i4 := D0.out.i4
  have qs := D0.out.a.reg D0.out.hs
  have fs := D0.out.a.fz s
  have hs' : (s : Int) < 32 := by have := D0.out.hs; omega
  have qt := D0.out.a.reg D0.out.ht
  have ft := D0.out.a.fz t
  have ht' : (t : Int) < 32 := by have := D0.out.ht; omega
  obtain ⟨-, -, -, -, q36, -⟩ := D0.out.a.told
  rw [hsl] at q36
  go_upto_region 3 with fail
  clear i0 i3 i4 q36
  refine wp_region_phase 8 [(0, 0), (1, 0), (2, 1), (3, 0), (4, 0), (5, 0), (6, 1), (7, 0)] (fun W => Dq W ib sb S 33 s t d m) (by kernel_rfl) (by kernel_rfl) (fun _ _ _ d _ h => by cases d <;> first | exact h | exact Dq.drew h) D0.out.drew ?_
  repeat (first | (refine wpPlanZ_free (by rfl) (by rfl) (fun W => by (go_simp; try with_reducible rfl)) (fun K hK => ?_); go_simp; refine hK _ ?_; clear hK K) | (refine wpPlanZ_quiet (by rfl) (by rfl) (fun W hW => by (have i1 := hW.i1; have qs := hW.a.reg hW.hs; go_simp; try with_reducible rfl)) (fun K hK => ?_); go_simp; refine hK _ ?_; clear hK K))
  refine wpPlanZ_nil ?_
  have D1 : Hid (Dq W.drew ib sb S 33 s t d m) := D0.out.drew
  have K1 : Kept w W.drew (· = sb) := K0.trans (Kept.drew _ _) (fun _ _ h => h)
  clear qt ft qs fs i1 i2
  generalize W.drew = W1 at *
  clear D0 K0
  have i2 := D1.out.i2
  have qt := D1.out.a.reg D1.out.ht
  go_upto_region 4 with fail
  refine wp_region_phase 8 [(0, 0), (1, 0), (2, 1), (3, 0), (4, 0), (5, 0), (6, 1), (7, 0)] (fun W => Dq W ib sb S 33 s t d m) (by kernel_rfl) (by kernel_rfl) (fun _ _ _ d _ h => by cases d <;> first | exact h | exact Dq.drew h) D1.out.drew ?_
  repeat (first | (refine wpPlanZ_free (by rfl) (by rfl) (fun W => by (go_simp; try with_reducible rfl)) (fun K hK => ?_); go_simp; refine hK _ ?_; clear hK K) | (refine wpPlanZ_quiet (by rfl) (by rfl) (fun W hW => by (have i2 := hW.i2; have qt := hW.a.reg hW.ht; go_simp; try with_reducible rfl)) (fun K hK => ?_); go_simp; refine hK _ ?_; clear hK K))
  refine wpPlanZ_nil ?_
  have D0 : Hid (Dq W1.drew ib sb S 33 s t d m) := D1.out.drew
  have K0 : Kept w W1.drew (· = sb) := K1.trans (Kept.drew _ _) (fun _ _ h => h)
  clear qt i2
  generalize W1.drew = W at *
  clear D1 K1 W1
  go_upto_region 5 with fail
  refine wp_region_phase 13 [(0, 0), (1, 0), (2, 0), (3, 1), (5, 1), (4, 2), (6, 2), (7, 2), (8, 0), (9, 2), (10, 2), (11, 0), (12, 0)] (fun W => Dq W ib sb S 33 s t d m) (by kernel_rfl) (by kernel_rfl) (fun _ _ _ d _ h => by cases d <;> first | exact h | exact Dq.drew h) D0.out.drew ?_
  repeat (first | (refine wpPlanZ_free (by rfl) (by rfl) (fun W => by (go_simp; try with_reducible rfl)) (fun K hK => ?_); go_simp; refine hK _ ?_; clear hK K) | (refine wpPlanZ_quiet (by rfl) (by rfl) (fun W hW => by (have i0 := hW.i0; have i1 := hW.i1; have i2 := hW.i2; have i3 := hW.i3; have i4 := hW.i4; have q34 := hW.a.told.2.2.1; go_simp; try with_reducible rfl)) (fun K hK => ?_); go_simp; refine hK _ ?_; clear hK K))
  refine wpPlanZ_serial (by rfl) (by rfl) (fun K hK => ?_)
  go_simp
  refine (hp4 _).mono ?_
  rintro e_ w_ ⟨rfl, rfl⟩
  refine hK _ _ (fun _ => D0.out.drew) ?_
  clear hK K
  repeat (first | (refine wpPlanZ_free (by rfl) (by rfl) (fun W => by (go_simp; try with_reducible rfl)) (fun K hK => ?_); go_simp; refine hK _ ?_; clear hK K) | (refine wpPlanZ_quiet (by rfl) (by rfl) (fun W hW => by (have i0 := hW.i0; have i1 := hW.i1; have i2 := hW.i2; have i3 := hW.i3; have i4 := hW.i4; have q34 := hW.a.told.2.2.1; go_simp; try with_reducible rfl)) (fun K hK => ?_); go_simp; refine hK _ ?_; clear hK K))
  refine wpPlanZ_serial (by rfl) (by rfl) (fun K hK => ?_)
  go_simp
  refine (hi _).mono ?_
  rintro e_ w_ ⟨rfl, hbx⟩
  refine hK _ _ (fun _ => D0.out.drew.stays hbx) ?_
  clear hK K
  repeat (first | (refine wpPlanZ_free (by rfl) (by rfl) (fun W => by (go_simp; try with_reducible rfl)) (fun K hK => ?_); go_simp; refine hK _ ?_; clear hK K) | (refine wpPlanZ_quiet (by rfl) (by rfl) (fun W hW => by (have i0 := hW.i0; have i1 := hW.i1; have i2 := hW.i2; have i3 := hW.i3; have i4 := hW.i4; have q34 := hW.a.told.2.2.1; go_simp; try with_reducible rfl)) (fun K hK => ?_); go_simp; refine hK _ ?_; clear hK K))
  refine wpPlanZ_serial (by rfl) (by rfl) (fun K hK => ?_)
  go_simp
  refine (hsg _).mono ?_
  rintro e_ w_ ⟨rfl, rfl⟩
  refine hK _ _ (fun _ => D0.out.drew.stays hbx) ?_
  clear hK K
  repeat (first | (refine wpPlanZ_free (by rfl) (by rfl) (fun W => by (go_simp; try with_reducible rfl)) (fun K hK => ?_); go_simp; refine hK _ ?_; clear hK K) | (refine wpPlanZ_quiet (by rfl) (by rfl) (fun W hW => by (have i0 := hW.i0; have i1 := hW.i1; have i2 := hW.i2; have i3 := hW.i3; have i4 := hW.i4; have q34 := hW.a.told.2.2.1; go_simp; try with_reducible rfl)) (fun K hK => ?_); go_simp; refine hK _ ?_; clear hK K))
  refine wpPlanZ_serial (by rfl) (by rfl) (fun K hK => ?_)
  go_simp
  refine (hwd _).mono ?_
  rintro e_ w_ ⟨rfl, rfl⟩
  refine hK _ _ (fun _ => D0.out.drew.stays hbx) ?_
  clear hK K
  repeat (first | (refine wpPlanZ_free (by rfl) (by rfl) (fun W => by (go_simp; try with_reducible rfl)) (fun K hK => ?_); go_simp; refine hK _ ?_; clear hK K) | (refine wpPlanZ_quiet (by rfl) (by rfl) (fun W hW => by (have i0 := hW.i0; have i1 := hW.i1; have i2 := hW.i2; have i3 := hW.i3; have i4 := hW.i4; have q34 := hW.a.told.2.2.1; go_simp; try with_reducible rfl)) (fun K hK => ?_); go_simp; refine hK _ ?_; clear hK K))
  refine wpPlanZ_serial (by rfl) (by rfl) (fun K hK => ?_)
  go_simp
  refine (hnr _).mono ?_
  rintro e_ w_ ⟨rfl, rfl⟩
  refine hK _ _ (fun _ => D0.out.drew.stays hbx) ?_
  clear hK K
  repeat (first | (refine wpPlanZ_free (by rfl) (by rfl) (fun W => by (go_simp; try with_reducible rfl)) (fun K hK => ?_); go_simp; refine hK _ ?_; clear hK K) | (refine wpPlanZ_quiet (by rfl) (by rfl) (fun W hW => by (have i0 := hW.i0; have i1 := hW.i1; have i2 := hW.i2; have i3 := hW.i3; have i4 := hW.i4; have q34 := hW.a.told.2.2.1; go_simp; try with_reducible rfl)) (fun K hK => ?_); go_simp; refine hK _ ?_; clear hK K))
  refine wpPlanZ_nil ?_
  have D1 : Hid (Dq w_ ib sb S 33 s t d m) := D0.out.drew.stays hbx
  have K1 : Kept w w_ (· = sb) := (K0.trans (Kept.drew _ _) (fun _ _ h => h)).trans (Kept.of_below _ hbx) (fun _ _ h => h)
  clear hbx
  generalize w_ = W1 at *
  clear D0 K0
  go_upto_region 6 with fail
  refine wp_region_phase 14 [(0, 0), (1, 0), (2, 0), (3, 1), (8, 0), (9, 1), (10, 0), (11, 0), (4, 2), (5, 0), (6, 0), (7, 0), (12, 0), (13, 0)] (fun W => Dq W ib sb S 33 s t d m) (by kernel_rfl) (by kernel_rfl) (fun _ _ _ d _ h => by cases d <;> first | exact h | exact Dq.drew h) D1.out.drew ?_
  repeat (first | (refine wpPlanZ_free (by rfl) (by rfl) (fun W => by (go_simp; try with_reducible rfl)) (fun K hK => ?_); go_simp; refine hK _ ?_; clear hK K) | (refine wpPlanZ_quiet (by rfl) (by rfl) (fun W hW => by (have i4 := hW.i4; have q34 := hW.a.told.2.2.1; go_simp; try with_reducible rfl)) (fun K hK => ?_); go_simp; refine hK _ ?_; clear hK K))
  refine wpPlanZ_serial (by rfl) (by rfl) (fun K hK => ?_)
  go_simp
  refine (hp4 _).mono ?_
  rintro e_ w_ ⟨rfl, rfl⟩
  refine hK _ _ (fun _ => D1.out.drew) ?_
  clear hK K
  repeat (first | (refine wpPlanZ_free (by rfl) (by rfl) (fun W => by (go_simp; try with_reducible rfl)) (fun K hK => ?_); go_simp; refine hK _ ?_; clear hK K) | (refine wpPlanZ_quiet (by rfl) (by rfl) (fun W hW => by (have i4 := hW.i4; have q34 := hW.a.told.2.2.1; go_simp; try with_reducible rfl)) (fun K hK => ?_); go_simp; refine hK _ ?_; clear hK K))
  refine wpPlanZ_nil ?_
  have D0 : Hid (Dq W1.drew ib sb S 33 s t d m) := D1.out.drew
  have K0 : Kept w W1.drew (· = sb) := K1.trans (Kept.drew _ _) (fun _ _ h => h)
  generalize W1.drew = W at *
  clear D1 K1 W1
  have i0 := D0.out.i0
  have A1 := D0.out.a
  go_wp2_with (go_at_call 153; refine (hsx _).mono ?_; rintro e w2 ⟨rfl, rfl⟩)
  go_ret2
  exact ⟨rfl, A1, K0⟩
set_option maxRecDepth 100000 in
set_option maxHeartbeats 8000000 in
theorem br_33n (A : StAt w sb S) (ok : S.ok) (hs : s < 32) (ht : t < 32) (hd : d < 32) (m0 : 0 ≤ m) (m1 : m < 4294967296) (hk : k = 33) (hsl : S.sl = false) (hc : 0 < sg (S.r s)) : Calls Tryz.prog 191 #[.pointer (some ⟨sb, 0, none⟩), .agg #[.int .i64 k, .int .i64 s, .int .i64 t, .int .i64 d, .int .u32 m]] w fun e w' => e = .returned (.tuple #[.int .i64 (branchD S k s t d m).1, .int .i64 (branchD S k s t d m).2.1]) ∧ StAt w' sb (branchD S k s t d m).2.2 ∧ Kept w w' (· = sb) := by
  subst hk
  have X : branchD S 33 s t d m = (-1, -1, S) := by unfold branchD; rw [if_neg (by rw [hsl]; decide)]; simp [takenI, lessB, nm, show sg 0 = 0 from rfl, hc]
  rw [X]
  clear X
  have hp4 := fun W => plus2_any S.pc 4 ok.pc.1 ok.pc.2 (by omega) (by omega) W
  have hi := fun W => immOf_any 33 s t d m m0 m1 W
  have hwb : u32 (wd m 16 true) := wd_bd m0 m1 _
  have hsg := fun W => signed_any (wd m 16 true) hwb.1 hwb.2 W
  obtain ⟨sb1, sb2⟩ := sg_bd hwb.1 hwb.2
  have e4w : IntKind.i64.wrap (4 * sg (wd m 16 true)) = 4 * sg (wd m 16 true) := by rw [IntKind.wrap_i64]; omega
  have hwd := fun W => word_any (4 * sg (wd m 16 true)) (by omega) (by omega) W
  rw [lo_sg4 hwb.1 hwb.2] at hwd
  have b4 := lo_bd (S.pc + 4)
  have b5 := lo_bd (4 * wd m 16 true)
  have hnr := fun W => plus2_any (lo (S.pc + 4)) (lo (4 * wd m 16 true)) b4.1 b4.2 b5.1 b5.2 W
  have bn := lo_bd (lo (S.pc + 4) + lo (4 * wd m 16 true))
  have hsx := fun W => signed_any (S.r s) (ok.r s).1 (ok.r s).2 W
  obtain ⟨n0, n1⟩ := bn
  obtain ⟨p40, p41⟩ := b4
  have fa0 : 0 ≤ lo (S.pc + 4) / 268435456 := by omega
  have fa1 : lo (S.pc + 4) / 268435456 < 16 := by omega
  clear b5 hwb
  generalize lo (lo (S.pc + 4) + lo (4 * wd m 16 true)) = nr at *
  generalize lo (4 * wd m 16 true) = w5 at *
  generalize sg (wd m 16 true) = gi at *
  generalize wd m 16 true = wi at *
  generalize lo (S.pc + 4) = p4 at *
  have qd : p4.tdiv 268435456 = p4 / 268435456 := Int.tdiv_eq_ediv_of_nonneg p40
  generalize p4 / 268435456 = fq at *
  have wn : IntKind.i64.wrap nr = nr := by rw [IntKind.wrap_i64]; omega
  have wp : IntKind.i64.wrap p4 = p4 := by rw [IntKind.wrap_i64]; omega
  have wm : IntKind.i64.wrap m = m := by rw [IntKind.wrap_i64]; omega
  have w1 : IntKind.i64.wrap fq = fq := by rw [IntKind.wrap_i64]; omega
  have w2 : IntKind.i64.wrap (fq * 268435456) = fq * 268435456 := by rw [IntKind.wrap_i64]; omega
  have w3 : IntKind.i64.wrap (4 * m) = 4 * m := by rw [IntKind.wrap_i64]; omega
  have w4 : IntKind.i64.wrap (fq * 268435456 + 4 * m) = fq * 268435456 + 4 * m := by rw [IntKind.wrap_i64]; omega
  generalize sg (S.r s) = gx at *
  have hc1 : ¬ gx ≤ 0 := by omega
  have hc2 : decide (gx ≤ 0) = false := by simp; omega
  clear hc
  have D0 : Hid (Dq (w.alloc (.cells #[.int .i64 33, .int .i64 s, .int .i64 t, .int .i64 d, .int .u32 m] 113)) w.heap.size sb S 33 s t d m) := Dq.start A ok 33 hs ht hd m0 m1
  have K0 : Kept w (w.alloc (.cells #[.int .i64 33, .int .i64 s, .int .i64 t, .int .i64 d, .int .u32 m] 113)) (· = sb) := Kept.of_below _ ((Below.refl _ _).alloc (Nat.le_refl _) _)
  clear A
  go_enter Tryz.func191, Tryz.ntmps191
  go_upto_region 1 with fail
  generalize w.alloc (.cells #[.int .i64 33, .int .i64 s, .int .i64 t, .int .i64 d, .int .u32 m] 113) = W at *
  generalize w.heap.size = ib at *
  have i0 := D0.out.i0
  have i1 := D0.out.i1
  have i2 := D0.out.i2
  have i3 := D0.out.i3
  have i4 := D0.out.i4
  have qs := D0.out.a.reg D0.out.hs
  have fs := D0.out.a.fz s
  have hs' : (s : Int) < 32 := by have := D0.out.hs; omega
  have qt := D0.out.a.reg D0.out.ht
  have ft := D0.out.a.fz t
  have ht' : (t : Int) < 32 := by have := D0.out.ht; omega
  obtain ⟨-, -, -, -, q36, -⟩ := D0.out.a.told
  rw [hsl] at q36
  go_upto_region 3 with fail
  clear i0 i3 i4 q36
  refine wp_region_phase 8 [(0, 0), (1, 0), (2, 1), (3, 0), (4, 0), (5, 0), (6, 1), (7, 0)] (fun W => Dq W ib sb S 33 s t d m) (by kernel_rfl) (by kernel_rfl) (fun _ _ _ d _ h => by cases d <;> first | exact h | exact Dq.drew h) D0.out.drew ?_
  repeat (first | (refine wpPlanZ_free (by rfl) (by rfl) (fun W => by (go_simp; try with_reducible rfl)) (fun K hK => ?_); go_simp; refine hK _ ?_; clear hK K) | (refine wpPlanZ_quiet (by rfl) (by rfl) (fun W hW => by (have i1 := hW.i1; have qs := hW.a.reg hW.hs; go_simp; try with_reducible rfl)) (fun K hK => ?_); go_simp; refine hK _ ?_; clear hK K))
  refine wpPlanZ_nil ?_
  have D1 : Hid (Dq W.drew ib sb S 33 s t d m) := D0.out.drew
  have K1 : Kept w W.drew (· = sb) := K0.trans (Kept.drew _ _) (fun _ _ h => h)
  clear qt ft qs fs i1 i2
  generalize W.drew = W1 at *
  clear D0 K0
  have i2 := D1.out.i2
  have qt := D1.out.a.reg D1.out.ht
  go_upto_region 4 with fail
  refine wp_region_phase 8 [(0, 0), (1, 0), (2, 1), (3, 0), (4, 0), (5, 0), (6, 1), (7, 0)] (fun W => Dq W ib sb S 33 s t d m) (by kernel_rfl) (by kernel_rfl) (fun _ _ _ d _ h => by cases d <;> first | exact h | exact Dq.drew h) D1.out.drew ?_
  repeat (first | (refine wpPlanZ_free (by rfl) (by rfl) (fun W => by (go_simp; try with_reducible rfl)) (fun K hK => ?_); go_simp; refine hK _ ?_; clear hK K) | (refine wpPlanZ_quiet (by rfl) (by rfl) (fun W hW => by (have i2 := hW.i2; have qt := hW.a.reg hW.ht; go_simp; try with_reducible rfl)) (fun K hK => ?_); go_simp; refine hK _ ?_; clear hK K))
  refine wpPlanZ_nil ?_
  have D0 : Hid (Dq W1.drew ib sb S 33 s t d m) := D1.out.drew
  have K0 : Kept w W1.drew (· = sb) := K1.trans (Kept.drew _ _) (fun _ _ h => h)
  clear qt i2
  generalize W1.drew = W at *
  clear D1 K1 W1
  go_upto_region 5 with fail
  refine wp_region_phase 13 [(0, 0), (1, 0), (2, 0), (3, 1), (5, 1), (4, 2), (6, 2), (7, 2), (8, 0), (9, 2), (10, 2), (11, 0), (12, 0)] (fun W => Dq W ib sb S 33 s t d m) (by kernel_rfl) (by kernel_rfl) (fun _ _ _ d _ h => by cases d <;> first | exact h | exact Dq.drew h) D0.out.drew ?_
  repeat (first | (refine wpPlanZ_free (by rfl) (by rfl) (fun W => by (go_simp; try with_reducible rfl)) (fun K hK => ?_); go_simp; refine hK _ ?_; clear hK K) | (refine wpPlanZ_quiet (by rfl) (by rfl) (fun W hW => by (have i0 := hW.i0; have i1 := hW.i1; have i2 := hW.i2; have i3 := hW.i3; have i4 := hW.i4; have q34 := hW.a.told.2.2.1; go_simp; try with_reducible rfl)) (fun K hK => ?_); go_simp; refine hK _ ?_; clear hK K))
  refine wpPlanZ_serial (by rfl) (by rfl) (fun K hK => ?_)
  go_simp
  refine (hp4 _).mono ?_
  rintro e_ w_ ⟨rfl, rfl⟩
  refine hK _ _ (fun _ => D0.out.drew) ?_
  clear hK K
  repeat (first | (refine wpPlanZ_free (by rfl) (by rfl) (fun W => by (go_simp; try with_reducible rfl)) (fun K hK => ?_); go_simp; refine hK _ ?_; clear hK K) | (refine wpPlanZ_quiet (by rfl) (by rfl) (fun W hW => by (have i0 := hW.i0; have i1 := hW.i1; have i2 := hW.i2; have i3 := hW.i3; have i4 := hW.i4; have q34 := hW.a.told.2.2.1; go_simp; try with_reducible rfl)) (fun K hK => ?_); go_simp; refine hK _ ?_; clear hK K))
  refine wpPlanZ_serial (by rfl) (by rfl) (fun K hK => ?_)
  go_simp
  refine (hi _).mono ?_
  rintro e_ w_ ⟨rfl, hbx⟩
  refine hK _ _ (fun _ => D0.out.drew.stays hbx) ?_
  clear hK K
  repeat (first | (refine wpPlanZ_free (by rfl) (by rfl) (fun W => by (go_simp; try with_reducible rfl)) (fun K hK => ?_); go_simp; refine hK _ ?_; clear hK K) | (refine wpPlanZ_quiet (by rfl) (by rfl) (fun W hW => by (have i0 := hW.i0; have i1 := hW.i1; have i2 := hW.i2; have i3 := hW.i3; have i4 := hW.i4; have q34 := hW.a.told.2.2.1; go_simp; try with_reducible rfl)) (fun K hK => ?_); go_simp; refine hK _ ?_; clear hK K))
  refine wpPlanZ_serial (by rfl) (by rfl) (fun K hK => ?_)
  go_simp
  refine (hsg _).mono ?_
  rintro e_ w_ ⟨rfl, rfl⟩
  refine hK _ _ (fun _ => D0.out.drew.stays hbx) ?_
  clear hK K
  repeat (first | (refine wpPlanZ_free (by rfl) (by rfl) (fun W => by (go_simp; try with_reducible rfl)) (fun K hK => ?_); go_simp; refine hK _ ?_; clear hK K) | (refine wpPlanZ_quiet (by rfl) (by rfl) (fun W hW => by (have i0 := hW.i0; have i1 := hW.i1; have i2 := hW.i2; have i3 := hW.i3; have i4 := hW.i4; have q34 := hW.a.told.2.2.1; go_simp; try with_reducible rfl)) (fun K hK => ?_); go_simp; refine hK _ ?_; clear hK K))
  refine wpPlanZ_serial (by rfl) (by rfl) (fun K hK => ?_)
  go_simp
  refine (hwd _).mono ?_
  rintro e_ w_ ⟨rfl, rfl⟩
  refine hK _ _ (fun _ => D0.out.drew.stays hbx) ?_
  clear hK K
  repeat (first | (refine wpPlanZ_free (by rfl) (by rfl) (fun W => by (go_simp; try with_reducible rfl)) (fun K hK => ?_); go_simp; refine hK _ ?_; clear hK K) | (refine wpPlanZ_quiet (by rfl) (by rfl) (fun W hW => by (have i0 := hW.i0; have i1 := hW.i1; have i2 := hW.i2; have i3 := hW.i3; have i4 := hW.i4; have q34 := hW.a.told.2.2.1; go_simp; try with_reducible rfl)) (fun K hK => ?_); go_simp; refine hK _ ?_; clear hK K))
  refine wpPlanZ_serial (by rfl) (by rfl) (fun K hK => ?_)
  go_simp
  refine (hnr _).mono ?_
  rintro e_ w_ ⟨rfl, rfl⟩
  refine hK _ _ (fun _ => D0.out.drew.stays hbx) ?_
  clear hK K
  repeat (first | (refine wpPlanZ_free (by rfl) (by rfl) (fun W => by (go_simp; try with_reducible rfl)) (fun K hK => ?_); go_simp; refine hK _ ?_; clear hK K) | (refine wpPlanZ_quiet (by rfl) (by rfl) (fun W hW => by (have i0 := hW.i0; have i1 := hW.i1; have i2 := hW.i2; have i3 := hW.i3; have i4 := hW.i4; have q34 := hW.a.told.2.2.1; go_simp; try with_reducible rfl)) (fun K hK => ?_); go_simp; refine hK _ ?_; clear hK K))
  refine wpPlanZ_nil ?_
  have D1 : Hid (Dq w_ ib sb S 33 s t d m) := D0.out.drew.stays hbx
  have K1 : Kept w w_ (· = sb) := (K0.trans (Kept.drew _ _) (fun _ _ h => h)).trans (Kept.of_below _ hbx) (fun _ _ h => h)
  clear hbx
  generalize w_ = W1 at *
  clear D0 K0
  go_upto_region 6 with fail
  refine wp_region_phase 14 [(0, 0), (1, 0), (2, 0), (3, 1), (8, 0), (9, 1), (10, 0), (11, 0), (4, 2), (5, 0), (6, 0), (7, 0), (12, 0), (13, 0)] (fun W => Dq W ib sb S 33 s t d m) (by kernel_rfl) (by kernel_rfl) (fun _ _ _ d _ h => by cases d <;> first | exact h | exact Dq.drew h) D1.out.drew ?_
  repeat (first | (refine wpPlanZ_free (by rfl) (by rfl) (fun W => by (go_simp; try with_reducible rfl)) (fun K hK => ?_); go_simp; refine hK _ ?_; clear hK K) | (refine wpPlanZ_quiet (by rfl) (by rfl) (fun W hW => by (have i4 := hW.i4; have q34 := hW.a.told.2.2.1; go_simp; try with_reducible rfl)) (fun K hK => ?_); go_simp; refine hK _ ?_; clear hK K))
  refine wpPlanZ_serial (by rfl) (by rfl) (fun K hK => ?_)
  go_simp
  refine (hp4 _).mono ?_
  rintro e_ w_ ⟨rfl, rfl⟩
  refine hK _ _ (fun _ => D1.out.drew) ?_
  clear hK K
  repeat (first | (refine wpPlanZ_free (by rfl) (by rfl) (fun W => by (go_simp; try with_reducible rfl)) (fun K hK => ?_); go_simp; refine hK _ ?_; clear hK K) | (refine wpPlanZ_quiet (by rfl) (by rfl) (fun W hW => by (have i4 := hW.i4; have q34 := hW.a.told.2.2.1; go_simp; try with_reducible rfl)) (fun K hK => ?_); go_simp; refine hK _ ?_; clear hK K))
  refine wpPlanZ_nil ?_
  have D0 : Hid (Dq W1.drew ib sb S 33 s t d m) := D1.out.drew
  have K0 : Kept w W1.drew (· = sb) := K1.trans (Kept.drew _ _) (fun _ _ h => h)
  generalize W1.drew = W at *
  clear D1 K1 W1
  have i0 := D0.out.i0
  have A1 := D0.out.a
  go_wp2_with (go_at_call 153; refine (hsx _).mono ?_; rintro e w2 ⟨rfl, rfl⟩)
  go_ret2
  exact ⟨rfl, A1, K0⟩
set_option maxRecDepth 100000 in
set_option maxHeartbeats 8000000 in
theorem br_34t (A : StAt w sb S) (ok : S.ok) (hs : s < 32) (ht : t < 32) (hd : d < 32) (m0 : 0 ≤ m) (m1 : m < 4294967296) (hk : k = 34) (hsl : S.sl = false) (hc : 0 < sg (S.r s)) : Calls Tryz.prog 191 #[.pointer (some ⟨sb, 0, none⟩), .agg #[.int .i64 k, .int .i64 s, .int .i64 t, .int .i64 d, .int .u32 m]] w fun e w' => e = .returned (.tuple #[.int .i64 (branchD S k s t d m).1, .int .i64 (branchD S k s t d m).2.1]) ∧ StAt w' sb (branchD S k s t d m).2.2 ∧ Kept w w' (· = sb) := by
  subst hk
  have X : branchD S 34 s t d m = (lo (lo (S.pc + 4) + lo (4 * wd m 16 true)), -1, S) := by unfold branchD; rw [if_neg (by rw [hsl]; decide)]; simp [takenI, targI, Low.immI, lessB, nm, show sg 0 = 0 from rfl, hc]
  rw [X]
  clear X
  have hp4 := fun W => plus2_any S.pc 4 ok.pc.1 ok.pc.2 (by omega) (by omega) W
  have hi := fun W => immOf_any 34 s t d m m0 m1 W
  have hwb : u32 (wd m 16 true) := wd_bd m0 m1 _
  have hsg := fun W => signed_any (wd m 16 true) hwb.1 hwb.2 W
  obtain ⟨sb1, sb2⟩ := sg_bd hwb.1 hwb.2
  have e4w : IntKind.i64.wrap (4 * sg (wd m 16 true)) = 4 * sg (wd m 16 true) := by rw [IntKind.wrap_i64]; omega
  have hwd := fun W => word_any (4 * sg (wd m 16 true)) (by omega) (by omega) W
  rw [lo_sg4 hwb.1 hwb.2] at hwd
  have b4 := lo_bd (S.pc + 4)
  have b5 := lo_bd (4 * wd m 16 true)
  have hnr := fun W => plus2_any (lo (S.pc + 4)) (lo (4 * wd m 16 true)) b4.1 b4.2 b5.1 b5.2 W
  have bn := lo_bd (lo (S.pc + 4) + lo (4 * wd m 16 true))
  have hsx := fun W => signed_any (S.r s) (ok.r s).1 (ok.r s).2 W
  obtain ⟨n0, n1⟩ := bn
  obtain ⟨p40, p41⟩ := b4
  have fa0 : 0 ≤ lo (S.pc + 4) / 268435456 := by omega
  have fa1 : lo (S.pc + 4) / 268435456 < 16 := by omega
  clear b5 hwb
  generalize lo (lo (S.pc + 4) + lo (4 * wd m 16 true)) = nr at *
  generalize lo (4 * wd m 16 true) = w5 at *
  generalize sg (wd m 16 true) = gi at *
  generalize wd m 16 true = wi at *
  generalize lo (S.pc + 4) = p4 at *
  have qd : p4.tdiv 268435456 = p4 / 268435456 := Int.tdiv_eq_ediv_of_nonneg p40
  generalize p4 / 268435456 = fq at *
  have wn : IntKind.i64.wrap nr = nr := by rw [IntKind.wrap_i64]; omega
  have wp : IntKind.i64.wrap p4 = p4 := by rw [IntKind.wrap_i64]; omega
  have wm : IntKind.i64.wrap m = m := by rw [IntKind.wrap_i64]; omega
  have w1 : IntKind.i64.wrap fq = fq := by rw [IntKind.wrap_i64]; omega
  have w2 : IntKind.i64.wrap (fq * 268435456) = fq * 268435456 := by rw [IntKind.wrap_i64]; omega
  have w3 : IntKind.i64.wrap (4 * m) = 4 * m := by rw [IntKind.wrap_i64]; omega
  have w4 : IntKind.i64.wrap (fq * 268435456 + 4 * m) = fq * 268435456 + 4 * m := by rw [IntKind.wrap_i64]; omega
  generalize sg (S.r s) = gx at *
  have hc1 : 0 < gx := by omega
  have hc2 : decide (0 < gx) = true := by simp; omega
  clear hc
  have D0 : Hid (Dq (w.alloc (.cells #[.int .i64 34, .int .i64 s, .int .i64 t, .int .i64 d, .int .u32 m] 113)) w.heap.size sb S 34 s t d m) := Dq.start A ok 34 hs ht hd m0 m1
  have K0 : Kept w (w.alloc (.cells #[.int .i64 34, .int .i64 s, .int .i64 t, .int .i64 d, .int .u32 m] 113)) (· = sb) := Kept.of_below _ ((Below.refl _ _).alloc (Nat.le_refl _) _)
  clear A
  go_enter Tryz.func191, Tryz.ntmps191
  go_upto_region 1 with fail
  generalize w.alloc (.cells #[.int .i64 34, .int .i64 s, .int .i64 t, .int .i64 d, .int .u32 m] 113) = W at *
  generalize w.heap.size = ib at *
  have i0 := D0.out.i0
  have i1 := D0.out.i1
  have i2 := D0.out.i2
  have i3 := D0.out.i3
  have i4 := D0.out.i4
  have qs := D0.out.a.reg D0.out.hs
  have fs := D0.out.a.fz s
  have hs' : (s : Int) < 32 := by have := D0.out.hs; omega
  have qt := D0.out.a.reg D0.out.ht
  have ft := D0.out.a.fz t
  have ht' : (t : Int) < 32 := by have := D0.out.ht; omega
  obtain ⟨-, -, -, -, q36, -⟩ := D0.out.a.told
  rw [hsl] at q36
  go_upto_region 3 with fail
  clear i0 i3 i4 q36
  refine wp_region_phase 8 [(0, 0), (1, 0), (2, 1), (3, 0), (4, 0), (5, 0), (6, 1), (7, 0)] (fun W => Dq W ib sb S 34 s t d m) (by kernel_rfl) (by kernel_rfl) (fun _ _ _ d _ h => by cases d <;> first | exact h | exact Dq.drew h) D0.out.drew ?_
  repeat (first | (refine wpPlanZ_free (by rfl) (by rfl) (fun W => by (go_simp; try with_reducible rfl)) (fun K hK => ?_); go_simp; refine hK _ ?_; clear hK K) | (refine wpPlanZ_quiet (by rfl) (by rfl) (fun W hW => by (have i1 := hW.i1; have qs := hW.a.reg hW.hs; go_simp; try with_reducible rfl)) (fun K hK => ?_); go_simp; refine hK _ ?_; clear hK K))
  refine wpPlanZ_nil ?_
  have D1 : Hid (Dq W.drew ib sb S 34 s t d m) := D0.out.drew
  have K1 : Kept w W.drew (· = sb) := K0.trans (Kept.drew _ _) (fun _ _ h => h)
  clear qt ft qs fs i1 i2
  generalize W.drew = W1 at *
  clear D0 K0
  have i2 := D1.out.i2
  have qt := D1.out.a.reg D1.out.ht
  go_upto_region 4 with fail
  refine wp_region_phase 8 [(0, 0), (1, 0), (2, 1), (3, 0), (4, 0), (5, 0), (6, 1), (7, 0)] (fun W => Dq W ib sb S 34 s t d m) (by kernel_rfl) (by kernel_rfl) (fun _ _ _ d _ h => by cases d <;> first | exact h | exact Dq.drew h) D1.out.drew ?_
  repeat (first | (refine wpPlanZ_free (by rfl) (by rfl) (fun W => by (go_simp; try with_reducible rfl)) (fun K hK => ?_); go_simp; refine hK _ ?_; clear hK K) | (refine wpPlanZ_quiet (by rfl) (by rfl) (fun W hW => by (have i2 := hW.i2; have qt := hW.a.reg hW.ht; go_simp; try with_reducible rfl)) (fun K hK => ?_); go_simp; refine hK _ ?_; clear hK K))
  refine wpPlanZ_nil ?_
  have D0 : Hid (Dq W1.drew ib sb S 34 s t d m) := D1.out.drew
  have K0 : Kept w W1.drew (· = sb) := K1.trans (Kept.drew _ _) (fun _ _ h => h)
  clear qt i2
  generalize W1.drew = W at *
  clear D1 K1 W1
  go_upto_region 5 with fail
  refine wp_region_phase 13 [(0, 0), (1, 0), (2, 0), (3, 1), (5, 1), (4, 2), (6, 2), (7, 2), (8, 0), (9, 2), (10, 2), (11, 0), (12, 0)] (fun W => Dq W ib sb S 34 s t d m) (by kernel_rfl) (by kernel_rfl) (fun _ _ _ d _ h => by cases d <;> first | exact h | exact Dq.drew h) D0.out.drew ?_
  repeat (first | (refine wpPlanZ_free (by rfl) (by rfl) (fun W => by (go_simp; try with_reducible rfl)) (fun K hK => ?_); go_simp; refine hK _ ?_; clear hK K) | (refine wpPlanZ_quiet (by rfl) (by rfl) (fun W hW => by (have i0 := hW.i0; have i1 := hW.i1; have i2 := hW.i2; have i3 := hW.i3; have i4 := hW.i4; have q34 := hW.a.told.2.2.1; go_simp; try with_reducible rfl)) (fun K hK => ?_); go_simp; refine hK _ ?_; clear hK K))
  refine wpPlanZ_serial (by rfl) (by rfl) (fun K hK => ?_)
  go_simp
  refine (hp4 _).mono ?_
  rintro e_ w_ ⟨rfl, rfl⟩
  refine hK _ _ (fun _ => D0.out.drew) ?_
  clear hK K
  repeat (first | (refine wpPlanZ_free (by rfl) (by rfl) (fun W => by (go_simp; try with_reducible rfl)) (fun K hK => ?_); go_simp; refine hK _ ?_; clear hK K) | (refine wpPlanZ_quiet (by rfl) (by rfl) (fun W hW => by (have i0 := hW.i0; have i1 := hW.i1; have i2 := hW.i2; have i3 := hW.i3; have i4 := hW.i4; have q34 := hW.a.told.2.2.1; go_simp; try with_reducible rfl)) (fun K hK => ?_); go_simp; refine hK _ ?_; clear hK K))
  refine wpPlanZ_serial (by rfl) (by rfl) (fun K hK => ?_)
  go_simp
  refine (hi _).mono ?_
  rintro e_ w_ ⟨rfl, hbx⟩
  refine hK _ _ (fun _ => D0.out.drew.stays hbx) ?_
  clear hK K
  repeat (first | (refine wpPlanZ_free (by rfl) (by rfl) (fun W => by (go_simp; try with_reducible rfl)) (fun K hK => ?_); go_simp; refine hK _ ?_; clear hK K) | (refine wpPlanZ_quiet (by rfl) (by rfl) (fun W hW => by (have i0 := hW.i0; have i1 := hW.i1; have i2 := hW.i2; have i3 := hW.i3; have i4 := hW.i4; have q34 := hW.a.told.2.2.1; go_simp; try with_reducible rfl)) (fun K hK => ?_); go_simp; refine hK _ ?_; clear hK K))
  refine wpPlanZ_serial (by rfl) (by rfl) (fun K hK => ?_)
  go_simp
  refine (hsg _).mono ?_
  rintro e_ w_ ⟨rfl, rfl⟩
  refine hK _ _ (fun _ => D0.out.drew.stays hbx) ?_
  clear hK K
  repeat (first | (refine wpPlanZ_free (by rfl) (by rfl) (fun W => by (go_simp; try with_reducible rfl)) (fun K hK => ?_); go_simp; refine hK _ ?_; clear hK K) | (refine wpPlanZ_quiet (by rfl) (by rfl) (fun W hW => by (have i0 := hW.i0; have i1 := hW.i1; have i2 := hW.i2; have i3 := hW.i3; have i4 := hW.i4; have q34 := hW.a.told.2.2.1; go_simp; try with_reducible rfl)) (fun K hK => ?_); go_simp; refine hK _ ?_; clear hK K))
  refine wpPlanZ_serial (by rfl) (by rfl) (fun K hK => ?_)
  go_simp
  refine (hwd _).mono ?_
  rintro e_ w_ ⟨rfl, rfl⟩
  refine hK _ _ (fun _ => D0.out.drew.stays hbx) ?_
  clear hK K
  repeat (first | (refine wpPlanZ_free (by rfl) (by rfl) (fun W => by (go_simp; try with_reducible rfl)) (fun K hK => ?_); go_simp; refine hK _ ?_; clear hK K) | (refine wpPlanZ_quiet (by rfl) (by rfl) (fun W hW => by (have i0 := hW.i0; have i1 := hW.i1; have i2 := hW.i2; have i3 := hW.i3; have i4 := hW.i4; have q34 := hW.a.told.2.2.1; go_simp; try with_reducible rfl)) (fun K hK => ?_); go_simp; refine hK _ ?_; clear hK K))
  refine wpPlanZ_serial (by rfl) (by rfl) (fun K hK => ?_)
  go_simp
  refine (hnr _).mono ?_
  rintro e_ w_ ⟨rfl, rfl⟩
  refine hK _ _ (fun _ => D0.out.drew.stays hbx) ?_
  clear hK K
  repeat (first | (refine wpPlanZ_free (by rfl) (by rfl) (fun W => by (go_simp; try with_reducible rfl)) (fun K hK => ?_); go_simp; refine hK _ ?_; clear hK K) | (refine wpPlanZ_quiet (by rfl) (by rfl) (fun W hW => by (have i0 := hW.i0; have i1 := hW.i1; have i2 := hW.i2; have i3 := hW.i3; have i4 := hW.i4; have q34 := hW.a.told.2.2.1; go_simp; try with_reducible rfl)) (fun K hK => ?_); go_simp; refine hK _ ?_; clear hK K))
  refine wpPlanZ_nil ?_
  have D1 : Hid (Dq w_ ib sb S 34 s t d m) := D0.out.drew.stays hbx
  have K1 : Kept w w_ (· = sb) := (K0.trans (Kept.drew _ _) (fun _ _ h => h)).trans (Kept.of_below _ hbx) (fun _ _ h => h)
  clear hbx
  generalize w_ = W1 at *
  clear D0 K0
  go_upto_region 6 with fail
  refine wp_region_phase 14 [(0, 0), (1, 0), (2, 0), (3, 1), (8, 0), (9, 1), (10, 0), (11, 0), (4, 2), (5, 0), (6, 0), (7, 0), (12, 0), (13, 0)] (fun W => Dq W ib sb S 34 s t d m) (by kernel_rfl) (by kernel_rfl) (fun _ _ _ d _ h => by cases d <;> first | exact h | exact Dq.drew h) D1.out.drew ?_
  repeat (first | (refine wpPlanZ_free (by rfl) (by rfl) (fun W => by (go_simp; try with_reducible rfl)) (fun K hK => ?_); go_simp; refine hK _ ?_; clear hK K) | (refine wpPlanZ_quiet (by rfl) (by rfl) (fun W hW => by (have i4 := hW.i4; have q34 := hW.a.told.2.2.1; go_simp; try with_reducible rfl)) (fun K hK => ?_); go_simp; refine hK _ ?_; clear hK K))
  refine wpPlanZ_serial (by rfl) (by rfl) (fun K hK => ?_)
  go_simp
  refine (hp4 _).mono ?_
  rintro e_ w_ ⟨rfl, rfl⟩
  refine hK _ _ (fun _ => D1.out.drew) ?_
  clear hK K
  repeat (first | (refine wpPlanZ_free (by rfl) (by rfl) (fun W => by (go_simp; try with_reducible rfl)) (fun K hK => ?_); go_simp; refine hK _ ?_; clear hK K) | (refine wpPlanZ_quiet (by rfl) (by rfl) (fun W hW => by (have i4 := hW.i4; have q34 := hW.a.told.2.2.1; go_simp; try with_reducible rfl)) (fun K hK => ?_); go_simp; refine hK _ ?_; clear hK K))
  refine wpPlanZ_nil ?_
  have D0 : Hid (Dq W1.drew ib sb S 34 s t d m) := D1.out.drew
  have K0 : Kept w W1.drew (· = sb) := K1.trans (Kept.drew _ _) (fun _ _ h => h)
  generalize W1.drew = W at *
  clear D1 K1 W1
  have i0 := D0.out.i0
  have A1 := D0.out.a
  go_wp2_with (go_at_call 153; refine (hsx _).mono ?_; rintro e w2 ⟨rfl, rfl⟩)
  go_ret2
  exact ⟨rfl, A1, K0⟩
set_option maxRecDepth 100000 in
set_option maxHeartbeats 8000000 in
theorem br_34n (A : StAt w sb S) (ok : S.ok) (hs : s < 32) (ht : t < 32) (hd : d < 32) (m0 : 0 ≤ m) (m1 : m < 4294967296) (hk : k = 34) (hsl : S.sl = false) (hc : ¬ 0 < sg (S.r s)) : Calls Tryz.prog 191 #[.pointer (some ⟨sb, 0, none⟩), .agg #[.int .i64 k, .int .i64 s, .int .i64 t, .int .i64 d, .int .u32 m]] w fun e w' => e = .returned (.tuple #[.int .i64 (branchD S k s t d m).1, .int .i64 (branchD S k s t d m).2.1]) ∧ StAt w' sb (branchD S k s t d m).2.2 ∧ Kept w w' (· = sb) := by
  subst hk
  have X : branchD S 34 s t d m = (-1, -1, S) := by unfold branchD; rw [if_neg (by rw [hsl]; decide)]; simp [takenI, lessB, nm, show sg 0 = 0 from rfl, hc]
  rw [X]
  clear X
  have hp4 := fun W => plus2_any S.pc 4 ok.pc.1 ok.pc.2 (by omega) (by omega) W
  have hi := fun W => immOf_any 34 s t d m m0 m1 W
  have hwb : u32 (wd m 16 true) := wd_bd m0 m1 _
  have hsg := fun W => signed_any (wd m 16 true) hwb.1 hwb.2 W
  obtain ⟨sb1, sb2⟩ := sg_bd hwb.1 hwb.2
  have e4w : IntKind.i64.wrap (4 * sg (wd m 16 true)) = 4 * sg (wd m 16 true) := by rw [IntKind.wrap_i64]; omega
  have hwd := fun W => word_any (4 * sg (wd m 16 true)) (by omega) (by omega) W
  rw [lo_sg4 hwb.1 hwb.2] at hwd
  have b4 := lo_bd (S.pc + 4)
  have b5 := lo_bd (4 * wd m 16 true)
  have hnr := fun W => plus2_any (lo (S.pc + 4)) (lo (4 * wd m 16 true)) b4.1 b4.2 b5.1 b5.2 W
  have bn := lo_bd (lo (S.pc + 4) + lo (4 * wd m 16 true))
  have hsx := fun W => signed_any (S.r s) (ok.r s).1 (ok.r s).2 W
  obtain ⟨n0, n1⟩ := bn
  obtain ⟨p40, p41⟩ := b4
  have fa0 : 0 ≤ lo (S.pc + 4) / 268435456 := by omega
  have fa1 : lo (S.pc + 4) / 268435456 < 16 := by omega
  clear b5 hwb
  generalize lo (lo (S.pc + 4) + lo (4 * wd m 16 true)) = nr at *
  generalize lo (4 * wd m 16 true) = w5 at *
  generalize sg (wd m 16 true) = gi at *
  generalize wd m 16 true = wi at *
  generalize lo (S.pc + 4) = p4 at *
  have qd : p4.tdiv 268435456 = p4 / 268435456 := Int.tdiv_eq_ediv_of_nonneg p40
  generalize p4 / 268435456 = fq at *
  have wn : IntKind.i64.wrap nr = nr := by rw [IntKind.wrap_i64]; omega
  have wp : IntKind.i64.wrap p4 = p4 := by rw [IntKind.wrap_i64]; omega
  have wm : IntKind.i64.wrap m = m := by rw [IntKind.wrap_i64]; omega
  have w1 : IntKind.i64.wrap fq = fq := by rw [IntKind.wrap_i64]; omega
  have w2 : IntKind.i64.wrap (fq * 268435456) = fq * 268435456 := by rw [IntKind.wrap_i64]; omega
  have w3 : IntKind.i64.wrap (4 * m) = 4 * m := by rw [IntKind.wrap_i64]; omega
  have w4 : IntKind.i64.wrap (fq * 268435456 + 4 * m) = fq * 268435456 + 4 * m := by rw [IntKind.wrap_i64]; omega
  generalize sg (S.r s) = gx at *
  have hc1 : ¬ 0 < gx := by omega
  have hc2 : decide (0 < gx) = false := by simp; omega
  clear hc
  have D0 : Hid (Dq (w.alloc (.cells #[.int .i64 34, .int .i64 s, .int .i64 t, .int .i64 d, .int .u32 m] 113)) w.heap.size sb S 34 s t d m) := Dq.start A ok 34 hs ht hd m0 m1
  have K0 : Kept w (w.alloc (.cells #[.int .i64 34, .int .i64 s, .int .i64 t, .int .i64 d, .int .u32 m] 113)) (· = sb) := Kept.of_below _ ((Below.refl _ _).alloc (Nat.le_refl _) _)
  clear A
  go_enter Tryz.func191, Tryz.ntmps191
  go_upto_region 1 with fail
  generalize w.alloc (.cells #[.int .i64 34, .int .i64 s, .int .i64 t, .int .i64 d, .int .u32 m] 113) = W at *
  generalize w.heap.size = ib at *
  have i0 := D0.out.i0
  have i1 := D0.out.i1
  have i2 := D0.out.i2
  have i3 := D0.out.i3
  have i4 := D0.out.i4
  have qs := D0.out.a.reg D0.out.hs
  have fs := D0.out.a.fz s
  have hs' : (s : Int) < 32 := by have := D0.out.hs; omega
  have qt := D0.out.a.reg D0.out.ht
  have ft := D0.out.a.fz t
  have ht' : (t : Int) < 32 := by have := D0.out.ht; omega
  obtain ⟨-, -, -, -, q36, -⟩ := D0.out.a.told
  rw [hsl] at q36
  go_upto_region 3 with fail
  clear i0 i3 i4 q36
  refine wp_region_phase 8 [(0, 0), (1, 0), (2, 1), (3, 0), (4, 0), (5, 0), (6, 1), (7, 0)] (fun W => Dq W ib sb S 34 s t d m) (by kernel_rfl) (by kernel_rfl) (fun _ _ _ d _ h => by cases d <;> first | exact h | exact Dq.drew h) D0.out.drew ?_
  repeat (first | (refine wpPlanZ_free (by rfl) (by rfl) (fun W => by (go_simp; try with_reducible rfl)) (fun K hK => ?_); go_simp; refine hK _ ?_; clear hK K) | (refine wpPlanZ_quiet (by rfl) (by rfl) (fun W hW => by (have i1 := hW.i1; have qs := hW.a.reg hW.hs; go_simp; try with_reducible rfl)) (fun K hK => ?_); go_simp; refine hK _ ?_; clear hK K))
  refine wpPlanZ_nil ?_
  have D1 : Hid (Dq W.drew ib sb S 34 s t d m) := D0.out.drew
  have K1 : Kept w W.drew (· = sb) := K0.trans (Kept.drew _ _) (fun _ _ h => h)
  clear qt ft qs fs i1 i2
  generalize W.drew = W1 at *
  clear D0 K0
  have i2 := D1.out.i2
  have qt := D1.out.a.reg D1.out.ht
  go_upto_region 4 with fail
  refine wp_region_phase 8 [(0, 0), (1, 0), (2, 1), (3, 0), (4, 0), (5, 0), (6, 1), (7, 0)] (fun W => Dq W ib sb S 34 s t d m) (by kernel_rfl) (by kernel_rfl) (fun _ _ _ d _ h => by cases d <;> first | exact h | exact Dq.drew h) D1.out.drew ?_
  repeat (first | (refine wpPlanZ_free (by rfl) (by rfl) (fun W => by (go_simp; try with_reducible rfl)) (fun K hK => ?_); go_simp; refine hK _ ?_; clear hK K) | (refine wpPlanZ_quiet (by rfl) (by rfl) (fun W hW => by (have i2 := hW.i2; have qt := hW.a.reg hW.ht; go_simp; try with_reducible rfl)) (fun K hK => ?_); go_simp; refine hK _ ?_; clear hK K))
  refine wpPlanZ_nil ?_
  have D0 : Hid (Dq W1.drew ib sb S 34 s t d m) := D1.out.drew
  have K0 : Kept w W1.drew (· = sb) := K1.trans (Kept.drew _ _) (fun _ _ h => h)
  clear qt i2
  generalize W1.drew = W at *
  clear D1 K1 W1
  go_upto_region 5 with fail
  refine wp_region_phase 13 [(0, 0), (1, 0), (2, 0), (3, 1), (5, 1), (4, 2), (6, 2), (7, 2), (8, 0), (9, 2), (10, 2), (11, 0), (12, 0)] (fun W => Dq W ib sb S 34 s t d m) (by kernel_rfl) (by kernel_rfl) (fun _ _ _ d _ h => by cases d <;> first | exact h | exact Dq.drew h) D0.out.drew ?_
  repeat (first | (refine wpPlanZ_free (by rfl) (by rfl) (fun W => by (go_simp; try with_reducible rfl)) (fun K hK => ?_); go_simp; refine hK _ ?_; clear hK K) | (refine wpPlanZ_quiet (by rfl) (by rfl) (fun W hW => by (have i0 := hW.i0; have i1 := hW.i1; have i2 := hW.i2; have i3 := hW.i3; have i4 := hW.i4; have q34 := hW.a.told.2.2.1; go_simp; try with_reducible rfl)) (fun K hK => ?_); go_simp; refine hK _ ?_; clear hK K))
  refine wpPlanZ_serial (by rfl) (by rfl) (fun K hK => ?_)
  go_simp
  refine (hp4 _).mono ?_
  rintro e_ w_ ⟨rfl, rfl⟩
  refine hK _ _ (fun _ => D0.out.drew) ?_
  clear hK K
  repeat (first | (refine wpPlanZ_free (by rfl) (by rfl) (fun W => by (go_simp; try with_reducible rfl)) (fun K hK => ?_); go_simp; refine hK _ ?_; clear hK K) | (refine wpPlanZ_quiet (by rfl) (by rfl) (fun W hW => by (have i0 := hW.i0; have i1 := hW.i1; have i2 := hW.i2; have i3 := hW.i3; have i4 := hW.i4; have q34 := hW.a.told.2.2.1; go_simp; try with_reducible rfl)) (fun K hK => ?_); go_simp; refine hK _ ?_; clear hK K))
  refine wpPlanZ_serial (by rfl) (by rfl) (fun K hK => ?_)
  go_simp
  refine (hi _).mono ?_
  rintro e_ w_ ⟨rfl, hbx⟩
  refine hK _ _ (fun _ => D0.out.drew.stays hbx) ?_
  clear hK K
  repeat (first | (refine wpPlanZ_free (by rfl) (by rfl) (fun W => by (go_simp; try with_reducible rfl)) (fun K hK => ?_); go_simp; refine hK _ ?_; clear hK K) | (refine wpPlanZ_quiet (by rfl) (by rfl) (fun W hW => by (have i0 := hW.i0; have i1 := hW.i1; have i2 := hW.i2; have i3 := hW.i3; have i4 := hW.i4; have q34 := hW.a.told.2.2.1; go_simp; try with_reducible rfl)) (fun K hK => ?_); go_simp; refine hK _ ?_; clear hK K))
  refine wpPlanZ_serial (by rfl) (by rfl) (fun K hK => ?_)
  go_simp
  refine (hsg _).mono ?_
  rintro e_ w_ ⟨rfl, rfl⟩
  refine hK _ _ (fun _ => D0.out.drew.stays hbx) ?_
  clear hK K
  repeat (first | (refine wpPlanZ_free (by rfl) (by rfl) (fun W => by (go_simp; try with_reducible rfl)) (fun K hK => ?_); go_simp; refine hK _ ?_; clear hK K) | (refine wpPlanZ_quiet (by rfl) (by rfl) (fun W hW => by (have i0 := hW.i0; have i1 := hW.i1; have i2 := hW.i2; have i3 := hW.i3; have i4 := hW.i4; have q34 := hW.a.told.2.2.1; go_simp; try with_reducible rfl)) (fun K hK => ?_); go_simp; refine hK _ ?_; clear hK K))
  refine wpPlanZ_serial (by rfl) (by rfl) (fun K hK => ?_)
  go_simp
  refine (hwd _).mono ?_
  rintro e_ w_ ⟨rfl, rfl⟩
  refine hK _ _ (fun _ => D0.out.drew.stays hbx) ?_
  clear hK K
  repeat (first | (refine wpPlanZ_free (by rfl) (by rfl) (fun W => by (go_simp; try with_reducible rfl)) (fun K hK => ?_); go_simp; refine hK _ ?_; clear hK K) | (refine wpPlanZ_quiet (by rfl) (by rfl) (fun W hW => by (have i0 := hW.i0; have i1 := hW.i1; have i2 := hW.i2; have i3 := hW.i3; have i4 := hW.i4; have q34 := hW.a.told.2.2.1; go_simp; try with_reducible rfl)) (fun K hK => ?_); go_simp; refine hK _ ?_; clear hK K))
  refine wpPlanZ_serial (by rfl) (by rfl) (fun K hK => ?_)
  go_simp
  refine (hnr _).mono ?_
  rintro e_ w_ ⟨rfl, rfl⟩
  refine hK _ _ (fun _ => D0.out.drew.stays hbx) ?_
  clear hK K
  repeat (first | (refine wpPlanZ_free (by rfl) (by rfl) (fun W => by (go_simp; try with_reducible rfl)) (fun K hK => ?_); go_simp; refine hK _ ?_; clear hK K) | (refine wpPlanZ_quiet (by rfl) (by rfl) (fun W hW => by (have i0 := hW.i0; have i1 := hW.i1; have i2 := hW.i2; have i3 := hW.i3; have i4 := hW.i4; have q34 := hW.a.told.2.2.1; go_simp; try with_reducible rfl)) (fun K hK => ?_); go_simp; refine hK _ ?_; clear hK K))
  refine wpPlanZ_nil ?_
  have D1 : Hid (Dq w_ ib sb S 34 s t d m) := D0.out.drew.stays hbx
  have K1 : Kept w w_ (· = sb) := (K0.trans (Kept.drew _ _) (fun _ _ h => h)).trans (Kept.of_below _ hbx) (fun _ _ h => h)
  clear hbx
  generalize w_ = W1 at *
  clear D0 K0
  go_upto_region 6 with fail
  refine wp_region_phase 14 [(0, 0), (1, 0), (2, 0), (3, 1), (8, 0), (9, 1), (10, 0), (11, 0), (4, 2), (5, 0), (6, 0), (7, 0), (12, 0), (13, 0)] (fun W => Dq W ib sb S 34 s t d m) (by kernel_rfl) (by kernel_rfl) (fun _ _ _ d _ h => by cases d <;> first | exact h | exact Dq.drew h) D1.out.drew ?_
  repeat (first | (refine wpPlanZ_free (by rfl) (by rfl) (fun W => by (go_simp; try with_reducible rfl)) (fun K hK => ?_); go_simp; refine hK _ ?_; clear hK K) | (refine wpPlanZ_quiet (by rfl) (by rfl) (fun W hW => by (have i4 := hW.i4; have q34 := hW.a.told.2.2.1; go_simp; try with_reducible rfl)) (fun K hK => ?_); go_simp; refine hK _ ?_; clear hK K))
  refine wpPlanZ_serial (by rfl) (by rfl) (fun K hK => ?_)
  go_simp
  refine (hp4 _).mono ?_
  rintro e_ w_ ⟨rfl, rfl⟩
  refine hK _ _ (fun _ => D1.out.drew) ?_
  clear hK K
  repeat (first | (refine wpPlanZ_free (by rfl) (by rfl) (fun W => by (go_simp; try with_reducible rfl)) (fun K hK => ?_); go_simp; refine hK _ ?_; clear hK K) | (refine wpPlanZ_quiet (by rfl) (by rfl) (fun W hW => by (have i4 := hW.i4; have q34 := hW.a.told.2.2.1; go_simp; try with_reducible rfl)) (fun K hK => ?_); go_simp; refine hK _ ?_; clear hK K))
  refine wpPlanZ_nil ?_
  have D0 : Hid (Dq W1.drew ib sb S 34 s t d m) := D1.out.drew
  have K0 : Kept w W1.drew (· = sb) := K1.trans (Kept.drew _ _) (fun _ _ h => h)
  generalize W1.drew = W at *
  clear D1 K1 W1
  have i0 := D0.out.i0
  have A1 := D0.out.a
  go_wp2_with (go_at_call 153; refine (hsx _).mono ?_; rintro e w2 ⟨rfl, rfl⟩)
  go_ret2
  exact ⟨rfl, A1, K0⟩
end
end Go.Proofs.YtflagpkmebdckaaGreatDoor
/-
  Branches, as the document has them: far ones.
-/
namespace Go.Proofs.YtflagpkmebdckaaGreatDoor
open Go.RowKit Go.Maps
open Num
set_option linter.unusedVariables false
section
variable {w : World} {sb : Nat} {S : St} {k s t d : Nat} {m : Int}
set_option maxRecDepth 100000 in
set_option maxHeartbeats 8000000 in
theorem br_7 (A : StAt w sb S) (ok : S.ok) (hs : s < 32) (ht : t < 32) (hd : d < 32) (m0 : 0 ≤ m) (m1 : m < 4294967296) (hk : k = 7) (hsl : S.sl = false) : Calls Tryz.prog 191 #[.pointer (some ⟨sb, 0, none⟩), .agg #[.int .i64 k, .int .i64 s, .int .i64 t, .int .i64 d, .int .u32 m]] w fun e w' => e = .returned (.tuple #[.int .i64 (branchD S k s t d m).1, .int .i64 (branchD S k s t d m).2.1]) ∧ StAt w' sb (branchD S k s t d m).2.2 ∧ Kept w w' (· = sb) := by
  subst hk
  have X : branchD S 7 s t d m = (S.r s, -1, S) := by unfold branchD; rw [if_neg (by rw [hsl]; decide)]; rfl
  rw [X]
  clear X
  have hp4 := fun W => plus2_any S.pc 4 ok.pc.1 ok.pc.2 (by omega) (by omega) W
  have hi := fun W => immOf_any 7 s t d m m0 m1 W
  have hwb : u32 (wd m 16 true) := wd_bd m0 m1 _
  have hsg := fun W => signed_any (wd m 16 true) hwb.1 hwb.2 W
  obtain ⟨sb1, sb2⟩ := sg_bd hwb.1 hwb.2
  have e4w : IntKind.i64.wrap (4 * sg (wd m 16 true)) = 4 * sg (wd m 16 true) := by rw [IntKind.wrap_i64]; omega
  have hwd := fun W => word_any (4 * sg (wd m 16 true)) (by omega) (by omega) W
  rw [lo_sg4 hwb.1 hwb.2] at hwd
  have b4 := lo_bd (S.pc + 4)
  have b5 := lo_bd (4 * wd m 16 true)
  have hnr := fun W => plus2_any (lo (S.pc + 4)) (lo (4 * wd m 16 true)) b4.1 b4.2 b5.1 b5.2 W
  have bn := lo_bd (lo (S.pc + 4) + lo (4 * wd m 16 true))
  obtain ⟨n0, n1⟩ := bn
  obtain ⟨p40, p41⟩ := b4
  have fa0 : 0 ≤ lo (S.pc + 4) / 268435456 := by omega
  have fa1 : lo (S.pc + 4) / 268435456 < 16 := by omega
  clear b5 hwb
  generalize lo (lo (S.pc + 4) + lo (4 * wd m 16 true)) = nr at *
  generalize lo (4 * wd m 16 true) = w5 at *
  generalize sg (wd m 16 true) = gi at *
  generalize wd m 16 true = wi at *
  generalize lo (S.pc + 4) = p4 at *
  have qd : p4.tdiv 268435456 = p4 / 268435456 := Int.tdiv_eq_ediv_of_nonneg p40
  generalize p4 / 268435456 = fq at *
  have wn : IntKind.i64.wrap nr = nr := by rw [IntKind.wrap_i64]; omega
  have wp : IntKind.i64.wrap p4 = p4 := by rw [IntKind.wrap_i64]; omega
  have wm : IntKind.i64.wrap m = m := by rw [IntKind.wrap_i64]; omega
  have w1 : IntKind.i64.wrap fq = fq := by rw [IntKind.wrap_i64]; omega
  have w2 : IntKind.i64.wrap (fq * 268435456) = fq * 268435456 := by rw [IntKind.wrap_i64]; omega
  have w3 : IntKind.i64.wrap (4 * m) = 4 * m := by rw [IntKind.wrap_i64]; omega
  have w4 : IntKind.i64.wrap (fq * 268435456 + 4 * m) = fq * 268435456 + 4 * m := by rw [IntKind.wrap_i64]; omega
  have hx0 := (ok.r s).1
  have hx1 := (ok.r s).2
  have wx : IntKind.i64.wrap (S.r s) = S.r s := by rw [IntKind.wrap_i64]; omega
  have D0 : Hid (Dq (w.alloc (.cells #[.int .i64 7, .int .i64 s, .int .i64 t, .int .i64 d, .int .u32 m] 113)) w.heap.size sb S 7 s t d m) := Dq.start A ok 7 hs ht hd m0 m1
  have K0 : Kept w (w.alloc (.cells #[.int .i64 7, .int .i64 s, .int .i64 t, .int .i64 d, .int .u32 m] 113)) (· = sb) := Kept.of_below _ ((Below.refl _ _).alloc (Nat.le_refl _) _)
  clear A
  go_enter Tryz.func191, Tryz.ntmps191
  go_upto_region 1 with fail
  generalize w.alloc (.cells #[.int .i64 7, .int .i64 s, .int .i64 t, .int .i64 d, .int .u32 m] 113) = W at *
  generalize w.heap.size = ib at *
  have i0 := D0.out.i0
  have i1 := D0.out.i1
  have i2 := D0.out.i2
  have i3 := D0.out.i3
  have i4 := D0.out.i4
  have qs := D0.out.a.reg D0.out.hs
  have fs := D0.out.a.fz s
  have hs' : (s : Int) < 32 := by have := D0.out.hs; omega
  have qt := D0.out.a.reg D0.out.ht
  have ft := D0.out.a.fz t
  have ht' : (t : Int) < 32 := by have := D0.out.ht; omega
  obtain ⟨-, -, -, -, q36, -⟩ := D0.out.a.told
  rw [hsl] at q36
  go_upto_region 3 with fail
  clear i0 i3 i4 q36
  refine wp_region_phase 8 [(0, 0), (1, 0), (2, 1), (3, 0), (4, 0), (5, 0), (6, 1), (7, 0)] (fun W => Dq W ib sb S 7 s t d m) (by kernel_rfl) (by kernel_rfl) (fun _ _ _ d _ h => by cases d <;> first | exact h | exact Dq.drew h) D0.out.drew ?_
  repeat (first | (refine wpPlanZ_free (by rfl) (by rfl) (fun W => by (go_simp; try with_reducible rfl)) (fun K hK => ?_); go_simp; refine hK _ ?_; clear hK K) | (refine wpPlanZ_quiet (by rfl) (by rfl) (fun W hW => by (have i1 := hW.i1; have qs := hW.a.reg hW.hs; go_simp; try with_reducible rfl)) (fun K hK => ?_); go_simp; refine hK _ ?_; clear hK K))
  refine wpPlanZ_nil ?_
  have D1 : Hid (Dq W.drew ib sb S 7 s t d m) := D0.out.drew
  have K1 : Kept w W.drew (· = sb) := K0.trans (Kept.drew _ _) (fun _ _ h => h)
  clear qt ft qs fs i1 i2
  generalize W.drew = W1 at *
  clear D0 K0
  have i2 := D1.out.i2
  have qt := D1.out.a.reg D1.out.ht
  go_upto_region 4 with fail
  refine wp_region_phase 8 [(0, 0), (1, 0), (2, 1), (3, 0), (4, 0), (5, 0), (6, 1), (7, 0)] (fun W => Dq W ib sb S 7 s t d m) (by kernel_rfl) (by kernel_rfl) (fun _ _ _ d _ h => by cases d <;> first | exact h | exact Dq.drew h) D1.out.drew ?_
  repeat (first | (refine wpPlanZ_free (by rfl) (by rfl) (fun W => by (go_simp; try with_reducible rfl)) (fun K hK => ?_); go_simp; refine hK _ ?_; clear hK K) | (refine wpPlanZ_quiet (by rfl) (by rfl) (fun W hW => by (have i2 := hW.i2; have qt := hW.a.reg hW.ht; go_simp; try with_reducible rfl)) (fun K hK => ?_); go_simp; refine hK _ ?_; clear hK K))
  refine wpPlanZ_nil ?_
  have D0 : Hid (Dq W1.drew ib sb S 7 s t d m) := D1.out.drew
  have K0 : Kept w W1.drew (· = sb) := K1.trans (Kept.drew _ _) (fun _ _ h => h)
  clear qt i2
  generalize W1.drew = W at *
  clear D1 K1 W1
  go_upto_region 5 with fail
  refine wp_region_phase 13 [(0, 0), (1, 0), (2, 0), (3, 1), (5, 1), (4, 2), (6, 2), (7, 2), (8, 0), (9, 2), (10, 2), (11, 0), (12, 0)] (fun W => Dq W ib sb S 7 s t d m) (by kernel_rfl) (by kernel_rfl) (fun _ _ _ d _ h => by cases d <;> first | exact h | exact Dq.drew h) D0.out.drew ?_
  repeat (first | (refine wpPlanZ_free (by rfl) (by rfl) (fun W => by (go_simp; try with_reducible rfl)) (fun K hK => ?_); go_simp; refine hK _ ?_; clear hK K) | (refine wpPlanZ_quiet (by rfl) (by rfl) (fun W hW => by (have i0 := hW.i0; have i1 := hW.i1; have i2 := hW.i2; have i3 := hW.i3; have i4 := hW.i4; have q34 := hW.a.told.2.2.1; go_simp; try with_reducible rfl)) (fun K hK => ?_); go_simp; refine hK _ ?_; clear hK K))
  refine wpPlanZ_serial (by rfl) (by rfl) (fun K hK => ?_)
  go_simp
  refine (hp4 _).mono ?_
  rintro e_ w_ ⟨rfl, rfl⟩
  refine hK _ _ (fun _ => D0.out.drew) ?_
  clear hK K
  repeat (first | (refine wpPlanZ_free (by rfl) (by rfl) (fun W => by (go_simp; try with_reducible rfl)) (fun K hK => ?_); go_simp; refine hK _ ?_; clear hK K) | (refine wpPlanZ_quiet (by rfl) (by rfl) (fun W hW => by (have i0 := hW.i0; have i1 := hW.i1; have i2 := hW.i2; have i3 := hW.i3; have i4 := hW.i4; have q34 := hW.a.told.2.2.1; go_simp; try with_reducible rfl)) (fun K hK => ?_); go_simp; refine hK _ ?_; clear hK K))
  refine wpPlanZ_serial (by rfl) (by rfl) (fun K hK => ?_)
  go_simp
  refine (hi _).mono ?_
  rintro e_ w_ ⟨rfl, hbx⟩
  refine hK _ _ (fun _ => D0.out.drew.stays hbx) ?_
  clear hK K
  repeat (first | (refine wpPlanZ_free (by rfl) (by rfl) (fun W => by (go_simp; try with_reducible rfl)) (fun K hK => ?_); go_simp; refine hK _ ?_; clear hK K) | (refine wpPlanZ_quiet (by rfl) (by rfl) (fun W hW => by (have i0 := hW.i0; have i1 := hW.i1; have i2 := hW.i2; have i3 := hW.i3; have i4 := hW.i4; have q34 := hW.a.told.2.2.1; go_simp; try with_reducible rfl)) (fun K hK => ?_); go_simp; refine hK _ ?_; clear hK K))
  refine wpPlanZ_serial (by rfl) (by rfl) (fun K hK => ?_)
  go_simp
  refine (hsg _).mono ?_
  rintro e_ w_ ⟨rfl, rfl⟩
  refine hK _ _ (fun _ => D0.out.drew.stays hbx) ?_
  clear hK K
  repeat (first | (refine wpPlanZ_free (by rfl) (by rfl) (fun W => by (go_simp; try with_reducible rfl)) (fun K hK => ?_); go_simp; refine hK _ ?_; clear hK K) | (refine wpPlanZ_quiet (by rfl) (by rfl) (fun W hW => by (have i0 := hW.i0; have i1 := hW.i1; have i2 := hW.i2; have i3 := hW.i3; have i4 := hW.i4; have q34 := hW.a.told.2.2.1; go_simp; try with_reducible rfl)) (fun K hK => ?_); go_simp; refine hK _ ?_; clear hK K))
  refine wpPlanZ_serial (by rfl) (by rfl) (fun K hK => ?_)
  go_simp
  refine (hwd _).mono ?_
  rintro e_ w_ ⟨rfl, rfl⟩
  refine hK _ _ (fun _ => D0.out.drew.stays hbx) ?_
  clear hK K
  repeat (first | (refine wpPlanZ_free (by rfl) (by rfl) (fun W => by (go_simp; try with_reducible rfl)) (fun K hK => ?_); go_simp; refine hK _ ?_; clear hK K) | (refine wpPlanZ_quiet (by rfl) (by rfl) (fun W hW => by (have i0 := hW.i0; have i1 := hW.i1; have i2 := hW.i2; have i3 := hW.i3; have i4 := hW.i4; have q34 := hW.a.told.2.2.1; go_simp; try with_reducible rfl)) (fun K hK => ?_); go_simp; refine hK _ ?_; clear hK K))
  refine wpPlanZ_serial (by rfl) (by rfl) (fun K hK => ?_)
  go_simp
  refine (hnr _).mono ?_
  rintro e_ w_ ⟨rfl, rfl⟩
  refine hK _ _ (fun _ => D0.out.drew.stays hbx) ?_
  clear hK K
  repeat (first | (refine wpPlanZ_free (by rfl) (by rfl) (fun W => by (go_simp; try with_reducible rfl)) (fun K hK => ?_); go_simp; refine hK _ ?_; clear hK K) | (refine wpPlanZ_quiet (by rfl) (by rfl) (fun W hW => by (have i0 := hW.i0; have i1 := hW.i1; have i2 := hW.i2; have i3 := hW.i3; have i4 := hW.i4; have q34 := hW.a.told.2.2.1; go_simp; try with_reducible rfl)) (fun K hK => ?_); go_simp; refine hK _ ?_; clear hK K))
  refine wpPlanZ_nil ?_
  have D1 : Hid (Dq w_ ib sb S 7 s t d m) := D0.out.drew.stays hbx
  have K1 : Kept w w_ (· = sb) := (K0.trans (Kept.drew _ _) (fun _ _ h => h)).trans (Kept.of_below _ hbx) (fun _ _ h => h)
  clear hbx
  generalize w_ = W1 at *
  clear D0 K0
  go_upto_region 6 with fail
  refine wp_region_phase 14 [(0, 0), (1, 0), (2, 0), (3, 1), (8, 0), (9, 1), (10, 0), (11, 0), (4, 2), (5, 0), (6, 0), (7, 0), (12, 0), (13, 0)] (fun W => Dq W ib sb S 7 s t d m) (by kernel_rfl) (by kernel_rfl) (fun _ _ _ d _ h => by cases d <;> first | exact h | exact Dq.drew h) D1.out.drew ?_
  repeat (first | (refine wpPlanZ_free (by rfl) (by rfl) (fun W => by (go_simp; try with_reducible rfl)) (fun K hK => ?_); go_simp; refine hK _ ?_; clear hK K) | (refine wpPlanZ_quiet (by rfl) (by rfl) (fun W hW => by (have i4 := hW.i4; have q34 := hW.a.told.2.2.1; go_simp; try with_reducible rfl)) (fun K hK => ?_); go_simp; refine hK _ ?_; clear hK K))
  refine wpPlanZ_serial (by rfl) (by rfl) (fun K hK => ?_)
  go_simp
  refine (hp4 _).mono ?_
  rintro e_ w_ ⟨rfl, rfl⟩
  refine hK _ _ (fun _ => D1.out.drew) ?_
  clear hK K
  repeat (first | (refine wpPlanZ_free (by rfl) (by rfl) (fun W => by (go_simp; try with_reducible rfl)) (fun K hK => ?_); go_simp; refine hK _ ?_; clear hK K) | (refine wpPlanZ_quiet (by rfl) (by rfl) (fun W hW => by (have i4 := hW.i4; have q34 := hW.a.told.2.2.1; go_simp; try with_reducible rfl)) (fun K hK => ?_); go_simp; refine hK _ ?_; clear hK K))
  refine wpPlanZ_nil ?_
  have D0 : Hid (Dq W1.drew ib sb S 7 s t d m) := D1.out.drew
  have K0 : Kept w W1.drew (· = sb) := K1.trans (Kept.drew _ _) (fun _ _ h => h)
  generalize W1.drew = W at *
  clear D1 K1 W1
  have i0 := D0.out.i0
  have A1 := D0.out.a
  go_wp2
  go_ret2
  exact ⟨rfl, A1, K0⟩
set_option maxRecDepth 100000 in
set_option maxHeartbeats 8000000 in
theorem br_8 (A : StAt w sb S) (ok : S.ok) (hs : s < 32) (ht : t < 32) (hd : d < 32) (m0 : 0 ≤ m) (m1 : m < 4294967296) (hk : k = 8) (hsl : S.sl = false) : Calls Tryz.prog 191 #[.pointer (some ⟨sb, 0, none⟩), .agg #[.int .i64 k, .int .i64 s, .int .i64 t, .int .i64 d, .int .u32 m]] w fun e w' => e = .returned (.tuple #[.int .i64 (branchD S k s t d m).1, .int .i64 (branchD S k s t d m).2.1]) ∧ StAt w' sb (branchD S k s t d m).2.2 ∧ Kept w w' (· = sb) := by
  subst hk
  have X : branchD S 8 s t d m = (S.r s, -1, S.putR d (lo (S.pc + 8))) := by unfold branchD; rw [if_neg (by rw [hsl]; decide)]; rfl
  rw [X]
  clear X
  have hp4 := fun W => plus2_any S.pc 4 ok.pc.1 ok.pc.2 (by omega) (by omega) W
  have hi := fun W => immOf_any 8 s t d m m0 m1 W
  have hwb : u32 (wd m 16 true) := wd_bd m0 m1 _
  have hsg := fun W => signed_any (wd m 16 true) hwb.1 hwb.2 W
  obtain ⟨sb1, sb2⟩ := sg_bd hwb.1 hwb.2
  have e4w : IntKind.i64.wrap (4 * sg (wd m 16 true)) = 4 * sg (wd m 16 true) := by rw [IntKind.wrap_i64]; omega
  have hwd := fun W => word_any (4 * sg (wd m 16 true)) (by omega) (by omega) W
  rw [lo_sg4 hwb.1 hwb.2] at hwd
  have b4 := lo_bd (S.pc + 4)
  have b5 := lo_bd (4 * wd m 16 true)
  have hnr := fun W => plus2_any (lo (S.pc + 4)) (lo (4 * wd m 16 true)) b4.1 b4.2 b5.1 b5.2 W
  have bn := lo_bd (lo (S.pc + 4) + lo (4 * wd m 16 true))
  have hl := fun W => plus2_any S.pc 8 ok.pc.1 ok.pc.2 (by omega) (by omega) W
  generalize lo (S.pc + 8) = lk at *
  obtain ⟨n0, n1⟩ := bn
  obtain ⟨p40, p41⟩ := b4
  have fa0 : 0 ≤ lo (S.pc + 4) / 268435456 := by omega
  have fa1 : lo (S.pc + 4) / 268435456 < 16 := by omega
  clear b5 hwb
  generalize lo (lo (S.pc + 4) + lo (4 * wd m 16 true)) = nr at *
  generalize lo (4 * wd m 16 true) = w5 at *
  generalize sg (wd m 16 true) = gi at *
  generalize wd m 16 true = wi at *
  generalize lo (S.pc + 4) = p4 at *
  have qd : p4.tdiv 268435456 = p4 / 268435456 := Int.tdiv_eq_ediv_of_nonneg p40
  generalize p4 / 268435456 = fq at *
  have wn : IntKind.i64.wrap nr = nr := by rw [IntKind.wrap_i64]; omega
  have wp : IntKind.i64.wrap p4 = p4 := by rw [IntKind.wrap_i64]; omega
  have wm : IntKind.i64.wrap m = m := by rw [IntKind.wrap_i64]; omega
  have w1 : IntKind.i64.wrap fq = fq := by rw [IntKind.wrap_i64]; omega
  have w2 : IntKind.i64.wrap (fq * 268435456) = fq * 268435456 := by rw [IntKind.wrap_i64]; omega
  have w3 : IntKind.i64.wrap (4 * m) = 4 * m := by rw [IntKind.wrap_i64]; omega
  have w4 : IntKind.i64.wrap (fq * 268435456 + 4 * m) = fq * 268435456 + 4 * m := by rw [IntKind.wrap_i64]; omega
  have hx0 := (ok.r s).1
  have hx1 := (ok.r s).2
  have wx : IntKind.i64.wrap (S.r s) = S.r s := by rw [IntKind.wrap_i64]; omega
  have D0 : Hid (Dq (w.alloc (.cells #[.int .i64 8, .int .i64 s, .int .i64 t, .int .i64 d, .int .u32 m] 113)) w.heap.size sb S 8 s t d m) := Dq.start A ok 8 hs ht hd m0 m1
  have K0 : Kept w (w.alloc (.cells #[.int .i64 8, .int .i64 s, .int .i64 t, .int .i64 d, .int .u32 m] 113)) (· = sb) := Kept.of_below _ ((Below.refl _ _).alloc (Nat.le_refl _) _)
  clear A
  go_enter Tryz.func191, Tryz.ntmps191
  go_upto_region 1 with fail
  generalize w.alloc (.cells #[.int .i64 8, .int .i64 s, .int .i64 t, .int .i64 d, .int .u32 m] 113) = W at *
  generalize w.heap.size = ib at *
  have i0 := D0.out.i0
  have i1 := D0.out.i1
  have i2 := D0.out.i2
  have i3 := D0.out.i3
  have i4 := D0.out.i4
  have qs := D0.out.a.reg D0.out.hs
  have fs := D0.out.a.fz s
  have hs' : (s : Int) < 32 := by have := D0.out.hs; omega
  have qt := D0.out.a.reg D0.out.ht
  have ft := D0.out.a.fz t
  have ht' : (t : Int) < 32 := by have := D0.out.ht; omega
  obtain ⟨-, -, -, -, q36, -⟩ := D0.out.a.told
  rw [hsl] at q36
  go_upto_region 3 with fail
  clear i0 i3 i4 q36
  refine wp_region_phase 8 [(0, 0), (1, 0), (2, 1), (3, 0), (4, 0), (5, 0), (6, 1), (7, 0)] (fun W => Dq W ib sb S 8 s t d m) (by kernel_rfl) (by kernel_rfl) (fun _ _ _ d _ h => by cases d <;> first | exact h | exact Dq.drew h) D0.out.drew ?_
  repeat (first | (refine wpPlanZ_free (by rfl) (by rfl) (fun W => by (go_simp; try with_reducible rfl)) (fun K hK => ?_); go_simp; refine hK _ ?_; clear hK K) | (refine wpPlanZ_quiet (by rfl) (by rfl) (fun W hW => by (have i1 := hW.i1; have qs := hW.a.reg hW.hs; go_simp; try with_reducible rfl)) (fun K hK => ?_); go_simp; refine hK _ ?_; clear hK K))
  refine wpPlanZ_nil ?_
  have D1 : Hid (Dq W.drew ib sb S 8 s t d m) := D0.out.drew
  have K1 : Kept w W.drew (· = sb) := K0.trans (Kept.drew _ _) (fun _ _ h => h)
  clear qt ft qs fs i1 i2
  generalize W.drew = W1 at *
  clear D0 K0
  have i2 := D1.out.i2
  have qt := D1.out.a.reg D1.out.ht
  go_upto_region 4 with fail
  refine wp_region_phase 8 [(0, 0), (1, 0), (2, 1), (3, 0), (4, 0), (5, 0), (6, 1), (7, 0)] (fun W => Dq W ib sb S 8 s t d m) (by kernel_rfl) (by kernel_rfl) (fun _ _ _ d _ h => by cases d <;> first | exact h | exact Dq.drew h) D1.out.drew ?_
  repeat (first | (refine wpPlanZ_free (by rfl) (by rfl) (fun W => by (go_simp; try with_reducible rfl)) (fun K hK => ?_); go_simp; refine hK _ ?_; clear hK K) | (refine wpPlanZ_quiet (by rfl) (by rfl) (fun W hW => by (have i2 := hW.i2; have qt := hW.a.reg hW.ht; go_simp; try with_reducible rfl)) (fun K hK => ?_); go_simp; refine hK _ ?_; clear hK K))
  refine wpPlanZ_nil ?_
  have D0 : Hid (Dq W1.drew ib sb S 8 s t d m) := D1.out.drew
  have K0 : Kept w W1.drew (· = sb) := K1.trans (Kept.drew _ _) (fun _ _ h => h)
  clear qt i2
  generalize W1.drew = W at *
  clear D1 K1 W1
  go_upto_region 5 with fail
  refine wp_region_phase 13 [(0, 0), (1, 0), (2, 0), (3, 1), (5, 1), (4, 2), (6, 2), (7, 2), (8, 0), (9, 2), (10, 2), (11, 0), (12, 0)] (fun W => Dq W ib sb S 8 s t d m) (by kernel_rfl) (by kernel_rfl) (fun _ _ _ d _ h => by cases d <;> first | exact h | exact Dq.drew h) D0.out.drew ?_
  repeat (first | (refine wpPlanZ_free (by rfl) (by rfl) (fun W => by (go_simp; try with_reducible rfl)) (fun K hK => ?_); go_simp; refine hK _ ?_; clear hK K) | (refine wpPlanZ_quiet (by rfl) (by rfl) (fun W hW => by (have i0 := hW.i0; have i1 := hW.i1; have i2 := hW.i2; have i3 := hW.i3; have i4 := hW.i4; have q34 := hW.a.told.2.2.1; go_simp; try with_reducible rfl)) (fun K hK => ?_); go_simp; refine hK _ ?_; clear hK K))
  refine wpPlanZ_serial (by rfl) (by rfl) (fun K hK => ?_)
  go_simp
  refine (hp4 _).mono ?_
  rintro e_ w_ ⟨rfl, rfl⟩
  refine hK _ _ (fun _ => D0.out.drew) ?_
  clear hK K
  repeat (first | (refine wpPlanZ_free (by rfl) (by rfl) (fun W => by (go_simp; try with_reducible rfl)) (fun K hK => ?_); go_simp; refine hK _ ?_; clear hK K) | (refine wpPlanZ_quiet (by rfl) (by rfl) (fun W hW => by (have i0 := hW.i0; have i1 := hW.i1; have i2 := hW.i2; have i3 := hW.i3; have i4 := hW.i4; have q34 := hW.a.told.2.2.1; go_simp; try with_reducible rfl)) (fun K hK => ?_); go_simp; refine hK _ ?_; clear hK K))
  refine wpPlanZ_serial (by rfl) (by rfl) (fun K hK => ?_)
  go_simp
  refine (hi _).mono ?_
  rintro e_ w_ ⟨rfl, hbx⟩
  refine hK _ _ (fun _ => D0.out.drew.stays hbx) ?_
  clear hK K
  repeat (first | (refine wpPlanZ_free (by rfl) (by rfl) (fun W => by (go_simp; try with_reducible rfl)) (fun K hK => ?_); go_simp; refine hK _ ?_; clear hK K) | (refine wpPlanZ_quiet (by rfl) (by rfl) (fun W hW => by (have i0 := hW.i0; have i1 := hW.i1; have i2 := hW.i2; have i3 := hW.i3; have i4 := hW.i4; have q34 := hW.a.told.2.2.1; go_simp; try with_reducible rfl)) (fun K hK => ?_); go_simp; refine hK _ ?_; clear hK K))
  refine wpPlanZ_serial (by rfl) (by rfl) (fun K hK => ?_)
  go_simp
  refine (hsg _).mono ?_
  rintro e_ w_ ⟨rfl, rfl⟩
  refine hK _ _ (fun _ => D0.out.drew.stays hbx) ?_
  clear hK K
  repeat (first | (refine wpPlanZ_free (by rfl) (by rfl) (fun W => by (go_simp; try with_reducible rfl)) (fun K hK => ?_); go_simp; refine hK _ ?_; clear hK K) | (refine wpPlanZ_quiet (by rfl) (by rfl) (fun W hW => by (have i0 := hW.i0; have i1 := hW.i1; have i2 := hW.i2; have i3 := hW.i3; have i4 := hW.i4; have q34 := hW.a.told.2.2.1; go_simp; try with_reducible rfl)) (fun K hK => ?_); go_simp; refine hK _ ?_; clear hK K))
  refine wpPlanZ_serial (by rfl) (by rfl) (fun K hK => ?_)
  go_simp
  refine (hwd _).mono ?_
  rintro e_ w_ ⟨rfl, rfl⟩
  refine hK _ _ (fun _ => D0.out.drew.stays hbx) ?_
  clear hK K
  repeat (first | (refine wpPlanZ_free (by rfl) (by rfl) (fun W => by (go_simp; try with_reducible rfl)) (fun K hK => ?_); go_simp; refine hK _ ?_; clear hK K) | (refine wpPlanZ_quiet (by rfl) (by rfl) (fun W hW => by (have i0 := hW.i0; have i1 := hW.i1; have i2 := hW.i2; have i3 := hW.i3; have i4 := hW.i4; have q34 := hW.a.told.2.2.1; go_simp; try with_reducible rfl)) (fun K hK => ?_); go_simp; refine hK _ ?_; clear hK K))
  refine wpPlanZ_serial (by rfl) (by rfl) (fun K hK => ?_)
  go_simp
  refine (hnr _).mono ?_
  rintro e_ w_ ⟨rfl, rfl⟩
  refine hK _ _ (fun _ => D0.out.drew.stays hbx) ?_
  clear hK K
  repeat (first | (refine wpPlanZ_free (by rfl) (by rfl) (fun W => by (go_simp; try with_reducible rfl)) (fun K hK => ?_); go_simp; refine hK _ ?_; clear hK K) | (refine wpPlanZ_quiet (by rfl) (by rfl) (fun W hW => by (have i0 := hW.i0; have i1 := hW.i1; have i2 := hW.i2; have i3 := hW.i3; have i4 := hW.i4; have q34 := hW.a.told.2.2.1; go_simp; try with_reducible rfl)) (fun K hK => ?_); go_simp; refine hK _ ?_; clear hK K))
  refine wpPlanZ_nil ?_
  have D1 : Hid (Dq w_ ib sb S 8 s t d m) := D0.out.drew.stays hbx
  have K1 : Kept w w_ (· = sb) := (K0.trans (Kept.drew _ _) (fun _ _ h => h)).trans (Kept.of_below _ hbx) (fun _ _ h => h)
  clear hbx
  generalize w_ = W1 at *
  clear D0 K0
  go_upto_region 6 with fail
  refine wp_region_phase 14 [(0, 0), (1, 0), (2, 0), (3, 1), (8, 0), (9, 1), (10, 0), (11, 0), (4, 2), (5, 0), (6, 0), (7, 0), (12, 0), (13, 0)] (fun W => Dq W ib sb S 8 s t d m) (by kernel_rfl) (by kernel_rfl) (fun _ _ _ d _ h => by cases d <;> first | exact h | exact Dq.drew h) D1.out.drew ?_
  repeat (first | (refine wpPlanZ_free (by rfl) (by rfl) (fun W => by (go_simp; try with_reducible rfl)) (fun K hK => ?_); go_simp; refine hK _ ?_; clear hK K) | (refine wpPlanZ_quiet (by rfl) (by rfl) (fun W hW => by (have i4 := hW.i4; have q34 := hW.a.told.2.2.1; go_simp; try with_reducible rfl)) (fun K hK => ?_); go_simp; refine hK _ ?_; clear hK K))
  refine wpPlanZ_serial (by rfl) (by rfl) (fun K hK => ?_)
  go_simp
  refine (hp4 _).mono ?_
  rintro e_ w_ ⟨rfl, rfl⟩
  refine hK _ _ (fun _ => D1.out.drew) ?_
  clear hK K
  repeat (first | (refine wpPlanZ_free (by rfl) (by rfl) (fun W => by (go_simp; try with_reducible rfl)) (fun K hK => ?_); go_simp; refine hK _ ?_; clear hK K) | (refine wpPlanZ_quiet (by rfl) (by rfl) (fun W hW => by (have i4 := hW.i4; have q34 := hW.a.told.2.2.1; go_simp; try with_reducible rfl)) (fun K hK => ?_); go_simp; refine hK _ ?_; clear hK K))
  refine wpPlanZ_nil ?_
  have D0 : Hid (Dq W1.drew ib sb S 8 s t d m) := D1.out.drew
  have K0 : Kept w W1.drew (· = sb) := K1.trans (Kept.drew _ _) (fun _ _ h => h)
  generalize W1.drew = W at *
  clear D1 K1 W1
  have i0 := D0.out.i0
  have qd := D0.out.a.reg D0.out.hd
  have fd := D0.out.a.fz d
  have hd' : (d : Int) < 32 := by have := D0.out.hd; omega
  go_upto_region 27 with fail
  clear i0
  refine wp_region_phase 11 [(0, 0), (1, 0), (2, 1), (3, 0), (4, 0), (5, 0), (6, 1), (8, 0), (9, 0), (7, 2), (10, 0), (11, 2)] (fun W => Dq W ib sb S 8 s t d m) (by kernel_rfl) (by kernel_rfl) (fun _ _ _ d _ h => by cases d <;> first | exact h | exact Dq.drew h) D0.out.drew ?_
  repeat (first | (refine wpPlanZ_free (by rfl) (by rfl) (fun W => by (go_simp; try with_reducible rfl)) (fun K hK => ?_); go_simp; refine hK _ ?_; clear hK K) | (refine wpPlanZ_quiet (by rfl) (by rfl) (fun W hW => by (have i3 := hW.i3; have q34 := hW.a.told.2.2.1; go_simp; try with_reducible rfl)) (fun K hK => ?_); go_simp; refine hK _ ?_; clear hK K))
  refine wpPlanZ_serial (by rfl) (by rfl) (fun K hK => ?_)
  go_simp
  refine (hl _).mono ?_
  rintro e_ w_ ⟨rfl, rfl⟩
  refine hK _ _ (fun _ => D0.out.drew) ?_
  clear hK K
  repeat (first | (refine wpPlanZ_free (by rfl) (by rfl) (fun W => by (go_simp; try with_reducible rfl)) (fun K hK => ?_); go_simp; refine hK _ ?_; clear hK K) | (refine wpPlanZ_quiet (by rfl) (by rfl) (fun W hW => by (have i3 := hW.i3; have q34 := hW.a.told.2.2.1; go_simp; try with_reducible rfl)) (fun K hK => ?_); go_simp; refine hK _ ?_; clear hK K))
  refine wpPlanZ_serial (by rfl) (by rfl) (fun K hK => ?_)
  go_simp
  refine hK _ _ (fun h => absurd h (by decide)) ?_
  clear hK K
  refine wpPlanZ_nil ?_
  refine ck (R := fun W' => StAt W' sb (S.putR d lk) ∧ Kept W W' (· = sb)) ?_ (fun w1 ⟨A1, T1⟩ => ?_)
  · exact ⟨(D0.out.a.putR d D0.out.hd _).drew, (Kept.put (Kept.refl W _) _ _).trans (Kept.drew _ _) (fun _ _ h => h)⟩
  clear qd fd
  go_wp2
  go_ret2
  exact ⟨rfl, A1, K0.trans T1 (fun _ _ h => h)⟩
set_option maxRecDepth 100000 in
set_option maxHeartbeats 8000000 in
theorem br_29 (A : StAt w sb S) (ok : S.ok) (hs : s < 32) (ht : t < 32) (hd : d < 32) (m0 : 0 ≤ m) (m1 : m < 4294967296) (hk : k = 29) (hsl : S.sl = false) (hm : m < 67108864) : Calls Tryz.prog 191 #[.pointer (some ⟨sb, 0, none⟩), .agg #[.int .i64 k, .int .i64 s, .int .i64 t, .int .i64 d, .int .u32 m]] w fun e w' => e = .returned (.tuple #[.int .i64 (branchD S k s t d m).1, .int .i64 (branchD S k s t d m).2.1]) ∧ StAt w' sb (branchD S k s t d m).2.2 ∧ Kept w w' (· = sb) := by
  subst hk
  have X : branchD S 29 s t d m = (lo (S.pc + 4) / 268435456 * 268435456 + 4 * m, -1, S) := by unfold branchD; rw [if_neg (by rw [hsl]; decide), ← far_eq (lo_bd _).1 (lo_bd _).2 m0 hm]; rfl
  rw [X]
  clear X
  have hp4 := fun W => plus2_any S.pc 4 ok.pc.1 ok.pc.2 (by omega) (by omega) W
  have hi := fun W => immOf_any 29 s t d m m0 m1 W
  have hwb : u32 (wd m 16 true) := wd_bd m0 m1 _
  have hsg := fun W => signed_any (wd m 16 true) hwb.1 hwb.2 W
  obtain ⟨sb1, sb2⟩ := sg_bd hwb.1 hwb.2
  have e4w : IntKind.i64.wrap (4 * sg (wd m 16 true)) = 4 * sg (wd m 16 true) := by rw [IntKind.wrap_i64]; omega
  have hwd := fun W => word_any (4 * sg (wd m 16 true)) (by omega) (by omega) W
  rw [lo_sg4 hwb.1 hwb.2] at hwd
  have b4 := lo_bd (S.pc + 4)
  have b5 := lo_bd (4 * wd m 16 true)
  have hnr := fun W => plus2_any (lo (S.pc + 4)) (lo (4 * wd m 16 true)) b4.1 b4.2 b5.1 b5.2 W
  have bn := lo_bd (lo (S.pc + 4) + lo (4 * wd m 16 true))
  obtain ⟨n0, n1⟩ := bn
  obtain ⟨p40, p41⟩ := b4
  have fa0 : 0 ≤ lo (S.pc + 4) / 268435456 := by omega
  have fa1 : lo (S.pc + 4) / 268435456 < 16 := by omega
  clear b5 hwb
  generalize lo (lo (S.pc + 4) + lo (4 * wd m 16 true)) = nr at *
  generalize lo (4 * wd m 16 true) = w5 at *
  generalize sg (wd m 16 true) = gi at *
  generalize wd m 16 true = wi at *
  generalize lo (S.pc + 4) = p4 at *
  have qd : p4.tdiv 268435456 = p4 / 268435456 := Int.tdiv_eq_ediv_of_nonneg p40
  generalize p4 / 268435456 = fq at *
  have wn : IntKind.i64.wrap nr = nr := by rw [IntKind.wrap_i64]; omega
  have wp : IntKind.i64.wrap p4 = p4 := by rw [IntKind.wrap_i64]; omega
  have wm : IntKind.i64.wrap m = m := by rw [IntKind.wrap_i64]; omega
  have w1 : IntKind.i64.wrap fq = fq := by rw [IntKind.wrap_i64]; omega
  have w2 : IntKind.i64.wrap (fq * 268435456) = fq * 268435456 := by rw [IntKind.wrap_i64]; omega
  have w3 : IntKind.i64.wrap (4 * m) = 4 * m := by rw [IntKind.wrap_i64]; omega
  have w4 : IntKind.i64.wrap (fq * 268435456 + 4 * m) = fq * 268435456 + 4 * m := by rw [IntKind.wrap_i64]; omega
  have D0 : Hid (Dq (w.alloc (.cells #[.int .i64 29, .int .i64 s, .int .i64 t, .int .i64 d, .int .u32 m] 113)) w.heap.size sb S 29 s t d m) := Dq.start A ok 29 hs ht hd m0 m1
  have K0 : Kept w (w.alloc (.cells #[.int .i64 29, .int .i64 s, .int .i64 t, .int .i64 d, .int .u32 m] 113)) (· = sb) := Kept.of_below _ ((Below.refl _ _).alloc (Nat.le_refl _) _)
  clear A
  go_enter Tryz.func191, Tryz.ntmps191
  go_upto_region 1 with fail
  generalize w.alloc (.cells #[.int .i64 29, .int .i64 s, .int .i64 t, .int .i64 d, .int .u32 m] 113) = W at *
  generalize w.heap.size = ib at *
  have i0 := D0.out.i0
  have i1 := D0.out.i1
  have i2 := D0.out.i2
  have i3 := D0.out.i3
  have i4 := D0.out.i4
  have qs := D0.out.a.reg D0.out.hs
  have fs := D0.out.a.fz s
  have hs' : (s : Int) < 32 := by have := D0.out.hs; omega
  have qt := D0.out.a.reg D0.out.ht
  have ft := D0.out.a.fz t
  have ht' : (t : Int) < 32 := by have := D0.out.ht; omega
  obtain ⟨-, -, -, -, q36, -⟩ := D0.out.a.told
  rw [hsl] at q36
  go_upto_region 3 with fail
  clear i0 i3 i4 q36
  refine wp_region_phase 8 [(0, 0), (1, 0), (2, 1), (3, 0), (4, 0), (5, 0), (6, 1), (7, 0)] (fun W => Dq W ib sb S 29 s t d m) (by kernel_rfl) (by kernel_rfl) (fun _ _ _ d _ h => by cases d <;> first | exact h | exact Dq.drew h) D0.out.drew ?_
  repeat (first | (refine wpPlanZ_free (by rfl) (by rfl) (fun W => by (go_simp; try with_reducible rfl)) (fun K hK => ?_); go_simp; refine hK _ ?_; clear hK K) | (refine wpPlanZ_quiet (by rfl) (by rfl) (fun W hW => by (have i1 := hW.i1; have qs := hW.a.reg hW.hs; go_simp; try with_reducible rfl)) (fun K hK => ?_); go_simp; refine hK _ ?_; clear hK K))
  refine wpPlanZ_nil ?_
  have D1 : Hid (Dq W.drew ib sb S 29 s t d m) := D0.out.drew
  have K1 : Kept w W.drew (· = sb) := K0.trans (Kept.drew _ _) (fun _ _ h => h)
  clear qt ft qs fs i1 i2
  generalize W.drew = W1 at *
  clear D0 K0
  have i2 := D1.out.i2
  have qt := D1.out.a.reg D1.out.ht
  go_upto_region 4 with fail
  refine wp_region_phase 8 [(0, 0), (1, 0), (2, 1), (3, 0), (4, 0), (5, 0), (6, 1), (7, 0)] (fun W => Dq W ib sb S 29 s t d m) (by kernel_rfl) (by kernel_rfl) (fun _ _ _ d _ h => by cases d <;> first | exact h | exact Dq.drew h) D1.out.drew ?_
  repeat (first | (refine wpPlanZ_free (by rfl) (by rfl) (fun W => by (go_simp; try with_reducible rfl)) (fun K hK => ?_); go_simp; refine hK _ ?_; clear hK K) | (refine wpPlanZ_quiet (by rfl) (by rfl) (fun W hW => by (have i2 := hW.i2; have qt := hW.a.reg hW.ht; go_simp; try with_reducible rfl)) (fun K hK => ?_); go_simp; refine hK _ ?_; clear hK K))
  refine wpPlanZ_nil ?_
  have D0 : Hid (Dq W1.drew ib sb S 29 s t d m) := D1.out.drew
  have K0 : Kept w W1.drew (· = sb) := K1.trans (Kept.drew _ _) (fun _ _ h => h)
  clear qt i2
  generalize W1.drew = W at *
  clear D1 K1 W1
  go_upto_region 5 with fail
  refine wp_region_phase 13 [(0, 0), (1, 0), (2, 0), (3, 1), (5, 1), (4, 2), (6, 2), (7, 2), (8, 0), (9, 2), (10, 2), (11, 0), (12, 0)] (fun W => Dq W ib sb S 29 s t d m) (by kernel_rfl) (by kernel_rfl) (fun _ _ _ d _ h => by cases d <;> first | exact h | exact Dq.drew h) D0.out.drew ?_
  repeat (first | (refine wpPlanZ_free (by rfl) (by rfl) (fun W => by (go_simp; try with_reducible rfl)) (fun K hK => ?_); go_simp; refine hK _ ?_; clear hK K) | (refine wpPlanZ_quiet (by rfl) (by rfl) (fun W hW => by (have i0 := hW.i0; have i1 := hW.i1; have i2 := hW.i2; have i3 := hW.i3; have i4 := hW.i4; have q34 := hW.a.told.2.2.1; go_simp; try with_reducible rfl)) (fun K hK => ?_); go_simp; refine hK _ ?_; clear hK K))
  refine wpPlanZ_serial (by rfl) (by rfl) (fun K hK => ?_)
  go_simp
  refine (hp4 _).mono ?_
  rintro e_ w_ ⟨rfl, rfl⟩
  refine hK _ _ (fun _ => D0.out.drew) ?_
  clear hK K
  repeat (first | (refine wpPlanZ_free (by rfl) (by rfl) (fun W => by (go_simp; try with_reducible rfl)) (fun K hK => ?_); go_simp; refine hK _ ?_; clear hK K) | (refine wpPlanZ_quiet (by rfl) (by rfl) (fun W hW => by (have i0 := hW.i0; have i1 := hW.i1; have i2 := hW.i2; have i3 := hW.i3; have i4 := hW.i4; have q34 := hW.a.told.2.2.1; go_simp; try with_reducible rfl)) (fun K hK => ?_); go_simp; refine hK _ ?_; clear hK K))
  refine wpPlanZ_serial (by rfl) (by rfl) (fun K hK => ?_)
  go_simp
  refine (hi _).mono ?_
  rintro e_ w_ ⟨rfl, hbx⟩
  refine hK _ _ (fun _ => D0.out.drew.stays hbx) ?_
  clear hK K
  repeat (first | (refine wpPlanZ_free (by rfl) (by rfl) (fun W => by (go_simp; try with_reducible rfl)) (fun K hK => ?_); go_simp; refine hK _ ?_; clear hK K) | (refine wpPlanZ_quiet (by rfl) (by rfl) (fun W hW => by (have i0 := hW.i0; have i1 := hW.i1; have i2 := hW.i2; have i3 := hW.i3; have i4 := hW.i4; have q34 := hW.a.told.2.2.1; go_simp; try with_reducible rfl)) (fun K hK => ?_); go_simp; refine hK _ ?_; clear hK K))
  refine wpPlanZ_serial (by rfl) (by rfl) (fun K hK => ?_)
  go_simp
  refine (hsg _).mono ?_
  rintro e_ w_ ⟨rfl, rfl⟩
  refine hK _ _ (fun _ => D0.out.drew.stays hbx) ?_
  clear hK K
  repeat (first | (refine wpPlanZ_free (by rfl) (by rfl) (fun W => by (go_simp; try with_reducible rfl)) (fun K hK => ?_); go_simp; refine hK _ ?_; clear hK K) | (refine wpPlanZ_quiet (by rfl) (by rfl) (fun W hW => by (have i0 := hW.i0; have i1 := hW.i1; have i2 := hW.i2; have i3 := hW.i3; have i4 := hW.i4; have q34 := hW.a.told.2.2.1; go_simp; try with_reducible rfl)) (fun K hK => ?_); go_simp; refine hK _ ?_; clear hK K))
  refine wpPlanZ_serial (by rfl) (by rfl) (fun K hK => ?_)
  go_simp
  refine (hwd _).mono ?_
  rintro e_ w_ ⟨rfl, rfl⟩
  refine hK _ _ (fun _ => D0.out.drew.stays hbx) ?_
  clear hK K
  repeat (first | (refine wpPlanZ_free (by rfl) (by rfl) (fun W => by (go_simp; try with_reducible rfl)) (fun K hK => ?_); go_simp; refine hK _ ?_; clear hK K) | (refine wpPlanZ_quiet (by rfl) (by rfl) (fun W hW => by (have i0 := hW.i0; have i1 := hW.i1; have i2 := hW.i2; have i3 := hW.i3; have i4 := hW.i4; have q34 := hW.a.told.2.2.1; go_simp; try with_reducible rfl)) (fun K hK => ?_); go_simp; refine hK _ ?_; clear hK K))
  refine wpPlanZ_serial (by rfl) (by rfl) (fun K hK => ?_)
  go_simp
  refine (hnr _).mono ?_
  rintro e_ w_ ⟨rfl, rfl⟩
  refine hK _ _ (fun _ => D0.out.drew.stays hbx) ?_
  clear hK K
  repeat (first | (refine wpPlanZ_free (by rfl) (by rfl) (fun W => by (go_simp; try with_reducible rfl)) (fun K hK => ?_); go_simp; refine hK _ ?_; clear hK K) | (refine wpPlanZ_quiet (by rfl) (by rfl) (fun W hW => by (have i0 := hW.i0; have i1 := hW.i1; have i2 := hW.i2; have i3 := hW.i3; have i4 := hW.i4; have q34 := hW.a.told.2.2.1; go_simp; try with_reducible rfl)) (fun K hK => ?_); go_simp; refine hK _ ?_; clear hK K))
  refine wpPlanZ_nil ?_
  have D1 : Hid (Dq w_ ib sb S 29 s t d m) := D0.out.drew.stays hbx
  have K1 : Kept w w_ (· = sb) := (K0.trans (Kept.drew _ _) (fun _ _ h => h)).trans (Kept.of_below _ hbx) (fun _ _ h => h)
  clear hbx
  generalize w_ = W1 at *
  clear D0 K0
  go_upto_region 6 with fail
  refine wp_region_phase 14 [(0, 0), (1, 0), (2, 0), (3, 1), (8, 0), (9, 1), (10, 0), (11, 0), (4, 2), (5, 0), (6, 0), (7, 0), (12, 0), (13, 0)] (fun W => Dq W ib sb S 29 s t d m) (by kernel_rfl) (by kernel_rfl) (fun _ _ _ d _ h => by cases d <;> first | exact h | exact Dq.drew h) D1.out.drew ?_
  repeat (first | (refine wpPlanZ_free (by rfl) (by rfl) (fun W => by (go_simp; try with_reducible rfl)) (fun K hK => ?_); go_simp; refine hK _ ?_; clear hK K) | (refine wpPlanZ_quiet (by rfl) (by rfl) (fun W hW => by (have i4 := hW.i4; have q34 := hW.a.told.2.2.1; go_simp; try with_reducible rfl)) (fun K hK => ?_); go_simp; refine hK _ ?_; clear hK K))
  refine wpPlanZ_serial (by rfl) (by rfl) (fun K hK => ?_)
  go_simp
  refine (hp4 _).mono ?_
  rintro e_ w_ ⟨rfl, rfl⟩
  refine hK _ _ (fun _ => D1.out.drew) ?_
  clear hK K
  repeat (first | (refine wpPlanZ_free (by rfl) (by rfl) (fun W => by (go_simp; try with_reducible rfl)) (fun K hK => ?_); go_simp; refine hK _ ?_; clear hK K) | (refine wpPlanZ_quiet (by rfl) (by rfl) (fun W hW => by (have i4 := hW.i4; have q34 := hW.a.told.2.2.1; go_simp; try with_reducible rfl)) (fun K hK => ?_); go_simp; refine hK _ ?_; clear hK K))
  refine wpPlanZ_nil ?_
  have D0 : Hid (Dq W1.drew ib sb S 29 s t d m) := D1.out.drew
  have K0 : Kept w W1.drew (· = sb) := K1.trans (Kept.drew _ _) (fun _ _ h => h)
  generalize W1.drew = W at *
  clear D1 K1 W1
  have i0 := D0.out.i0
  have A1 := D0.out.a
  go_wp2
  go_ret2
  exact ⟨rfl, A1, K0⟩
set_option maxRecDepth 100000 in
set_option maxHeartbeats 8000000 in
theorem br_30 (A : StAt w sb S) (ok : S.ok) (hs : s < 32) (ht : t < 32) (hd : d < 32) (m0 : 0 ≤ m) (m1 : m < 4294967296) (hk : k = 30) (hsl : S.sl = false) (hm : m < 67108864) : Calls Tryz.prog 191 #[.pointer (some ⟨sb, 0, none⟩), .agg #[.int .i64 k, .int .i64 s, .int .i64 t, .int .i64 d, .int .u32 m]] w fun e w' => e = .returned (.tuple #[.int .i64 (branchD S k s t d m).1, .int .i64 (branchD S k s t d m).2.1]) ∧ StAt w' sb (branchD S k s t d m).2.2 ∧ Kept w w' (· = sb) := by
  subst hk
  have X : branchD S 30 s t d m = (lo (S.pc + 4) / 268435456 * 268435456 + 4 * m, -1, S.putR 31 (lo (S.pc + 8))) := by unfold branchD; rw [if_neg (by rw [hsl]; decide), ← far_eq (lo_bd _).1 (lo_bd _).2 m0 hm]; rfl
  rw [X]
  clear X
  have hp4 := fun W => plus2_any S.pc 4 ok.pc.1 ok.pc.2 (by omega) (by omega) W
  have hi := fun W => immOf_any 30 s t d m m0 m1 W
  have hwb : u32 (wd m 16 true) := wd_bd m0 m1 _
  have hsg := fun W => signed_any (wd m 16 true) hwb.1 hwb.2 W
  obtain ⟨sb1, sb2⟩ := sg_bd hwb.1 hwb.2
  have e4w : IntKind.i64.wrap (4 * sg (wd m 16 true)) = 4 * sg (wd m 16 true) := by rw [IntKind.wrap_i64]; omega
  have hwd := fun W => word_any (4 * sg (wd m 16 true)) (by omega) (by omega) W
  rw [lo_sg4 hwb.1 hwb.2] at hwd
  have b4 := lo_bd (S.pc + 4)
  have b5 := lo_bd (4 * wd m 16 true)
  have hnr := fun W => plus2_any (lo (S.pc + 4)) (lo (4 * wd m 16 true)) b4.1 b4.2 b5.1 b5.2 W
  have bn := lo_bd (lo (S.pc + 4) + lo (4 * wd m 16 true))
  have hl := fun W => plus2_any S.pc 8 ok.pc.1 ok.pc.2 (by omega) (by omega) W
  generalize lo (S.pc + 8) = lk at *
  obtain ⟨n0, n1⟩ := bn
  obtain ⟨p40, p41⟩ := b4
  have fa0 : 0 ≤ lo (S.pc + 4) / 268435456 := by omega
  have fa1 : lo (S.pc + 4) / 268435456 < 16 := by omega
  clear b5 hwb
  generalize lo (lo (S.pc + 4) + lo (4 * wd m 16 true)) = nr at *
  generalize lo (4 * wd m 16 true) = w5 at *
  generalize sg (wd m 16 true) = gi at *
  generalize wd m 16 true = wi at *
  generalize lo (S.pc + 4) = p4 at *
  have qd : p4.tdiv 268435456 = p4 / 268435456 := Int.tdiv_eq_ediv_of_nonneg p40
  generalize p4 / 268435456 = fq at *
  have wn : IntKind.i64.wrap nr = nr := by rw [IntKind.wrap_i64]; omega
  have wp : IntKind.i64.wrap p4 = p4 := by rw [IntKind.wrap_i64]; omega
  have wm : IntKind.i64.wrap m = m := by rw [IntKind.wrap_i64]; omega
  have w1 : IntKind.i64.wrap fq = fq := by rw [IntKind.wrap_i64]; omega
  have w2 : IntKind.i64.wrap (fq * 268435456) = fq * 268435456 := by rw [IntKind.wrap_i64]; omega
  have w3 : IntKind.i64.wrap (4 * m) = 4 * m := by rw [IntKind.wrap_i64]; omega
  have w4 : IntKind.i64.wrap (fq * 268435456 + 4 * m) = fq * 268435456 + 4 * m := by rw [IntKind.wrap_i64]; omega
  have D0 : Hid (Dq (w.alloc (.cells #[.int .i64 30, .int .i64 s, .int .i64 t, .int .i64 d, .int .u32 m] 113)) w.heap.size sb S 30 s t d m) := Dq.start A ok 30 hs ht hd m0 m1
  have K0 : Kept w (w.alloc (.cells #[.int .i64 30, .int .i64 s, .int .i64 t, .int .i64 d, .int .u32 m] 113)) (· = sb) := Kept.of_below _ ((Below.refl _ _).alloc (Nat.le_refl _) _)
  clear A
  go_enter Tryz.func191, Tryz.ntmps191
  go_upto_region 1 with fail
  generalize w.alloc (.cells #[.int .i64 30, .int .i64 s, .int .i64 t, .int .i64 d, .int .u32 m] 113) = W at *
  generalize w.heap.size = ib at *
  have i0 := D0.out.i0
  have i1 := D0.out.i1
  have i2 := D0.out.i2
  have i3 := D0.out.i3
  have i4 := D0.out.i4
  have qs := D0.out.a.reg D0.out.hs
  have fs := D0.out.a.fz s
  have hs' : (s : Int) < 32 := by have := D0.out.hs; omega
  have qt := D0.out.a.reg D0.out.ht
  have ft := D0.out.a.fz t
  have ht' : (t : Int) < 32 := by have := D0.out.ht; omega
  obtain ⟨-, -, -, -, q36, -⟩ := D0.out.a.told
  rw [hsl] at q36
  go_upto_region 3 with fail
  clear i0 i3 i4 q36
  refine wp_region_phase 8 [(0, 0), (1, 0), (2, 1), (3, 0), (4, 0), (5, 0), (6, 1), (7, 0)] (fun W => Dq W ib sb S 30 s t d m) (by kernel_rfl) (by kernel_rfl) (fun _ _ _ d _ h => by cases d <;> first | exact h | exact Dq.drew h) D0.out.drew ?_
  repeat (first | (refine wpPlanZ_free (by rfl) (by rfl) (fun W => by (go_simp; try with_reducible rfl)) (fun K hK => ?_); go_simp; refine hK _ ?_; clear hK K) | (refine wpPlanZ_quiet (by rfl) (by rfl) (fun W hW => by (have i1 := hW.i1; have qs := hW.a.reg hW.hs; go_simp; try with_reducible rfl)) (fun K hK => ?_); go_simp; refine hK _ ?_; clear hK K))
  refine wpPlanZ_nil ?_
  have D1 : Hid (Dq W.drew ib sb S 30 s t d m) := D0.out.drew
  have K1 : Kept w W.drew (· = sb) := K0.trans (Kept.drew _ _) (fun _ _ h => h)
  clear qt ft qs fs i1 i2
  generalize W.drew = W1 at *
  clear D0 K0
  have i2 := D1.out.i2
  have qt := D1.out.a.reg D1.out.ht
  go_upto_region 4 with fail
  refine wp_region_phase 8 [(0, 0), (1, 0), (2, 1), (3, 0), (4, 0), (5, 0), (6, 1), (7, 0)] (fun W => Dq W ib sb S 30 s t d m) (by kernel_rfl) (by kernel_rfl) (fun _ _ _ d _ h => by cases d <;> first | exact h | exact Dq.drew h) D1.out.drew ?_
  repeat (first | (refine wpPlanZ_free (by rfl) (by rfl) (fun W => by (go_simp; try with_reducible rfl)) (fun K hK => ?_); go_simp; refine hK _ ?_; clear hK K) | (refine wpPlanZ_quiet (by rfl) (by rfl) (fun W hW => by (have i2 := hW.i2; have qt := hW.a.reg hW.ht; go_simp; try with_reducible rfl)) (fun K hK => ?_); go_simp; refine hK _ ?_; clear hK K))
  refine wpPlanZ_nil ?_
  have D0 : Hid (Dq W1.drew ib sb S 30 s t d m) := D1.out.drew
  have K0 : Kept w W1.drew (· = sb) := K1.trans (Kept.drew _ _) (fun _ _ h => h)
  clear qt i2
  generalize W1.drew = W at *
  clear D1 K1 W1
  go_upto_region 5 with fail
  refine wp_region_phase 13 [(0, 0), (1, 0), (2, 0), (3, 1), (5, 1), (4, 2), (6, 2), (7, 2), (8, 0), (9, 2), (10, 2), (11, 0), (12, 0)] (fun W => Dq W ib sb S 30 s t d m) (by kernel_rfl) (by kernel_rfl) (fun _ _ _ d _ h => by cases d <;> first | exact h | exact Dq.drew h) D0.out.drew ?_
  repeat (first | (refine wpPlanZ_free (by rfl) (by rfl) (fun W => by (go_simp; try with_reducible rfl)) (fun K hK => ?_); go_simp; refine hK _ ?_; clear hK K) | (refine wpPlanZ_quiet (by rfl) (by rfl) (fun W hW => by (have i0 := hW.i0; have i1 := hW.i1; have i2 := hW.i2; have i3 := hW.i3; have i4 := hW.i4; have q34 := hW.a.told.2.2.1; go_simp; try with_reducible rfl)) (fun K hK => ?_); go_simp; refine hK _ ?_; clear hK K))
  refine wpPlanZ_serial (by rfl) (by rfl) (fun K hK => ?_)
  go_simp
  refine (hp4 _).mono ?_
  rintro e_ w_ ⟨rfl, rfl⟩
  refine hK _ _ (fun _ => D0.out.drew) ?_
  clear hK K
  repeat (first | (refine wpPlanZ_free (by rfl) (by rfl) (fun W => by (go_simp; try with_reducible rfl)) (fun K hK => ?_); go_simp; refine hK _ ?_; clear hK K) | (refine wpPlanZ_quiet (by rfl) (by rfl) (fun W hW => by (have i0 := hW.i0; have i1 := hW.i1; have i2 := hW.i2; have i3 := hW.i3; have i4 := hW.i4; have q34 := hW.a.told.2.2.1; go_simp; try with_reducible rfl)) (fun K hK => ?_); go_simp; refine hK _ ?_; clear hK K))
  refine wpPlanZ_serial (by rfl) (by rfl) (fun K hK => ?_)
  go_simp
  refine (hi _).mono ?_
  rintro e_ w_ ⟨rfl, hbx⟩
  refine hK _ _ (fun _ => D0.out.drew.stays hbx) ?_
  clear hK K
  repeat (first | (refine wpPlanZ_free (by rfl) (by rfl) (fun W => by (go_simp; try with_reducible rfl)) (fun K hK => ?_); go_simp; refine hK _ ?_; clear hK K) | (refine wpPlanZ_quiet (by rfl) (by rfl) (fun W hW => by (have i0 := hW.i0; have i1 := hW.i1; have i2 := hW.i2; have i3 := hW.i3; have i4 := hW.i4; have q34 := hW.a.told.2.2.1; go_simp; try with_reducible rfl)) (fun K hK => ?_); go_simp; refine hK _ ?_; clear hK K))
  refine wpPlanZ_serial (by rfl) (by rfl) (fun K hK => ?_)
  go_simp
  refine (hsg _).mono ?_
  rintro e_ w_ ⟨rfl, rfl⟩
  refine hK _ _ (fun _ => D0.out.drew.stays hbx) ?_
  clear hK K
  repeat (first | (refine wpPlanZ_free (by rfl) (by rfl) (fun W => by (go_simp; try with_reducible rfl)) (fun K hK => ?_); go_simp; refine hK _ ?_; clear hK K) | (refine wpPlanZ_quiet (by rfl) (by rfl) (fun W hW => by (have i0 := hW.i0; have i1 := hW.i1; have i2 := hW.i2; have i3 := hW.i3; have i4 := hW.i4; have q34 := hW.a.told.2.2.1; go_simp; try with_reducible rfl)) (fun K hK => ?_); go_simp; refine hK _ ?_; clear hK K))
  refine wpPlanZ_serial (by rfl) (by rfl) (fun K hK => ?_)
  go_simp
  refine (hwd _).mono ?_
  rintro e_ w_ ⟨rfl, rfl⟩
  refine hK _ _ (fun _ => D0.out.drew.stays hbx) ?_
  clear hK K
  repeat (first | (refine wpPlanZ_free (by rfl) (by rfl) (fun W => by (go_simp; try with_reducible rfl)) (fun K hK => ?_); go_simp; refine hK _ ?_; clear hK K) | (refine wpPlanZ_quiet (by rfl) (by rfl) (fun W hW => by (have i0 := hW.i0; have i1 := hW.i1; have i2 := hW.i2; have i3 := hW.i3; have i4 := hW.i4; have q34 := hW.a.told.2.2.1; go_simp; try with_reducible rfl)) (fun K hK => ?_); go_simp; refine hK _ ?_; clear hK K))
  refine wpPlanZ_serial (by rfl) (by rfl) (fun K hK => ?_)
  go_simp
  refine (hnr _).mono ?_
  rintro e_ w_ ⟨rfl, rfl⟩
  refine hK _ _ (fun _ => D0.out.drew.stays hbx) ?_
  clear hK K
  repeat (first | (refine wpPlanZ_free (by rfl) (by rfl) (fun W => by (go_simp; try with_reducible rfl)) (fun K hK => ?_); go_simp; refine hK _ ?_; clear hK K) | (refine wpPlanZ_quiet (by rfl) (by rfl) (fun W hW => by (have i0 := hW.i0; have i1 := hW.i1; have i2 := hW.i2; have i3 := hW.i3; have i4 := hW.i4; have q34 := hW.a.told.2.2.1; go_simp; try with_reducible rfl)) (fun K hK => ?_); go_simp; refine hK _ ?_; clear hK K))
  refine wpPlanZ_nil ?_
  have D1 : Hid (Dq w_ ib sb S 30 s t d m) := D0.out.drew.stays hbx
  have K1 : Kept w w_ (· = sb) := (K0.trans (Kept.drew _ _) (fun _ _ h => h)).trans (Kept.of_below _ hbx) (fun _ _ h => h)
  clear hbx
  generalize w_ = W1 at *
  clear D0 K0
  go_upto_region 6 with fail
  refine wp_region_phase 14 [(0, 0), (1, 0), (2, 0), (3, 1), (8, 0), (9, 1), (10, 0), (11, 0), (4, 2), (5, 0), (6, 0), (7, 0), (12, 0), (13, 0)] (fun W => Dq W ib sb S 30 s t d m) (by kernel_rfl) (by kernel_rfl) (fun _ _ _ d _ h => by cases d <;> first | exact h | exact Dq.drew h) D1.out.drew ?_
  repeat (first | (refine wpPlanZ_free (by rfl) (by rfl) (fun W => by (go_simp; try with_reducible rfl)) (fun K hK => ?_); go_simp; refine hK _ ?_; clear hK K) | (refine wpPlanZ_quiet (by rfl) (by rfl) (fun W hW => by (have i4 := hW.i4; have q34 := hW.a.told.2.2.1; go_simp; try with_reducible rfl)) (fun K hK => ?_); go_simp; refine hK _ ?_; clear hK K))
  refine wpPlanZ_serial (by rfl) (by rfl) (fun K hK => ?_)
  go_simp
  refine (hp4 _).mono ?_
  rintro e_ w_ ⟨rfl, rfl⟩
  refine hK _ _ (fun _ => D1.out.drew) ?_
  clear hK K
  repeat (first | (refine wpPlanZ_free (by rfl) (by rfl) (fun W => by (go_simp; try with_reducible rfl)) (fun K hK => ?_); go_simp; refine hK _ ?_; clear hK K) | (refine wpPlanZ_quiet (by rfl) (by rfl) (fun W hW => by (have i4 := hW.i4; have q34 := hW.a.told.2.2.1; go_simp; try with_reducible rfl)) (fun K hK => ?_); go_simp; refine hK _ ?_; clear hK K))
  refine wpPlanZ_nil ?_
  have D0 : Hid (Dq W1.drew ib sb S 30 s t d m) := D1.out.drew
  have K0 : Kept w W1.drew (· = sb) := K1.trans (Kept.drew _ _) (fun _ _ h => h)
  generalize W1.drew = W at *
  clear D1 K1 W1
  have i0 := D0.out.i0
  have q31 := D0.out.a.reg (i := 31) (by omega)
  have f31 := D0.out.a.fz 31
  go_upto_region 25 with fail
  clear i0
  refine wp_region_phase 9 [(0, 0), (1, 0), (2, 0), (3, 0), (4, 1), (6, 0), (7, 0), (5, 2), (8, 0), (9, 2)] (fun W => Dq W ib sb S 30 s t d m) (by kernel_rfl) (by kernel_rfl) (fun _ _ _ d _ h => by cases d <;> first | exact h | exact Dq.drew h) D0.out.drew ?_
  repeat (first | (refine wpPlanZ_free (by rfl) (by rfl) (fun W => by (go_simp; try with_reducible rfl)) (fun K hK => ?_); go_simp; refine hK _ ?_; clear hK K) | (refine wpPlanZ_quiet (by rfl) (by rfl) (fun W hW => by (have q34 := hW.a.told.2.2.1; go_simp; try with_reducible rfl)) (fun K hK => ?_); go_simp; refine hK _ ?_; clear hK K))
  refine wpPlanZ_serial (by rfl) (by rfl) (fun K hK => ?_)
  go_simp
  refine (hl _).mono ?_
  rintro e_ w_ ⟨rfl, rfl⟩
  refine hK _ _ (fun _ => D0.out.drew) ?_
  clear hK K
  repeat (first | (refine wpPlanZ_free (by rfl) (by rfl) (fun W => by (go_simp; try with_reducible rfl)) (fun K hK => ?_); go_simp; refine hK _ ?_; clear hK K) | (refine wpPlanZ_quiet (by rfl) (by rfl) (fun W hW => by (have q34 := hW.a.told.2.2.1; go_simp; try with_reducible rfl)) (fun K hK => ?_); go_simp; refine hK _ ?_; clear hK K))
  refine wpPlanZ_serial (by rfl) (by rfl) (fun K hK => ?_)
  go_simp
  refine hK _ _ (fun h => absurd h (by decide)) ?_
  clear hK K
  refine wpPlanZ_nil ?_
  refine ck (R := fun W' => StAt W' sb (S.putR 31 lk) ∧ Kept W W' (· = sb)) ?_ (fun w1 ⟨A1, T1⟩ => ?_)
  · exact ⟨(D0.out.a.putR 31 (by omega) _).drew, (Kept.put (Kept.refl W _) _ _).trans (Kept.drew _ _) (fun _ _ h => h)⟩
  have i0 : w1.cell? ⟨ib, 0, none⟩ = _ := (World.cell?_of_block (a := ⟨ib, 0, none⟩) (T1.block _ D0.out.lt D0.out.ne)).trans D0.out.i0
  clear q31 f31
  go_wp2
  go_ret2
  exact ⟨rfl, A1, K0.trans T1 (fun _ _ h => h)⟩
end
end Go.Proofs.YtflagpkmebdckaaGreatDoor
/-
  Branches, as the document has them.
-/
namespace Go.Proofs.YtflagpkmebdckaaGreatDoor
open Go.RowKit Go.Maps
open Num
set_option linter.unusedVariables false
section
variable {w : World} {sb : Nat} {S : St} {k s t d : Nat} {m : Int}
set_option maxHeartbeats 1000000 in
theorem branchD_any (A : StAt w sb S) (ok : S.ok) (hs : s < 32) (ht : t < 32) (hd : d < 32) (m0 : 0 ≤ m) (m1 : m < 4294967296) (hk : k = 31 ∨ k = 32 ∨ k = 33 ∨ k = 34 ∨ k = 29 ∨ k = 30 ∨ k = 7 ∨ k = 8) (hm : k = 29 ∨ k = 30 → m < 67108864) : Calls Tryz.prog 191 #[.pointer (some ⟨sb, 0, none⟩), .agg #[.int .i64 k, .int .i64 s, .int .i64 t, .int .i64 d, .int .u32 m]] w fun e w' => e = .returned (.tuple #[.int .i64 (branchD S k s t d m).1, .int .i64 (branchD S k s t d m).2.1]) ∧ StAt w' sb (branchD S k s t d m).2.2 ∧ Kept w w' (· = sb) := by
  cases hsl : S.sl with
  | true => exact br_slot A ok hs ht hd m0 m1 hsl
  | false =>
    rcases hk with h | h | h | h | h | h | h | h
    · by_cases hc : S.r s = S.r t
      · exact br_31t A ok hs ht hd m0 m1 h hsl hc
      · exact br_31n A ok hs ht hd m0 m1 h hsl hc
    · by_cases hc : S.r s = S.r t
      · exact br_32n A ok hs ht hd m0 m1 h hsl hc
      · exact br_32t A ok hs ht hd m0 m1 h hsl hc
    · by_cases hc : 0 < sg (S.r s)
      · exact br_33n A ok hs ht hd m0 m1 h hsl hc
      · exact br_33t A ok hs ht hd m0 m1 h hsl hc
    · by_cases hc : 0 < sg (S.r s)
      · exact br_34t A ok hs ht hd m0 m1 h hsl hc
      · exact br_34n A ok hs ht hd m0 m1 h hsl hc
    · exact br_29 A ok hs ht hd m0 m1 h hsl (hm (Or.inl h))
    · exact br_30 A ok hs ht hd m0 m1 h hsl (hm (Or.inr h))
    · exact br_7 A ok hs ht hd m0 m1 h hsl
    · exact br_8 A ok hs ht hd m0 m1 h hsl
end
end Go.Proofs.YtflagpkmebdckaaGreatDoor
/-
  Exceptions, as the document has them; is an interrupt due?
-/
namespace Go.Proofs.YtflagpkmebdckaaGreatDoor
open Go.RowKit Go.Maps
open Num
set_option linter.unusedVariables false
section
variable {w : World} {sb : Nat} {S : St} {k s t d : Nat} {m : Int}
set_option maxRecDepth 100000 in
set_option maxHeartbeats 8000000 in
theorem enter_in (A : StAt w sb S) (ok : S.ok) (e : Int) (e0 : 0 ≤ e) (e1 : e < 32) (hst : ¬ bits .and .u32 S.st 2 = 0) : Calls Tryz.prog 52 #[.pointer (some ⟨sb, 0, none⟩), .int .i64 e] w fun e' w' => e' = .returned (.tuple #[]) ∧ StAt w' sb (excP S e) ∧ Kept w w' (· = sb) := by
  have hbo := fun W => bitOf_any S.st 1 ok.st.1 ok.st.2 (by omega) (by omega) W
  simp only [pw1] at hbo
  have hwb := fun W => withBit_any S.st 1 2 true ok.st.1 ok.st.2 (by omega) (by omega) pw1 (by omega) (by omega) W
  simp only [if_true] at hwb
  have est : lo (S.st - S.st / 2 % 2 * 2 + 2) = bits .or .u32 S.st 2 := by
    have := ok.st.1; have := ok.st.2
    rw [or2_eq ok.st.1 ok.st.2]; unfold Num.lo; omega
  rw [est] at hwb
  clear est
  have X : excP S e = { S with ca := lo (S.ca - S.ca / 4 % 32 * 4 + e * 4), st := bits .or .u32 S.st 2, pc := 384, nx := 388, sl := false } := by
    have h1 : exc1 S = S := by unfold exc1; rw [if_neg hst]
    have h2 : bits .or .u32 (bits .andNot .u32 S.ca 124) (sh4 e) = lo (S.ca - S.ca / 4 % 32 * 4 + e * 4) := by
      have := ok.ca.1; have := ok.ca.2
      rw [cause_eq ok.ca.1 ok.ca.2 e0 e1]; unfold Num.lo; omega
    unfold excP St.jump; rw [h1, h2]; rfl
  rw [X]
  clear X
  generalize bits .or .u32 S.st 2 = os at *
  have hb : (S.st / 2 % 2 == 1) = true := by rw [and2_eq ok.st.1 ok.st.2] at hst; simp; omega
  have hp := fun W => part_any S.ca 2 5 ok.ca.1 ok.ca.2 (by omega) (by omega) (by omega) (by omega) W
  simp only [pw2, pw5] at hp
  have hw := fun W => word_any (S.ca - S.ca / 4 % 32 * 4 + e * 4) (by have := ok.ca.1; omega) (by have := ok.ca.2; omega) W
  have y0 : 0 ≤ S.ca / 4 % 32 := by omega
  have y1 : S.ca / 4 % 32 < 32 := by omega
  obtain ⟨ca0, ca1⟩ := ok.ca
  generalize lo (S.ca - S.ca / 4 % 32 * 4 + e * 4) = ca' at *
  generalize S.ca / 4 % 32 = y at *
  have x0 : IntKind.i64.wrap S.ca = S.ca := by rw [IntKind.wrap_i64]; omega
  have x1 : IntKind.i64.wrap (y * 4) = y * 4 := by rw [IntKind.wrap_i64]; omega
  have x2 : IntKind.i64.wrap (S.ca - y * 4) = S.ca - y * 4 := by rw [IntKind.wrap_i64]; omega
  have x3 : IntKind.i64.wrap (e * 4) = e * 4 := by rw [IntKind.wrap_i64]; omega
  have x4 : IntKind.i64.wrap (S.ca - y * 4 + e * 4) = S.ca - y * 4 + e * 4 := by rw [IntKind.wrap_i64]; omega
  clear hst
  obtain ⟨-, -, -, -, -, q37, q38, -⟩ := A.told
  have f38 := A.fz 38
  go_enter Tryz.func52, Tryz.ntmps52
  go_upto_region 2 with (go_at_call 98; refine (hbo _).mono ?_; rintro e2 w7 ⟨rfl, hw7⟩; rw [hw7]; clear hw7 w7)
  clear q37
  refine wp_region_phase 19 [(0, 0), (1, 0), (2, 0), (3, 0), (4, 1), (5, 0), (6, 0), (7, 0), (8, 0), (9, 1), (13, 0), (14, 0), (10, 2), (11, 0), (12, 0), (15, 0), (16, 2), (17, 0), (18, 0), (19, 2)] (fun W => StAt W sb S) (by kernel_rfl) (by kernel_rfl) (fun _ _ _ d _ h => by cases d <;> first | exact h | exact StAt.drew h) A.drew ?_
  repeat (first | (refine wpPlanZ_free (by rfl) (by rfl) (fun W => by (go_simp; try with_reducible rfl)) (fun K hK => ?_); go_simp; refine hK _ ?_; clear hK K) | (refine wpPlanZ_quiet (by rfl) (by rfl) (fun W hW => by (have q38 := hW.told.2.2.2.2.2.2.1; go_simp; try with_reducible rfl)) (fun K hK => ?_); go_simp; refine hK _ ?_; clear hK K))
  refine wpPlanZ_serial (by rfl) (by rfl) (fun K hK => ?_)
  go_simp
  refine (hp _).mono ?_
  rintro e_ w_ ⟨rfl, rfl⟩
  refine hK _ _ (fun _ => A.drew) ?_
  clear hK K
  repeat (first | (refine wpPlanZ_free (by rfl) (by rfl) (fun W => by (go_simp; try with_reducible rfl)) (fun K hK => ?_); go_simp; refine hK _ ?_; clear hK K) | (refine wpPlanZ_quiet (by rfl) (by rfl) (fun W hW => by (have q38 := hW.told.2.2.2.2.2.2.1; go_simp; try with_reducible rfl)) (fun K hK => ?_); go_simp; refine hK _ ?_; clear hK K))
  refine wpPlanZ_serial (by rfl) (by rfl) (fun K hK => ?_)
  go_simp
  refine (hw _).mono ?_
  rintro e_ w_ ⟨rfl, rfl⟩
  refine hK _ _ (fun _ => A.drew) ?_
  clear hK K
  repeat (first | (refine wpPlanZ_free (by rfl) (by rfl) (fun W => by (go_simp; try with_reducible rfl)) (fun K hK => ?_); go_simp; refine hK _ ?_; clear hK K) | (refine wpPlanZ_quiet (by rfl) (by rfl) (fun W hW => by (have q38 := hW.told.2.2.2.2.2.2.1; go_simp; try with_reducible rfl)) (fun K hK => ?_); go_simp; refine hK _ ?_; clear hK K))
  refine wpPlanZ_serial (by rfl) (by rfl) (fun K hK => ?_)
  go_simp
  refine hK _ _ (fun h => absurd h (by decide)) ?_
  clear hK K
  refine wpPlanZ_nil ?_
  refine ck (R := fun W => StAt W sb { S with ca := ca' } ∧ Kept w W (· = sb)) ?_ (fun w9 ⟨A9, T9⟩ => ?_)
  · exact ⟨(A.putCa _).drew, ((Kept.refl _ _).put 38 _).trans (Kept.drew _ _) (fun _ _ h => h)⟩
  clear q38 f38 A hbo hp hw
  obtain ⟨-, -, q34, q35, q36, q37, -⟩ := A9.told
  have f34 := A9.fz 34
  have f35 := A9.fz 35
  have f36 := A9.fz 36
  have f37 := A9.fz 37
  try simp only at q37
  have AZ := (((A9.putSt os).putPc 384).putNx 388).putSl false
  go_wp2_with (go_at_call 103; refine (hwb _).mono ?_; rintro e2 w7 ⟨rfl, rfl⟩)
  go_end0
  exact ⟨rfl, AZ, (((T9.put _ _).put _ _).put _ _).put _ _⟩
set_option maxRecDepth 100000 in
set_option maxHeartbeats 8000000 in
theorem enter_plain (A : StAt w sb S) (ok : S.ok) (e : Int) (e0 : 0 ≤ e) (e1 : e < 32) (hst : bits .and .u32 S.st 2 = 0) (hsl : S.sl = false) : Calls Tryz.prog 52 #[.pointer (some ⟨sb, 0, none⟩), .int .i64 e] w fun e' w' => e' = .returned (.tuple #[]) ∧ StAt w' sb (excP S e) ∧ Kept w w' (· = sb) := by
  have hbo := fun W => bitOf_any S.st 1 ok.st.1 ok.st.2 (by omega) (by omega) W
  simp only [pw1] at hbo
  have hwb := fun W => withBit_any S.st 1 2 true ok.st.1 ok.st.2 (by omega) (by omega) pw1 (by omega) (by omega) W
  simp only [if_true] at hwb
  have est : lo (S.st - S.st / 2 % 2 * 2 + 2) = bits .or .u32 S.st 2 := by
    have := ok.st.1; have := ok.st.2
    rw [or2_eq ok.st.1 ok.st.2]; unfold Num.lo; omega
  rw [est] at hwb
  clear est
  have X : excP S e = { S with ep := S.pc, ca := 4 * e, st := bits .or .u32 S.st 2, pc := 384, nx := 388, sl := false } := by
    have h1 : exc1 S = { S with ep := S.pc, ca := 0 } := by unfold exc1; rw [if_pos hst, if_neg (by simp [hsl])]
    have h2 : bits .or .u32 (bits .andNot .u32 0 124) (sh4 e) = 4 * e := by
      rw [cause_eq (by omega) (by omega) e0 e1]; omega
    unfold excP St.jump; rw [h1]; dsimp only; rw [h2]; rfl
  rw [X]
  clear X
  generalize bits .or .u32 S.st 2 = os at *
  have hb : (S.st / 2 % 2 == 1) = false := by rw [and2_eq ok.st.1 ok.st.2] at hst; simp; omega
  have hwe : IntKind.u32.wrap (e * 4) = 4 * e := by rw [wrap_lo]; unfold Num.lo; omega
  obtain ⟨-, -, q34, -, q36, q37, q38, q39, -⟩ := A.told
  have f38 := A.fz 38
  have f39 := A.fz 39
  rw [hsl] at q36
  clear hst
  have A8 := (A.putEp S.pc).putCa (4 * e)
  have T8 := ((Kept.refl w (· = sb)).put 39 (.int .u32 S.pc)).put 38 (.int .u32 (4 * e))
  go_enter Tryz.func52, Tryz.ntmps52
  go_upto_region 8 with (go_at_call 98; refine (hbo _).mono ?_; rintro e2 w7 ⟨rfl, hw7⟩; rw [hw7]; clear hw7 w7)
  clear q34 q36 q37 q38 q39 f38 f39
  generalize ((w.setCell ⟨sb, 39, none⟩ (.int .u32 S.pc)).setCell ⟨sb, 38, none⟩ (.int .u32 (4 * e))) = w9 at *
  have A9 := A8
  have T9 := T8
  clear A8 T8 A hbo
  obtain ⟨-, -, q34, q35, q36, q37, -⟩ := A9.told
  have f34 := A9.fz 34
  have f35 := A9.fz 35
  have f36 := A9.fz 36
  have f37 := A9.fz 37
  try simp only at q37
  have AZ := (((A9.putSt os).putPc 384).putNx 388).putSl false
  go_wp2_with (go_at_call 103; refine (hwb _).mono ?_; rintro e2 w7 ⟨rfl, rfl⟩)
  go_end0
  exact ⟨rfl, AZ, (((T9.put _ _).put _ _).put _ _).put _ _⟩
set_option maxRecDepth 100000 in
set_option maxHeartbeats 8000000 in
theorem enter_slot (A : StAt w sb S) (ok : S.ok) (e : Int) (e0 : 0 ≤ e) (e1 : e < 32) (hst : bits .and .u32 S.st 2 = 0) (hsl : S.sl = true) : Calls Tryz.prog 52 #[.pointer (some ⟨sb, 0, none⟩), .int .i64 e] w fun e' w' => e' = .returned (.tuple #[]) ∧ StAt w' sb (excP S e) ∧ Kept w w' (· = sb) := by
  have hbo := fun W => bitOf_any S.st 1 ok.st.1 ok.st.2 (by omega) (by omega) W
  simp only [pw1] at hbo
  have hwb := fun W => withBit_any S.st 1 2 true ok.st.1 ok.st.2 (by omega) (by omega) pw1 (by omega) (by omega) W
  simp only [if_true] at hwb
  have est : lo (S.st - S.st / 2 % 2 * 2 + 2) = bits .or .u32 S.st 2 := by
    have := ok.st.1; have := ok.st.2
    rw [or2_eq ok.st.1 ok.st.2]; unfold Num.lo; omega
  rw [est] at hwb
  clear est
  have X : excP S e = { S with ep := lo (S.pc - 4), ca := 2147483648 + 4 * e, st := bits .or .u32 S.st 2, pc := 384, nx := 388, sl := false } := by
    have h1 : exc1 S = { S with ep := lo (S.pc - 4), ca := 2147483648 } := by unfold exc1; rw [if_pos hst, if_pos hsl]
    have h2 : bits .or .u32 (bits .andNot .u32 2147483648 124) (sh4 e) = 2147483648 + 4 * e := by
      rw [cause_eq (by omega) (by omega) e0 e1]; omega
    unfold excP St.jump; rw [h1]; dsimp only; rw [h2]; rfl
  rw [X]
  clear X
  generalize bits .or .u32 S.st 2 = os at *
  have hb : (S.st / 2 % 2 == 1) = false := by rw [and2_eq ok.st.1 ok.st.2] at hst; simp; omega
  have hwe : IntKind.u32.wrap (e * 4) = 4 * e := by rw [wrap_lo]; unfold Num.lo; omega
  obtain ⟨-, -, q34, -, q36, q37, q38, q39, -⟩ := A.told
  have f38 := A.fz 38
  have f39 := A.fz 39
  rw [hsl] at q36
  clear hst
  have hw4 := fun W => word_any (-4) (by omega) (by omega) W
  rw [show lo (-4) = 4294967292 from rfl] at hw4
  have hpl := fun W => plus2_any S.pc 4294967292 ok.pc.1 ok.pc.2 (by omega) (by omega) W
  rw [show lo (S.pc + 4294967292) = lo (S.pc - 4) by unfold Num.lo; omega] at hpl
  have hw31 := fun W => withBit_any (4 * e) 31 2147483648 true (by omega) (by omega) (by omega) (by omega) (by decide) (by omega) (by omega) W
  simp only [if_true] at hw31
  rw [show lo (4 * e - 4 * e / 2147483648 % 2 * 2147483648 + 2147483648) = 2147483648 + 4 * e by unfold Num.lo; omega] at hw31
  generalize lo (S.pc - 4) = ep' at *
  have A8 := (A.putEp S.pc).putCa (4 * e)
  have T8 := ((Kept.refl w (· = sb)).put 39 (.int .u32 S.pc)).put 38 (.int .u32 (4 * e))
  go_enter Tryz.func52, Tryz.ntmps52
  go_upto_region 6 with (go_at_call 98; refine (hbo _).mono ?_; rintro e2 w7 ⟨rfl, hw7⟩; rw [hw7]; clear hw7 w7)
  clear q34 q36 q37 q38 q39 f38 f39
  generalize ((w.setCell ⟨sb, 39, none⟩ (.int .u32 S.pc)).setCell ⟨sb, 38, none⟩ (.int .u32 (4 * e))) = w1 at *
  have A1 := A8
  have T1 := T8
  clear A8 T8 A hbo
  have q39 := A1.told.2.2.2.2.2.2.2.1
  have f39 := A1.fz 39
  refine wp_region_phase 9 [(0, 0), (1, 0), (2, 0), (3, 0), (4, 1), (5, 2), (6, 2), (7, 0), (8, 0), (9, 2)] (fun W => StAt W sb { S with ep := S.pc, ca := 4 * e }) (by kernel_rfl) (by kernel_rfl) (fun _ _ _ d _ h => by cases d <;> first | exact h | exact StAt.drew h) A1.drew ?_
  repeat (first | (refine wpPlanZ_free (by rfl) (by rfl) (fun W => by (go_simp; try with_reducible rfl)) (fun K hK => ?_); go_simp; refine hK _ ?_; clear hK K) | (refine wpPlanZ_quiet (by rfl) (by rfl) (fun W hW => by (have q34 := hW.told.2.2.1; go_simp; try with_reducible rfl)) (fun K hK => ?_); go_simp; refine hK _ ?_; clear hK K))
  refine wpPlanZ_serial (by rfl) (by rfl) (fun K hK => ?_)
  go_simp
  refine (hw4 _).mono ?_
  rintro e_ w_ ⟨rfl, rfl⟩
  refine hK _ _ (fun _ => A1.drew) ?_
  clear hK K
  repeat (first | (refine wpPlanZ_free (by rfl) (by rfl) (fun W => by (go_simp; try with_reducible rfl)) (fun K hK => ?_); go_simp; refine hK _ ?_; clear hK K) | (refine wpPlanZ_quiet (by rfl) (by rfl) (fun W hW => by (have q34 := hW.told.2.2.1; go_simp; try with_reducible rfl)) (fun K hK => ?_); go_simp; refine hK _ ?_; clear hK K))
  refine wpPlanZ_serial (by rfl) (by rfl) (fun K hK => ?_)
  go_simp
  refine (hpl _).mono ?_
  rintro e_ w_ ⟨rfl, rfl⟩
  refine hK _ _ (fun _ => A1.drew) ?_
  clear hK K
  repeat (first | (refine wpPlanZ_free (by rfl) (by rfl) (fun W => by (go_simp; try with_reducible rfl)) (fun K hK => ?_); go_simp; refine hK _ ?_; clear hK K) | (refine wpPlanZ_quiet (by rfl) (by rfl) (fun W hW => by (have q34 := hW.told.2.2.1; go_simp; try with_reducible rfl)) (fun K hK => ?_); go_simp; refine hK _ ?_; clear hK K))
  refine wpPlanZ_serial (by rfl) (by rfl) (fun K hK => ?_)
  go_simp
  refine hK _ _ (fun h => absurd h (by decide)) ?_
  clear hK K
  refine wpPlanZ_nil ?_
  refine ck (R := fun W => StAt W sb { S with ep := ep', ca := 4 * e } ∧ Kept w W (· = sb)) ?_ (fun w2 ⟨A2, T2⟩ => ?_)
  · exact ⟨(A1.putEp _).drew, (T1.put 39 _).trans (Kept.drew _ _) (fun _ _ h => h)⟩
  clear q39 f39 A1 T1 hw4 hpl
  have q38 := A2.told.2.2.2.2.2.2.1
  have f38 := A2.fz 38
  try simp only at q38
  have A8 := A2.putCa (2147483648 + 4 * e)
  have T8 := T2.put 38 (.int .u32 (2147483648 + 4 * e))
  go_upto_region 8 with (go_at_call 103; refine (hw31 _).mono ?_; rintro e2 w7 ⟨rfl, hw7⟩; rw [hw7]; clear hw7 w7)
  clear q38 f38
  generalize (w2.setCell ⟨sb, 38, none⟩ (.int .u32 (2147483648 + 4 * e))) = w9 at *
  have A9 := A8
  have T9 := T8
  clear A8 T8 A2 T2 hw31
  obtain ⟨-, -, q34, q35, q36, q37, -⟩ := A9.told
  have f34 := A9.fz 34
  have f35 := A9.fz 35
  have f36 := A9.fz 36
  have f37 := A9.fz 37
  try simp only at q37
  have AZ := (((A9.putSt os).putPc 384).putNx 388).putSl false
  go_wp2_with (go_at_call 103; refine (hwb _).mono ?_; rintro e2 w7 ⟨rfl, rfl⟩)
  go_end0
  exact ⟨rfl, AZ, (((T9.put _ _).put _ _).put _ _).put _ _⟩
theorem enter_any (A : StAt w sb S) (ok : S.ok) (e : Int) (e0 : 0 ≤ e) (e1 : e < 32) : Calls Tryz.prog 52 #[.pointer (some ⟨sb, 0, none⟩), .int .i64 e] w fun e' w' => e' = .returned (.tuple #[]) ∧ StAt w' sb (excP S e) ∧ Kept w w' (· = sb) := by
  by_cases hst : bits .and .u32 S.st 2 = 0
  · cases hsl : S.sl with
    | true => exact enter_slot A ok e e0 e1 hst hsl
    | false => exact enter_plain A ok e e0 e1 hst hsl
  · exact enter_in A ok e e0 e1 hst
theorem intB_eq (S : St) (ok : S.ok) : intB S = (S.cm != 0 && decide (S.cm ≤ S.ct) && (S.st % 2 == 1) && !(S.st / 2 % 2 == 1)) := by
  unfold intB
  rw [and3_eq ok.st.1 ok.st.2]
  have h : decide (S.st % 4 = 1) = ((S.st % 2 == 1) && !(S.st / 2 % 2 == 1)) := by
    by_cases h : S.st % 4 = 1
    · have h1 : S.st % 2 = 1 := by omega
      have h2 : ¬ S.st / 2 % 2 = 1 := by omega
      simp [h, h1, h2]
    · by_cases h1 : S.st % 2 = 1
      · have h2 : S.st / 2 % 2 = 1 := by omega
        simp [h, h1, h2]
      · simp [h, h1]
  rw [h, Bool.and_assoc, Bool.and_assoc, Bool.and_assoc]
  congr 1
  by_cases h : S.cm = 0 <;> simp [h]
set_option maxRecDepth 100000 in
set_option maxHeartbeats 8000000 in
theorem isDue_any (A : StAt w sb S) (ok : S.ok) : Calls Tryz.prog 50 #[.pointer (some ⟨sb, 0, none⟩)] w fun e w' => e = .returned (.bool (intB S)) ∧ ∃ n, w' = w.drewN n := by
  have hb0 := fun W => bitOf_any S.st 0 ok.st.1 ok.st.2 (by omega) (by omega) W
  have hb1 := fun W => bitOf_any S.st 1 ok.st.1 ok.st.2 (by omega) (by omega) W
  simp only [pw1, pw0, Int.ediv_one] at hb0 hb1
  rw [intB_eq S ok]
  obtain ⟨-, -, -, -, -, q37, -, -, -, q41, q42⟩ := A.told
  obtain ⟨cm0, cm1⟩ := ok.cm
  clear A ok
  generalize (S.st % 2 == 1) = x0 at *
  generalize (S.st / 2 % 2 == 1) = x1 at *
  generalize S.cm = cm at *
  generalize S.ct = ct at *
  generalize S.st = st at *
  have wc : IntKind.i64.wrap cm = cm := by rw [IntKind.wrap_i64]; omega
  by_cases h0 : cm = 0
  · have e0 : (cm != 0) = false := by simp [h0]
    have e0' : (cm == 0) = true := by simp [h0]
    rw [e0]
    clear h0
    go_enter Tryz.func50, Tryz.ntmps50
    go_upto_region 3 with (first | (go_at_call 98; refine (hb0 _).mono ?_; rintro e2 w7 ⟨rfl, hw7⟩; rw [hw7]; clear hw7 w7) | (go_at_call 98; refine (hb1 _).mono ?_; rintro e2 w7 ⟨rfl, hw7⟩; rw [hw7]; clear hw7 w7))
    refine wp_region_phase 25 [(0, 0), (1, 0), (2, 0), (3, 1), (4, 0), (5, 0), (6, 0), (7, 0), (8, 0), (9, 1), (10, 0), (11, 0), (12, 0), (13, 1), (14, 0), (15, 0), (16, 0), (17, 0), (18, 0), (19, 0), (20, 0), (21, 0), (22, 0), (23, 0), (24, 0)] (fun W => W.cell? ⟨sb, 41, none⟩ = some (.int .u32 cm) ∧ W.cell? ⟨sb, 42, none⟩ = some (.int .i64 ct)) (by kernel_rfl) (by kernel_rfl) (fun _ _ _ d _ h => by cases d <;> exact h) ⟨q41, q42⟩ ?_
    repeat (first | (refine wpPlanZ_free (by rfl) (by rfl) (fun W => by (go_simp; try with_reducible rfl)) (fun K hK => ?_); go_simp; refine hK _ ?_; clear hK K) | (refine wpPlanZ_skipG (by rfl) (by rfl) (fun K hK => ?_); go_simp; refine hK _ ?_; clear hK K) | (refine wpPlanZ_quiet (by rfl) (by rfl) (fun W hW => by (obtain ⟨q41, q42⟩ := hW; go_simp; try with_reducible rfl)) (fun K hK => ?_); go_simp; refine hK _ ?_; clear hK K))
    refine wpPlanZ_nil ?_
    go_wp2
    go_ret
    exact ⟨by simp, 1, rfl⟩
  · have e0 : (cm != 0) = true := by simp [h0]
    have e0' : (cm == 0) = false := by simp [h0]
    rw [e0]
    clear h0
    by_cases h1 : cm ≤ ct
    · have e1 : decide (cm ≤ ct) = true := by simp [h1]
      rw [e1]
      cases x0 <;> cases x1
      all_goals
        go_enter Tryz.func50, Tryz.ntmps50
        go_upto_region 3 with (first | (go_at_call 98; refine (hb0 _).mono ?_; rintro e2 w7 ⟨rfl, hw7⟩; rw [hw7]; clear hw7 w7) | (go_at_call 98; refine (hb1 _).mono ?_; rintro e2 w7 ⟨rfl, hw7⟩; rw [hw7]; clear hw7 w7))
        refine wp_region_phase 25 [(0, 0), (1, 0), (2, 0), (3, 1), (4, 0), (5, 0), (6, 0), (7, 0), (8, 0), (9, 1), (10, 0), (11, 0), (12, 0), (13, 1), (14, 0), (15, 0), (16, 0), (17, 0), (18, 0), (19, 0), (20, 0), (21, 0), (22, 0), (23, 0), (24, 0)] (fun W => W.cell? ⟨sb, 41, none⟩ = some (.int .u32 cm) ∧ W.cell? ⟨sb, 42, none⟩ = some (.int .i64 ct)) (by kernel_rfl) (by kernel_rfl) (fun _ _ _ d _ h => by cases d <;> exact h) ⟨q41, q42⟩ ?_
        repeat (first | (refine wpPlanZ_free (by rfl) (by rfl) (fun W => by (go_simp; try with_reducible rfl)) (fun K hK => ?_); go_simp; refine hK _ ?_; clear hK K) | (refine wpPlanZ_skipG (by rfl) (by rfl) (fun K hK => ?_); go_simp; refine hK _ ?_; clear hK K) | (refine wpPlanZ_quiet (by rfl) (by rfl) (fun W hW => by (obtain ⟨q41, q42⟩ := hW; go_simp; try with_reducible rfl)) (fun K hK => ?_); go_simp; refine hK _ ?_; clear hK K))
        refine wpPlanZ_nil ?_
        go_wp2
        go_ret
        exact ⟨by simp, 1, rfl⟩
    · have e1 : decide (cm ≤ ct) = false := by simp [h1]
      rw [e1]
      go_enter Tryz.func50, Tryz.ntmps50
      go_upto_region 3 with (first | (go_at_call 98; refine (hb0 _).mono ?_; rintro e2 w7 ⟨rfl, hw7⟩; rw [hw7]; clear hw7 w7) | (go_at_call 98; refine (hb1 _).mono ?_; rintro e2 w7 ⟨rfl, hw7⟩; rw [hw7]; clear hw7 w7))
      refine wp_region_phase 25 [(0, 0), (1, 0), (2, 0), (3, 1), (4, 0), (5, 0), (6, 0), (7, 0), (8, 0), (9, 1), (10, 0), (11, 0), (12, 0), (13, 1), (14, 0), (15, 0), (16, 0), (17, 0), (18, 0), (19, 0), (20, 0), (21, 0), (22, 0), (23, 0), (24, 0)] (fun W => W.cell? ⟨sb, 41, none⟩ = some (.int .u32 cm) ∧ W.cell? ⟨sb, 42, none⟩ = some (.int .i64 ct)) (by kernel_rfl) (by kernel_rfl) (fun _ _ _ d _ h => by cases d <;> exact h) ⟨q41, q42⟩ ?_
      repeat (first | (refine wpPlanZ_free (by rfl) (by rfl) (fun W => by (go_simp; try with_reducible rfl)) (fun K hK => ?_); go_simp; refine hK _ ?_; clear hK K) | (refine wpPlanZ_skipG (by rfl) (by rfl) (fun K hK => ?_); go_simp; refine hK _ ?_; clear hK K) | (refine wpPlanZ_quiet (by rfl) (by rfl) (fun W hW => by (obtain ⟨q41, q42⟩ := hW; go_simp; try with_reducible rfl)) (fun K hK => ?_); go_simp; refine hK _ ?_; clear hK K))
      refine wpPlanZ_nil ?_
      go_wp2
      go_ret
      exact ⟨by simp, 1, rfl⟩
end
end Go.Proofs.YtflagpkmebdckaaGreatDoor
/-
  An instruction, as the document does it.
-/
namespace Go.Proofs.YtflagpkmebdckaaGreatDoor
open Go.RowKit Go.Maps
open Num
set_option linter.unusedVariables false
/-- what `do` makes: where to, the exception, the state, the bus, the pages that were hit -/
structure DoA where
  to : Int
  e : Int
  S : St
  b : Bs
  ht : Int → Bool
def DoPost (w : World) (sb base db rb gb kb hb : Nat) (wt : Int → Bool) (vt : Value) (x : DoA) (e : Ending) (w' : World) : Prop :=
  e = .returned (.tuple #[.int .i64 x.to, .int .i64 x.e]) ∧ ∃ vt', StAt w' sb x.S ∧ DBus w' base db rb gb kb hb x.b wt x.ht vt' ∧ Kept w w' (DM sb db gb hb vt) ∧ Moved w vt vt'
def OnePost (w : World) (sb base db rb gb kb hb : Nat) (wt : Int → Bool) (vt : Value) (e' : Int) (S' : St) (b' : Bs) (ht' : Int → Bool) (e : Ending) (w' : World) : Prop :=
  e = .returned (.int .i64 e') ∧ ∃ vt', StAt w' sb S' ∧ DBus w' base db rb gb kb hb b' wt ht' vt' ∧ Kept w w' (DM sb db gb hb vt) ∧ Moved w vt vt'
section
variable {w : World} {sb base db rb gb kb hb : Nat} {b : Bs} {wt ht : Int → Bool} {vt : Value} {S : St} {k s t d : Nat} {m : Int}
set_option maxRecDepth 100000 in
set_option maxHeartbeats 8000000 in
theorem do_branch (A : StAt w sb S) (B : DBus w base db rb gb kb hb b wt ht vt) (ap : Dap sb base db rb gb kb hb) (ok : S.ok) (hs : s < 32) (ht' : t < 32) (hd : d < 32) (m0 : 0 ≤ m) (m1 : m < 4294967296) (hk : k < 54) (hkind : Tab.kind k = [98, 114, 97, 110, 99, 104]) (hm : k = 29 ∨ k = 30 → m < 67108864) : Calls Tryz.prog 128 #[.pointer (some ⟨sb, 0, none⟩), .pointer (some ⟨db, 0, none⟩), .agg #[.int .i64 k, .int .i64 s, .int .i64 t, .int .i64 d, .int .u32 m]] w (DoPost w sb base db rb gb kb hb wt vt ⟨(branchD S k s t d m).1, (branchD S k s t d m).2.1, (branchD S k s t d m).2.2, b, ht⟩) := by
  have hbr := fun (W : World) (X : StAt W sb S) => branchD_any (d := d) X ok hs ht' hd m0 m1 (kind_br hk hkind) hm
  generalize branchD S k s t d m = x at *
  obtain ⟨x1, x2, x3⟩ := x
  simp only at hbr ⊢
  have hbA : Below w.heap.size w (w.alloc (.cells #[.int .i64 k, .int .i64 s, .int .i64 t, .int .i64 d, .int .u32 m] 113)) := (Below.refl _ _).alloc (Nat.le_refl _) _
  have hkd := fun W => kindD_any k hk W
  rw [hkind] at hkd
  have KA : Kept w (w.alloc (.cells #[.int .i64 k, .int .i64 s, .int .i64 t, .int .i64 d, .int .u32 m] 113)) (DM sb db gb hb vt) := Kept.of_below _ hbA
  have D0 : Hid (Dq (w.alloc (.cells #[.int .i64 k, .int .i64 s, .int .i64 t, .int .i64 d, .int .u32 m] 113)) w.heap.size sb S k s t d m) := Dq.start A ok k hs ht' hd m0 m1
  have B0 : Hid (DBus (w.alloc (.cells #[.int .i64 k, .int .i64 s, .int .i64 t, .int .i64 d, .int .u32 m] 113)) base db rb gb kb hb b wt ht vt) := B.stays hbA
  clear A B hbA hkind
  go_enter Tryz.func128, Tryz.ntmps128
  go_upto_region 1 with fail
  generalize w.alloc (.cells #[.int .i64 k, .int .i64 s, .int .i64 t, .int .i64 d, .int .u32 m] 113) = W at *
  generalize w.heap.size = ib at *
  have i0 := D0.out.i0
  go_wp2_with fail
  refine (hkd _).mono ?_
  rintro e w1 ⟨rfl, hb1⟩
  have D1 : Hid (Dq w1 ib sb S k s t d m) := D0.out.stays hb1
  have B1 : Hid (DBus w1 base db rb gb kb hb b wt ht vt) := B0.out.stays hb1
  have K1 : Kept w w1 (DM sb db gb hb vt) := KA.trans (Kept.of_below _ hb1) (fun _ _ h => h)
  clear hb1 KA D0 B0 i0 hkd
  have i0 := D1.out.i0
  have i1 := D1.out.i1
  have i2 := D1.out.i2
  have i3 := D1.out.i3
  have i4 := D1.out.i4
  go_wp2_with fail
  refine (hbr w1 D1.out.a).mono ?_
  rintro e w2 ⟨rfl, A2, T2⟩
  have B2 : Hid (DBus w2 base db rb gb kb hb b wt ht vt) := B1.out.st T2 ap
  have K2 : Kept w w2 (DM sb db gb hb vt) := K1.trans T2.dmS (fun _ _ h => h)
  clear i0 i1 i2 i3 i4
  go_wp2
  go_ret2
  exact ⟨rfl, vt, A2, B2.out, K2, Moved.refl _ _⟩
set_option maxRecDepth 100000 in
set_option maxHeartbeats 8000000 in
theorem do_trap (A : StAt w sb S) (B : DBus w base db rb gb kb hb b wt ht vt) (ap : Dap sb base db rb gb kb hb) (ok : S.ok) (hs : s < 32) (ht' : t < 32) (hd : d < 32) (m0 : 0 ≤ m) (m1 : m < 4294967296) (hk : k < 54) (hkind : Tab.kind k = [116, 114, 97, 112]) : Calls Tryz.prog 128 #[.pointer (some ⟨sb, 0, none⟩), .pointer (some ⟨db, 0, none⟩), .agg #[.int .i64 k, .int .i64 s, .int .i64 t, .int .i64 d, .int .u32 m]] w (DoPost w sb base db rb gb kb hb wt vt ⟨-1, (trapD S k t d).1, (trapD S k t d).2, b, ht⟩) := by
  have hbr := fun (W : World) (X : StAt W sb S) => trapD_any (k := k) (d := d) (m := m) X ok hs ht' hd m0 m1
  generalize trapD S k t d = x at *
  obtain ⟨x1, x2⟩ := x
  simp only at hbr ⊢
  have hbA : Below w.heap.size w (w.alloc (.cells #[.int .i64 k, .int .i64 s, .int .i64 t, .int .i64 d, .int .u32 m] 113)) := (Below.refl _ _).alloc (Nat.le_refl _) _
  have hkd := fun W => kindD_any k hk W
  rw [hkind] at hkd
  have KA : Kept w (w.alloc (.cells #[.int .i64 k, .int .i64 s, .int .i64 t, .int .i64 d, .int .u32 m] 113)) (DM sb db gb hb vt) := Kept.of_below _ hbA
  have D0 : Hid (Dq (w.alloc (.cells #[.int .i64 k, .int .i64 s, .int .i64 t, .int .i64 d, .int .u32 m] 113)) w.heap.size sb S k s t d m) := Dq.start A ok k hs ht' hd m0 m1
  have B0 : Hid (DBus (w.alloc (.cells #[.int .i64 k, .int .i64 s, .int .i64 t, .int .i64 d, .int .u32 m] 113)) base db rb gb kb hb b wt ht vt) := B.stays hbA
  clear A B hbA hkind
  go_enter Tryz.func128, Tryz.ntmps128
  go_upto_region 1 with fail
  generalize w.alloc (.cells #[.int .i64 k, .int .i64 s, .int .i64 t, .int .i64 d, .int .u32 m] 113) = W at *
  generalize w.heap.size = ib at *
  have i0 := D0.out.i0
  go_wp2_with fail
  refine (hkd _).mono ?_
  rintro e w1 ⟨rfl, hb1⟩
  have D1 : Hid (Dq w1 ib sb S k s t d m) := D0.out.stays hb1
  have B1 : Hid (DBus w1 base db rb gb kb hb b wt ht vt) := B0.out.stays hb1
  have K1 : Kept w w1 (DM sb db gb hb vt) := KA.trans (Kept.of_below _ hb1) (fun _ _ h => h)
  clear hb1 KA D0 B0 i0 hkd
  have i0 := D1.out.i0
  have i1 := D1.out.i1
  have i2 := D1.out.i2
  have i3 := D1.out.i3
  have i4 := D1.out.i4
  go_wp2_with fail
  refine (hbr w1 D1.out.a).mono ?_
  rintro e w2 ⟨rfl, A2, T2⟩
  have B2 : Hid (DBus w2 base db rb gb kb hb b wt ht vt) := B1.out.st T2 ap
  have K2 : Kept w w2 (DM sb db gb hb vt) := K1.trans T2.dmS (fun _ _ h => h)
  clear i0 i1 i2 i3 i4
  go_wp2
  go_ret2
  exact ⟨rfl, vt, A2, B2.out, K2, Moved.refl _ _⟩
set_option maxRecDepth 100000 in
set_option maxHeartbeats 8000000 in
theorem do_sum (A : StAt w sb S) (B : DBus w base db rb gb kb hb b wt ht vt) (ap : Dap sb base db rb gb kb hb) (ok : S.ok) (hs : s < 32) (ht' : t < 32) (hd : d < 32) (m0 : 0 ≤ m) (m1 : m < 4294967296) (hk : k < 54) (hkind : Tab.kind k = [115, 117, 109]) (hm : k = 1 ∨ k = 2 ∨ k = 3 → m < 32) : Calls Tryz.prog 128 #[.pointer (some ⟨sb, 0, none⟩), .pointer (some ⟨db, 0, none⟩), .agg #[.int .i64 k, .int .i64 s, .int .i64 t, .int .i64 d, .int .u32 m]] w (DoPost w sb base db rb gb kb hb wt vt ⟨-1, (sumD S k s t d m).1, (sumD S k s t d m).2, b, ht⟩) := by
  have hbr := fun (W : World) (X : StAt W sb S) => sumD_any (k := k) (d := d) (m := m) X ok hs ht' hd m0 m1 (kind_sm hk hkind) hm
  generalize sumD S k s t d m = x at *
  obtain ⟨x1, x2⟩ := x
  simp only at hbr ⊢
  have hbA : Below w.heap.size w (w.alloc (.cells #[.int .i64 k, .int .i64 s, .int .i64 t, .int .i64 d, .int .u32 m] 113)) := (Below.refl _ _).alloc (Nat.le_refl _) _
  have hkd := fun W => kindD_any k hk W
  rw [hkind] at hkd
  have KA : Kept w (w.alloc (.cells #[.int .i64 k, .int .i64 s, .int .i64 t, .int .i64 d, .int .u32 m] 113)) (DM sb db gb hb vt) := Kept.of_below _ hbA
  have D0 : Hid (Dq (w.alloc (.cells #[.int .i64 k, .int .i64 s, .int .i64 t, .int .i64 d, .int .u32 m] 113)) w.heap.size sb S k s t d m) := Dq.start A ok k hs ht' hd m0 m1
  have B0 : Hid (DBus (w.alloc (.cells #[.int .i64 k, .int .i64 s, .int .i64 t, .int .i64 d, .int .u32 m] 113)) base db rb gb kb hb b wt ht vt) := B.stays hbA
  clear A B hbA hkind
  go_enter Tryz.func128, Tryz.ntmps128
  go_upto_region 1 with fail
  generalize w.alloc (.cells #[.int .i64 k, .int .i64 s, .int .i64 t, .int .i64 d, .int .u32 m] 113) = W at *
  generalize w.heap.size = ib at *
  have i0 := D0.out.i0
  go_wp2_with fail
  refine (hkd _).mono ?_
  rintro e w1 ⟨rfl, hb1⟩
  have D1 : Hid (Dq w1 ib sb S k s t d m) := D0.out.stays hb1
  have B1 : Hid (DBus w1 base db rb gb kb hb b wt ht vt) := B0.out.stays hb1
  have K1 : Kept w w1 (DM sb db gb hb vt) := KA.trans (Kept.of_below _ hb1) (fun _ _ h => h)
  clear hb1 KA D0 B0 i0 hkd
  have i0 := D1.out.i0
  have i1 := D1.out.i1
  have i2 := D1.out.i2
  have i3 := D1.out.i3
  have i4 := D1.out.i4
  go_wp2_with fail
  refine (hbr w1 D1.out.a).mono ?_
  rintro e w2 ⟨rfl, A2, T2⟩
  have B2 : Hid (DBus w2 base db rb gb kb hb b wt ht vt) := B1.out.st T2 ap
  have K2 : Kept w w2 (DM sb db gb hb vt) := K1.trans T2.dmS (fun _ _ h => h)
  clear i0 i1 i2 i3 i4
  go_wp2
  go_ret2
  exact ⟨rfl, vt, A2, B2.out, K2, Moved.refl _ _⟩
set_option maxRecDepth 100000 in
set_option maxHeartbeats 8000000 in
theorem do_load (A : StAt w sb S) (B : DBus w base db rb gb kb hb b wt ht vt) (ap : Dap sb base db rb gb kb hb) (ok : S.ok) (hs : s < 32) (ht' : t < 32) (hd : d < 32) (m0 : 0 ≤ m) (m1 : m < 4294967296) (hk : k < 54) (hkind : Tab.kind k = [108, 111, 97, 100]) (hn : b.out.length ≤ 1000) (hn2 : b.tr.length ≤ 1000) : Calls Tryz.prog 128 #[.pointer (some ⟨sb, 0, none⟩), .pointer (some ⟨db, 0, none⟩), .agg #[.int .i64 k, .int .i64 s, .int .i64 t, .int .i64 d, .int .u32 m]] w (DoPost w sb base db rb gb kb hb wt vt ⟨-1, if bad (adI S k s m) (szI k) = true then 4 else -1, if bad (adI S k s m) (szI k) = true then { S with bd := adI S k s m } else S.putR t (b.val (adI S k s m) (szI k) (sgI k) S.ct), b.got (adI S k s m) (szI k) S.ct, ht⟩) := by
  have hbr := fun (W : World) (X : StAt W sb S) (Y : DBus W base db rb gb kb hb b wt ht vt) => loadD_any (d := d) X Y ap ok hs ht' hd m0 m1 hn hn2 (kind_ld hk hkind)
  generalize (if bad (adI S k s m) (szI k) = true then (4 : Int) else -1) = x1 at *
  generalize (if bad (adI S k s m) (szI k) = true then { S with bd := adI S k s m } else S.putR t (b.val (adI S k s m) (szI k) (sgI k) S.ct)) = x2 at *
  generalize b.got (adI S k s m) (szI k) S.ct = x3 at *
  have hbA : Below w.heap.size w (w.alloc (.cells #[.int .i64 k, .int .i64 s, .int .i64 t, .int .i64 d, .int .u32 m] 113)) := (Below.refl _ _).alloc (Nat.le_refl _) _
  have hkd := fun W => kindD_any k hk W
  rw [hkind] at hkd
  have KA : Kept w (w.alloc (.cells #[.int .i64 k, .int .i64 s, .int .i64 t, .int .i64 d, .int .u32 m] 113)) (DM sb db gb hb vt) := Kept.of_below _ hbA
  have D0 : Hid (Dq (w.alloc (.cells #[.int .i64 k, .int .i64 s, .int .i64 t, .int .i64 d, .int .u32 m] 113)) w.heap.size sb S k s t d m) := Dq.start A ok k hs ht' hd m0 m1
  have B0 : Hid (DBus (w.alloc (.cells #[.int .i64 k, .int .i64 s, .int .i64 t, .int .i64 d, .int .u32 m] 113)) base db rb gb kb hb b wt ht vt) := B.stays hbA
  clear A B hbA hkind
  go_enter Tryz.func128, Tryz.ntmps128
  go_upto_region 1 with fail
  generalize w.alloc (.cells #[.int .i64 k, .int .i64 s, .int .i64 t, .int .i64 d, .int .u32 m] 113) = W at *
  generalize w.heap.size = ib at *
  have i0 := D0.out.i0
  go_wp2_with fail
  refine (hkd _).mono ?_
  rintro e w1 ⟨rfl, hb1⟩
  have D1 : Hid (Dq w1 ib sb S k s t d m) := D0.out.stays hb1
  have B1 : Hid (DBus w1 base db rb gb kb hb b wt ht vt) := B0.out.stays hb1
  have K1 : Kept w w1 (DM sb db gb hb vt) := KA.trans (Kept.of_below _ hb1) (fun _ _ h => h)
  clear hb1 KA D0 B0 i0 hkd
  have i0 := D1.out.i0
  have i1 := D1.out.i1
  have i2 := D1.out.i2
  have i3 := D1.out.i3
  have i4 := D1.out.i4
  go_wp2_with fail
  refine (hbr w1 D1.out.a B1.out).mono ?_
  rintro e w2 ⟨rfl, vt2, A2, B2, T2, M2⟩
  have B2H : Hid (DBus w2 base db rb gb kb hb x3 wt ht vt2) := B2
  have K2 : Kept w w2 (DM sb db gb hb vt) := K1.trans T2 (fun _ _ h => h)
  have MM : Hid (Moved w vt vt2) := fun k hk => (M2 k hk).imp id (fun e => Nat.le_trans K1.size e)
  clear i0 i1 i2 i3 i4 B2 M2 T2
  go_wp2
  go_ret2
  exact ⟨rfl, vt2, A2, B2H.out, K2, MM.out⟩
set_option maxRecDepth 100000 in
set_option maxHeartbeats 8000000 in
theorem do_store (A : StAt w sb S) (B : DBus w base db rb gb kb hb b wt ht vt) (ap : Dap sb base db rb gb kb hb) (ok : S.ok) (hs : s < 32) (ht' : t < 32) (hd : d < 32) (m0 : 0 ≤ m) (m1 : m < 4294967296) (hk : k < 54) (hkind : Tab.kind k = [115, 116, 111, 114, 101]) (hn : b.out.length ≤ 1000) (hn2 : b.tr.length ≤ 1000) : Calls Tryz.prog 128 #[.pointer (some ⟨sb, 0, none⟩), .pointer (some ⟨db, 0, none⟩), .agg #[.int .i64 k, .int .i64 s, .int .i64 t, .int .i64 d, .int .u32 m]] w (DoPost w sb base db rb gb kb hb wt vt ⟨-1, if bad (adI S k s m) (szI k) = true then 5 else -1, if bad (adI S k s m) (szI k) = true then { S with bd := adI S k s m } else S, b.put (adI S k s m) (szI k) (S.r t) S.ct, htD wt ht (adI S k s m) (szI k)⟩) := by
  have hbr := fun (W : World) (X : StAt W sb S) (Y : DBus W base db rb gb kb hb b wt ht vt) => storeD_any (d := d) X Y ap ok hs ht' hd m0 m1 hn hn2 (kind_st hk hkind)
  generalize (if bad (adI S k s m) (szI k) = true then (5 : Int) else -1) = x1 at *
  generalize (if bad (adI S k s m) (szI k) = true then { S with bd := adI S k s m } else S) = x2 at *
  generalize b.put (adI S k s m) (szI k) (S.r t) S.ct = x3 at *
  generalize htD wt ht (adI S k s m) (szI k) = x4 at *
  have hbA : Below w.heap.size w (w.alloc (.cells #[.int .i64 k, .int .i64 s, .int .i64 t, .int .i64 d, .int .u32 m] 113)) := (Below.refl _ _).alloc (Nat.le_refl _) _
  have hkd := fun W => kindD_any k hk W
  rw [hkind] at hkd
  have KA : Kept w (w.alloc (.cells #[.int .i64 k, .int .i64 s, .int .i64 t, .int .i64 d, .int .u32 m] 113)) (DM sb db gb hb vt) := Kept.of_below _ hbA
  have D0 : Hid (Dq (w.alloc (.cells #[.int .i64 k, .int .i64 s, .int .i64 t, .int .i64 d, .int .u32 m] 113)) w.heap.size sb S k s t d m) := Dq.start A ok k hs ht' hd m0 m1
  have B0 : Hid (DBus (w.alloc (.cells #[.int .i64 k, .int .i64 s, .int .i64 t, .int .i64 d, .int .u32 m] 113)) base db rb gb kb hb b wt ht vt) := B.stays hbA
  clear A B hbA hkind
  go_enter Tryz.func128, Tryz.ntmps128
  go_upto_region 1 with fail
  generalize w.alloc (.cells #[.int .i64 k, .int .i64 s, .int .i64 t, .int .i64 d, .int .u32 m] 113) = W at *
  generalize w.heap.size = ib at *
  have i0 := D0.out.i0
  go_wp2_with fail
  refine (hkd _).mono ?_
  rintro e w1 ⟨rfl, hb1⟩
  have D1 : Hid (Dq w1 ib sb S k s t d m) := D0.out.stays hb1
  have B1 : Hid (DBus w1 base db rb gb kb hb b wt ht vt) := B0.out.stays hb1
  have K1 : Kept w w1 (DM sb db gb hb vt) := KA.trans (Kept.of_below _ hb1) (fun _ _ h => h)
  clear hb1 KA D0 B0 i0 hkd
  have i0 := D1.out.i0
  have i1 := D1.out.i1
  have i2 := D1.out.i2
  have i3 := D1.out.i3
  have i4 := D1.out.i4
  go_wp2_with fail
  refine (hbr w1 D1.out.a B1.out).mono ?_
  rintro e w2 ⟨rfl, vt2, A2, B2, T2, M2⟩
  have B2H : Hid (DBus w2 base db rb gb kb hb x3 wt x4 vt2) := B2
  have K2 : Kept w w2 (DM sb db gb hb vt) := K1.trans T2 (fun _ _ h => h)
  have MM : Hid (Moved w vt vt2) := fun k hk => (M2 k hk).imp id (fun e => Nat.le_trans K1.size e)
  clear i0 i1 i2 i3 i4 B2 M2 T2
  go_wp2
  go_ret2
  exact ⟨rfl, vt2, A2, B2H.out, K2, MM.out⟩
end
end Go.Proofs.YtflagpkmebdckaaGreatDoor
/-
  An instruction, as the document does it, whole: it is what the processor's is.
-/
namespace Go.Proofs.YtflagpkmebdckaaGreatDoor
open Go.RowKit Go.Maps
open Num
set_option linter.unusedVariables false
section
variable {w : World} {sb base db rb gb kb hb : Nat} {b : Bs} {wt ht : Int → Bool} {vt : Value} {S : St} {k s t d : Nat} {m : Int}
theorem DM.far {ib : Nat} (B : DBus w base db rb gb kb hb b wt ht vt) (A : StAt w sb S) (h : w.heap.size ≤ ib) : ¬ DM sb db gb hb vt ib := by
  rintro (e | e)
  · have := A.lt; omega
  · exact B.far h e
set_option maxRecDepth 100000 in
set_option maxHeartbeats 8000000 in
theorem oneIns_exc (A : StAt w sb S) (B : DBus w base db rb gb kb hb b wt ht vt) (h45 : k ≠ 45) (x : DoA) (he : 0 ≤ x.e) (hs : s < 32) (ht' : t < 32) (hd : d < 32) (m0 : 0 ≤ m) (m1 : m < 4294967296) (ok : S.ok)
    (hdo : ∀ W : World, StAt W sb S → DBus W base db rb gb kb hb b wt ht vt → Calls Tryz.prog 128 #[.pointer (some ⟨sb, 0, none⟩), .pointer (some ⟨db, 0, none⟩), .agg #[.int .i64 k, .int .i64 s, .int .i64 t, .int .i64 d, .int .u32 m]] W (DoPost W sb base db rb gb kb hb wt vt x)) :
    Calls Tryz.prog 69 #[.pointer (some ⟨sb, 0, none⟩), .pointer (some ⟨db, 0, none⟩), .agg #[.int .i64 k, .int .i64 s, .int .i64 t, .int .i64 d, .int .u32 m]] w (OnePost w sb base db rb gb kb hb wt vt x.e x.S x.b x.ht) := by
  have b45 := nk h45
  have hbA : Below w.heap.size w (w.alloc (.cells #[.int .i64 k, .int .i64 s, .int .i64 t, .int .i64 d, .int .u32 m] 113)) := (Below.refl _ _).alloc (Nat.le_refl _) _
  have D0 : Hid (Dq (w.alloc (.cells #[.int .i64 k, .int .i64 s, .int .i64 t, .int .i64 d, .int .u32 m] 113)) w.heap.size sb S k s t d m) := Dq.start A ok k hs ht' hd m0 m1
  have B0 : Hid (DBus (w.alloc (.cells #[.int .i64 k, .int .i64 s, .int .i64 t, .int .i64 d, .int .u32 m] 113)) base db rb gb kb hb b wt ht vt) := B.stays hbA
  have K0 : Kept w (w.alloc (.cells #[.int .i64 k, .int .i64 s, .int .i64 t, .int .i64 d, .int .u32 m] 113)) (DM sb db gb hb vt) := Kept.of_below _ hbA
  clear A B hbA h45
  obtain ⟨to, e, S1, b1, ht1⟩ := x
  simp only at he
  show Calls _ _ _ _ (OnePost w sb base db rb gb kb hb wt vt e S1 b1 ht1)
  go_enter Tryz.func69, Tryz.ntmps69
  go_upto_region 1 with fail
  generalize w.alloc (.cells #[.int .i64 k, .int .i64 s, .int .i64 t, .int .i64 d, .int .u32 m] 113) = W at *
  generalize w.heap.size = ib at *
  have i0 := D0.out.i0
  have i1 := D0.out.i1
  have i2 := D0.out.i2
  have i3 := D0.out.i3
  have i4 := D0.out.i4
  have hdo1 := hdo W D0.out.a B0.out
  clear hdo
  go_wp2_with fail
  refine hdo1.mono ?_
  rintro e_ w2 ⟨rfl, vt2, A2, B2, T2, M2⟩
  have K2 : Kept w w2 (DM sb db gb hb vt) := K0.trans T2 (fun _ _ h => h)
  have B2H : Hid (DBus w2 base db rb gb kb hb b1 wt ht1 vt2) := B2
  have MM : Hid (Moved w vt vt2) := fun k hk => (M2 k hk).imp id (fun e => Nat.le_trans K0.size e)
  clear i0 i1 i2 i3 i4 hdo1 B2 M2 T2 D0 B0 K0
  simp only
  go_wp2
  go_ret
  exact ⟨rfl, vt2, A2, B2H.out, K2, MM.out⟩
set_option maxRecDepth 100000 in
set_option maxHeartbeats 8000000 in
theorem oneIns_load (A : StAt w sb S) (B : DBus w base db rb gb kb hb b wt ht vt) (ap : Dap sb base db rb gb kb hb) (hk : k < 54) (h45 : k ≠ 45) (hkind : Tab.kind k = [108, 111, 97, 100]) (x : DoA) (he : x.e = -1) (hto : x.to = -1) (ok1 : u32 x.S.nx) (hs : s < 32) (ht' : t < 32) (hd : d < 32) (m0 : 0 ≤ m) (m1 : m < 4294967296) (ok : S.ok)
    (hdo : ∀ W : World, StAt W sb S → DBus W base db rb gb kb hb b wt ht vt → Calls Tryz.prog 128 #[.pointer (some ⟨sb, 0, none⟩), .pointer (some ⟨db, 0, none⟩), .agg #[.int .i64 k, .int .i64 s, .int .i64 t, .int .i64 d, .int .u32 m]] W (DoPost W sb base db rb gb kb hb wt vt x)) :
    Calls Tryz.prog 69 #[.pointer (some ⟨sb, 0, none⟩), .pointer (some ⟨db, 0, none⟩), .agg #[.int .i64 k, .int .i64 s, .int .i64 t, .int .i64 d, .int .u32 m]] w (OnePost w sb base db rb gb kb hb wt vt (-1) x.S.fix x.b x.ht) := by
  have b45 := nk h45
  have hkd := fun W => kindD_any k hk W
  have hfi : ¬ DM sb db gb hb vt w.heap.size := DM.far B A (Nat.le_refl _)
  have hne : w.heap.size ≠ sb := fun e => hfi (Or.inl e)
  have hbA : Below w.heap.size w (w.alloc (.cells #[.int .i64 k, .int .i64 s, .int .i64 t, .int .i64 d, .int .u32 m] 113)) := (Below.refl _ _).alloc (Nat.le_refl _) _
  have D0 : Hid (Dq (w.alloc (.cells #[.int .i64 k, .int .i64 s, .int .i64 t, .int .i64 d, .int .u32 m] 113)) w.heap.size sb S k s t d m) := Dq.start A ok k hs ht' hd m0 m1
  have B0 : Hid (DBus (w.alloc (.cells #[.int .i64 k, .int .i64 s, .int .i64 t, .int .i64 d, .int .u32 m] 113)) base db rb gb kb hb b wt ht vt) := B.stays hbA
  have K0 : Kept w (w.alloc (.cells #[.int .i64 k, .int .i64 s, .int .i64 t, .int .i64 d, .int .u32 m] 113)) (DM sb db gb hb vt) := Kept.of_below _ hbA
  clear A B hbA h45
  obtain ⟨to, e, S1, b1, ht1⟩ := x
  simp only at he hto ok1
  subst he
  subst hto
  rw [hkind] at hkd
  have hpl := fun W => plus2_any S1.nx 4 ok1.1 ok1.2 (by omega) (by omega) W
  show Calls _ _ _ _ (OnePost w sb base db rb gb kb hb wt vt (-1) S1.fix b1 ht1)
  go_enter Tryz.func69, Tryz.ntmps69
  go_upto_region 1 with fail
  generalize w.alloc (.cells #[.int .i64 k, .int .i64 s, .int .i64 t, .int .i64 d, .int .u32 m] 113) = W at *
  generalize w.heap.size = ib at *
  have i0 := D0.out.i0
  have i1 := D0.out.i1
  have i2 := D0.out.i2
  have i3 := D0.out.i3
  have i4 := D0.out.i4
  have hdo1 := hdo W D0.out.a B0.out
  clear hdo
  go_wp2_with fail
  refine hdo1.mono ?_
  rintro e_ w2 ⟨rfl, vt2, A2, B2, T2, M2⟩
  have K2 : Kept w w2 (DM sb db gb hb vt) := K0.trans T2 (fun _ _ h => h)
  have B2H : Hid (DBus w2 base db rb gb kb hb b1 wt ht1 vt2) := B2
  have MM : Hid (Moved w vt vt2) := fun k hk => (M2 k hk).imp id (fun e => Nat.le_trans K0.size e)
  have j0 : w2.cell? ⟨ib, 0, none⟩ = some (.int .i64 k) := T2.cell D0.out.i0 hfi
  clear i0 i1 i2 i3 i4 hdo1 B2 M2 T2 D0 B0 K0
  have qr := A2.reg (i := 0) (by omega)
  have fr := A2.fz 0
  obtain ⟨-, -, q34, q35, q36, -⟩ := A2.told
  have f34 := A2.fz 34
  have f35 := A2.fz 35
  have A3' := ((A2.putR 0 (by omega) 0).putPc S1.nx).putNx (lo (S1.nx + 4))
  have T3' := (((Kept.refl w2 (· = sb)).put 0 (.int .u32 0)).put 34 (.int .u32 S1.nx)).put 35 (.int .u32 (lo (S1.nx + 4)))
  generalize hnx : lo (S1.nx + 4) = nx' at *
  go_upto_region 15 with (go_at_call 102; refine (hpl _).mono ?_; rintro e2 w7 ⟨rfl, rfl⟩)
  clear q34 q35 q36 qr fr f34 f35
  generalize (((w2.setCell ⟨sb, 0, none⟩ (.int .u32 0)).setCell ⟨sb, 34, none⟩ (.int .u32 S1.nx)).setCell ⟨sb, 35, none⟩ (.int .u32 nx')) = w3 at *
  have A3 := A3'
  have T3 := T3'
  clear A3' T3' hpl
  have i0 : w3.cell? ⟨ib, 0, none⟩ = some (.int .i64 k) := T3.cell j0 hne
  clear j0
  go_wp2_with fail
  refine (hkd _).mono ?_
  rintro e_ w4 ⟨rfl, hb4⟩
  have A4 := A3.stays hb4
  have T4 : Kept w2 w4 (· = sb) := T3.trans (Kept.of_below _ hb4) (fun _ _ h => h)
  clear i0 hb4 hkd A3 T3
  obtain ⟨-, -, -, q35, q36, -⟩ := A4.told
  have f35 := A4.fz 35
  have f36 := A4.fz 36
  try simp only at q35 q36
  have A5 := A4.putSl false
  have T5 := T4.put 36 (.bool false)
  go_wp2
  go_ret
  exact ⟨rfl, vt2, by unfold St.fix; rw [hnx]; exact A5, B2H.out.st T5 ap, K2.trans T5.dmS (fun _ _ h => h), MM.out⟩
set_option maxRecDepth 100000 in
set_option maxHeartbeats 8000000 in
theorem oneIns_store (A : StAt w sb S) (B : DBus w base db rb gb kb hb b wt ht vt) (ap : Dap sb base db rb gb kb hb) (hk : k < 54) (h45 : k ≠ 45) (hkind : Tab.kind k = [115, 116, 111, 114, 101]) (x : DoA) (he : x.e = -1) (hto : x.to = -1) (ok1 : u32 x.S.nx) (hs : s < 32) (ht' : t < 32) (hd : d < 32) (m0 : 0 ≤ m) (m1 : m < 4294967296) (ok : S.ok)
    (hdo : ∀ W : World, StAt W sb S → DBus W base db rb gb kb hb b wt ht vt → Calls Tryz.prog 128 #[.pointer (some ⟨sb, 0, none⟩), .pointer (some ⟨db, 0, none⟩), .agg #[.int .i64 k, .int .i64 s, .int .i64 t, .int .i64 d, .int .u32 m]] W (DoPost W sb base db rb gb kb hb wt vt x)) :
    Calls Tryz.prog 69 #[.pointer (some ⟨sb, 0, none⟩), .pointer (some ⟨db, 0, none⟩), .agg #[.int .i64 k, .int .i64 s, .int .i64 t, .int .i64 d, .int .u32 m]] w (OnePost w sb base db rb gb kb hb wt vt (-1) x.S.fix x.b x.ht) := by
  have b45 := nk h45
  have hkd := fun W => kindD_any k hk W
  have hfi : ¬ DM sb db gb hb vt w.heap.size := DM.far B A (Nat.le_refl _)
  have hne : w.heap.size ≠ sb := fun e => hfi (Or.inl e)
  have hbA : Below w.heap.size w (w.alloc (.cells #[.int .i64 k, .int .i64 s, .int .i64 t, .int .i64 d, .int .u32 m] 113)) := (Below.refl _ _).alloc (Nat.le_refl _) _
  have D0 : Hid (Dq (w.alloc (.cells #[.int .i64 k, .int .i64 s, .int .i64 t, .int .i64 d, .int .u32 m] 113)) w.heap.size sb S k s t d m) := Dq.start A ok k hs ht' hd m0 m1
  have B0 : Hid (DBus (w.alloc (.cells #[.int .i64 k, .int .i64 s, .int .i64 t, .int .i64 d, .int .u32 m] 113)) base db rb gb kb hb b wt ht vt) := B.stays hbA
  have K0 : Kept w (w.alloc (.cells #[.int .i64 k, .int .i64 s, .int .i64 t, .int .i64 d, .int .u32 m] 113)) (DM sb db gb hb vt) := Kept.of_below _ hbA
  clear A B hbA h45
  obtain ⟨to, e, S1, b1, ht1⟩ := x
  simp only at he hto ok1
  subst he
  subst hto
  rw [hkind] at hkd
  have hpl := fun W => plus2_any S1.nx 4 ok1.1 ok1.2 (by omega) (by omega) W
  show Calls _ _ _ _ (OnePost w sb base db rb gb kb hb wt vt (-1) S1.fix b1 ht1)
  go_enter Tryz.func69, Tryz.ntmps69
  go_upto_region 1 with fail
  generalize w.alloc (.cells #[.int .i64 k, .int .i64 s, .int .i64 t, .int .i64 d, .int .u32 m] 113) = W at *
  generalize w.heap.size = ib at *
  have i0 := D0.out.i0
  have i1 := D0.out.i1
  have i2 := D0.out.i2
  have i3 := D0.out.i3
  have i4 := D0.out.i4
  have hdo1 := hdo W D0.out.a B0.out
  clear hdo
  go_wp2_with fail
  refine hdo1.mono ?_
  rintro e_ w2 ⟨rfl, vt2, A2, B2, T2, M2⟩
  have K2 : Kept w w2 (DM sb db gb hb vt) := K0.trans T2 (fun _ _ h => h)
  have B2H : Hid (DBus w2 base db rb gb kb hb b1 wt ht1 vt2) := B2
  have MM : Hid (Moved w vt vt2) := fun k hk => (M2 k hk).imp id (fun e => Nat.le_trans K0.size e)
  have j0 : w2.cell? ⟨ib, 0, none⟩ = some (.int .i64 k) := T2.cell D0.out.i0 hfi
  clear i0 i1 i2 i3 i4 hdo1 B2 M2 T2 D0 B0 K0
  have qr := A2.reg (i := 0) (by omega)
  have fr := A2.fz 0
  obtain ⟨-, -, q34, q35, q36, -⟩ := A2.told
  have f34 := A2.fz 34
  have f35 := A2.fz 35
  have A3' := ((A2.putR 0 (by omega) 0).putPc S1.nx).putNx (lo (S1.nx + 4))
  have T3' := (((Kept.refl w2 (· = sb)).put 0 (.int .u32 0)).put 34 (.int .u32 S1.nx)).put 35 (.int .u32 (lo (S1.nx + 4)))
  generalize hnx : lo (S1.nx + 4) = nx' at *
  go_upto_region 15 with (go_at_call 102; refine (hpl _).mono ?_; rintro e2 w7 ⟨rfl, rfl⟩)
  clear q34 q35 q36 qr fr f34 f35
  generalize (((w2.setCell ⟨sb, 0, none⟩ (.int .u32 0)).setCell ⟨sb, 34, none⟩ (.int .u32 S1.nx)).setCell ⟨sb, 35, none⟩ (.int .u32 nx')) = w3 at *
  have A3 := A3'
  have T3 := T3'
  clear A3' T3' hpl
  have i0 : w3.cell? ⟨ib, 0, none⟩ = some (.int .i64 k) := T3.cell j0 hne
  clear j0
  go_wp2_with fail
  refine (hkd _).mono ?_
  rintro e_ w4 ⟨rfl, hb4⟩
  have A4 := A3.stays hb4
  have T4 : Kept w2 w4 (· = sb) := T3.trans (Kept.of_below _ hb4) (fun _ _ h => h)
  clear i0 hb4 hkd A3 T3
  obtain ⟨-, -, -, q35, q36, -⟩ := A4.told
  have f35 := A4.fz 35
  have f36 := A4.fz 36
  try simp only at q35 q36
  have A5 := A4.putSl false
  have T5 := T4.put 36 (.bool false)
  go_wp2
  go_ret
  exact ⟨rfl, vt2, by unfold St.fix; rw [hnx]; exact A5, B2H.out.st T5 ap, K2.trans T5.dmS (fun _ _ h => h), MM.out⟩
set_option maxRecDepth 100000 in
set_option maxHeartbeats 8000000 in
theorem oneIns_trap (A : StAt w sb S) (B : DBus w base db rb gb kb hb b wt ht vt) (ap : Dap sb base db rb gb kb hb) (hk : k < 54) (h45 : k ≠ 45) (hkind : Tab.kind k = [116, 114, 97, 112]) (x : DoA) (he : x.e = -1) (hto : x.to = -1) (ok1 : u32 x.S.nx) (hs : s < 32) (ht' : t < 32) (hd : d < 32) (m0 : 0 ≤ m) (m1 : m < 4294967296) (ok : S.ok)
    (hdo : ∀ W : World, StAt W sb S → DBus W base db rb gb kb hb b wt ht vt → Calls Tryz.prog 128 #[.pointer (some ⟨sb, 0, none⟩), .pointer (some ⟨db, 0, none⟩), .agg #[.int .i64 k, .int .i64 s, .int .i64 t, .int .i64 d, .int .u32 m]] W (DoPost W sb base db rb gb kb hb wt vt x)) :
    Calls Tryz.prog 69 #[.pointer (some ⟨sb, 0, none⟩), .pointer (some ⟨db, 0, none⟩), .agg #[.int .i64 k, .int .i64 s, .int .i64 t, .int .i64 d, .int .u32 m]] w (OnePost w sb base db rb gb kb hb wt vt (-1) x.S.fix x.b x.ht) := by
  have b45 := nk h45
  have hkd := fun W => kindD_any k hk W
  have hfi : ¬ DM sb db gb hb vt w.heap.size := DM.far B A (Nat.le_refl _)
  have hne : w.heap.size ≠ sb := fun e => hfi (Or.inl e)
  have hbA : Below w.heap.size w (w.alloc (.cells #[.int .i64 k, .int .i64 s, .int .i64 t, .int .i64 d, .int .u32 m] 113)) := (Below.refl _ _).alloc (Nat.le_refl _) _
  have D0 : Hid (Dq (w.alloc (.cells #[.int .i64 k, .int .i64 s, .int .i64 t, .int .i64 d, .int .u32 m] 113)) w.heap.size sb S k s t d m) := Dq.start A ok k hs ht' hd m0 m1
  have B0 : Hid (DBus (w.alloc (.cells #[.int .i64 k, .int .i64 s, .int .i64 t, .int .i64 d, .int .u32 m] 113)) base db rb gb kb hb b wt ht vt) := B.stays hbA
  have K0 : Kept w (w.alloc (.cells #[.int .i64 k, .int .i64 s, .int .i64 t, .int .i64 d, .int .u32 m] 113)) (DM sb db gb hb vt) := Kept.of_below _ hbA
  clear A B hbA h45
  obtain ⟨to, e, S1, b1, ht1⟩ := x
  simp only at he hto ok1
  subst he
  subst hto
  rw [hkind] at hkd
  have hpl := fun W => plus2_any S1.nx 4 ok1.1 ok1.2 (by omega) (by omega) W
  show Calls _ _ _ _ (OnePost w sb base db rb gb kb hb wt vt (-1) S1.fix b1 ht1)
  go_enter Tryz.func69, Tryz.ntmps69
  go_upto_region 1 with fail
  generalize w.alloc (.cells #[.int .i64 k, .int .i64 s, .int .i64 t, .int .i64 d, .int .u32 m] 113) = W at *
  generalize w.heap.size = ib at *
  have i0 := D0.out.i0
  have i1 := D0.out.i1
  have i2 := D0.out.i2
  have i3 := D0.out.i3
  have i4 := D0.out.i4
  have hdo1 := hdo W D0.out.a B0.out
  clear hdo
  go_wp2_with fail
  refine hdo1.mono ?_
  rintro e_ w2 ⟨rfl, vt2, A2, B2, T2, M2⟩
  have K2 : Kept w w2 (DM sb db gb hb vt) := K0.trans T2 (fun _ _ h => h)
  have B2H : Hid (DBus w2 base db rb gb kb hb b1 wt ht1 vt2) := B2
  have MM : Hid (Moved w vt vt2) := fun k hk => (M2 k hk).imp id (fun e => Nat.le_trans K0.size e)
  have j0 : w2.cell? ⟨ib, 0, none⟩ = some (.int .i64 k) := T2.cell D0.out.i0 hfi
  clear i0 i1 i2 i3 i4 hdo1 B2 M2 T2 D0 B0 K0
  have qr := A2.reg (i := 0) (by omega)
  have fr := A2.fz 0
  obtain ⟨-, -, q34, q35, q36, -⟩ := A2.told
  have f34 := A2.fz 34
  have f35 := A2.fz 35
  have A3' := ((A2.putR 0 (by omega) 0).putPc S1.nx).putNx (lo (S1.nx + 4))
  have T3' := (((Kept.refl w2 (· = sb)).put 0 (.int .u32 0)).put 34 (.int .u32 S1.nx)).put 35 (.int .u32 (lo (S1.nx + 4)))
  generalize hnx : lo (S1.nx + 4) = nx' at *
  go_upto_region 15 with (go_at_call 102; refine (hpl _).mono ?_; rintro e2 w7 ⟨rfl, rfl⟩)
  clear q34 q35 q36 qr fr f34 f35
  generalize (((w2.setCell ⟨sb, 0, none⟩ (.int .u32 0)).setCell ⟨sb, 34, none⟩ (.int .u32 S1.nx)).setCell ⟨sb, 35, none⟩ (.int .u32 nx')) = w3 at *
  have A3 := A3'
  have T3 := T3'
  clear A3' T3' hpl
  have i0 : w3.cell? ⟨ib, 0, none⟩ = some (.int .i64 k) := T3.cell j0 hne
  clear j0
  go_wp2_with fail
  refine (hkd _).mono ?_
  rintro e_ w4 ⟨rfl, hb4⟩
  have A4 := A3.stays hb4
  have T4 : Kept w2 w4 (· = sb) := T3.trans (Kept.of_below _ hb4) (fun _ _ h => h)
  clear i0 hb4 hkd A3 T3
  obtain ⟨-, -, -, q35, q36, -⟩ := A4.told
  have f35 := A4.fz 35
  have f36 := A4.fz 36
  try simp only at q35 q36
  have A5 := A4.putSl false
  have T5 := T4.put 36 (.bool false)
  go_wp2
  go_ret
  exact ⟨rfl, vt2, by unfold St.fix; rw [hnx]; exact A5, B2H.out.st T5 ap, K2.trans T5.dmS (fun _ _ h => h), MM.out⟩
set_option maxRecDepth 100000 in
set_option maxHeartbeats 8000000 in
theorem oneIns_sum (A : StAt w sb S) (B : DBus w base db rb gb kb hb b wt ht vt) (ap : Dap sb base db rb gb kb hb) (hk : k < 54) (h45 : k ≠ 45) (hkind : Tab.kind k = [115, 117, 109]) (x : DoA) (he : x.e = -1) (hto : x.to = -1) (ok1 : u32 x.S.nx) (hs : s < 32) (ht' : t < 32) (hd : d < 32) (m0 : 0 ≤ m) (m1 : m < 4294967296) (ok : S.ok)
    (hdo : ∀ W : World, StAt W sb S → DBus W base db rb gb kb hb b wt ht vt → Calls Tryz.prog 128 #[.pointer (some ⟨sb, 0, none⟩), .pointer (some ⟨db, 0, none⟩), .agg #[.int .i64 k, .int .i64 s, .int .i64 t, .int .i64 d, .int .u32 m]] W (DoPost W sb base db rb gb kb hb wt vt x)) :
    Calls Tryz.prog 69 #[.pointer (some ⟨sb, 0, none⟩), .pointer (some ⟨db, 0, none⟩), .agg #[.int .i64 k, .int .i64 s, .int .i64 t, .int .i64 d, .int .u32 m]] w (OnePost w sb base db rb gb kb hb wt vt (-1) x.S.fix x.b x.ht) := by
  have b45 := nk h45
  have hkd := fun W => kindD_any k hk W
  have hfi : ¬ DM sb db gb hb vt w.heap.size := DM.far B A (Nat.le_refl _)
  have hne : w.heap.size ≠ sb := fun e => hfi (Or.inl e)
  have hbA : Below w.heap.size w (w.alloc (.cells #[.int .i64 k, .int .i64 s, .int .i64 t, .int .i64 d, .int .u32 m] 113)) := (Below.refl _ _).alloc (Nat.le_refl _) _
  have D0 : Hid (Dq (w.alloc (.cells #[.int .i64 k, .int .i64 s, .int .i64 t, .int .i64 d, .int .u32 m] 113)) w.heap.size sb S k s t d m) := Dq.start A ok k hs ht' hd m0 m1
  have B0 : Hid (DBus (w.alloc (.cells #[.int .i64 k, .int .i64 s, .int .i64 t, .int .i64 d, .int .u32 m] 113)) base db rb gb kb hb b wt ht vt) := B.stays hbA
  have K0 : Kept w (w.alloc (.cells #[.int .i64 k, .int .i64 s, .int .i64 t, .int .i64 d, .int .u32 m] 113)) (DM sb db gb hb vt) := Kept.of_below _ hbA
  clear A B hbA h45
  obtain ⟨to, e, S1, b1, ht1⟩ := x
  simp only at he hto ok1
  subst he
  subst hto
  rw [hkind] at hkd
  have hpl := fun W => plus2_any S1.nx 4 ok1.1 ok1.2 (by omega) (by omega) W
  show Calls _ _ _ _ (OnePost w sb base db rb gb kb hb wt vt (-1) S1.fix b1 ht1)
  go_enter Tryz.func69, Tryz.ntmps69
  go_upto_region 1 with fail
  generalize w.alloc (.cells #[.int .i64 k, .int .i64 s, .int .i64 t, .int .i64 d, .int .u32 m] 113) = W at *
  generalize w.heap.size = ib at *
  have i0 := D0.out.i0
  have i1 := D0.out.i1
  have i2 := D0.out.i2
  have i3 := D0.out.i3
  have i4 := D0.out.i4
  have hdo1 := hdo W D0.out.a B0.out
  clear hdo
  go_wp2_with fail
  refine hdo1.mono ?_
  rintro e_ w2 ⟨rfl, vt2, A2, B2, T2, M2⟩
  have K2 : Kept w w2 (DM sb db gb hb vt) := K0.trans T2 (fun _ _ h => h)
  have B2H : Hid (DBus w2 base db rb gb kb hb b1 wt ht1 vt2) := B2
  have MM : Hid (Moved w vt vt2) := fun k hk => (M2 k hk).imp id (fun e => Nat.le_trans K0.size e)
  have j0 : w2.cell? ⟨ib, 0, none⟩ = some (.int .i64 k) := T2.cell D0.out.i0 hfi
  clear i0 i1 i2 i3 i4 hdo1 B2 M2 T2 D0 B0 K0
  have qr := A2.reg (i := 0) (by omega)
  have fr := A2.fz 0
  obtain ⟨-, -, q34, q35, q36, -⟩ := A2.told
  have f34 := A2.fz 34
  have f35 := A2.fz 35
  have A3' := ((A2.putR 0 (by omega) 0).putPc S1.nx).putNx (lo (S1.nx + 4))
  have T3' := (((Kept.refl w2 (· = sb)).put 0 (.int .u32 0)).put 34 (.int .u32 S1.nx)).put 35 (.int .u32 (lo (S1.nx + 4)))
  generalize hnx : lo (S1.nx + 4) = nx' at *
  go_upto_region 15 with (go_at_call 102; refine (hpl _).mono ?_; rintro e2 w7 ⟨rfl, rfl⟩)
  clear q34 q35 q36 qr fr f34 f35
  generalize (((w2.setCell ⟨sb, 0, none⟩ (.int .u32 0)).setCell ⟨sb, 34, none⟩ (.int .u32 S1.nx)).setCell ⟨sb, 35, none⟩ (.int .u32 nx')) = w3 at *
  have A3 := A3'
  have T3 := T3'
  clear A3' T3' hpl
  have i0 : w3.cell? ⟨ib, 0, none⟩ = some (.int .i64 k) := T3.cell j0 hne
  clear j0
  go_wp2_with fail
  refine (hkd _).mono ?_
  rintro e_ w4 ⟨rfl, hb4⟩
  have A4 := A3.stays hb4
  have T4 : Kept w2 w4 (· = sb) := T3.trans (Kept.of_below _ hb4) (fun _ _ h => h)
  clear i0 hb4 hkd A3 T3
  obtain ⟨-, -, -, q35, q36, -⟩ := A4.told
  have f35 := A4.fz 35
  have f36 := A4.fz 36
  try simp only at q35 q36
  have A5 := A4.putSl false
  have T5 := T4.put 36 (.bool false)
  go_wp2
  go_ret
  exact ⟨rfl, vt2, by unfold St.fix; rw [hnx]; exact A5, B2H.out.st T5 ap, K2.trans T5.dmS (fun _ _ h => h), MM.out⟩
set_option maxRecDepth 100000 in
set_option maxHeartbeats 8000000 in
theorem oneIns_brn (A : StAt w sb S) (B : DBus w base db rb gb kb hb b wt ht vt) (ap : Dap sb base db rb gb kb hb) (hk : k < 54) (h45 : k ≠ 45) (hkind : Tab.kind k = [98, 114, 97, 110, 99, 104]) (x : DoA) (he : x.e = -1) (hto : x.to = -1) (ok1 : u32 x.S.nx) (hs : s < 32) (ht' : t < 32) (hd : d < 32) (m0 : 0 ≤ m) (m1 : m < 4294967296) (ok : S.ok)
    (hdo : ∀ W : World, StAt W sb S → DBus W base db rb gb kb hb b wt ht vt → Calls Tryz.prog 128 #[.pointer (some ⟨sb, 0, none⟩), .pointer (some ⟨db, 0, none⟩), .agg #[.int .i64 k, .int .i64 s, .int .i64 t, .int .i64 d, .int .u32 m]] W (DoPost W sb base db rb gb kb hb wt vt x)) :
    Calls Tryz.prog 69 #[.pointer (some ⟨sb, 0, none⟩), .pointer (some ⟨db, 0, none⟩), .agg #[.int .i64 k, .int .i64 s, .int .i64 t, .int .i64 d, .int .u32 m]] w (OnePost w sb base db rb gb kb hb wt vt (-1) (x.S.fixB (-1)) x.b x.ht) := by
  have b45 := nk h45
  have hkd := fun W => kindD_any k hk W
  have hfi : ¬ DM sb db gb hb vt w.heap.size := DM.far B A (Nat.le_refl _)
  have hne : w.heap.size ≠ sb := fun e => hfi (Or.inl e)
  have hbA : Below w.heap.size w (w.alloc (.cells #[.int .i64 k, .int .i64 s, .int .i64 t, .int .i64 d, .int .u32 m] 113)) := (Below.refl _ _).alloc (Nat.le_refl _) _
  have D0 : Hid (Dq (w.alloc (.cells #[.int .i64 k, .int .i64 s, .int .i64 t, .int .i64 d, .int .u32 m] 113)) w.heap.size sb S k s t d m) := Dq.start A ok k hs ht' hd m0 m1
  have B0 : Hid (DBus (w.alloc (.cells #[.int .i64 k, .int .i64 s, .int .i64 t, .int .i64 d, .int .u32 m] 113)) base db rb gb kb hb b wt ht vt) := B.stays hbA
  have K0 : Kept w (w.alloc (.cells #[.int .i64 k, .int .i64 s, .int .i64 t, .int .i64 d, .int .u32 m] 113)) (DM sb db gb hb vt) := Kept.of_below _ hbA
  clear A B hbA h45
  obtain ⟨to, e, S1, b1, ht1⟩ := x
  simp only at he hto ok1
  subst he
  subst hto
  rw [hkind] at hkd
  have hpl := fun W => plus2_any S1.nx 4 ok1.1 ok1.2 (by omega) (by omega) W
  show Calls _ _ _ _ (OnePost w sb base db rb gb kb hb wt vt (-1) (S1.fixB (-1)) b1 ht1)
  go_enter Tryz.func69, Tryz.ntmps69
  go_upto_region 1 with fail
  generalize w.alloc (.cells #[.int .i64 k, .int .i64 s, .int .i64 t, .int .i64 d, .int .u32 m] 113) = W at *
  generalize w.heap.size = ib at *
  have i0 := D0.out.i0
  have i1 := D0.out.i1
  have i2 := D0.out.i2
  have i3 := D0.out.i3
  have i4 := D0.out.i4
  have hdo1 := hdo W D0.out.a B0.out
  clear hdo
  go_wp2_with fail
  refine hdo1.mono ?_
  rintro e_ w2 ⟨rfl, vt2, A2, B2, T2, M2⟩
  have K2 : Kept w w2 (DM sb db gb hb vt) := K0.trans T2 (fun _ _ h => h)
  have B2H : Hid (DBus w2 base db rb gb kb hb b1 wt ht1 vt2) := B2
  have MM : Hid (Moved w vt vt2) := fun k hk => (M2 k hk).imp id (fun e => Nat.le_trans K0.size e)
  have j0 : w2.cell? ⟨ib, 0, none⟩ = some (.int .i64 k) := T2.cell D0.out.i0 hfi
  clear i0 i1 i2 i3 i4 hdo1 B2 M2 T2 D0 B0 K0
  have qr := A2.reg (i := 0) (by omega)
  have fr := A2.fz 0
  obtain ⟨-, -, q34, q35, q36, -⟩ := A2.told
  have f34 := A2.fz 34
  have f35 := A2.fz 35
  have A3' := ((A2.putR 0 (by omega) 0).putPc S1.nx).putNx (lo (S1.nx + 4))
  have T3' := (((Kept.refl w2 (· = sb)).put 0 (.int .u32 0)).put 34 (.int .u32 S1.nx)).put 35 (.int .u32 (lo (S1.nx + 4)))
  generalize hnx : lo (S1.nx + 4) = nx' at *
  go_upto_region 15 with (go_at_call 102; refine (hpl _).mono ?_; rintro e2 w7 ⟨rfl, rfl⟩)
  clear q34 q35 q36 qr fr f34 f35
  generalize (((w2.setCell ⟨sb, 0, none⟩ (.int .u32 0)).setCell ⟨sb, 34, none⟩ (.int .u32 S1.nx)).setCell ⟨sb, 35, none⟩ (.int .u32 nx')) = w3 at *
  have A3 := A3'
  have T3 := T3'
  clear A3' T3' hpl
  have i0 : w3.cell? ⟨ib, 0, none⟩ = some (.int .i64 k) := T3.cell j0 hne
  clear j0
  go_wp2_with fail
  refine (hkd _).mono ?_
  rintro e_ w4 ⟨rfl, hb4⟩
  have A4 := A3.stays hb4
  have T4 : Kept w2 w4 (· = sb) := T3.trans (Kept.of_below _ hb4) (fun _ _ h => h)
  clear i0 hb4 hkd A3 T3
  obtain ⟨-, -, -, q35, q36, -⟩ := A4.told
  have f35 := A4.fz 35
  have f36 := A4.fz 36
  try simp only at q35 q36
  have A5 := A4.putSl true
  have T5 := T4.put 36 (.bool true)
  go_wp2
  go_ret
  exact ⟨rfl, vt2, by unfold St.fixB; rw [if_neg (by omega), hnx]; exact A5, B2H.out.st T5 ap, K2.trans T5.dmS (fun _ _ h => h), MM.out⟩
set_option maxRecDepth 100000 in
set_option maxHeartbeats 8000000 in
theorem oneIns_brt (A : StAt w sb S) (B : DBus w base db rb gb kb hb b wt ht vt) (ap : Dap sb base db rb gb kb hb) (hk : k < 54) (h45 : k ≠ 45) (hkind : Tab.kind k = [98, 114, 97, 110, 99, 104]) (x : DoA) (he : x.e = -1) (hto : u32 x.to) (ok1 : u32 x.S.nx) (hs : s < 32) (ht' : t < 32) (hd : d < 32) (m0 : 0 ≤ m) (m1 : m < 4294967296) (ok : S.ok)
    (hdo : ∀ W : World, StAt W sb S → DBus W base db rb gb kb hb b wt ht vt → Calls Tryz.prog 128 #[.pointer (some ⟨sb, 0, none⟩), .pointer (some ⟨db, 0, none⟩), .agg #[.int .i64 k, .int .i64 s, .int .i64 t, .int .i64 d, .int .u32 m]] W (DoPost W sb base db rb gb kb hb wt vt x)) :
    Calls Tryz.prog 69 #[.pointer (some ⟨sb, 0, none⟩), .pointer (some ⟨db, 0, none⟩), .agg #[.int .i64 k, .int .i64 s, .int .i64 t, .int .i64 d, .int .u32 m]] w (OnePost w sb base db rb gb kb hb wt vt (-1) (x.S.fixB x.to) x.b x.ht) := by
  have b45 := nk h45
  have hkd := fun W => kindD_any k hk W
  have hfi : ¬ DM sb db gb hb vt w.heap.size := DM.far B A (Nat.le_refl _)
  have hne : w.heap.size ≠ sb := fun e => hfi (Or.inl e)
  have hbA : Below w.heap.size w (w.alloc (.cells #[.int .i64 k, .int .i64 s, .int .i64 t, .int .i64 d, .int .u32 m] 113)) := (Below.refl _ _).alloc (Nat.le_refl _) _
  have D0 : Hid (Dq (w.alloc (.cells #[.int .i64 k, .int .i64 s, .int .i64 t, .int .i64 d, .int .u32 m] 113)) w.heap.size sb S k s t d m) := Dq.start A ok k hs ht' hd m0 m1
  have B0 : Hid (DBus (w.alloc (.cells #[.int .i64 k, .int .i64 s, .int .i64 t, .int .i64 d, .int .u32 m] 113)) base db rb gb kb hb b wt ht vt) := B.stays hbA
  have K0 : Kept w (w.alloc (.cells #[.int .i64 k, .int .i64 s, .int .i64 t, .int .i64 d, .int .u32 m] 113)) (DM sb db gb hb vt) := Kept.of_below _ hbA
  clear A B hbA h45
  obtain ⟨to, e, S1, b1, ht1⟩ := x
  simp only at he hto ok1
  subst he
  obtain ⟨to0, to1⟩ := hto
  rw [hkind] at hkd
  have hpl := fun W => plus2_any S1.nx 4 ok1.1 ok1.2 (by omega) (by omega) W
  show Calls _ _ _ _ (OnePost w sb base db rb gb kb hb wt vt (-1) (S1.fixB to) b1 ht1)
  go_enter Tryz.func69, Tryz.ntmps69
  go_upto_region 1 with fail
  generalize w.alloc (.cells #[.int .i64 k, .int .i64 s, .int .i64 t, .int .i64 d, .int .u32 m] 113) = W at *
  generalize w.heap.size = ib at *
  have i0 := D0.out.i0
  have i1 := D0.out.i1
  have i2 := D0.out.i2
  have i3 := D0.out.i3
  have i4 := D0.out.i4
  have hdo1 := hdo W D0.out.a B0.out
  clear hdo
  go_wp2_with fail
  refine hdo1.mono ?_
  rintro e_ w2 ⟨rfl, vt2, A2, B2, T2, M2⟩
  have K2 : Kept w w2 (DM sb db gb hb vt) := K0.trans T2 (fun _ _ h => h)
  have B2H : Hid (DBus w2 base db rb gb kb hb b1 wt ht1 vt2) := B2
  have MM : Hid (Moved w vt vt2) := fun k hk => (M2 k hk).imp id (fun e => Nat.le_trans K0.size e)
  have j0 : w2.cell? ⟨ib, 0, none⟩ = some (.int .i64 k) := T2.cell D0.out.i0 hfi
  clear i0 i1 i2 i3 i4 hdo1 B2 M2 T2 D0 B0 K0
  have qr := A2.reg (i := 0) (by omega)
  have fr := A2.fz 0
  obtain ⟨-, -, q34, q35, q36, -⟩ := A2.told
  have f34 := A2.fz 34
  have f35 := A2.fz 35
  have A3' := ((A2.putR 0 (by omega) 0).putPc S1.nx).putNx (lo (S1.nx + 4))
  have T3' := (((Kept.refl w2 (· = sb)).put 0 (.int .u32 0)).put 34 (.int .u32 S1.nx)).put 35 (.int .u32 (lo (S1.nx + 4)))
  generalize hnx : lo (S1.nx + 4) = nx' at *
  go_upto_region 15 with (go_at_call 102; refine (hpl _).mono ?_; rintro e2 w7 ⟨rfl, rfl⟩)
  clear q34 q35 q36 qr fr f34 f35
  generalize (((w2.setCell ⟨sb, 0, none⟩ (.int .u32 0)).setCell ⟨sb, 34, none⟩ (.int .u32 S1.nx)).setCell ⟨sb, 35, none⟩ (.int .u32 nx')) = w3 at *
  have A3 := A3'
  have T3 := T3'
  clear A3' T3' hpl
  have i0 : w3.cell? ⟨ib, 0, none⟩ = some (.int .i64 k) := T3.cell j0 hne
  clear j0
  go_wp2_with fail
  refine (hkd _).mono ?_
  rintro e_ w4 ⟨rfl, hb4⟩
  have A4 := A3.stays hb4
  have T4 : Kept w2 w4 (· = sb) := T3.trans (Kept.of_below _ hb4) (fun _ _ h => h)
  clear i0 hb4 hkd A3 T3
  obtain ⟨-, -, -, q35, q36, -⟩ := A4.told
  have f35 := A4.fz 35
  have f36 := A4.fz 36
  try simp only at q35 q36
  have A5 := (A4.putSl true).putNx to
  have T5 := (T4.put 36 (.bool true)).put 35 (.int .u32 to)
  go_wp2
  go_ret
  exact ⟨rfl, vt2, by unfold St.fixB; rw [if_pos to0]; exact A5, B2H.out.st T5 ap, K2.trans T5.dmS (fun _ _ h => h), MM.out⟩
set_option maxRecDepth 100000 in
set_option maxHeartbeats 8000000 in
theorem eret_shallow (A : StAt w sb S) (B : DBus w base db rb gb kb hb b wt ht vt) (ap : Dap sb base db rb gb kb hb) (h45 : k = 45) (hst : bits .and .u32 S.st 2 = 0) (hs : s < 32) (ht' : t < 32) (hd : d < 32) (m0 : 0 ≤ m) (m1 : m < 4294967296) (ok : S.ok) :
    Calls Tryz.prog 69 #[.pointer (some ⟨sb, 0, none⟩), .pointer (some ⟨db, 0, none⟩), .agg #[.int .i64 k, .int .i64 s, .int .i64 t, .int .i64 d, .int .u32 m]] w (OnePost w sb base db rb gb kb hb wt vt (backP S).1 (backP S).2 b ht) := by
  subst h45
  have hbo := fun W => bitOf_any S.st 1 ok.st.1 ok.st.2 (by omega) (by omega) W
  simp only [pw1] at hbo
  have hbA : Below w.heap.size w (w.alloc (.cells #[.int .i64 45, .int .i64 s, .int .i64 t, .int .i64 d, .int .u32 m] 113)) := (Below.refl _ _).alloc (Nat.le_refl _) _
  have D0 : Hid (Dq (w.alloc (.cells #[.int .i64 45, .int .i64 s, .int .i64 t, .int .i64 d, .int .u32 m] 113)) w.heap.size sb S 45 s t d m) := Dq.start A ok 45 hs ht' hd m0 m1
  have B0 : Hid (DBus (w.alloc (.cells #[.int .i64 45, .int .i64 s, .int .i64 t, .int .i64 d, .int .u32 m] 113)) base db rb gb kb hb b wt ht vt) := B.stays hbA
  have K0 : Kept w (w.alloc (.cells #[.int .i64 45, .int .i64 s, .int .i64 t, .int .i64 d, .int .u32 m] 113)) (DM sb db gb hb vt) := Kept.of_below _ hbA
  clear A B hbA
  have X : backP S = (10, S) := by unfold backP; rw [if_pos (Or.inl hst)]
  rw [X]
  clear X
  have hb0 : (S.st / 2 % 2 == 1) = false := by rw [and2_eq ok.st.1 ok.st.2] at hst; simp; omega
  clear hst
  show Calls _ _ _ _ (OnePost w sb base db rb gb kb hb wt vt 10 S b ht)
  go_enter Tryz.func69, Tryz.ntmps69
  go_upto_region 1 with fail
  generalize w.alloc (.cells #[.int .i64 45, .int .i64 s, .int .i64 t, .int .i64 d, .int .u32 m] 113) = W at *
  generalize w.heap.size = ib at *
  have i0 := D0.out.i0
  have A0 := D0.out.a
  obtain ⟨-, -, -, -, q36, q37, -⟩ := A0.told
  go_wp2_with (go_at_call 98; refine (hbo _).mono ?_; rintro e2 w7 ⟨rfl, rfl⟩)
  go_ret
  exact ⟨rfl, vt, A0, B0.out, K0, Moved.refl _ _⟩
set_option maxRecDepth 100000 in
set_option maxHeartbeats 8000000 in
theorem eret_slot (A : StAt w sb S) (B : DBus w base db rb gb kb hb b wt ht vt) (ap : Dap sb base db rb gb kb hb) (h45 : k = 45) (hst : ¬ bits .and .u32 S.st 2 = 0) (hsl : S.sl = true) (hs : s < 32) (ht' : t < 32) (hd : d < 32) (m0 : 0 ≤ m) (m1 : m < 4294967296) (ok : S.ok) :
    Calls Tryz.prog 69 #[.pointer (some ⟨sb, 0, none⟩), .pointer (some ⟨db, 0, none⟩), .agg #[.int .i64 k, .int .i64 s, .int .i64 t, .int .i64 d, .int .u32 m]] w (OnePost w sb base db rb gb kb hb wt vt (backP S).1 (backP S).2 b ht) := by
  subst h45
  have hbo := fun W => bitOf_any S.st 1 ok.st.1 ok.st.2 (by omega) (by omega) W
  simp only [pw1] at hbo
  have hbA : Below w.heap.size w (w.alloc (.cells #[.int .i64 45, .int .i64 s, .int .i64 t, .int .i64 d, .int .u32 m] 113)) := (Below.refl _ _).alloc (Nat.le_refl _) _
  have D0 : Hid (Dq (w.alloc (.cells #[.int .i64 45, .int .i64 s, .int .i64 t, .int .i64 d, .int .u32 m] 113)) w.heap.size sb S 45 s t d m) := Dq.start A ok 45 hs ht' hd m0 m1
  have B0 : Hid (DBus (w.alloc (.cells #[.int .i64 45, .int .i64 s, .int .i64 t, .int .i64 d, .int .u32 m] 113)) base db rb gb kb hb b wt ht vt) := B.stays hbA
  have K0 : Kept w (w.alloc (.cells #[.int .i64 45, .int .i64 s, .int .i64 t, .int .i64 d, .int .u32 m] 113)) (DM sb db gb hb vt) := Kept.of_below _ hbA
  clear A B hbA
  have X : backP S = (10, S) := by unfold backP; rw [if_pos (Or.inr hsl)]
  rw [X]
  clear X
  have hb0 : (S.st / 2 % 2 == 1) = true := by rw [and2_eq ok.st.1 ok.st.2] at hst; simp; omega
  clear hst
  show Calls _ _ _ _ (OnePost w sb base db rb gb kb hb wt vt 10 S b ht)
  go_enter Tryz.func69, Tryz.ntmps69
  go_upto_region 1 with fail
  generalize w.alloc (.cells #[.int .i64 45, .int .i64 s, .int .i64 t, .int .i64 d, .int .u32 m] 113) = W at *
  generalize w.heap.size = ib at *
  have i0 := D0.out.i0
  have A0 := D0.out.a
  obtain ⟨-, -, -, -, q36, q37, -⟩ := A0.told
  rw [hsl] at q36
  go_wp2_with (go_at_call 98; refine (hbo _).mono ?_; rintro e2 w7 ⟨rfl, rfl⟩)
  go_ret
  exact ⟨rfl, vt, A0, B0.out, K0, Moved.refl _ _⟩
set_option maxRecDepth 100000 in
set_option maxHeartbeats 8000000 in
theorem eret_on (A : StAt w sb S) (B : DBus w base db rb gb kb hb b wt ht vt) (ap : Dap sb base db rb gb kb hb) (h45 : k = 45) (hst : ¬ bits .and .u32 S.st 2 = 0) (hsl : S.sl = false) (hs : s < 32) (ht' : t < 32) (hd : d < 32) (m0 : 0 ≤ m) (m1 : m < 4294967296) (ok : S.ok) :
    Calls Tryz.prog 69 #[.pointer (some ⟨sb, 0, none⟩), .pointer (some ⟨db, 0, none⟩), .agg #[.int .i64 k, .int .i64 s, .int .i64 t, .int .i64 d, .int .u32 m]] w (OnePost w sb base db rb gb kb hb wt vt (backP S).1 (backP S).2 b ht) := by
  subst h45
  have hbo := fun W => bitOf_any S.st 1 ok.st.1 ok.st.2 (by omega) (by omega) W
  simp only [pw1] at hbo
  have hbA : Below w.heap.size w (w.alloc (.cells #[.int .i64 45, .int .i64 s, .int .i64 t, .int .i64 d, .int .u32 m] 113)) := (Below.refl _ _).alloc (Nat.le_refl _) _
  have D0 : Hid (Dq (w.alloc (.cells #[.int .i64 45, .int .i64 s, .int .i64 t, .int .i64 d, .int .u32 m] 113)) w.heap.size sb S 45 s t d m) := Dq.start A ok 45 hs ht' hd m0 m1
  have B0 : Hid (DBus (w.alloc (.cells #[.int .i64 45, .int .i64 s, .int .i64 t, .int .i64 d, .int .u32 m] 113)) base db rb gb kb hb b wt ht vt) := B.stays hbA
  have K0 : Kept w (w.alloc (.cells #[.int .i64 45, .int .i64 s, .int .i64 t, .int .i64 d, .int .u32 m] 113)) (DM sb db gb hb vt) := Kept.of_below _ hbA
  clear A B hbA
  have X : backP S = (-1, { S with pc := S.ep, nx := lo (S.ep + 4), sl := false, st := bits .andNot .u32 S.st 2 }) := by unfold backP; rw [if_neg (by rintro (h | h); exact hst h; rw [hsl] at h; exact absurd h (by decide))]; rfl
  rw [X]
  clear X
  have hb0 : (S.st / 2 % 2 == 1) = true := by rw [and2_eq ok.st.1 ok.st.2] at hst; simp; omega
  clear hst
  have hwb := fun W => withBit_any S.st 1 2 false ok.st.1 ok.st.2 (by omega) (by omega) pw1 (by omega) (by omega) W
  have est : lo (S.st - S.st / 2 % 2 * 2 + if false = true then 2 else 0) = bits .andNot .u32 S.st 2 := by
    have := ok.st.1; have := ok.st.2
    rw [andNot2_eq ok.st.1 ok.st.2, if_neg (by decide)]; unfold Num.lo; omega
  simp only [est] at hwb
  have hpl := fun W => plus2_any S.ep 4 ok.ep.1 ok.ep.2 (by omega) (by omega) W
  clear est
  generalize lo (S.ep + 4) = nx' at *
  generalize bits .andNot .u32 S.st 2 = st' at *
  show Calls _ _ _ _ (OnePost w sb base db rb gb kb hb wt vt (-1) { S with pc := S.ep, nx := nx', sl := false, st := st' } b ht)
  go_enter Tryz.func69, Tryz.ntmps69
  go_upto_region 1 with fail
  generalize w.alloc (.cells #[.int .i64 45, .int .i64 s, .int .i64 t, .int .i64 d, .int .u32 m] 113) = W at *
  generalize w.heap.size = ib at *
  have i0 := D0.out.i0
  have A0 := D0.out.a
  obtain ⟨-, -, q34, q35, q36, q37, -, q39, -⟩ := A0.told
  have f34 := A0.fz 34
  have f35 := A0.fz 35
  have f37 := A0.fz 37
  have A5 := ((A0.putPc S.ep).putNx nx').putSt st'
  have T5 := (((Kept.refl W (· = sb)).put 34 (.int .u32 S.ep)).put 35 (.int .u32 nx')).put 37 (.int .u32 st')
  rw [hsl] at q36
  go_wp2_with (first | (go_at_call 98; refine (hbo _).mono ?_; rintro e2 w7 ⟨rfl, rfl⟩) | (go_at_call 102; refine (hpl _).mono ?_; rintro e2 w7 ⟨rfl, rfl⟩) | (go_at_call 103; refine (hwb _).mono ?_; rintro e2 w7 ⟨rfl, rfl⟩))
  go_ret
  have hS : { S with pc := S.ep, nx := nx', st := st' } = { S with pc := S.ep, nx := nx', sl := false, st := st' } := by rw [← hsl]
  exact ⟨rfl, vt, hS ▸ A5, B0.out.st T5 ap, K0.trans T5.dmS (fun _ _ h => h), Moved.refl _ _⟩
end
end Go.Proofs.YtflagpkmebdckaaGreatDoor
