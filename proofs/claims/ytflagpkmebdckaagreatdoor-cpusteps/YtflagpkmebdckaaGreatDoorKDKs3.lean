/-
  Sums: with a number.
-/
import Derived.Test.YtflagpkmebdckaaGreatDoorKSp
import Derived.Test.YtflagpkmebdckaaGreatDoorKCpu1
import Derived.Test.YtflagpkmebdckaaGreatDoorKDK0
import Derived.Test.YtflagpkmebdckaaGreatDoorQDKs1
namespace Go.Proofs.YtflagpkmebdckaaGreatDoor
open Go.RowKit Go.Maps
open Num
set_option linter.unusedVariables false
section
variable {w : World} {sb : Nat} {S : St} {k s t d : Nat} {m : Int}
set_option maxRecDepth 100000 in
set_option maxHeartbeats 8000000 in
theorem sumd_39 (A : StAt w sb S) (ok : S.ok) (hs : s < 32) (ht : t < 32) (hd : d < 32) (m0 : 0 ≤ m) (m1 : m < 4294967296) (hk : k = 39) : Calls Tryz.prog 195 #[.pointer (some ⟨sb, 0, none⟩), .agg #[.int .i64 k, .int .i64 s, .int .i64 t, .int .i64 d, .int .u32 m]] w fun e w' => e = .returned (.int .i64 (sumD S k s t d m).1) ∧ StAt w' sb (sumD S k s t d m).2 ∧ Kept w w' (· = sb) := by
  subst hk
  have X : sumD S 39 s t d m = (-1, S.putR t (resI S 39 (S.r s) m)) := rfl
  rw [X]
  clear X
  have hk1 := fun W => kindOfD_any 39 (by unfold isK; omega) W
  have hk2 := fun W => sumK_any S 39 (by unfold isK; omega) (S.r s) (m) (ok.r s) ⟨m0, m1⟩ W
  generalize resI S 39 (S.r s) (m) = y at *
  generalize kindS (kdx 39) = ks at *
  have D0 : Hid (Dq (w.alloc (.cells #[.int .i64 39, .int .i64 s, .int .i64 t, .int .i64 d, .int .u32 m] 113)) w.heap.size sb S 39 s t d m) := Dq.start A ok 39 hs ht hd m0 m1
  have K0 : Kept w (w.alloc (.cells #[.int .i64 39, .int .i64 s, .int .i64 t, .int .i64 d, .int .u32 m] 113)) (· = sb) := Kept.of_below _ ((Below.refl _ _).alloc (Nat.le_refl _) _)
  clear A
  go_enter Tryz.func195, Tryz.ntmps195
  go_upto_region 1 with fail
  generalize w.alloc (.cells #[.int .i64 39, .int .i64 s, .int .i64 t, .int .i64 d, .int .u32 m] 113) = W at *
  generalize w.heap.size = ib at *
  have i0 := D0.out.i0
  have i1 := D0.out.i1
  have i2 := D0.out.i2
  have i3 := D0.out.i3
  have i4 := D0.out.i4
  have qs := D0.out.a.reg D0.out.hs
  have fs := D0.out.a.fz s
  have hs' : (s : Int) < 32 := by have := D0.out.hs; omega
  have qt := D0.out.a.reg D0.out.ht
  have ft := D0.out.a.fz t
  have ht' : (t : Int) < 32 := by have := D0.out.ht; omega
  clear i0 i3 i4
  go_upto_region 1 with fail
  refine wp_region_phase 8 [(0, 0), (1, 0), (2, 1), (3, 0), (4, 0), (5, 0), (6, 1), (7, 0)] (fun W => Dq W ib sb S 39 s t d m) (by kernel_rfl) (by kernel_rfl) (fun _ _ _ d _ h => by cases d <;> first | exact h | exact Dq.drew h) D0.out.drew ?_
  repeat (first | (refine wpPlanZ_free (by rfl) (by rfl) (fun W => by (go_simp; try with_reducible rfl)) (fun K hK => ?_); go_simp; refine hK _ ?_; clear hK K) | (refine wpPlanZ_quiet (by rfl) (by rfl) (fun W hW => by (have i1 := hW.i1; have qs := hW.a.reg hW.hs; go_simp; try with_reducible rfl)) (fun K hK => ?_); go_simp; refine hK _ ?_; clear hK K))
  refine wpPlanZ_nil ?_
  have D1 : Hid (Dq W.drew ib sb S 39 s t d m) := D0.out.drew
  have K1 : Kept w W.drew (· = sb) := K0.trans (Kept.drew _ _) (fun _ _ h => h)
  clear qt ft qs fs i1 i2
  generalize W.drew = W1 at *
  clear D0 K0
  have i2 := D1.out.i2
  have qt := D1.out.a.reg D1.out.ht
  go_upto_region 2 with fail
  refine wp_region_phase 8 [(0, 0), (1, 0), (2, 1), (3, 0), (4, 0), (5, 0), (6, 1), (7, 0)] (fun W => Dq W ib sb S 39 s t d m) (by kernel_rfl) (by kernel_rfl) (fun _ _ _ d _ h => by cases d <;> first | exact h | exact Dq.drew h) D1.out.drew ?_
  repeat (first | (refine wpPlanZ_free (by rfl) (by rfl) (fun W => by (go_simp; try with_reducible rfl)) (fun K hK => ?_); go_simp; refine hK _ ?_; clear hK K) | (refine wpPlanZ_quiet (by rfl) (by rfl) (fun W hW => by (have i2 := hW.i2; have qt := hW.a.reg hW.ht; go_simp; try with_reducible rfl)) (fun K hK => ?_); go_simp; refine hK _ ?_; clear hK K))
  refine wpPlanZ_nil ?_
  have D0 : Hid (Dq W1.drew ib sb S 39 s t d m) := D1.out.drew
  have K0 : Kept w W1.drew (· = sb) := K1.trans (Kept.drew _ _) (fun _ _ h => h)
  clear qt i2
  generalize W1.drew = W at *
  clear D1 K1 W1
  have i0 := D0.out.i0
  have qt := D0.out.a.reg D0.out.ht
  have ft := D0.out.a.fz t
  have ht' : (t : Int) < 32 := by have := D0.out.ht; omega
  go_upto_region 43 with fail
  clear i0
  refine wp_region_phase 13 [(0, 0), (1, 0), (2, 1), (3, 0), (4, 1), (6, 0), (7, 0), (8, 1), (10, 0), (11, 0), (5, 2), (9, 2), (12, 0), (13, 2)] (fun W => Dq W ib sb S 39 s t d m) (by kernel_rfl) (by kernel_rfl) (fun _ _ _ d _ h => by cases d <;> first | exact h | exact Dq.drew h) D0.out.drew ?_
  repeat (first | (refine wpPlanZ_free (by rfl) (by rfl) (fun W => by (go_simp; try with_reducible rfl)) (fun K hK => ?_); go_simp; refine hK _ ?_; clear hK K) | (refine wpPlanZ_quiet (by rfl) (by rfl) (fun W hW => by (have i2 := hW.i2; have i0 := hW.i0; have i4 := hW.i4; go_simp; try with_reducible rfl)) (fun K hK => ?_); go_simp; refine hK _ ?_; clear hK K))
  refine wpPlanZ_serial (by rfl) (by rfl) (fun K hK => ?_)
  go_simp
  refine (hk1 _).mono ?_
  rintro e_ w_ ⟨rfl, rfl⟩
  refine hK _ _ (fun _ => D0.out.drew) ?_
  clear hK K
  repeat (first | (refine wpPlanZ_free (by rfl) (by rfl) (fun W => by (go_simp; try with_reducible rfl)) (fun K hK => ?_); go_simp; refine hK _ ?_; clear hK K) | (refine wpPlanZ_quiet (by rfl) (by rfl) (fun W hW => by (have i2 := hW.i2; have i0 := hW.i0; have i4 := hW.i4; go_simp; try with_reducible rfl)) (fun K hK => ?_); go_simp; refine hK _ ?_; clear hK K))
  refine wpPlanZ_serial (by rfl) (by rfl) (fun K hK => ?_)
  go_simp
  refine (hk2 _).mono ?_
  rintro e_ w_ ⟨rfl, rfl⟩
  refine hK _ _ (fun _ => D0.out.drew) ?_
  clear hK K
  repeat (first | (refine wpPlanZ_free (by rfl) (by rfl) (fun W => by (go_simp; try with_reducible rfl)) (fun K hK => ?_); go_simp; refine hK _ ?_; clear hK K) | (refine wpPlanZ_quiet (by rfl) (by rfl) (fun W hW => by (have i2 := hW.i2; have i0 := hW.i0; have i4 := hW.i4; go_simp; try with_reducible rfl)) (fun K hK => ?_); go_simp; refine hK _ ?_; clear hK K))
  refine wpPlanZ_serial (by rfl) (by rfl) (fun K hK => ?_)
  go_simp
  refine hK _ _ (fun h => absurd h (by decide)) ?_
  clear hK K
  refine wpPlanZ_nil ?_
  refine ck (R := fun W' => StAt W' sb (S.putR t y) ∧ Kept W W' (· = sb)) ?_ (fun w1 ⟨A1, T1⟩ => ?_)
  · exact ⟨(D0.out.a.putR t D0.out.ht _).drew, (Kept.put (Kept.refl W _) _ _).trans (Kept.drew _ _) (fun _ _ h => h)⟩
  clear qt ft
  go_wp2
  go_ret
  exact ⟨rfl, A1, K0.trans T1 (fun _ _ h => h)⟩
set_option maxRecDepth 100000 in
set_option maxHeartbeats 8000000 in
theorem sumd_40 (A : StAt w sb S) (ok : S.ok) (hs : s < 32) (ht : t < 32) (hd : d < 32) (m0 : 0 ≤ m) (m1 : m < 4294967296) (hk : k = 40) : Calls Tryz.prog 195 #[.pointer (some ⟨sb, 0, none⟩), .agg #[.int .i64 k, .int .i64 s, .int .i64 t, .int .i64 d, .int .u32 m]] w fun e w' => e = .returned (.int .i64 (sumD S k s t d m).1) ∧ StAt w' sb (sumD S k s t d m).2 ∧ Kept w w' (· = sb) := by
  subst hk
  have X : sumD S 40 s t d m = (-1, S.putR t (resI S 40 (S.r s) m)) := rfl
  rw [X]
  clear X
  have hk1 := fun W => kindOfD_any 40 (by unfold isK; omega) W
  have hk2 := fun W => sumK_any S 40 (by unfold isK; omega) (S.r s) (m) (ok.r s) ⟨m0, m1⟩ W
  generalize resI S 40 (S.r s) (m) = y at *
  generalize kindS (kdx 40) = ks at *
  have D0 : Hid (Dq (w.alloc (.cells #[.int .i64 40, .int .i64 s, .int .i64 t, .int .i64 d, .int .u32 m] 113)) w.heap.size sb S 40 s t d m) := Dq.start A ok 40 hs ht hd m0 m1
  have K0 : Kept w (w.alloc (.cells #[.int .i64 40, .int .i64 s, .int .i64 t, .int .i64 d, .int .u32 m] 113)) (· = sb) := Kept.of_below _ ((Below.refl _ _).alloc (Nat.le_refl _) _)
  clear A
  go_enter Tryz.func195, Tryz.ntmps195
  go_upto_region 1 with fail
  generalize w.alloc (.cells #[.int .i64 40, .int .i64 s, .int .i64 t, .int .i64 d, .int .u32 m] 113) = W at *
  generalize w.heap.size = ib at *
  have i0 := D0.out.i0
  have i1 := D0.out.i1
  have i2 := D0.out.i2
  have i3 := D0.out.i3
  have i4 := D0.out.i4
  have qs := D0.out.a.reg D0.out.hs
  have fs := D0.out.a.fz s
  have hs' : (s : Int) < 32 := by have := D0.out.hs; omega
  have qt := D0.out.a.reg D0.out.ht
  have ft := D0.out.a.fz t
  have ht' : (t : Int) < 32 := by have := D0.out.ht; omega
  clear i0 i3 i4
  go_upto_region 1 with fail
  refine wp_region_phase 8 [(0, 0), (1, 0), (2, 1), (3, 0), (4, 0), (5, 0), (6, 1), (7, 0)] (fun W => Dq W ib sb S 40 s t d m) (by kernel_rfl) (by kernel_rfl) (fun _ _ _ d _ h => by cases d <;> first | exact h | exact Dq.drew h) D0.out.drew ?_
  repeat (first | (refine wpPlanZ_free (by rfl) (by rfl) (fun W => by (go_simp; try with_reducible rfl)) (fun K hK => ?_); go_simp; refine hK _ ?_; clear hK K) | (refine wpPlanZ_quiet (by rfl) (by rfl) (fun W hW => by (have i1 := hW.i1; have qs := hW.a.reg hW.hs; go_simp; try with_reducible rfl)) (fun K hK => ?_); go_simp; refine hK _ ?_; clear hK K))
  refine wpPlanZ_nil ?_
  have D1 : Hid (Dq W.drew ib sb S 40 s t d m) := D0.out.drew
  have K1 : Kept w W.drew (· = sb) := K0.trans (Kept.drew _ _) (fun _ _ h => h)
  clear qt ft qs fs i1 i2
  generalize W.drew = W1 at *
  clear D0 K0
  have i2 := D1.out.i2
  have qt := D1.out.a.reg D1.out.ht
  go_upto_region 2 with fail
  refine wp_region_phase 8 [(0, 0), (1, 0), (2, 1), (3, 0), (4, 0), (5, 0), (6, 1), (7, 0)] (fun W => Dq W ib sb S 40 s t d m) (by kernel_rfl) (by kernel_rfl) (fun _ _ _ d _ h => by cases d <;> first | exact h | exact Dq.drew h) D1.out.drew ?_
  repeat (first | (refine wpPlanZ_free (by rfl) (by rfl) (fun W => by (go_simp; try with_reducible rfl)) (fun K hK => ?_); go_simp; refine hK _ ?_; clear hK K) | (refine wpPlanZ_quiet (by rfl) (by rfl) (fun W hW => by (have i2 := hW.i2; have qt := hW.a.reg hW.ht; go_simp; try with_reducible rfl)) (fun K hK => ?_); go_simp; refine hK _ ?_; clear hK K))
  refine wpPlanZ_nil ?_
  have D0 : Hid (Dq W1.drew ib sb S 40 s t d m) := D1.out.drew
  have K0 : Kept w W1.drew (· = sb) := K1.trans (Kept.drew _ _) (fun _ _ h => h)
  clear qt i2
  generalize W1.drew = W at *
  clear D1 K1 W1
  have i0 := D0.out.i0
  have qt := D0.out.a.reg D0.out.ht
  have ft := D0.out.a.fz t
  have ht' : (t : Int) < 32 := by have := D0.out.ht; omega
  go_upto_region 43 with fail
  clear i0
  refine wp_region_phase 13 [(0, 0), (1, 0), (2, 1), (3, 0), (4, 1), (6, 0), (7, 0), (8, 1), (10, 0), (11, 0), (5, 2), (9, 2), (12, 0), (13, 2)] (fun W => Dq W ib sb S 40 s t d m) (by kernel_rfl) (by kernel_rfl) (fun _ _ _ d _ h => by cases d <;> first | exact h | exact Dq.drew h) D0.out.drew ?_
  repeat (first | (refine wpPlanZ_free (by rfl) (by rfl) (fun W => by (go_simp; try with_reducible rfl)) (fun K hK => ?_); go_simp; refine hK _ ?_; clear hK K) | (refine wpPlanZ_quiet (by rfl) (by rfl) (fun W hW => by (have i2 := hW.i2; have i0 := hW.i0; have i4 := hW.i4; go_simp; try with_reducible rfl)) (fun K hK => ?_); go_simp; refine hK _ ?_; clear hK K))
  refine wpPlanZ_serial (by rfl) (by rfl) (fun K hK => ?_)
  go_simp
  refine (hk1 _).mono ?_
  rintro e_ w_ ⟨rfl, rfl⟩
  refine hK _ _ (fun _ => D0.out.drew) ?_
  clear hK K
  repeat (first | (refine wpPlanZ_free (by rfl) (by rfl) (fun W => by (go_simp; try with_reducible rfl)) (fun K hK => ?_); go_simp; refine hK _ ?_; clear hK K) | (refine wpPlanZ_quiet (by rfl) (by rfl) (fun W hW => by (have i2 := hW.i2; have i0 := hW.i0; have i4 := hW.i4; go_simp; try with_reducible rfl)) (fun K hK => ?_); go_simp; refine hK _ ?_; clear hK K))
  refine wpPlanZ_serial (by rfl) (by rfl) (fun K hK => ?_)
  go_simp
  refine (hk2 _).mono ?_
  rintro e_ w_ ⟨rfl, rfl⟩
  refine hK _ _ (fun _ => D0.out.drew) ?_
  clear hK K
  repeat (first | (refine wpPlanZ_free (by rfl) (by rfl) (fun W => by (go_simp; try with_reducible rfl)) (fun K hK => ?_); go_simp; refine hK _ ?_; clear hK K) | (refine wpPlanZ_quiet (by rfl) (by rfl) (fun W hW => by (have i2 := hW.i2; have i0 := hW.i0; have i4 := hW.i4; go_simp; try with_reducible rfl)) (fun K hK => ?_); go_simp; refine hK _ ?_; clear hK K))
  refine wpPlanZ_serial (by rfl) (by rfl) (fun K hK => ?_)
  go_simp
  refine hK _ _ (fun h => absurd h (by decide)) ?_
  clear hK K
  refine wpPlanZ_nil ?_
  refine ck (R := fun W' => StAt W' sb (S.putR t y) ∧ Kept W W' (· = sb)) ?_ (fun w1 ⟨A1, T1⟩ => ?_)
  · exact ⟨(D0.out.a.putR t D0.out.ht _).drew, (Kept.put (Kept.refl W _) _ _).trans (Kept.drew _ _) (fun _ _ h => h)⟩
  clear qt ft
  go_wp2
  go_ret
  exact ⟨rfl, A1, K0.trans T1 (fun _ _ h => h)⟩
set_option maxRecDepth 100000 in
set_option maxHeartbeats 8000000 in
theorem sumd_41 (A : StAt w sb S) (ok : S.ok) (hs : s < 32) (ht : t < 32) (hd : d < 32) (m0 : 0 ≤ m) (m1 : m < 4294967296) (hk : k = 41) : Calls Tryz.prog 195 #[.pointer (some ⟨sb, 0, none⟩), .agg #[.int .i64 k, .int .i64 s, .int .i64 t, .int .i64 d, .int .u32 m]] w fun e w' => e = .returned (.int .i64 (sumD S k s t d m).1) ∧ StAt w' sb (sumD S k s t d m).2 ∧ Kept w w' (· = sb) := by
  subst hk
  have X : sumD S 41 s t d m = (-1, S.putR t (resI S 41 (S.r s) m)) := rfl
  rw [X]
  clear X
  have hk1 := fun W => kindOfD_any 41 (by unfold isK; omega) W
  have hk2 := fun W => sumK_any S 41 (by unfold isK; omega) (S.r s) (m) (ok.r s) ⟨m0, m1⟩ W
  generalize resI S 41 (S.r s) (m) = y at *
  generalize kindS (kdx 41) = ks at *
  have D0 : Hid (Dq (w.alloc (.cells #[.int .i64 41, .int .i64 s, .int .i64 t, .int .i64 d, .int .u32 m] 113)) w.heap.size sb S 41 s t d m) := Dq.start A ok 41 hs ht hd m0 m1
  have K0 : Kept w (w.alloc (.cells #[.int .i64 41, .int .i64 s, .int .i64 t, .int .i64 d, .int .u32 m] 113)) (· = sb) := Kept.of_below _ ((Below.refl _ _).alloc (Nat.le_refl _) _)
  clear A
  go_enter Tryz.func195, Tryz.ntmps195
  go_upto_region 1 with fail
  generalize w.alloc (.cells #[.int .i64 41, .int .i64 s, .int .i64 t, .int .i64 d, .int .u32 m] 113) = W at *
  generalize w.heap.size = ib at *
  have i0 := D0.out.i0
  have i1 := D0.out.i1
  have i2 := D0.out.i2
  have i3 := D0.out.i3
  have i4 := D0.out.i4
  have qs := D0.out.a.reg D0.out.hs
  have fs := D0.out.a.fz s
  have hs' : (s : Int) < 32 := by have := D0.out.hs; omega
  have qt := D0.out.a.reg D0.out.ht
  have ft := D0.out.a.fz t
  have ht' : (t : Int) < 32 := by have := D0.out.ht; omega
  clear i0 i3 i4
  go_upto_region 1 with fail
  refine wp_region_phase 8 [(0, 0), (1, 0), (2, 1), (3, 0), (4, 0), (5, 0), (6, 1), (7, 0)] (fun W => Dq W ib sb S 41 s t d m) (by kernel_rfl) (by kernel_rfl) (fun _ _ _ d _ h => by cases d <;> first | exact h | exact Dq.drew h) D0.out.drew ?_
  repeat (first | (refine wpPlanZ_free (by rfl) (by rfl) (fun W => by (go_simp; try with_reducible rfl)) (fun K hK => ?_); go_simp; refine hK _ ?_; clear hK K) | (refine wpPlanZ_quiet (by rfl) (by rfl) (fun W hW => by (have i1 := hW.i1; have qs := hW.a.reg hW.hs; go_simp; try with_reducible rfl)) (fun K hK => ?_); go_simp; refine hK _ ?_; clear hK K))
  refine wpPlanZ_nil ?_
  have D1 : Hid (Dq W.drew ib sb S 41 s t d m) := D0.out.drew
  have K1 : Kept w W.drew (· = sb) := K0.trans (Kept.drew _ _) (fun _ _ h => h)
  clear qt ft qs fs i1 i2
  generalize W.drew = W1 at *
  clear D0 K0
  have i2 := D1.out.i2
  have qt := D1.out.a.reg D1.out.ht
  go_upto_region 2 with fail
  refine wp_region_phase 8 [(0, 0), (1, 0), (2, 1), (3, 0), (4, 0), (5, 0), (6, 1), (7, 0)] (fun W => Dq W ib sb S 41 s t d m) (by kernel_rfl) (by kernel_rfl) (fun _ _ _ d _ h => by cases d <;> first | exact h | exact Dq.drew h) D1.out.drew ?_
  repeat (first | (refine wpPlanZ_free (by rfl) (by rfl) (fun W => by (go_simp; try with_reducible rfl)) (fun K hK => ?_); go_simp; refine hK _ ?_; clear hK K) | (refine wpPlanZ_quiet (by rfl) (by rfl) (fun W hW => by (have i2 := hW.i2; have qt := hW.a.reg hW.ht; go_simp; try with_reducible rfl)) (fun K hK => ?_); go_simp; refine hK _ ?_; clear hK K))
  refine wpPlanZ_nil ?_
  have D0 : Hid (Dq W1.drew ib sb S 41 s t d m) := D1.out.drew
  have K0 : Kept w W1.drew (· = sb) := K1.trans (Kept.drew _ _) (fun _ _ h => h)
  clear qt i2
  generalize W1.drew = W at *
  clear D1 K1 W1
  have i0 := D0.out.i0
  have qt := D0.out.a.reg D0.out.ht
  have ft := D0.out.a.fz t
  have ht' : (t : Int) < 32 := by have := D0.out.ht; omega
  go_upto_region 43 with fail
  clear i0
  refine wp_region_phase 13 [(0, 0), (1, 0), (2, 1), (3, 0), (4, 1), (6, 0), (7, 0), (8, 1), (10, 0), (11, 0), (5, 2), (9, 2), (12, 0), (13, 2)] (fun W => Dq W ib sb S 41 s t d m) (by kernel_rfl) (by kernel_rfl) (fun _ _ _ d _ h => by cases d <;> first | exact h | exact Dq.drew h) D0.out.drew ?_
  repeat (first | (refine wpPlanZ_free (by rfl) (by rfl) (fun W => by (go_simp; try with_reducible rfl)) (fun K hK => ?_); go_simp; refine hK _ ?_; clear hK K) | (refine wpPlanZ_quiet (by rfl) (by rfl) (fun W hW => by (have i2 := hW.i2; have i0 := hW.i0; have i4 := hW.i4; go_simp; try with_reducible rfl)) (fun K hK => ?_); go_simp; refine hK _ ?_; clear hK K))
  refine wpPlanZ_serial (by rfl) (by rfl) (fun K hK => ?_)
  go_simp
  refine (hk1 _).mono ?_
  rintro e_ w_ ⟨rfl, rfl⟩
  refine hK _ _ (fun _ => D0.out.drew) ?_
  clear hK K
  repeat (first | (refine wpPlanZ_free (by rfl) (by rfl) (fun W => by (go_simp; try with_reducible rfl)) (fun K hK => ?_); go_simp; refine hK _ ?_; clear hK K) | (refine wpPlanZ_quiet (by rfl) (by rfl) (fun W hW => by (have i2 := hW.i2; have i0 := hW.i0; have i4 := hW.i4; go_simp; try with_reducible rfl)) (fun K hK => ?_); go_simp; refine hK _ ?_; clear hK K))
  refine wpPlanZ_serial (by rfl) (by rfl) (fun K hK => ?_)
  go_simp
  refine (hk2 _).mono ?_
  rintro e_ w_ ⟨rfl, rfl⟩
  refine hK _ _ (fun _ => D0.out.drew) ?_
  clear hK K
  repeat (first | (refine wpPlanZ_free (by rfl) (by rfl) (fun W => by (go_simp; try with_reducible rfl)) (fun K hK => ?_); go_simp; refine hK _ ?_; clear hK K) | (refine wpPlanZ_quiet (by rfl) (by rfl) (fun W hW => by (have i2 := hW.i2; have i0 := hW.i0; have i4 := hW.i4; go_simp; try with_reducible rfl)) (fun K hK => ?_); go_simp; refine hK _ ?_; clear hK K))
  refine wpPlanZ_serial (by rfl) (by rfl) (fun K hK => ?_)
  go_simp
  refine hK _ _ (fun h => absurd h (by decide)) ?_
  clear hK K
  refine wpPlanZ_nil ?_
  refine ck (R := fun W' => StAt W' sb (S.putR t y) ∧ Kept W W' (· = sb)) ?_ (fun w1 ⟨A1, T1⟩ => ?_)
  · exact ⟨(D0.out.a.putR t D0.out.ht _).drew, (Kept.put (Kept.refl W _) _ _).trans (Kept.drew _ _) (fun _ _ h => h)⟩
  clear qt ft
  go_wp2
  go_ret
  exact ⟨rfl, A1, K0.trans T1 (fun _ _ h => h)⟩
end
end Go.Proofs.YtflagpkmebdckaaGreatDoor
/-
  Sums of two registers.
-/
namespace Go.Proofs.YtflagpkmebdckaaGreatDoor
open Go.RowKit Go.Maps
open Num
set_option linter.unusedVariables false
section
variable {w : World} {sb : Nat} {S : St} {k s t d : Nat} {m : Int}
set_option maxRecDepth 100000 in
set_option maxHeartbeats 8000000 in
theorem sumd_20 (A : StAt w sb S) (ok : S.ok) (hs : s < 32) (ht : t < 32) (hd : d < 32) (m0 : 0 ≤ m) (m1 : m < 4294967296) (hk : k = 20) : Calls Tryz.prog 195 #[.pointer (some ⟨sb, 0, none⟩), .agg #[.int .i64 k, .int .i64 s, .int .i64 t, .int .i64 d, .int .u32 m]] w fun e w' => e = .returned (.int .i64 (sumD S k s t d m).1) ∧ StAt w' sb (sumD S k s t d m).2 ∧ Kept w w' (· = sb) := by
  subst hk
  have X : sumD S 20 s t d m = (-1, S.putR d (resI S 20 (S.r s) (S.r t))) := rfl
  rw [X]
  clear X
  have hk1 := fun W => kindOfD_any 20 (by unfold isK; omega) W
  have hk2 := fun W => sumK_any S 20 (by unfold isK; omega) (S.r s) (S.r t) (ok.r s) (ok.r t) W
  generalize resI S 20 (S.r s) (S.r t) = y at *
  generalize kindS (kdx 20) = ks at *
  have D0 : Hid (Dq (w.alloc (.cells #[.int .i64 20, .int .i64 s, .int .i64 t, .int .i64 d, .int .u32 m] 113)) w.heap.size sb S 20 s t d m) := Dq.start A ok 20 hs ht hd m0 m1
  have K0 : Kept w (w.alloc (.cells #[.int .i64 20, .int .i64 s, .int .i64 t, .int .i64 d, .int .u32 m] 113)) (· = sb) := Kept.of_below _ ((Below.refl _ _).alloc (Nat.le_refl _) _)
  clear A
  go_enter Tryz.func195, Tryz.ntmps195
  go_upto_region 1 with fail
  generalize w.alloc (.cells #[.int .i64 20, .int .i64 s, .int .i64 t, .int .i64 d, .int .u32 m] 113) = W at *
  generalize w.heap.size = ib at *
  have i0 := D0.out.i0
  have i1 := D0.out.i1
  have i2 := D0.out.i2
  have i3 := D0.out.i3
  have i4 := D0.out.i4
  have qs := D0.out.a.reg D0.out.hs
  have fs := D0.out.a.fz s
  have hs' : (s : Int) < 32 := by have := D0.out.hs; omega
  have qt := D0.out.a.reg D0.out.ht
  have ft := D0.out.a.fz t
  have ht' : (t : Int) < 32 := by have := D0.out.ht; omega
  clear i0 i3 i4
  go_upto_region 1 with fail
  refine wp_region_phase 8 [(0, 0), (1, 0), (2, 1), (3, 0), (4, 0), (5, 0), (6, 1), (7, 0)] (fun W => Dq W ib sb S 20 s t d m) (by kernel_rfl) (by kernel_rfl) (fun _ _ _ d _ h => by cases d <;> first | exact h | exact Dq.drew h) D0.out.drew ?_
  repeat (first | (refine wpPlanZ_free (by rfl) (by rfl) (fun W => by (go_simp; try with_reducible rfl)) (fun K hK => ?_); go_simp; refine hK _ ?_; clear hK K) | (refine wpPlanZ_quiet (by rfl) (by rfl) (fun W hW => by (have i1 := hW.i1; have qs := hW.a.reg hW.hs; go_simp; try with_reducible rfl)) (fun K hK => ?_); go_simp; refine hK _ ?_; clear hK K))
  refine wpPlanZ_nil ?_
  have D1 : Hid (Dq W.drew ib sb S 20 s t d m) := D0.out.drew
  have K1 : Kept w W.drew (· = sb) := K0.trans (Kept.drew _ _) (fun _ _ h => h)
  clear qt ft qs fs i1 i2
  generalize W.drew = W1 at *
  clear D0 K0
  have i2 := D1.out.i2
  have qt := D1.out.a.reg D1.out.ht
  go_upto_region 2 with fail
  refine wp_region_phase 8 [(0, 0), (1, 0), (2, 1), (3, 0), (4, 0), (5, 0), (6, 1), (7, 0)] (fun W => Dq W ib sb S 20 s t d m) (by kernel_rfl) (by kernel_rfl) (fun _ _ _ d _ h => by cases d <;> first | exact h | exact Dq.drew h) D1.out.drew ?_
  repeat (first | (refine wpPlanZ_free (by rfl) (by rfl) (fun W => by (go_simp; try with_reducible rfl)) (fun K hK => ?_); go_simp; refine hK _ ?_; clear hK K) | (refine wpPlanZ_quiet (by rfl) (by rfl) (fun W hW => by (have i2 := hW.i2; have qt := hW.a.reg hW.ht; go_simp; try with_reducible rfl)) (fun K hK => ?_); go_simp; refine hK _ ?_; clear hK K))
  refine wpPlanZ_nil ?_
  have D0 : Hid (Dq W1.drew ib sb S 20 s t d m) := D1.out.drew
  have K0 : Kept w W1.drew (· = sb) := K1.trans (Kept.drew _ _) (fun _ _ h => h)
  clear qt i2
  generalize W1.drew = W at *
  clear D1 K1 W1
  have i0 := D0.out.i0
  have qd := D0.out.a.reg D0.out.hd
  have fd := D0.out.a.fz d
  have hd' : (d : Int) < 32 := by have := D0.out.hd; omega
  go_upto_region 63 with fail
  clear i0
  refine wp_region_phase 12 [(0, 0), (1, 0), (2, 1), (3, 0), (4, 1), (6, 0), (7, 0), (9, 0), (10, 0), (5, 2), (8, 2), (11, 0), (12, 2)] (fun W => Dq W ib sb S 20 s t d m) (by kernel_rfl) (by kernel_rfl) (fun _ _ _ d _ h => by cases d <;> first | exact h | exact Dq.drew h) D0.out.drew ?_
  repeat (first | (refine wpPlanZ_free (by rfl) (by rfl) (fun W => by (go_simp; try with_reducible rfl)) (fun K hK => ?_); go_simp; refine hK _ ?_; clear hK K) | (refine wpPlanZ_quiet (by rfl) (by rfl) (fun W hW => by (have i3 := hW.i3; have i0 := hW.i0; go_simp; try with_reducible rfl)) (fun K hK => ?_); go_simp; refine hK _ ?_; clear hK K))
  refine wpPlanZ_serial (by rfl) (by rfl) (fun K hK => ?_)
  go_simp
  refine (hk1 _).mono ?_
  rintro e_ w_ ⟨rfl, rfl⟩
  refine hK _ _ (fun _ => D0.out.drew) ?_
  clear hK K
  repeat (first | (refine wpPlanZ_free (by rfl) (by rfl) (fun W => by (go_simp; try with_reducible rfl)) (fun K hK => ?_); go_simp; refine hK _ ?_; clear hK K) | (refine wpPlanZ_quiet (by rfl) (by rfl) (fun W hW => by (have i3 := hW.i3; have i0 := hW.i0; go_simp; try with_reducible rfl)) (fun K hK => ?_); go_simp; refine hK _ ?_; clear hK K))
  refine wpPlanZ_serial (by rfl) (by rfl) (fun K hK => ?_)
  go_simp
  refine (hk2 _).mono ?_
  rintro e_ w_ ⟨rfl, rfl⟩
  refine hK _ _ (fun _ => D0.out.drew) ?_
  clear hK K
  repeat (first | (refine wpPlanZ_free (by rfl) (by rfl) (fun W => by (go_simp; try with_reducible rfl)) (fun K hK => ?_); go_simp; refine hK _ ?_; clear hK K) | (refine wpPlanZ_quiet (by rfl) (by rfl) (fun W hW => by (have i3 := hW.i3; have i0 := hW.i0; go_simp; try with_reducible rfl)) (fun K hK => ?_); go_simp; refine hK _ ?_; clear hK K))
  refine wpPlanZ_serial (by rfl) (by rfl) (fun K hK => ?_)
  go_simp
  refine hK _ _ (fun h => absurd h (by decide)) ?_
  clear hK K
  refine wpPlanZ_nil ?_
  refine ck (R := fun W' => StAt W' sb (S.putR d y) ∧ Kept W W' (· = sb)) ?_ (fun w1 ⟨A1, T1⟩ => ?_)
  · exact ⟨(D0.out.a.putR d D0.out.hd _).drew, (Kept.put (Kept.refl W _) _ _).trans (Kept.drew _ _) (fun _ _ h => h)⟩
  clear qd fd
  go_wp2
  go_ret
  exact ⟨rfl, A1, K0.trans T1 (fun _ _ h => h)⟩
set_option maxRecDepth 100000 in
set_option maxHeartbeats 8000000 in
theorem sumd_22 (A : StAt w sb S) (ok : S.ok) (hs : s < 32) (ht : t < 32) (hd : d < 32) (m0 : 0 ≤ m) (m1 : m < 4294967296) (hk : k = 22) : Calls Tryz.prog 195 #[.pointer (some ⟨sb, 0, none⟩), .agg #[.int .i64 k, .int .i64 s, .int .i64 t, .int .i64 d, .int .u32 m]] w fun e w' => e = .returned (.int .i64 (sumD S k s t d m).1) ∧ StAt w' sb (sumD S k s t d m).2 ∧ Kept w w' (· = sb) := by
  subst hk
  have X : sumD S 22 s t d m = (-1, S.putR d (resI S 22 (S.r s) (S.r t))) := rfl
  rw [X]
  clear X
  have hk1 := fun W => kindOfD_any 22 (by unfold isK; omega) W
  have hk2 := fun W => sumK_any S 22 (by unfold isK; omega) (S.r s) (S.r t) (ok.r s) (ok.r t) W
  generalize resI S 22 (S.r s) (S.r t) = y at *
  generalize kindS (kdx 22) = ks at *
  have D0 : Hid (Dq (w.alloc (.cells #[.int .i64 22, .int .i64 s, .int .i64 t, .int .i64 d, .int .u32 m] 113)) w.heap.size sb S 22 s t d m) := Dq.start A ok 22 hs ht hd m0 m1
  have K0 : Kept w (w.alloc (.cells #[.int .i64 22, .int .i64 s, .int .i64 t, .int .i64 d, .int .u32 m] 113)) (· = sb) := Kept.of_below _ ((Below.refl _ _).alloc (Nat.le_refl _) _)
  clear A
  go_enter Tryz.func195, Tryz.ntmps195
  go_upto_region 1 with fail
  generalize w.alloc (.cells #[.int .i64 22, .int .i64 s, .int .i64 t, .int .i64 d, .int .u32 m] 113) = W at *
  generalize w.heap.size = ib at *
  have i0 := D0.out.i0
  have i1 := D0.out.i1
  have i2 := D0.out.i2
  have i3 := D0.out.i3
  have i4 := D0.out.i4
  have qs := D0.out.a.reg D0.out.hs
  have fs := D0.out.a.fz s
  have hs' : (s : Int) < 32 := by have := D0.out.hs; omega
  have qt := D0.out.a.reg D0.out.ht
  have ft := D0.out.a.fz t
  have ht' : (t : Int) < 32 := by have := D0.out.ht; omega
  clear i0 i3 i4
  go_upto_region 1 with fail
  refine wp_region_phase 8 [(0, 0), (1, 0), (2, 1), (3, 0), (4, 0), (5, 0), (6, 1), (7, 0)] (fun W => Dq W ib sb S 22 s t d m) (by kernel_rfl) (by kernel_rfl) (fun _ _ _ d _ h => by cases d <;> first | exact h | exact Dq.drew h) D0.out.drew ?_
  repeat (first | (refine wpPlanZ_free (by rfl) (by rfl) (fun W => by (go_simp; try with_reducible rfl)) (fun K hK => ?_); go_simp; refine hK _ ?_; clear hK K) | (refine wpPlanZ_quiet (by rfl) (by rfl) (fun W hW => by (have i1 := hW.i1; have qs := hW.a.reg hW.hs; go_simp; try with_reducible rfl)) (fun K hK => ?_); go_simp; refine hK _ ?_; clear hK K))
  refine wpPlanZ_nil ?_
  have D1 : Hid (Dq W.drew ib sb S 22 s t d m) := D0.out.drew
  have K1 : Kept w W.drew (· = sb) := K0.trans (Kept.drew _ _) (fun _ _ h => h)
  clear qt ft qs fs i1 i2
  generalize W.drew = W1 at *
  clear D0 K0
  have i2 := D1.out.i2
  have qt := D1.out.a.reg D1.out.ht
  go_upto_region 2 with fail
  refine wp_region_phase 8 [(0, 0), (1, 0), (2, 1), (3, 0), (4, 0), (5, 0), (6, 1), (7, 0)] (fun W => Dq W ib sb S 22 s t d m) (by kernel_rfl) (by kernel_rfl) (fun _ _ _ d _ h => by cases d <;> first | exact h | exact Dq.drew h) D1.out.drew ?_
  repeat (first | (refine wpPlanZ_free (by rfl) (by rfl) (fun W => by (go_simp; try with_reducible rfl)) (fun K hK => ?_); go_simp; refine hK _ ?_; clear hK K) | (refine wpPlanZ_quiet (by rfl) (by rfl) (fun W hW => by (have i2 := hW.i2; have qt := hW.a.reg hW.ht; go_simp; try with_reducible rfl)) (fun K hK => ?_); go_simp; refine hK _ ?_; clear hK K))
  refine wpPlanZ_nil ?_
  have D0 : Hid (Dq W1.drew ib sb S 22 s t d m) := D1.out.drew
  have K0 : Kept w W1.drew (· = sb) := K1.trans (Kept.drew _ _) (fun _ _ h => h)
  clear qt i2
  generalize W1.drew = W at *
  clear D1 K1 W1
  have i0 := D0.out.i0
  have qd := D0.out.a.reg D0.out.hd
  have fd := D0.out.a.fz d
  have hd' : (d : Int) < 32 := by have := D0.out.hd; omega
  go_upto_region 63 with fail
  clear i0
  refine wp_region_phase 12 [(0, 0), (1, 0), (2, 1), (3, 0), (4, 1), (6, 0), (7, 0), (9, 0), (10, 0), (5, 2), (8, 2), (11, 0), (12, 2)] (fun W => Dq W ib sb S 22 s t d m) (by kernel_rfl) (by kernel_rfl) (fun _ _ _ d _ h => by cases d <;> first | exact h | exact Dq.drew h) D0.out.drew ?_
  repeat (first | (refine wpPlanZ_free (by rfl) (by rfl) (fun W => by (go_simp; try with_reducible rfl)) (fun K hK => ?_); go_simp; refine hK _ ?_; clear hK K) | (refine wpPlanZ_quiet (by rfl) (by rfl) (fun W hW => by (have i3 := hW.i3; have i0 := hW.i0; go_simp; try with_reducible rfl)) (fun K hK => ?_); go_simp; refine hK _ ?_; clear hK K))
  refine wpPlanZ_serial (by rfl) (by rfl) (fun K hK => ?_)
  go_simp
  refine (hk1 _).mono ?_
  rintro e_ w_ ⟨rfl, rfl⟩
  refine hK _ _ (fun _ => D0.out.drew) ?_
  clear hK K
  repeat (first | (refine wpPlanZ_free (by rfl) (by rfl) (fun W => by (go_simp; try with_reducible rfl)) (fun K hK => ?_); go_simp; refine hK _ ?_; clear hK K) | (refine wpPlanZ_quiet (by rfl) (by rfl) (fun W hW => by (have i3 := hW.i3; have i0 := hW.i0; go_simp; try with_reducible rfl)) (fun K hK => ?_); go_simp; refine hK _ ?_; clear hK K))
  refine wpPlanZ_serial (by rfl) (by rfl) (fun K hK => ?_)
  go_simp
  refine (hk2 _).mono ?_
  rintro e_ w_ ⟨rfl, rfl⟩
  refine hK _ _ (fun _ => D0.out.drew) ?_
  clear hK K
  repeat (first | (refine wpPlanZ_free (by rfl) (by rfl) (fun W => by (go_simp; try with_reducible rfl)) (fun K hK => ?_); go_simp; refine hK _ ?_; clear hK K) | (refine wpPlanZ_quiet (by rfl) (by rfl) (fun W hW => by (have i3 := hW.i3; have i0 := hW.i0; go_simp; try with_reducible rfl)) (fun K hK => ?_); go_simp; refine hK _ ?_; clear hK K))
  refine wpPlanZ_serial (by rfl) (by rfl) (fun K hK => ?_)
  go_simp
  refine hK _ _ (fun h => absurd h (by decide)) ?_
  clear hK K
  refine wpPlanZ_nil ?_
  refine ck (R := fun W' => StAt W' sb (S.putR d y) ∧ Kept W W' (· = sb)) ?_ (fun w1 ⟨A1, T1⟩ => ?_)
  · exact ⟨(D0.out.a.putR d D0.out.hd _).drew, (Kept.put (Kept.refl W _) _ _).trans (Kept.drew _ _) (fun _ _ h => h)⟩
  clear qd fd
  go_wp2
  go_ret
  exact ⟨rfl, A1, K0.trans T1 (fun _ _ h => h)⟩
set_option maxRecDepth 100000 in
set_option maxHeartbeats 8000000 in
theorem sumd_23 (A : StAt w sb S) (ok : S.ok) (hs : s < 32) (ht : t < 32) (hd : d < 32) (m0 : 0 ≤ m) (m1 : m < 4294967296) (hk : k = 23) : Calls Tryz.prog 195 #[.pointer (some ⟨sb, 0, none⟩), .agg #[.int .i64 k, .int .i64 s, .int .i64 t, .int .i64 d, .int .u32 m]] w fun e w' => e = .returned (.int .i64 (sumD S k s t d m).1) ∧ StAt w' sb (sumD S k s t d m).2 ∧ Kept w w' (· = sb) := by
  subst hk
  have X : sumD S 23 s t d m = (-1, S.putR d (resI S 23 (S.r s) (S.r t))) := rfl
  rw [X]
  clear X
  have hk1 := fun W => kindOfD_any 23 (by unfold isK; omega) W
  have hk2 := fun W => sumK_any S 23 (by unfold isK; omega) (S.r s) (S.r t) (ok.r s) (ok.r t) W
  generalize resI S 23 (S.r s) (S.r t) = y at *
  generalize kindS (kdx 23) = ks at *
  have D0 : Hid (Dq (w.alloc (.cells #[.int .i64 23, .int .i64 s, .int .i64 t, .int .i64 d, .int .u32 m] 113)) w.heap.size sb S 23 s t d m) := Dq.start A ok 23 hs ht hd m0 m1
  have K0 : Kept w (w.alloc (.cells #[.int .i64 23, .int .i64 s, .int .i64 t, .int .i64 d, .int .u32 m] 113)) (· = sb) := Kept.of_below _ ((Below.refl _ _).alloc (Nat.le_refl _) _)
  clear A
  go_enter Tryz.func195, Tryz.ntmps195
  go_upto_region 1 with fail
  generalize w.alloc (.cells #[.int .i64 23, .int .i64 s, .int .i64 t, .int .i64 d, .int .u32 m] 113) = W at *
  generalize w.heap.size = ib at *
  have i0 := D0.out.i0
  have i1 := D0.out.i1
  have i2 := D0.out.i2
  have i3 := D0.out.i3
  have i4 := D0.out.i4
  have qs := D0.out.a.reg D0.out.hs
  have fs := D0.out.a.fz s
  have hs' : (s : Int) < 32 := by have := D0.out.hs; omega
  have qt := D0.out.a.reg D0.out.ht
  have ft := D0.out.a.fz t
  have ht' : (t : Int) < 32 := by have := D0.out.ht; omega
  clear i0 i3 i4
  go_upto_region 1 with fail
  refine wp_region_phase 8 [(0, 0), (1, 0), (2, 1), (3, 0), (4, 0), (5, 0), (6, 1), (7, 0)] (fun W => Dq W ib sb S 23 s t d m) (by kernel_rfl) (by kernel_rfl) (fun _ _ _ d _ h => by cases d <;> first | exact h | exact Dq.drew h) D0.out.drew ?_
  repeat (first | (refine wpPlanZ_free (by rfl) (by rfl) (fun W => by (go_simp; try with_reducible rfl)) (fun K hK => ?_); go_simp; refine hK _ ?_; clear hK K) | (refine wpPlanZ_quiet (by rfl) (by rfl) (fun W hW => by (have i1 := hW.i1; have qs := hW.a.reg hW.hs; go_simp; try with_reducible rfl)) (fun K hK => ?_); go_simp; refine hK _ ?_; clear hK K))
  refine wpPlanZ_nil ?_
  have D1 : Hid (Dq W.drew ib sb S 23 s t d m) := D0.out.drew
  have K1 : Kept w W.drew (· = sb) := K0.trans (Kept.drew _ _) (fun _ _ h => h)
  clear qt ft qs fs i1 i2
  generalize W.drew = W1 at *
  clear D0 K0
  have i2 := D1.out.i2
  have qt := D1.out.a.reg D1.out.ht
  go_upto_region 2 with fail
  refine wp_region_phase 8 [(0, 0), (1, 0), (2, 1), (3, 0), (4, 0), (5, 0), (6, 1), (7, 0)] (fun W => Dq W ib sb S 23 s t d m) (by kernel_rfl) (by kernel_rfl) (fun _ _ _ d _ h => by cases d <;> first | exact h | exact Dq.drew h) D1.out.drew ?_
  repeat (first | (refine wpPlanZ_free (by rfl) (by rfl) (fun W => by (go_simp; try with_reducible rfl)) (fun K hK => ?_); go_simp; refine hK _ ?_; clear hK K) | (refine wpPlanZ_quiet (by rfl) (by rfl) (fun W hW => by (have i2 := hW.i2; have qt := hW.a.reg hW.ht; go_simp; try with_reducible rfl)) (fun K hK => ?_); go_simp; refine hK _ ?_; clear hK K))
  refine wpPlanZ_nil ?_
  have D0 : Hid (Dq W1.drew ib sb S 23 s t d m) := D1.out.drew
  have K0 : Kept w W1.drew (· = sb) := K1.trans (Kept.drew _ _) (fun _ _ h => h)
  clear qt i2
  generalize W1.drew = W at *
  clear D1 K1 W1
  have i0 := D0.out.i0
  have qd := D0.out.a.reg D0.out.hd
  have fd := D0.out.a.fz d
  have hd' : (d : Int) < 32 := by have := D0.out.hd; omega
  go_upto_region 63 with fail
  clear i0
  refine wp_region_phase 12 [(0, 0), (1, 0), (2, 1), (3, 0), (4, 1), (6, 0), (7, 0), (9, 0), (10, 0), (5, 2), (8, 2), (11, 0), (12, 2)] (fun W => Dq W ib sb S 23 s t d m) (by kernel_rfl) (by kernel_rfl) (fun _ _ _ d _ h => by cases d <;> first | exact h | exact Dq.drew h) D0.out.drew ?_
  repeat (first | (refine wpPlanZ_free (by rfl) (by rfl) (fun W => by (go_simp; try with_reducible rfl)) (fun K hK => ?_); go_simp; refine hK _ ?_; clear hK K) | (refine wpPlanZ_quiet (by rfl) (by rfl) (fun W hW => by (have i3 := hW.i3; have i0 := hW.i0; go_simp; try with_reducible rfl)) (fun K hK => ?_); go_simp; refine hK _ ?_; clear hK K))
  refine wpPlanZ_serial (by rfl) (by rfl) (fun K hK => ?_)
  go_simp
  refine (hk1 _).mono ?_
  rintro e_ w_ ⟨rfl, rfl⟩
  refine hK _ _ (fun _ => D0.out.drew) ?_
  clear hK K
  repeat (first | (refine wpPlanZ_free (by rfl) (by rfl) (fun W => by (go_simp; try with_reducible rfl)) (fun K hK => ?_); go_simp; refine hK _ ?_; clear hK K) | (refine wpPlanZ_quiet (by rfl) (by rfl) (fun W hW => by (have i3 := hW.i3; have i0 := hW.i0; go_simp; try with_reducible rfl)) (fun K hK => ?_); go_simp; refine hK _ ?_; clear hK K))
  refine wpPlanZ_serial (by rfl) (by rfl) (fun K hK => ?_)
  go_simp
  refine (hk2 _).mono ?_
  rintro e_ w_ ⟨rfl, rfl⟩
  refine hK _ _ (fun _ => D0.out.drew) ?_
  clear hK K
  repeat (first | (refine wpPlanZ_free (by rfl) (by rfl) (fun W => by (go_simp; try with_reducible rfl)) (fun K hK => ?_); go_simp; refine hK _ ?_; clear hK K) | (refine wpPlanZ_quiet (by rfl) (by rfl) (fun W hW => by (have i3 := hW.i3; have i0 := hW.i0; go_simp; try with_reducible rfl)) (fun K hK => ?_); go_simp; refine hK _ ?_; clear hK K))
  refine wpPlanZ_serial (by rfl) (by rfl) (fun K hK => ?_)
  go_simp
  refine hK _ _ (fun h => absurd h (by decide)) ?_
  clear hK K
  refine wpPlanZ_nil ?_
  refine ck (R := fun W' => StAt W' sb (S.putR d y) ∧ Kept W W' (· = sb)) ?_ (fun w1 ⟨A1, T1⟩ => ?_)
  · exact ⟨(D0.out.a.putR d D0.out.hd _).drew, (Kept.put (Kept.refl W _) _ _).trans (Kept.drew _ _) (fun _ _ h => h)⟩
  clear qd fd
  go_wp2
  go_ret
  exact ⟨rfl, A1, K0.trans T1 (fun _ _ h => h)⟩
set_option maxRecDepth 100000 in
set_option maxHeartbeats 8000000 in
theorem sumd_24 (A : StAt w sb S) (ok : S.ok) (hs : s < 32) (ht : t < 32) (hd : d < 32) (m0 : 0 ≤ m) (m1 : m < 4294967296) (hk : k = 24) : Calls Tryz.prog 195 #[.pointer (some ⟨sb, 0, none⟩), .agg #[.int .i64 k, .int .i64 s, .int .i64 t, .int .i64 d, .int .u32 m]] w fun e w' => e = .returned (.int .i64 (sumD S k s t d m).1) ∧ StAt w' sb (sumD S k s t d m).2 ∧ Kept w w' (· = sb) := by
  subst hk
  have X : sumD S 24 s t d m = (-1, S.putR d (resI S 24 (S.r s) (S.r t))) := rfl
  rw [X]
  clear X
  have hk1 := fun W => kindOfD_any 24 (by unfold isK; omega) W
  have hk2 := fun W => sumK_any S 24 (by unfold isK; omega) (S.r s) (S.r t) (ok.r s) (ok.r t) W
  generalize resI S 24 (S.r s) (S.r t) = y at *
  generalize kindS (kdx 24) = ks at *
  have D0 : Hid (Dq (w.alloc (.cells #[.int .i64 24, .int .i64 s, .int .i64 t, .int .i64 d, .int .u32 m] 113)) w.heap.size sb S 24 s t d m) := Dq.start A ok 24 hs ht hd m0 m1
  have K0 : Kept w (w.alloc (.cells #[.int .i64 24, .int .i64 s, .int .i64 t, .int .i64 d, .int .u32 m] 113)) (· = sb) := Kept.of_below _ ((Below.refl _ _).alloc (Nat.le_refl _) _)
  clear A
  go_enter Tryz.func195, Tryz.ntmps195
  go_upto_region 1 with fail
  generalize w.alloc (.cells #[.int .i64 24, .int .i64 s, .int .i64 t, .int .i64 d, .int .u32 m] 113) = W at *
  generalize w.heap.size = ib at *
  have i0 := D0.out.i0
  have i1 := D0.out.i1
  have i2 := D0.out.i2
  have i3 := D0.out.i3
  have i4 := D0.out.i4
  have qs := D0.out.a.reg D0.out.hs
  have fs := D0.out.a.fz s
  have hs' : (s : Int) < 32 := by have := D0.out.hs; omega
  have qt := D0.out.a.reg D0.out.ht
  have ft := D0.out.a.fz t
  have ht' : (t : Int) < 32 := by have := D0.out.ht; omega
  clear i0 i3 i4
  go_upto_region 1 with fail
  refine wp_region_phase 8 [(0, 0), (1, 0), (2, 1), (3, 0), (4, 0), (5, 0), (6, 1), (7, 0)] (fun W => Dq W ib sb S 24 s t d m) (by kernel_rfl) (by kernel_rfl) (fun _ _ _ d _ h => by cases d <;> first | exact h | exact Dq.drew h) D0.out.drew ?_
  repeat (first | (refine wpPlanZ_free (by rfl) (by rfl) (fun W => by (go_simp; try with_reducible rfl)) (fun K hK => ?_); go_simp; refine hK _ ?_; clear hK K) | (refine wpPlanZ_quiet (by rfl) (by rfl) (fun W hW => by (have i1 := hW.i1; have qs := hW.a.reg hW.hs; go_simp; try with_reducible rfl)) (fun K hK => ?_); go_simp; refine hK _ ?_; clear hK K))
  refine wpPlanZ_nil ?_
  have D1 : Hid (Dq W.drew ib sb S 24 s t d m) := D0.out.drew
  have K1 : Kept w W.drew (· = sb) := K0.trans (Kept.drew _ _) (fun _ _ h => h)
  clear qt ft qs fs i1 i2
  generalize W.drew = W1 at *
  clear D0 K0
  have i2 := D1.out.i2
  have qt := D1.out.a.reg D1.out.ht
  go_upto_region 2 with fail
  refine wp_region_phase 8 [(0, 0), (1, 0), (2, 1), (3, 0), (4, 0), (5, 0), (6, 1), (7, 0)] (fun W => Dq W ib sb S 24 s t d m) (by kernel_rfl) (by kernel_rfl) (fun _ _ _ d _ h => by cases d <;> first | exact h | exact Dq.drew h) D1.out.drew ?_
  repeat (first | (refine wpPlanZ_free (by rfl) (by rfl) (fun W => by (go_simp; try with_reducible rfl)) (fun K hK => ?_); go_simp; refine hK _ ?_; clear hK K) | (refine wpPlanZ_quiet (by rfl) (by rfl) (fun W hW => by (have i2 := hW.i2; have qt := hW.a.reg hW.ht; go_simp; try with_reducible rfl)) (fun K hK => ?_); go_simp; refine hK _ ?_; clear hK K))
  refine wpPlanZ_nil ?_
  have D0 : Hid (Dq W1.drew ib sb S 24 s t d m) := D1.out.drew
  have K0 : Kept w W1.drew (· = sb) := K1.trans (Kept.drew _ _) (fun _ _ h => h)
  clear qt i2
  generalize W1.drew = W at *
  clear D1 K1 W1
  have i0 := D0.out.i0
  have qd := D0.out.a.reg D0.out.hd
  have fd := D0.out.a.fz d
  have hd' : (d : Int) < 32 := by have := D0.out.hd; omega
  go_upto_region 63 with fail
  clear i0
  refine wp_region_phase 12 [(0, 0), (1, 0), (2, 1), (3, 0), (4, 1), (6, 0), (7, 0), (9, 0), (10, 0), (5, 2), (8, 2), (11, 0), (12, 2)] (fun W => Dq W ib sb S 24 s t d m) (by kernel_rfl) (by kernel_rfl) (fun _ _ _ d _ h => by cases d <;> first | exact h | exact Dq.drew h) D0.out.drew ?_
  repeat (first | (refine wpPlanZ_free (by rfl) (by rfl) (fun W => by (go_simp; try with_reducible rfl)) (fun K hK => ?_); go_simp; refine hK _ ?_; clear hK K) | (refine wpPlanZ_quiet (by rfl) (by rfl) (fun W hW => by (have i3 := hW.i3; have i0 := hW.i0; go_simp; try with_reducible rfl)) (fun K hK => ?_); go_simp; refine hK _ ?_; clear hK K))
  refine wpPlanZ_serial (by rfl) (by rfl) (fun K hK => ?_)
  go_simp
  refine (hk1 _).mono ?_
  rintro e_ w_ ⟨rfl, rfl⟩
  refine hK _ _ (fun _ => D0.out.drew) ?_
  clear hK K
  repeat (first | (refine wpPlanZ_free (by rfl) (by rfl) (fun W => by (go_simp; try with_reducible rfl)) (fun K hK => ?_); go_simp; refine hK _ ?_; clear hK K) | (refine wpPlanZ_quiet (by rfl) (by rfl) (fun W hW => by (have i3 := hW.i3; have i0 := hW.i0; go_simp; try with_reducible rfl)) (fun K hK => ?_); go_simp; refine hK _ ?_; clear hK K))
  refine wpPlanZ_serial (by rfl) (by rfl) (fun K hK => ?_)
  go_simp
  refine (hk2 _).mono ?_
  rintro e_ w_ ⟨rfl, rfl⟩
  refine hK _ _ (fun _ => D0.out.drew) ?_
  clear hK K
  repeat (first | (refine wpPlanZ_free (by rfl) (by rfl) (fun W => by (go_simp; try with_reducible rfl)) (fun K hK => ?_); go_simp; refine hK _ ?_; clear hK K) | (refine wpPlanZ_quiet (by rfl) (by rfl) (fun W hW => by (have i3 := hW.i3; have i0 := hW.i0; go_simp; try with_reducible rfl)) (fun K hK => ?_); go_simp; refine hK _ ?_; clear hK K))
  refine wpPlanZ_serial (by rfl) (by rfl) (fun K hK => ?_)
  go_simp
  refine hK _ _ (fun h => absurd h (by decide)) ?_
  clear hK K
  refine wpPlanZ_nil ?_
  refine ck (R := fun W' => StAt W' sb (S.putR d y) ∧ Kept W W' (· = sb)) ?_ (fun w1 ⟨A1, T1⟩ => ?_)
  · exact ⟨(D0.out.a.putR d D0.out.hd _).drew, (Kept.put (Kept.refl W _) _ _).trans (Kept.drew _ _) (fun _ _ h => h)⟩
  clear qd fd
  go_wp2
  go_ret
  exact ⟨rfl, A1, K0.trans T1 (fun _ _ h => h)⟩
set_option maxRecDepth 100000 in
set_option maxHeartbeats 8000000 in
theorem sumd_25 (A : StAt w sb S) (ok : S.ok) (hs : s < 32) (ht : t < 32) (hd : d < 32) (m0 : 0 ≤ m) (m1 : m < 4294967296) (hk : k = 25) : Calls Tryz.prog 195 #[.pointer (some ⟨sb, 0, none⟩), .agg #[.int .i64 k, .int .i64 s, .int .i64 t, .int .i64 d, .int .u32 m]] w fun e w' => e = .returned (.int .i64 (sumD S k s t d m).1) ∧ StAt w' sb (sumD S k s t d m).2 ∧ Kept w w' (· = sb) := by
  subst hk
  have X : sumD S 25 s t d m = (-1, S.putR d (resI S 25 (S.r s) (S.r t))) := rfl
  rw [X]
  clear X
  have hk1 := fun W => kindOfD_any 25 (by unfold isK; omega) W
  have hk2 := fun W => sumK_any S 25 (by unfold isK; omega) (S.r s) (S.r t) (ok.r s) (ok.r t) W
  generalize resI S 25 (S.r s) (S.r t) = y at *
  generalize kindS (kdx 25) = ks at *
  have D0 : Hid (Dq (w.alloc (.cells #[.int .i64 25, .int .i64 s, .int .i64 t, .int .i64 d, .int .u32 m] 113)) w.heap.size sb S 25 s t d m) := Dq.start A ok 25 hs ht hd m0 m1
  have K0 : Kept w (w.alloc (.cells #[.int .i64 25, .int .i64 s, .int .i64 t, .int .i64 d, .int .u32 m] 113)) (· = sb) := Kept.of_below _ ((Below.refl _ _).alloc (Nat.le_refl _) _)
  clear A
  go_enter Tryz.func195, Tryz.ntmps195
  go_upto_region 1 with fail
  generalize w.alloc (.cells #[.int .i64 25, .int .i64 s, .int .i64 t, .int .i64 d, .int .u32 m] 113) = W at *
  generalize w.heap.size = ib at *
  have i0 := D0.out.i0
  have i1 := D0.out.i1
  have i2 := D0.out.i2
  have i3 := D0.out.i3
  have i4 := D0.out.i4
  have qs := D0.out.a.reg D0.out.hs
  have fs := D0.out.a.fz s
  have hs' : (s : Int) < 32 := by have := D0.out.hs; omega
  have qt := D0.out.a.reg D0.out.ht
  have ft := D0.out.a.fz t
  have ht' : (t : Int) < 32 := by have := D0.out.ht; omega
  clear i0 i3 i4
  go_upto_region 1 with fail
  refine wp_region_phase 8 [(0, 0), (1, 0), (2, 1), (3, 0), (4, 0), (5, 0), (6, 1), (7, 0)] (fun W => Dq W ib sb S 25 s t d m) (by kernel_rfl) (by kernel_rfl) (fun _ _ _ d _ h => by cases d <;> first | exact h | exact Dq.drew h) D0.out.drew ?_
  repeat (first | (refine wpPlanZ_free (by rfl) (by rfl) (fun W => by (go_simp; try with_reducible rfl)) (fun K hK => ?_); go_simp; refine hK _ ?_; clear hK K) | (refine wpPlanZ_quiet (by rfl) (by rfl) (fun W hW => by (have i1 := hW.i1; have qs := hW.a.reg hW.hs; go_simp; try with_reducible rfl)) (fun K hK => ?_); go_simp; refine hK _ ?_; clear hK K))
  refine wpPlanZ_nil ?_
  have D1 : Hid (Dq W.drew ib sb S 25 s t d m) := D0.out.drew
  have K1 : Kept w W.drew (· = sb) := K0.trans (Kept.drew _ _) (fun _ _ h => h)
  clear qt ft qs fs i1 i2
  generalize W.drew = W1 at *
  clear D0 K0
  have i2 := D1.out.i2
  have qt := D1.out.a.reg D1.out.ht
  go_upto_region 2 with fail
  refine wp_region_phase 8 [(0, 0), (1, 0), (2, 1), (3, 0), (4, 0), (5, 0), (6, 1), (7, 0)] (fun W => Dq W ib sb S 25 s t d m) (by kernel_rfl) (by kernel_rfl) (fun _ _ _ d _ h => by cases d <;> first | exact h | exact Dq.drew h) D1.out.drew ?_
  repeat (first | (refine wpPlanZ_free (by rfl) (by rfl) (fun W => by (go_simp; try with_reducible rfl)) (fun K hK => ?_); go_simp; refine hK _ ?_; clear hK K) | (refine wpPlanZ_quiet (by rfl) (by rfl) (fun W hW => by (have i2 := hW.i2; have qt := hW.a.reg hW.ht; go_simp; try with_reducible rfl)) (fun K hK => ?_); go_simp; refine hK _ ?_; clear hK K))
  refine wpPlanZ_nil ?_
  have D0 : Hid (Dq W1.drew ib sb S 25 s t d m) := D1.out.drew
  have K0 : Kept w W1.drew (· = sb) := K1.trans (Kept.drew _ _) (fun _ _ h => h)
  clear qt i2
  generalize W1.drew = W at *
  clear D1 K1 W1
  have i0 := D0.out.i0
  have qd := D0.out.a.reg D0.out.hd
  have fd := D0.out.a.fz d
  have hd' : (d : Int) < 32 := by have := D0.out.hd; omega
  go_upto_region 63 with fail
  clear i0
  refine wp_region_phase 12 [(0, 0), (1, 0), (2, 1), (3, 0), (4, 1), (6, 0), (7, 0), (9, 0), (10, 0), (5, 2), (8, 2), (11, 0), (12, 2)] (fun W => Dq W ib sb S 25 s t d m) (by kernel_rfl) (by kernel_rfl) (fun _ _ _ d _ h => by cases d <;> first | exact h | exact Dq.drew h) D0.out.drew ?_
  repeat (first | (refine wpPlanZ_free (by rfl) (by rfl) (fun W => by (go_simp; try with_reducible rfl)) (fun K hK => ?_); go_simp; refine hK _ ?_; clear hK K) | (refine wpPlanZ_quiet (by rfl) (by rfl) (fun W hW => by (have i3 := hW.i3; have i0 := hW.i0; go_simp; try with_reducible rfl)) (fun K hK => ?_); go_simp; refine hK _ ?_; clear hK K))
  refine wpPlanZ_serial (by rfl) (by rfl) (fun K hK => ?_)
  go_simp
  refine (hk1 _).mono ?_
  rintro e_ w_ ⟨rfl, rfl⟩
  refine hK _ _ (fun _ => D0.out.drew) ?_
  clear hK K
  repeat (first | (refine wpPlanZ_free (by rfl) (by rfl) (fun W => by (go_simp; try with_reducible rfl)) (fun K hK => ?_); go_simp; refine hK _ ?_; clear hK K) | (refine wpPlanZ_quiet (by rfl) (by rfl) (fun W hW => by (have i3 := hW.i3; have i0 := hW.i0; go_simp; try with_reducible rfl)) (fun K hK => ?_); go_simp; refine hK _ ?_; clear hK K))
  refine wpPlanZ_serial (by rfl) (by rfl) (fun K hK => ?_)
  go_simp
  refine (hk2 _).mono ?_
  rintro e_ w_ ⟨rfl, rfl⟩
  refine hK _ _ (fun _ => D0.out.drew) ?_
  clear hK K
  repeat (first | (refine wpPlanZ_free (by rfl) (by rfl) (fun W => by (go_simp; try with_reducible rfl)) (fun K hK => ?_); go_simp; refine hK _ ?_; clear hK K) | (refine wpPlanZ_quiet (by rfl) (by rfl) (fun W hW => by (have i3 := hW.i3; have i0 := hW.i0; go_simp; try with_reducible rfl)) (fun K hK => ?_); go_simp; refine hK _ ?_; clear hK K))
  refine wpPlanZ_serial (by rfl) (by rfl) (fun K hK => ?_)
  go_simp
  refine hK _ _ (fun h => absurd h (by decide)) ?_
  clear hK K
  refine wpPlanZ_nil ?_
  refine ck (R := fun W' => StAt W' sb (S.putR d y) ∧ Kept W W' (· = sb)) ?_ (fun w1 ⟨A1, T1⟩ => ?_)
  · exact ⟨(D0.out.a.putR d D0.out.hd _).drew, (Kept.put (Kept.refl W _) _ _).trans (Kept.drew _ _) (fun _ _ h => h)⟩
  clear qd fd
  go_wp2
  go_ret
  exact ⟨rfl, A1, K0.trans T1 (fun _ _ h => h)⟩
set_option maxRecDepth 100000 in
set_option maxHeartbeats 8000000 in
theorem sumd_26 (A : StAt w sb S) (ok : S.ok) (hs : s < 32) (ht : t < 32) (hd : d < 32) (m0 : 0 ≤ m) (m1 : m < 4294967296) (hk : k = 26) : Calls Tryz.prog 195 #[.pointer (some ⟨sb, 0, none⟩), .agg #[.int .i64 k, .int .i64 s, .int .i64 t, .int .i64 d, .int .u32 m]] w fun e w' => e = .returned (.int .i64 (sumD S k s t d m).1) ∧ StAt w' sb (sumD S k s t d m).2 ∧ Kept w w' (· = sb) := by
  subst hk
  have X : sumD S 26 s t d m = (-1, S.putR d (resI S 26 (S.r s) (S.r t))) := rfl
  rw [X]
  clear X
  have hk1 := fun W => kindOfD_any 26 (by unfold isK; omega) W
  have hk2 := fun W => sumK_any S 26 (by unfold isK; omega) (S.r s) (S.r t) (ok.r s) (ok.r t) W
  generalize resI S 26 (S.r s) (S.r t) = y at *
  generalize kindS (kdx 26) = ks at *
  have D0 : Hid (Dq (w.alloc (.cells #[.int .i64 26, .int .i64 s, .int .i64 t, .int .i64 d, .int .u32 m] 113)) w.heap.size sb S 26 s t d m) := Dq.start A ok 26 hs ht hd m0 m1
  have K0 : Kept w (w.alloc (.cells #[.int .i64 26, .int .i64 s, .int .i64 t, .int .i64 d, .int .u32 m] 113)) (· = sb) := Kept.of_below _ ((Below.refl _ _).alloc (Nat.le_refl _) _)
  clear A
  go_enter Tryz.func195, Tryz.ntmps195
  go_upto_region 1 with fail
  generalize w.alloc (.cells #[.int .i64 26, .int .i64 s, .int .i64 t, .int .i64 d, .int .u32 m] 113) = W at *
  generalize w.heap.size = ib at *
  have i0 := D0.out.i0
  have i1 := D0.out.i1
  have i2 := D0.out.i2
  have i3 := D0.out.i3
  have i4 := D0.out.i4
  have qs := D0.out.a.reg D0.out.hs
  have fs := D0.out.a.fz s
  have hs' : (s : Int) < 32 := by have := D0.out.hs; omega
  have qt := D0.out.a.reg D0.out.ht
  have ft := D0.out.a.fz t
  have ht' : (t : Int) < 32 := by have := D0.out.ht; omega
  clear i0 i3 i4
  go_upto_region 1 with fail
  refine wp_region_phase 8 [(0, 0), (1, 0), (2, 1), (3, 0), (4, 0), (5, 0), (6, 1), (7, 0)] (fun W => Dq W ib sb S 26 s t d m) (by kernel_rfl) (by kernel_rfl) (fun _ _ _ d _ h => by cases d <;> first | exact h | exact Dq.drew h) D0.out.drew ?_
  repeat (first | (refine wpPlanZ_free (by rfl) (by rfl) (fun W => by (go_simp; try with_reducible rfl)) (fun K hK => ?_); go_simp; refine hK _ ?_; clear hK K) | (refine wpPlanZ_quiet (by rfl) (by rfl) (fun W hW => by (have i1 := hW.i1; have qs := hW.a.reg hW.hs; go_simp; try with_reducible rfl)) (fun K hK => ?_); go_simp; refine hK _ ?_; clear hK K))
  refine wpPlanZ_nil ?_
  have D1 : Hid (Dq W.drew ib sb S 26 s t d m) := D0.out.drew
  have K1 : Kept w W.drew (· = sb) := K0.trans (Kept.drew _ _) (fun _ _ h => h)
  clear qt ft qs fs i1 i2
  generalize W.drew = W1 at *
  clear D0 K0
  have i2 := D1.out.i2
  have qt := D1.out.a.reg D1.out.ht
  go_upto_region 2 with fail
  refine wp_region_phase 8 [(0, 0), (1, 0), (2, 1), (3, 0), (4, 0), (5, 0), (6, 1), (7, 0)] (fun W => Dq W ib sb S 26 s t d m) (by kernel_rfl) (by kernel_rfl) (fun _ _ _ d _ h => by cases d <;> first | exact h | exact Dq.drew h) D1.out.drew ?_
  repeat (first | (refine wpPlanZ_free (by rfl) (by rfl) (fun W => by (go_simp; try with_reducible rfl)) (fun K hK => ?_); go_simp; refine hK _ ?_; clear hK K) | (refine wpPlanZ_quiet (by rfl) (by rfl) (fun W hW => by (have i2 := hW.i2; have qt := hW.a.reg hW.ht; go_simp; try with_reducible rfl)) (fun K hK => ?_); go_simp; refine hK _ ?_; clear hK K))
  refine wpPlanZ_nil ?_
  have D0 : Hid (Dq W1.drew ib sb S 26 s t d m) := D1.out.drew
  have K0 : Kept w W1.drew (· = sb) := K1.trans (Kept.drew _ _) (fun _ _ h => h)
  clear qt i2
  generalize W1.drew = W at *
  clear D1 K1 W1
  have i0 := D0.out.i0
  have qd := D0.out.a.reg D0.out.hd
  have fd := D0.out.a.fz d
  have hd' : (d : Int) < 32 := by have := D0.out.hd; omega
  go_upto_region 63 with fail
  clear i0
  refine wp_region_phase 12 [(0, 0), (1, 0), (2, 1), (3, 0), (4, 1), (6, 0), (7, 0), (9, 0), (10, 0), (5, 2), (8, 2), (11, 0), (12, 2)] (fun W => Dq W ib sb S 26 s t d m) (by kernel_rfl) (by kernel_rfl) (fun _ _ _ d _ h => by cases d <;> first | exact h | exact Dq.drew h) D0.out.drew ?_
  repeat (first | (refine wpPlanZ_free (by rfl) (by rfl) (fun W => by (go_simp; try with_reducible rfl)) (fun K hK => ?_); go_simp; refine hK _ ?_; clear hK K) | (refine wpPlanZ_quiet (by rfl) (by rfl) (fun W hW => by (have i3 := hW.i3; have i0 := hW.i0; go_simp; try with_reducible rfl)) (fun K hK => ?_); go_simp; refine hK _ ?_; clear hK K))
  refine wpPlanZ_serial (by rfl) (by rfl) (fun K hK => ?_)
  go_simp
  refine (hk1 _).mono ?_
  rintro e_ w_ ⟨rfl, rfl⟩
  refine hK _ _ (fun _ => D0.out.drew) ?_
  clear hK K
  repeat (first | (refine wpPlanZ_free (by rfl) (by rfl) (fun W => by (go_simp; try with_reducible rfl)) (fun K hK => ?_); go_simp; refine hK _ ?_; clear hK K) | (refine wpPlanZ_quiet (by rfl) (by rfl) (fun W hW => by (have i3 := hW.i3; have i0 := hW.i0; go_simp; try with_reducible rfl)) (fun K hK => ?_); go_simp; refine hK _ ?_; clear hK K))
  refine wpPlanZ_serial (by rfl) (by rfl) (fun K hK => ?_)
  go_simp
  refine (hk2 _).mono ?_
  rintro e_ w_ ⟨rfl, rfl⟩
  refine hK _ _ (fun _ => D0.out.drew) ?_
  clear hK K
  repeat (first | (refine wpPlanZ_free (by rfl) (by rfl) (fun W => by (go_simp; try with_reducible rfl)) (fun K hK => ?_); go_simp; refine hK _ ?_; clear hK K) | (refine wpPlanZ_quiet (by rfl) (by rfl) (fun W hW => by (have i3 := hW.i3; have i0 := hW.i0; go_simp; try with_reducible rfl)) (fun K hK => ?_); go_simp; refine hK _ ?_; clear hK K))
  refine wpPlanZ_serial (by rfl) (by rfl) (fun K hK => ?_)
  go_simp
  refine hK _ _ (fun h => absurd h (by decide)) ?_
  clear hK K
  refine wpPlanZ_nil ?_
  refine ck (R := fun W' => StAt W' sb (S.putR d y) ∧ Kept W W' (· = sb)) ?_ (fun w1 ⟨A1, T1⟩ => ?_)
  · exact ⟨(D0.out.a.putR d D0.out.hd _).drew, (Kept.put (Kept.refl W _) _ _).trans (Kept.drew _ _) (fun _ _ h => h)⟩
  clear qd fd
  go_wp2
  go_ret
  exact ⟨rfl, A1, K0.trans T1 (fun _ _ h => h)⟩
set_option maxRecDepth 100000 in
set_option maxHeartbeats 8000000 in
theorem sumd_27 (A : StAt w sb S) (ok : S.ok) (hs : s < 32) (ht : t < 32) (hd : d < 32) (m0 : 0 ≤ m) (m1 : m < 4294967296) (hk : k = 27) : Calls Tryz.prog 195 #[.pointer (some ⟨sb, 0, none⟩), .agg #[.int .i64 k, .int .i64 s, .int .i64 t, .int .i64 d, .int .u32 m]] w fun e w' => e = .returned (.int .i64 (sumD S k s t d m).1) ∧ StAt w' sb (sumD S k s t d m).2 ∧ Kept w w' (· = sb) := by
  subst hk
  have X : sumD S 27 s t d m = (-1, S.putR d (resI S 27 (S.r s) (S.r t))) := rfl
  rw [X]
  clear X
  have hk1 := fun W => kindOfD_any 27 (by unfold isK; omega) W
  have hk2 := fun W => sumK_any S 27 (by unfold isK; omega) (S.r s) (S.r t) (ok.r s) (ok.r t) W
  generalize resI S 27 (S.r s) (S.r t) = y at *
  generalize kindS (kdx 27) = ks at *
  have D0 : Hid (Dq (w.alloc (.cells #[.int .i64 27, .int .i64 s, .int .i64 t, .int .i64 d, .int .u32 m] 113)) w.heap.size sb S 27 s t d m) := Dq.start A ok 27 hs ht hd m0 m1
  have K0 : Kept w (w.alloc (.cells #[.int .i64 27, .int .i64 s, .int .i64 t, .int .i64 d, .int .u32 m] 113)) (· = sb) := Kept.of_below _ ((Below.refl _ _).alloc (Nat.le_refl _) _)
  clear A
  go_enter Tryz.func195, Tryz.ntmps195
  go_upto_region 1 with fail
  generalize w.alloc (.cells #[.int .i64 27, .int .i64 s, .int .i64 t, .int .i64 d, .int .u32 m] 113) = W at *
  generalize w.heap.size = ib at *
  have i0 := D0.out.i0
  have i1 := D0.out.i1
  have i2 := D0.out.i2
  have i3 := D0.out.i3
  have i4 := D0.out.i4
  have qs := D0.out.a.reg D0.out.hs
  have fs := D0.out.a.fz s
  have hs' : (s : Int) < 32 := by have := D0.out.hs; omega
  have qt := D0.out.a.reg D0.out.ht
  have ft := D0.out.a.fz t
  have ht' : (t : Int) < 32 := by have := D0.out.ht; omega
  clear i0 i3 i4
  go_upto_region 1 with fail
  refine wp_region_phase 8 [(0, 0), (1, 0), (2, 1), (3, 0), (4, 0), (5, 0), (6, 1), (7, 0)] (fun W => Dq W ib sb S 27 s t d m) (by kernel_rfl) (by kernel_rfl) (fun _ _ _ d _ h => by cases d <;> first | exact h | exact Dq.drew h) D0.out.drew ?_
  repeat (first | (refine wpPlanZ_free (by rfl) (by rfl) (fun W => by (go_simp; try with_reducible rfl)) (fun K hK => ?_); go_simp; refine hK _ ?_; clear hK K) | (refine wpPlanZ_quiet (by rfl) (by rfl) (fun W hW => by (have i1 := hW.i1; have qs := hW.a.reg hW.hs; go_simp; try with_reducible rfl)) (fun K hK => ?_); go_simp; refine hK _ ?_; clear hK K))
  refine wpPlanZ_nil ?_
  have D1 : Hid (Dq W.drew ib sb S 27 s t d m) := D0.out.drew
  have K1 : Kept w W.drew (· = sb) := K0.trans (Kept.drew _ _) (fun _ _ h => h)
  clear qt ft qs fs i1 i2
  generalize W.drew = W1 at *
  clear D0 K0
  have i2 := D1.out.i2
  have qt := D1.out.a.reg D1.out.ht
  go_upto_region 2 with fail
  refine wp_region_phase 8 [(0, 0), (1, 0), (2, 1), (3, 0), (4, 0), (5, 0), (6, 1), (7, 0)] (fun W => Dq W ib sb S 27 s t d m) (by kernel_rfl) (by kernel_rfl) (fun _ _ _ d _ h => by cases d <;> first | exact h | exact Dq.drew h) D1.out.drew ?_
  repeat (first | (refine wpPlanZ_free (by rfl) (by rfl) (fun W => by (go_simp; try with_reducible rfl)) (fun K hK => ?_); go_simp; refine hK _ ?_; clear hK K) | (refine wpPlanZ_quiet (by rfl) (by rfl) (fun W hW => by (have i2 := hW.i2; have qt := hW.a.reg hW.ht; go_simp; try with_reducible rfl)) (fun K hK => ?_); go_simp; refine hK _ ?_; clear hK K))
  refine wpPlanZ_nil ?_
  have D0 : Hid (Dq W1.drew ib sb S 27 s t d m) := D1.out.drew
  have K0 : Kept w W1.drew (· = sb) := K1.trans (Kept.drew _ _) (fun _ _ h => h)
  clear qt i2
  generalize W1.drew = W at *
  clear D1 K1 W1
  have i0 := D0.out.i0
  have qd := D0.out.a.reg D0.out.hd
  have fd := D0.out.a.fz d
  have hd' : (d : Int) < 32 := by have := D0.out.hd; omega
  go_upto_region 63 with fail
  clear i0
  refine wp_region_phase 12 [(0, 0), (1, 0), (2, 1), (3, 0), (4, 1), (6, 0), (7, 0), (9, 0), (10, 0), (5, 2), (8, 2), (11, 0), (12, 2)] (fun W => Dq W ib sb S 27 s t d m) (by kernel_rfl) (by kernel_rfl) (fun _ _ _ d _ h => by cases d <;> first | exact h | exact Dq.drew h) D0.out.drew ?_
  repeat (first | (refine wpPlanZ_free (by rfl) (by rfl) (fun W => by (go_simp; try with_reducible rfl)) (fun K hK => ?_); go_simp; refine hK _ ?_; clear hK K) | (refine wpPlanZ_quiet (by rfl) (by rfl) (fun W hW => by (have i3 := hW.i3; have i0 := hW.i0; go_simp; try with_reducible rfl)) (fun K hK => ?_); go_simp; refine hK _ ?_; clear hK K))
  refine wpPlanZ_serial (by rfl) (by rfl) (fun K hK => ?_)
  go_simp
  refine (hk1 _).mono ?_
  rintro e_ w_ ⟨rfl, rfl⟩
  refine hK _ _ (fun _ => D0.out.drew) ?_
  clear hK K
  repeat (first | (refine wpPlanZ_free (by rfl) (by rfl) (fun W => by (go_simp; try with_reducible rfl)) (fun K hK => ?_); go_simp; refine hK _ ?_; clear hK K) | (refine wpPlanZ_quiet (by rfl) (by rfl) (fun W hW => by (have i3 := hW.i3; have i0 := hW.i0; go_simp; try with_reducible rfl)) (fun K hK => ?_); go_simp; refine hK _ ?_; clear hK K))
  refine wpPlanZ_serial (by rfl) (by rfl) (fun K hK => ?_)
  go_simp
  refine (hk2 _).mono ?_
  rintro e_ w_ ⟨rfl, rfl⟩
  refine hK _ _ (fun _ => D0.out.drew) ?_
  clear hK K
  repeat (first | (refine wpPlanZ_free (by rfl) (by rfl) (fun W => by (go_simp; try with_reducible rfl)) (fun K hK => ?_); go_simp; refine hK _ ?_; clear hK K) | (refine wpPlanZ_quiet (by rfl) (by rfl) (fun W hW => by (have i3 := hW.i3; have i0 := hW.i0; go_simp; try with_reducible rfl)) (fun K hK => ?_); go_simp; refine hK _ ?_; clear hK K))
  refine wpPlanZ_serial (by rfl) (by rfl) (fun K hK => ?_)
  go_simp
  refine hK _ _ (fun h => absurd h (by decide)) ?_
  clear hK K
  refine wpPlanZ_nil ?_
  refine ck (R := fun W' => StAt W' sb (S.putR d y) ∧ Kept W W' (· = sb)) ?_ (fun w1 ⟨A1, T1⟩ => ?_)
  · exact ⟨(D0.out.a.putR d D0.out.hd _).drew, (Kept.put (Kept.refl W _) _ _).trans (Kept.drew _ _) (fun _ _ h => h)⟩
  clear qd fd
  go_wp2
  go_ret
  exact ⟨rfl, A1, K0.trans T1 (fun _ _ h => h)⟩
set_option maxRecDepth 100000 in
set_option maxHeartbeats 8000000 in
theorem sumd_28 (A : StAt w sb S) (ok : S.ok) (hs : s < 32) (ht : t < 32) (hd : d < 32) (m0 : 0 ≤ m) (m1 : m < 4294967296) (hk : k = 28) : Calls Tryz.prog 195 #[.pointer (some ⟨sb, 0, none⟩), .agg #[.int .i64 k, .int .i64 s, .int .i64 t, .int .i64 d, .int .u32 m]] w fun e w' => e = .returned (.int .i64 (sumD S k s t d m).1) ∧ StAt w' sb (sumD S k s t d m).2 ∧ Kept w w' (· = sb) := by
  subst hk
  have X : sumD S 28 s t d m = (-1, S.putR d (resI S 28 (S.r s) (S.r t))) := rfl
  rw [X]
  clear X
  have hk1 := fun W => kindOfD_any 28 (by unfold isK; omega) W
  have hk2 := fun W => sumK_any S 28 (by unfold isK; omega) (S.r s) (S.r t) (ok.r s) (ok.r t) W
  generalize resI S 28 (S.r s) (S.r t) = y at *
  generalize kindS (kdx 28) = ks at *
  have D0 : Hid (Dq (w.alloc (.cells #[.int .i64 28, .int .i64 s, .int .i64 t, .int .i64 d, .int .u32 m] 113)) w.heap.size sb S 28 s t d m) := Dq.start A ok 28 hs ht hd m0 m1
  have K0 : Kept w (w.alloc (.cells #[.int .i64 28, .int .i64 s, .int .i64 t, .int .i64 d, .int .u32 m] 113)) (· = sb) := Kept.of_below _ ((Below.refl _ _).alloc (Nat.le_refl _) _)
  clear A
  go_enter Tryz.func195, Tryz.ntmps195
  go_upto_region 1 with fail
  generalize w.alloc (.cells #[.int .i64 28, .int .i64 s, .int .i64 t, .int .i64 d, .int .u32 m] 113) = W at *
  generalize w.heap.size = ib at *
  have i0 := D0.out.i0
  have i1 := D0.out.i1
  have i2 := D0.out.i2
  have i3 := D0.out.i3
  have i4 := D0.out.i4
  have qs := D0.out.a.reg D0.out.hs
  have fs := D0.out.a.fz s
  have hs' : (s : Int) < 32 := by have := D0.out.hs; omega
  have qt := D0.out.a.reg D0.out.ht
  have ft := D0.out.a.fz t
  have ht' : (t : Int) < 32 := by have := D0.out.ht; omega
  clear i0 i3 i4
  go_upto_region 1 with fail
  refine wp_region_phase 8 [(0, 0), (1, 0), (2, 1), (3, 0), (4, 0), (5, 0), (6, 1), (7, 0)] (fun W => Dq W ib sb S 28 s t d m) (by kernel_rfl) (by kernel_rfl) (fun _ _ _ d _ h => by cases d <;> first | exact h | exact Dq.drew h) D0.out.drew ?_
  repeat (first | (refine wpPlanZ_free (by rfl) (by rfl) (fun W => by (go_simp; try with_reducible rfl)) (fun K hK => ?_); go_simp; refine hK _ ?_; clear hK K) | (refine wpPlanZ_quiet (by rfl) (by rfl) (fun W hW => by (have i1 := hW.i1; have qs := hW.a.reg hW.hs; go_simp; try with_reducible rfl)) (fun K hK => ?_); go_simp; refine hK _ ?_; clear hK K))
  refine wpPlanZ_nil ?_
  have D1 : Hid (Dq W.drew ib sb S 28 s t d m) := D0.out.drew
  have K1 : Kept w W.drew (· = sb) := K0.trans (Kept.drew _ _) (fun _ _ h => h)
  clear qt ft qs fs i1 i2
  generalize W.drew = W1 at *
  clear D0 K0
  have i2 := D1.out.i2
  have qt := D1.out.a.reg D1.out.ht
  go_upto_region 2 with fail
  refine wp_region_phase 8 [(0, 0), (1, 0), (2, 1), (3, 0), (4, 0), (5, 0), (6, 1), (7, 0)] (fun W => Dq W ib sb S 28 s t d m) (by kernel_rfl) (by kernel_rfl) (fun _ _ _ d _ h => by cases d <;> first | exact h | exact Dq.drew h) D1.out.drew ?_
  repeat (first | (refine wpPlanZ_free (by rfl) (by rfl) (fun W => by (go_simp; try with_reducible rfl)) (fun K hK => ?_); go_simp; refine hK _ ?_; clear hK K) | (refine wpPlanZ_quiet (by rfl) (by rfl) (fun W hW => by (have i2 := hW.i2; have qt := hW.a.reg hW.ht; go_simp; try with_reducible rfl)) (fun K hK => ?_); go_simp; refine hK _ ?_; clear hK K))
  refine wpPlanZ_nil ?_
  have D0 : Hid (Dq W1.drew ib sb S 28 s t d m) := D1.out.drew
  have K0 : Kept w W1.drew (· = sb) := K1.trans (Kept.drew _ _) (fun _ _ h => h)
  clear qt i2
  generalize W1.drew = W at *
  clear D1 K1 W1
  have i0 := D0.out.i0
  have qd := D0.out.a.reg D0.out.hd
  have fd := D0.out.a.fz d
  have hd' : (d : Int) < 32 := by have := D0.out.hd; omega
  go_upto_region 63 with fail
  clear i0
  refine wp_region_phase 12 [(0, 0), (1, 0), (2, 1), (3, 0), (4, 1), (6, 0), (7, 0), (9, 0), (10, 0), (5, 2), (8, 2), (11, 0), (12, 2)] (fun W => Dq W ib sb S 28 s t d m) (by kernel_rfl) (by kernel_rfl) (fun _ _ _ d _ h => by cases d <;> first | exact h | exact Dq.drew h) D0.out.drew ?_
  repeat (first | (refine wpPlanZ_free (by rfl) (by rfl) (fun W => by (go_simp; try with_reducible rfl)) (fun K hK => ?_); go_simp; refine hK _ ?_; clear hK K) | (refine wpPlanZ_quiet (by rfl) (by rfl) (fun W hW => by (have i3 := hW.i3; have i0 := hW.i0; go_simp; try with_reducible rfl)) (fun K hK => ?_); go_simp; refine hK _ ?_; clear hK K))
  refine wpPlanZ_serial (by rfl) (by rfl) (fun K hK => ?_)
  go_simp
  refine (hk1 _).mono ?_
  rintro e_ w_ ⟨rfl, rfl⟩
  refine hK _ _ (fun _ => D0.out.drew) ?_
  clear hK K
  repeat (first | (refine wpPlanZ_free (by rfl) (by rfl) (fun W => by (go_simp; try with_reducible rfl)) (fun K hK => ?_); go_simp; refine hK _ ?_; clear hK K) | (refine wpPlanZ_quiet (by rfl) (by rfl) (fun W hW => by (have i3 := hW.i3; have i0 := hW.i0; go_simp; try with_reducible rfl)) (fun K hK => ?_); go_simp; refine hK _ ?_; clear hK K))
  refine wpPlanZ_serial (by rfl) (by rfl) (fun K hK => ?_)
  go_simp
  refine (hk2 _).mono ?_
  rintro e_ w_ ⟨rfl, rfl⟩
  refine hK _ _ (fun _ => D0.out.drew) ?_
  clear hK K
  repeat (first | (refine wpPlanZ_free (by rfl) (by rfl) (fun W => by (go_simp; try with_reducible rfl)) (fun K hK => ?_); go_simp; refine hK _ ?_; clear hK K) | (refine wpPlanZ_quiet (by rfl) (by rfl) (fun W hW => by (have i3 := hW.i3; have i0 := hW.i0; go_simp; try with_reducible rfl)) (fun K hK => ?_); go_simp; refine hK _ ?_; clear hK K))
  refine wpPlanZ_serial (by rfl) (by rfl) (fun K hK => ?_)
  go_simp
  refine hK _ _ (fun h => absurd h (by decide)) ?_
  clear hK K
  refine wpPlanZ_nil ?_
  refine ck (R := fun W' => StAt W' sb (S.putR d y) ∧ Kept W W' (· = sb)) ?_ (fun w1 ⟨A1, T1⟩ => ?_)
  · exact ⟨(D0.out.a.putR d D0.out.hd _).drew, (Kept.put (Kept.refl W _) _ _).trans (Kept.drew _ _) (fun _ _ h => h)⟩
  clear qd fd
  go_wp2
  go_ret
  exact ⟨rfl, A1, K0.trans T1 (fun _ _ h => h)⟩
end
end Go.Proofs.YtflagpkmebdckaaGreatDoor
/-
  Sums that may be too great.
-/
namespace Go.Proofs.YtflagpkmebdckaaGreatDoor
open Go.RowKit Go.Maps
open Num
set_option linter.unusedVariables false
section
variable {w : World} {sb : Nat} {S : St} {k s t d : Nat} {m : Int}
set_option maxRecDepth 100000 in
set_option maxHeartbeats 8000000 in
theorem sumd_19o (A : StAt w sb S) (ok : S.ok) (hs : s < 32) (ht : t < 32) (hd : d < 32) (m0 : 0 ≤ m) (m1 : m < 4294967296) (hk : k = 19) (ho : ov (sg (S.r s) + sg (S.r t)) = true) : Calls Tryz.prog 195 #[.pointer (some ⟨sb, 0, none⟩), .agg #[.int .i64 k, .int .i64 s, .int .i64 t, .int .i64 d, .int .u32 m]] w fun e w' => e = .returned (.int .i64 (sumD S k s t d m).1) ∧ StAt w' sb (sumD S k s t d m).2 ∧ Kept w w' (· = sb) := by
  subst hk
  have X : sumD S 19 s t d m = (12, S) := by show (if ov (sg (S.r s) + sg (S.r t)) = true then _ else _) = _; rw [if_pos ho]
  rw [X]
  clear X
  have hk1 := fun W => kindOfD_any 19 (by unfold isK; omega) W
  have hk2 := fun W => sumK_any S 19 (by unfold isK; omega) (S.r s) (S.r t) (ok.r s) (ok.r t) W
  generalize resI S 19 (S.r s) (S.r t) = y at *
  generalize kindS (kdx 19) = ks at *
  have h1 := fun W => signed_any (S.r s) (ok.r s).1 (ok.r s).2 W
  have h2 := fun W => signed_any (S.r t) (ok.r t).1 (ok.r t).2 W
  have h3 := fun W => isSigned_any (sg (S.r s) + sg (S.r t)) W
  simp only [ho] at h3
  obtain ⟨s1a, s1b⟩ := sg_bd (ok.r s).1 (ok.r s).2
  obtain ⟨s2a, s2b⟩ := sg_bd (ok.r t).1 (ok.r t).2
  clear ho
  have D0 : Hid (Dq (w.alloc (.cells #[.int .i64 19, .int .i64 s, .int .i64 t, .int .i64 d, .int .u32 m] 113)) w.heap.size sb S 19 s t d m) := Dq.start A ok 19 hs ht hd m0 m1
  have K0 : Kept w (w.alloc (.cells #[.int .i64 19, .int .i64 s, .int .i64 t, .int .i64 d, .int .u32 m] 113)) (· = sb) := Kept.of_below _ ((Below.refl _ _).alloc (Nat.le_refl _) _)
  clear A
  go_enter Tryz.func195, Tryz.ntmps195
  go_upto_region 1 with fail
  generalize w.alloc (.cells #[.int .i64 19, .int .i64 s, .int .i64 t, .int .i64 d, .int .u32 m] 113) = W at *
  generalize w.heap.size = ib at *
  have i0 := D0.out.i0
  have i1 := D0.out.i1
  have i2 := D0.out.i2
  have i3 := D0.out.i3
  have i4 := D0.out.i4
  have qs := D0.out.a.reg D0.out.hs
  have fs := D0.out.a.fz s
  have hs' : (s : Int) < 32 := by have := D0.out.hs; omega
  have qt := D0.out.a.reg D0.out.ht
  have ft := D0.out.a.fz t
  have ht' : (t : Int) < 32 := by have := D0.out.ht; omega
  clear i0 i3 i4
  go_upto_region 1 with fail
  refine wp_region_phase 8 [(0, 0), (1, 0), (2, 1), (3, 0), (4, 0), (5, 0), (6, 1), (7, 0)] (fun W => Dq W ib sb S 19 s t d m) (by kernel_rfl) (by kernel_rfl) (fun _ _ _ d _ h => by cases d <;> first | exact h | exact Dq.drew h) D0.out.drew ?_
  repeat (first | (refine wpPlanZ_free (by rfl) (by rfl) (fun W => by (go_simp; try with_reducible rfl)) (fun K hK => ?_); go_simp; refine hK _ ?_; clear hK K) | (refine wpPlanZ_quiet (by rfl) (by rfl) (fun W hW => by (have i1 := hW.i1; have qs := hW.a.reg hW.hs; go_simp; try with_reducible rfl)) (fun K hK => ?_); go_simp; refine hK _ ?_; clear hK K))
  refine wpPlanZ_nil ?_
  have D1 : Hid (Dq W.drew ib sb S 19 s t d m) := D0.out.drew
  have K1 : Kept w W.drew (· = sb) := K0.trans (Kept.drew _ _) (fun _ _ h => h)
  clear qt ft qs fs i1 i2
  generalize W.drew = W1 at *
  clear D0 K0
  have i2 := D1.out.i2
  have qt := D1.out.a.reg D1.out.ht
  go_upto_region 2 with fail
  refine wp_region_phase 8 [(0, 0), (1, 0), (2, 1), (3, 0), (4, 0), (5, 0), (6, 1), (7, 0)] (fun W => Dq W ib sb S 19 s t d m) (by kernel_rfl) (by kernel_rfl) (fun _ _ _ d _ h => by cases d <;> first | exact h | exact Dq.drew h) D1.out.drew ?_
  repeat (first | (refine wpPlanZ_free (by rfl) (by rfl) (fun W => by (go_simp; try with_reducible rfl)) (fun K hK => ?_); go_simp; refine hK _ ?_; clear hK K) | (refine wpPlanZ_quiet (by rfl) (by rfl) (fun W hW => by (have i2 := hW.i2; have qt := hW.a.reg hW.ht; go_simp; try with_reducible rfl)) (fun K hK => ?_); go_simp; refine hK _ ?_; clear hK K))
  refine wpPlanZ_nil ?_
  have D0 : Hid (Dq W1.drew ib sb S 19 s t d m) := D1.out.drew
  have K0 : Kept w W1.drew (· = sb) := K1.trans (Kept.drew _ _) (fun _ _ h => h)
  clear qt i2
  generalize W1.drew = W at *
  clear D1 K1 W1
  have i0 := D0.out.i0
  generalize sg (S.r s) = gx at *
  generalize sg (S.r t) = gy at *
  have A1 := D0.out.a
  go_wp2_with fail
  refine (h1 _).mono ?_
  rintro e w8 ⟨rfl, hw8⟩
  rw [hw8]
  clear hw8 w8
  go_wp2_with fail
  refine (h2 _).mono ?_
  rintro e w8 ⟨rfl, hw8⟩
  rw [hw8]
  clear hw8 w8
  go_wp2_with fail
  refine (h3 _).mono ?_
  rintro e w8 ⟨rfl, hw8⟩
  rw [hw8]
  clear hw8 w8 h1 h2 h3
  go_wp2
  go_ret
  exact ⟨rfl, A1, K0⟩
set_option maxRecDepth 100000 in
set_option maxHeartbeats 8000000 in
theorem sumd_19n (A : StAt w sb S) (ok : S.ok) (hs : s < 32) (ht : t < 32) (hd : d < 32) (m0 : 0 ≤ m) (m1 : m < 4294967296) (hk : k = 19) (ho : ov (sg (S.r s) + sg (S.r t)) = false) : Calls Tryz.prog 195 #[.pointer (some ⟨sb, 0, none⟩), .agg #[.int .i64 k, .int .i64 s, .int .i64 t, .int .i64 d, .int .u32 m]] w fun e w' => e = .returned (.int .i64 (sumD S k s t d m).1) ∧ StAt w' sb (sumD S k s t d m).2 ∧ Kept w w' (· = sb) := by
  subst hk
  have X : sumD S 19 s t d m = (-1, S.putR d (resI S 19 (S.r s) (S.r t))) := by show (if ov (sg (S.r s) + sg (S.r t)) = true then _ else _) = _; rw [if_neg (by rw [ho]; decide)]; rfl
  rw [X]
  clear X
  have hk1 := fun W => kindOfD_any 19 (by unfold isK; omega) W
  have hk2 := fun W => sumK_any S 19 (by unfold isK; omega) (S.r s) (S.r t) (ok.r s) (ok.r t) W
  generalize resI S 19 (S.r s) (S.r t) = y at *
  generalize kindS (kdx 19) = ks at *
  have h1 := fun W => signed_any (S.r s) (ok.r s).1 (ok.r s).2 W
  have h2 := fun W => signed_any (S.r t) (ok.r t).1 (ok.r t).2 W
  have h3 := fun W => isSigned_any (sg (S.r s) + sg (S.r t)) W
  simp only [ho] at h3
  obtain ⟨s1a, s1b⟩ := sg_bd (ok.r s).1 (ok.r s).2
  obtain ⟨s2a, s2b⟩ := sg_bd (ok.r t).1 (ok.r t).2
  clear ho
  have D0 : Hid (Dq (w.alloc (.cells #[.int .i64 19, .int .i64 s, .int .i64 t, .int .i64 d, .int .u32 m] 113)) w.heap.size sb S 19 s t d m) := Dq.start A ok 19 hs ht hd m0 m1
  have K0 : Kept w (w.alloc (.cells #[.int .i64 19, .int .i64 s, .int .i64 t, .int .i64 d, .int .u32 m] 113)) (· = sb) := Kept.of_below _ ((Below.refl _ _).alloc (Nat.le_refl _) _)
  clear A
  go_enter Tryz.func195, Tryz.ntmps195
  go_upto_region 1 with fail
  generalize w.alloc (.cells #[.int .i64 19, .int .i64 s, .int .i64 t, .int .i64 d, .int .u32 m] 113) = W at *
  generalize w.heap.size = ib at *
  have i0 := D0.out.i0
  have i1 := D0.out.i1
  have i2 := D0.out.i2
  have i3 := D0.out.i3
  have i4 := D0.out.i4
  have qs := D0.out.a.reg D0.out.hs
  have fs := D0.out.a.fz s
  have hs' : (s : Int) < 32 := by have := D0.out.hs; omega
  have qt := D0.out.a.reg D0.out.ht
  have ft := D0.out.a.fz t
  have ht' : (t : Int) < 32 := by have := D0.out.ht; omega
  clear i0 i3 i4
  go_upto_region 1 with fail
  refine wp_region_phase 8 [(0, 0), (1, 0), (2, 1), (3, 0), (4, 0), (5, 0), (6, 1), (7, 0)] (fun W => Dq W ib sb S 19 s t d m) (by kernel_rfl) (by kernel_rfl) (fun _ _ _ d _ h => by cases d <;> first | exact h | exact Dq.drew h) D0.out.drew ?_
  repeat (first | (refine wpPlanZ_free (by rfl) (by rfl) (fun W => by (go_simp; try with_reducible rfl)) (fun K hK => ?_); go_simp; refine hK _ ?_; clear hK K) | (refine wpPlanZ_quiet (by rfl) (by rfl) (fun W hW => by (have i1 := hW.i1; have qs := hW.a.reg hW.hs; go_simp; try with_reducible rfl)) (fun K hK => ?_); go_simp; refine hK _ ?_; clear hK K))
  refine wpPlanZ_nil ?_
  have D1 : Hid (Dq W.drew ib sb S 19 s t d m) := D0.out.drew
  have K1 : Kept w W.drew (· = sb) := K0.trans (Kept.drew _ _) (fun _ _ h => h)
  clear qt ft qs fs i1 i2
  generalize W.drew = W1 at *
  clear D0 K0
  have i2 := D1.out.i2
  have qt := D1.out.a.reg D1.out.ht
  go_upto_region 2 with fail
  refine wp_region_phase 8 [(0, 0), (1, 0), (2, 1), (3, 0), (4, 0), (5, 0), (6, 1), (7, 0)] (fun W => Dq W ib sb S 19 s t d m) (by kernel_rfl) (by kernel_rfl) (fun _ _ _ d _ h => by cases d <;> first | exact h | exact Dq.drew h) D1.out.drew ?_
  repeat (first | (refine wpPlanZ_free (by rfl) (by rfl) (fun W => by (go_simp; try with_reducible rfl)) (fun K hK => ?_); go_simp; refine hK _ ?_; clear hK K) | (refine wpPlanZ_quiet (by rfl) (by rfl) (fun W hW => by (have i2 := hW.i2; have qt := hW.a.reg hW.ht; go_simp; try with_reducible rfl)) (fun K hK => ?_); go_simp; refine hK _ ?_; clear hK K))
  refine wpPlanZ_nil ?_
  have D0 : Hid (Dq W1.drew ib sb S 19 s t d m) := D1.out.drew
  have K0 : Kept w W1.drew (· = sb) := K1.trans (Kept.drew _ _) (fun _ _ h => h)
  clear qt i2
  generalize W1.drew = W at *
  clear D1 K1 W1
  have i0 := D0.out.i0
  generalize sg (S.r s) = gx at *
  generalize sg (S.r t) = gy at *
  have qd := D0.out.a.reg D0.out.hd
  have fd := D0.out.a.fz d
  have hd' : (d : Int) < 32 := by have := D0.out.hd; omega
  go_wp2_with fail
  refine (h1 _).mono ?_
  rintro e w8 ⟨rfl, hw8⟩
  rw [hw8]
  clear hw8 w8
  go_wp2_with fail
  refine (h2 _).mono ?_
  rintro e w8 ⟨rfl, hw8⟩
  rw [hw8]
  clear hw8 w8
  go_wp2_with fail
  refine (h3 _).mono ?_
  rintro e w8 ⟨rfl, hw8⟩
  rw [hw8]
  clear hw8 w8 h1 h2 h3
  go_upto_region 63 with fail
  clear i0
  refine wp_region_phase 12 [(0, 0), (1, 0), (2, 1), (3, 0), (4, 1), (6, 0), (7, 0), (9, 0), (10, 0), (5, 2), (8, 2), (11, 0), (12, 2)] (fun W => Dq W ib sb S 19 s t d m) (by kernel_rfl) (by kernel_rfl) (fun _ _ _ d _ h => by cases d <;> first | exact h | exact Dq.drew h) D0.out.drew ?_
  repeat (first | (refine wpPlanZ_free (by rfl) (by rfl) (fun W => by (go_simp; try with_reducible rfl)) (fun K hK => ?_); go_simp; refine hK _ ?_; clear hK K) | (refine wpPlanZ_quiet (by rfl) (by rfl) (fun W hW => by (have i3 := hW.i3; have i0 := hW.i0; go_simp; try with_reducible rfl)) (fun K hK => ?_); go_simp; refine hK _ ?_; clear hK K))
  refine wpPlanZ_serial (by rfl) (by rfl) (fun K hK => ?_)
  go_simp
  refine (hk1 _).mono ?_
  rintro e_ w_ ⟨rfl, rfl⟩
  refine hK _ _ (fun _ => D0.out.drew) ?_
  clear hK K
  repeat (first | (refine wpPlanZ_free (by rfl) (by rfl) (fun W => by (go_simp; try with_reducible rfl)) (fun K hK => ?_); go_simp; refine hK _ ?_; clear hK K) | (refine wpPlanZ_quiet (by rfl) (by rfl) (fun W hW => by (have i3 := hW.i3; have i0 := hW.i0; go_simp; try with_reducible rfl)) (fun K hK => ?_); go_simp; refine hK _ ?_; clear hK K))
  refine wpPlanZ_serial (by rfl) (by rfl) (fun K hK => ?_)
  go_simp
  refine (hk2 _).mono ?_
  rintro e_ w_ ⟨rfl, rfl⟩
  refine hK _ _ (fun _ => D0.out.drew) ?_
  clear hK K
  repeat (first | (refine wpPlanZ_free (by rfl) (by rfl) (fun W => by (go_simp; try with_reducible rfl)) (fun K hK => ?_); go_simp; refine hK _ ?_; clear hK K) | (refine wpPlanZ_quiet (by rfl) (by rfl) (fun W hW => by (have i3 := hW.i3; have i0 := hW.i0; go_simp; try with_reducible rfl)) (fun K hK => ?_); go_simp; refine hK _ ?_; clear hK K))
  refine wpPlanZ_serial (by rfl) (by rfl) (fun K hK => ?_)
  go_simp
  refine hK _ _ (fun h => absurd h (by decide)) ?_
  clear hK K
  refine wpPlanZ_nil ?_
  refine ck (R := fun W' => StAt W' sb (S.putR d y) ∧ Kept W W' (· = sb)) ?_ (fun w1 ⟨A1, T1⟩ => ?_)
  · exact ⟨(D0.out.a.putR d D0.out.hd _).drew, (Kept.put (Kept.refl W _) _ _).trans (Kept.drew _ _) (fun _ _ h => h)⟩
  clear qd fd
  go_wp2
  go_ret
  exact ⟨rfl, A1, K0.trans T1 (fun _ _ h => h)⟩
set_option maxRecDepth 100000 in
set_option maxHeartbeats 8000000 in
theorem sumd_21o (A : StAt w sb S) (ok : S.ok) (hs : s < 32) (ht : t < 32) (hd : d < 32) (m0 : 0 ≤ m) (m1 : m < 4294967296) (hk : k = 21) (ho : ov (sg (S.r s) - sg (S.r t)) = true) : Calls Tryz.prog 195 #[.pointer (some ⟨sb, 0, none⟩), .agg #[.int .i64 k, .int .i64 s, .int .i64 t, .int .i64 d, .int .u32 m]] w fun e w' => e = .returned (.int .i64 (sumD S k s t d m).1) ∧ StAt w' sb (sumD S k s t d m).2 ∧ Kept w w' (· = sb) := by
  subst hk
  have X : sumD S 21 s t d m = (12, S) := by show (if ov (sg (S.r s) - sg (S.r t)) = true then _ else _) = _; rw [if_pos ho]
  rw [X]
  clear X
  have hk1 := fun W => kindOfD_any 21 (by unfold isK; omega) W
  have hk2 := fun W => sumK_any S 21 (by unfold isK; omega) (S.r s) (S.r t) (ok.r s) (ok.r t) W
  generalize resI S 21 (S.r s) (S.r t) = y at *
  generalize kindS (kdx 21) = ks at *
  have h1 := fun W => signed_any (S.r s) (ok.r s).1 (ok.r s).2 W
  have h2 := fun W => signed_any (S.r t) (ok.r t).1 (ok.r t).2 W
  have h3 := fun W => isSigned_any (sg (S.r s) - sg (S.r t)) W
  simp only [ho] at h3
  obtain ⟨s1a, s1b⟩ := sg_bd (ok.r s).1 (ok.r s).2
  obtain ⟨s2a, s2b⟩ := sg_bd (ok.r t).1 (ok.r t).2
  clear ho
  have D0 : Hid (Dq (w.alloc (.cells #[.int .i64 21, .int .i64 s, .int .i64 t, .int .i64 d, .int .u32 m] 113)) w.heap.size sb S 21 s t d m) := Dq.start A ok 21 hs ht hd m0 m1
  have K0 : Kept w (w.alloc (.cells #[.int .i64 21, .int .i64 s, .int .i64 t, .int .i64 d, .int .u32 m] 113)) (· = sb) := Kept.of_below _ ((Below.refl _ _).alloc (Nat.le_refl _) _)
  clear A
  go_enter Tryz.func195, Tryz.ntmps195
  go_upto_region 1 with fail
  generalize w.alloc (.cells #[.int .i64 21, .int .i64 s, .int .i64 t, .int .i64 d, .int .u32 m] 113) = W at *
  generalize w.heap.size = ib at *
  have i0 := D0.out.i0
  have i1 := D0.out.i1
  have i2 := D0.out.i2
  have i3 := D0.out.i3
  have i4 := D0.out.i4
  have qs := D0.out.a.reg D0.out.hs
  have fs := D0.out.a.fz s
  have hs' : (s : Int) < 32 := by have := D0.out.hs; omega
  have qt := D0.out.a.reg D0.out.ht
  have ft := D0.out.a.fz t
  have ht' : (t : Int) < 32 := by have := D0.out.ht; omega
  clear i0 i3 i4
  go_upto_region 1 with fail
  refine wp_region_phase 8 [(0, 0), (1, 0), (2, 1), (3, 0), (4, 0), (5, 0), (6, 1), (7, 0)] (fun W => Dq W ib sb S 21 s t d m) (by kernel_rfl) (by kernel_rfl) (fun _ _ _ d _ h => by cases d <;> first | exact h | exact Dq.drew h) D0.out.drew ?_
  repeat (first | (refine wpPlanZ_free (by rfl) (by rfl) (fun W => by (go_simp; try with_reducible rfl)) (fun K hK => ?_); go_simp; refine hK _ ?_; clear hK K) | (refine wpPlanZ_quiet (by rfl) (by rfl) (fun W hW => by (have i1 := hW.i1; have qs := hW.a.reg hW.hs; go_simp; try with_reducible rfl)) (fun K hK => ?_); go_simp; refine hK _ ?_; clear hK K))
  refine wpPlanZ_nil ?_
  have D1 : Hid (Dq W.drew ib sb S 21 s t d m) := D0.out.drew
  have K1 : Kept w W.drew (· = sb) := K0.trans (Kept.drew _ _) (fun _ _ h => h)
  clear qt ft qs fs i1 i2
  generalize W.drew = W1 at *
  clear D0 K0
  have i2 := D1.out.i2
  have qt := D1.out.a.reg D1.out.ht
  go_upto_region 2 with fail
  refine wp_region_phase 8 [(0, 0), (1, 0), (2, 1), (3, 0), (4, 0), (5, 0), (6, 1), (7, 0)] (fun W => Dq W ib sb S 21 s t d m) (by kernel_rfl) (by kernel_rfl) (fun _ _ _ d _ h => by cases d <;> first | exact h | exact Dq.drew h) D1.out.drew ?_
  repeat (first | (refine wpPlanZ_free (by rfl) (by rfl) (fun W => by (go_simp; try with_reducible rfl)) (fun K hK => ?_); go_simp; refine hK _ ?_; clear hK K) | (refine wpPlanZ_quiet (by rfl) (by rfl) (fun W hW => by (have i2 := hW.i2; have qt := hW.a.reg hW.ht; go_simp; try with_reducible rfl)) (fun K hK => ?_); go_simp; refine hK _ ?_; clear hK K))
  refine wpPlanZ_nil ?_
  have D0 : Hid (Dq W1.drew ib sb S 21 s t d m) := D1.out.drew
  have K0 : Kept w W1.drew (· = sb) := K1.trans (Kept.drew _ _) (fun _ _ h => h)
  clear qt i2
  generalize W1.drew = W at *
  clear D1 K1 W1
  have i0 := D0.out.i0
  generalize sg (S.r s) = gx at *
  generalize sg (S.r t) = gy at *
  have A1 := D0.out.a
  go_wp2_with fail
  refine (h1 _).mono ?_
  rintro e w8 ⟨rfl, hw8⟩
  rw [hw8]
  clear hw8 w8
  go_wp2_with fail
  refine (h2 _).mono ?_
  rintro e w8 ⟨rfl, hw8⟩
  rw [hw8]
  clear hw8 w8
  go_wp2_with fail
  refine (h3 _).mono ?_
  rintro e w8 ⟨rfl, hw8⟩
  rw [hw8]
  clear hw8 w8 h1 h2 h3
  go_wp2
  go_ret
  exact ⟨rfl, A1, K0⟩
set_option maxRecDepth 100000 in
set_option maxHeartbeats 8000000 in
theorem sumd_21n (A : StAt w sb S) (ok : S.ok) (hs : s < 32) (ht : t < 32) (hd : d < 32) (m0 : 0 ≤ m) (m1 : m < 4294967296) (hk : k = 21) (ho : ov (sg (S.r s) - sg (S.r t)) = false) : Calls Tryz.prog 195 #[.pointer (some ⟨sb, 0, none⟩), .agg #[.int .i64 k, .int .i64 s, .int .i64 t, .int .i64 d, .int .u32 m]] w fun e w' => e = .returned (.int .i64 (sumD S k s t d m).1) ∧ StAt w' sb (sumD S k s t d m).2 ∧ Kept w w' (· = sb) := by
  subst hk
  have X : sumD S 21 s t d m = (-1, S.putR d (resI S 21 (S.r s) (S.r t))) := by show (if ov (sg (S.r s) - sg (S.r t)) = true then _ else _) = _; rw [if_neg (by rw [ho]; decide)]; rfl
  rw [X]
  clear X
  have hk1 := fun W => kindOfD_any 21 (by unfold isK; omega) W
  have hk2 := fun W => sumK_any S 21 (by unfold isK; omega) (S.r s) (S.r t) (ok.r s) (ok.r t) W
  generalize resI S 21 (S.r s) (S.r t) = y at *
  generalize kindS (kdx 21) = ks at *
  have h1 := fun W => signed_any (S.r s) (ok.r s).1 (ok.r s).2 W
  have h2 := fun W => signed_any (S.r t) (ok.r t).1 (ok.r t).2 W
  have h3 := fun W => isSigned_any (sg (S.r s) - sg (S.r t)) W
  simp only [ho] at h3
  obtain ⟨s1a, s1b⟩ := sg_bd (ok.r s).1 (ok.r s).2
  obtain ⟨s2a, s2b⟩ := sg_bd (ok.r t).1 (ok.r t).2
  clear ho
  have D0 : Hid (Dq (w.alloc (.cells #[.int .i64 21, .int .i64 s, .int .i64 t, .int .i64 d, .int .u32 m] 113)) w.heap.size sb S 21 s t d m) := Dq.start A ok 21 hs ht hd m0 m1
  have K0 : Kept w (w.alloc (.cells #[.int .i64 21, .int .i64 s, .int .i64 t, .int .i64 d, .int .u32 m] 113)) (· = sb) := Kept.of_below _ ((Below.refl _ _).alloc (Nat.le_refl _) _)
  clear A
  go_enter Tryz.func195, Tryz.ntmps195
  go_upto_region 1 with fail
  generalize w.alloc (.cells #[.int .i64 21, .int .i64 s, .int .i64 t, .int .i64 d, .int .u32 m] 113) = W at *
  generalize w.heap.size = ib at *
  have i0 := D0.out.i0
  have i1 := D0.out.i1
  have i2 := D0.out.i2
  have i3 := D0.out.i3
  have i4 := D0.out.i4
  have qs := D0.out.a.reg D0.out.hs
  have fs := D0.out.a.fz s
  have hs' : (s : Int) < 32 := by have := D0.out.hs; omega
  have qt := D0.out.a.reg D0.out.ht
  have ft := D0.out.a.fz t
  have ht' : (t : Int) < 32 := by have := D0.out.ht; omega
  clear i0 i3 i4
  go_upto_region 1 with fail
  refine wp_region_phase 8 [(0, 0), (1, 0), (2, 1), (3, 0), (4, 0), (5, 0), (6, 1), (7, 0)] (fun W => Dq W ib sb S 21 s t d m) (by kernel_rfl) (by kernel_rfl) (fun _ _ _ d _ h => by cases d <;> first | exact h | exact Dq.drew h) D0.out.drew ?_
  repeat (first | (refine wpPlanZ_free (by rfl) (by rfl) (fun W => by (go_simp; try with_reducible rfl)) (fun K hK => ?_); go_simp; refine hK _ ?_; clear hK K) | (refine wpPlanZ_quiet (by rfl) (by rfl) (fun W hW => by (have i1 := hW.i1; have qs := hW.a.reg hW.hs; go_simp; try with_reducible rfl)) (fun K hK => ?_); go_simp; refine hK _ ?_; clear hK K))
  refine wpPlanZ_nil ?_
  have D1 : Hid (Dq W.drew ib sb S 21 s t d m) := D0.out.drew
  have K1 : Kept w W.drew (· = sb) := K0.trans (Kept.drew _ _) (fun _ _ h => h)
  clear qt ft qs fs i1 i2
  generalize W.drew = W1 at *
  clear D0 K0
  have i2 := D1.out.i2
  have qt := D1.out.a.reg D1.out.ht
  go_upto_region 2 with fail
  refine wp_region_phase 8 [(0, 0), (1, 0), (2, 1), (3, 0), (4, 0), (5, 0), (6, 1), (7, 0)] (fun W => Dq W ib sb S 21 s t d m) (by kernel_rfl) (by kernel_rfl) (fun _ _ _ d _ h => by cases d <;> first | exact h | exact Dq.drew h) D1.out.drew ?_
  repeat (first | (refine wpPlanZ_free (by rfl) (by rfl) (fun W => by (go_simp; try with_reducible rfl)) (fun K hK => ?_); go_simp; refine hK _ ?_; clear hK K) | (refine wpPlanZ_quiet (by rfl) (by rfl) (fun W hW => by (have i2 := hW.i2; have qt := hW.a.reg hW.ht; go_simp; try with_reducible rfl)) (fun K hK => ?_); go_simp; refine hK _ ?_; clear hK K))
  refine wpPlanZ_nil ?_
  have D0 : Hid (Dq W1.drew ib sb S 21 s t d m) := D1.out.drew
  have K0 : Kept w W1.drew (· = sb) := K1.trans (Kept.drew _ _) (fun _ _ h => h)
  clear qt i2
  generalize W1.drew = W at *
  clear D1 K1 W1
  have i0 := D0.out.i0
  generalize sg (S.r s) = gx at *
  generalize sg (S.r t) = gy at *
  have qd := D0.out.a.reg D0.out.hd
  have fd := D0.out.a.fz d
  have hd' : (d : Int) < 32 := by have := D0.out.hd; omega
  go_wp2_with fail
  refine (h1 _).mono ?_
  rintro e w8 ⟨rfl, hw8⟩
  rw [hw8]
  clear hw8 w8
  go_wp2_with fail
  refine (h2 _).mono ?_
  rintro e w8 ⟨rfl, hw8⟩
  rw [hw8]
  clear hw8 w8
  go_wp2_with fail
  refine (h3 _).mono ?_
  rintro e w8 ⟨rfl, hw8⟩
  rw [hw8]
  clear hw8 w8 h1 h2 h3
  go_upto_region 63 with fail
  clear i0
  refine wp_region_phase 12 [(0, 0), (1, 0), (2, 1), (3, 0), (4, 1), (6, 0), (7, 0), (9, 0), (10, 0), (5, 2), (8, 2), (11, 0), (12, 2)] (fun W => Dq W ib sb S 21 s t d m) (by kernel_rfl) (by kernel_rfl) (fun _ _ _ d _ h => by cases d <;> first | exact h | exact Dq.drew h) D0.out.drew ?_
  repeat (first | (refine wpPlanZ_free (by rfl) (by rfl) (fun W => by (go_simp; try with_reducible rfl)) (fun K hK => ?_); go_simp; refine hK _ ?_; clear hK K) | (refine wpPlanZ_quiet (by rfl) (by rfl) (fun W hW => by (have i3 := hW.i3; have i0 := hW.i0; go_simp; try with_reducible rfl)) (fun K hK => ?_); go_simp; refine hK _ ?_; clear hK K))
  refine wpPlanZ_serial (by rfl) (by rfl) (fun K hK => ?_)
  go_simp
  refine (hk1 _).mono ?_
  rintro e_ w_ ⟨rfl, rfl⟩
  refine hK _ _ (fun _ => D0.out.drew) ?_
  clear hK K
  repeat (first | (refine wpPlanZ_free (by rfl) (by rfl) (fun W => by (go_simp; try with_reducible rfl)) (fun K hK => ?_); go_simp; refine hK _ ?_; clear hK K) | (refine wpPlanZ_quiet (by rfl) (by rfl) (fun W hW => by (have i3 := hW.i3; have i0 := hW.i0; go_simp; try with_reducible rfl)) (fun K hK => ?_); go_simp; refine hK _ ?_; clear hK K))
  refine wpPlanZ_serial (by rfl) (by rfl) (fun K hK => ?_)
  go_simp
  refine (hk2 _).mono ?_
  rintro e_ w_ ⟨rfl, rfl⟩
  refine hK _ _ (fun _ => D0.out.drew) ?_
  clear hK K
  repeat (first | (refine wpPlanZ_free (by rfl) (by rfl) (fun W => by (go_simp; try with_reducible rfl)) (fun K hK => ?_); go_simp; refine hK _ ?_; clear hK K) | (refine wpPlanZ_quiet (by rfl) (by rfl) (fun W hW => by (have i3 := hW.i3; have i0 := hW.i0; go_simp; try with_reducible rfl)) (fun K hK => ?_); go_simp; refine hK _ ?_; clear hK K))
  refine wpPlanZ_serial (by rfl) (by rfl) (fun K hK => ?_)
  go_simp
  refine hK _ _ (fun h => absurd h (by decide)) ?_
  clear hK K
  refine wpPlanZ_nil ?_
  refine ck (R := fun W' => StAt W' sb (S.putR d y) ∧ Kept W W' (· = sb)) ?_ (fun w1 ⟨A1, T1⟩ => ?_)
  · exact ⟨(D0.out.a.putR d D0.out.hd _).drew, (Kept.put (Kept.refl W _) _ _).trans (Kept.drew _ _) (fun _ _ h => h)⟩
  clear qd fd
  go_wp2
  go_ret
  exact ⟨rfl, A1, K0.trans T1 (fun _ _ h => h)⟩
end
end Go.Proofs.YtflagpkmebdckaaGreatDoor
/-
  Sums with a signed number.
-/
namespace Go.Proofs.YtflagpkmebdckaaGreatDoor
open Go.RowKit Go.Maps
open Num
set_option linter.unusedVariables false
section
variable {w : World} {sb : Nat} {S : St} {k s t d : Nat} {m : Int}
set_option maxRecDepth 100000 in
set_option maxHeartbeats 8000000 in
theorem sumd_35o (A : StAt w sb S) (ok : S.ok) (hs : s < 32) (ht : t < 32) (hd : d < 32) (m0 : 0 ≤ m) (m1 : m < 4294967296) (hk : k = 35) (ho : ov (sg (S.r s) + sg (wd m 16 true)) = true) : Calls Tryz.prog 195 #[.pointer (some ⟨sb, 0, none⟩), .agg #[.int .i64 k, .int .i64 s, .int .i64 t, .int .i64 d, .int .u32 m]] w fun e w' => e = .returned (.int .i64 (sumD S k s t d m).1) ∧ StAt w' sb (sumD S k s t d m).2 ∧ Kept w w' (· = sb) := by
  subst hk
  have X : sumD S 35 s t d m = (12, S) := by show (if ov (sg (S.r s) + sg (wd m 16 true)) = true then _ else _) = _; rw [if_pos ho]
  rw [X]
  clear X
  have hi := fun W => immOf_any 35 s t d m m0 m1 W
  have hwd : u32 (wd m 16 true) := wd_bd m0 m1 _
  have hk1 := fun W => kindOfD_any 35 (by unfold isK; omega) W
  have hk2 := fun W => sumK_any S 35 (by unfold isK; omega) (S.r s) (wd m 16 true) (ok.r s) hwd W
  generalize resI S 35 (S.r s) (wd m 16 true) = y at *
  generalize kindS (kdx 35) = ks at *
  have h1 := fun W => signed_any (S.r s) (ok.r s).1 (ok.r s).2 W
  have h2 := fun W => signed_any (wd m 16 true) hwd.1 hwd.2 W
  have h3 := fun W => isSigned_any (sg (S.r s) + sg (wd m 16 true)) W
  obtain ⟨s1a, s1b⟩ := sg_bd (ok.r s).1 (ok.r s).2
  obtain ⟨s2a, s2b⟩ := sg_bd hwd.1 hwd.2
  simp only [ho] at h3
  clear ho
  generalize sg (wd m 16 true) = gy at *
  generalize wd m 16 true = n at *
  clear hwd
  have D0 : Hid (Dq (w.alloc (.cells #[.int .i64 35, .int .i64 s, .int .i64 t, .int .i64 d, .int .u32 m] 113)) w.heap.size sb S 35 s t d m) := Dq.start A ok 35 hs ht hd m0 m1
  have K0 : Kept w (w.alloc (.cells #[.int .i64 35, .int .i64 s, .int .i64 t, .int .i64 d, .int .u32 m] 113)) (· = sb) := Kept.of_below _ ((Below.refl _ _).alloc (Nat.le_refl _) _)
  clear A
  go_enter Tryz.func195, Tryz.ntmps195
  go_upto_region 1 with fail
  generalize w.alloc (.cells #[.int .i64 35, .int .i64 s, .int .i64 t, .int .i64 d, .int .u32 m] 113) = W at *
  generalize w.heap.size = ib at *
  have i0 := D0.out.i0
  have i1 := D0.out.i1
  have i2 := D0.out.i2
  have i3 := D0.out.i3
  have i4 := D0.out.i4
  have qs := D0.out.a.reg D0.out.hs
  have fs := D0.out.a.fz s
  have hs' : (s : Int) < 32 := by have := D0.out.hs; omega
  have qt := D0.out.a.reg D0.out.ht
  have ft := D0.out.a.fz t
  have ht' : (t : Int) < 32 := by have := D0.out.ht; omega
  clear i0 i3 i4
  go_upto_region 1 with fail
  refine wp_region_phase 8 [(0, 0), (1, 0), (2, 1), (3, 0), (4, 0), (5, 0), (6, 1), (7, 0)] (fun W => Dq W ib sb S 35 s t d m) (by kernel_rfl) (by kernel_rfl) (fun _ _ _ d _ h => by cases d <;> first | exact h | exact Dq.drew h) D0.out.drew ?_
  repeat (first | (refine wpPlanZ_free (by rfl) (by rfl) (fun W => by (go_simp; try with_reducible rfl)) (fun K hK => ?_); go_simp; refine hK _ ?_; clear hK K) | (refine wpPlanZ_quiet (by rfl) (by rfl) (fun W hW => by (have i1 := hW.i1; have qs := hW.a.reg hW.hs; go_simp; try with_reducible rfl)) (fun K hK => ?_); go_simp; refine hK _ ?_; clear hK K))
  refine wpPlanZ_nil ?_
  have D1 : Hid (Dq W.drew ib sb S 35 s t d m) := D0.out.drew
  have K1 : Kept w W.drew (· = sb) := K0.trans (Kept.drew _ _) (fun _ _ h => h)
  clear qt ft qs fs i1 i2
  generalize W.drew = W1 at *
  clear D0 K0
  have i2 := D1.out.i2
  have qt := D1.out.a.reg D1.out.ht
  go_upto_region 2 with fail
  refine wp_region_phase 8 [(0, 0), (1, 0), (2, 1), (3, 0), (4, 0), (5, 0), (6, 1), (7, 0)] (fun W => Dq W ib sb S 35 s t d m) (by kernel_rfl) (by kernel_rfl) (fun _ _ _ d _ h => by cases d <;> first | exact h | exact Dq.drew h) D1.out.drew ?_
  repeat (first | (refine wpPlanZ_free (by rfl) (by rfl) (fun W => by (go_simp; try with_reducible rfl)) (fun K hK => ?_); go_simp; refine hK _ ?_; clear hK K) | (refine wpPlanZ_quiet (by rfl) (by rfl) (fun W hW => by (have i2 := hW.i2; have qt := hW.a.reg hW.ht; go_simp; try with_reducible rfl)) (fun K hK => ?_); go_simp; refine hK _ ?_; clear hK K))
  refine wpPlanZ_nil ?_
  have D0 : Hid (Dq W1.drew ib sb S 35 s t d m) := D1.out.drew
  have K0 : Kept w W1.drew (· = sb) := K1.trans (Kept.drew _ _) (fun _ _ h => h)
  clear qt i2
  generalize W1.drew = W at *
  clear D1 K1 W1
  generalize sg (S.r s) = gx at *
  have i0 := D0.out.i0
  have i1 := D0.out.i1
  have i2 := D0.out.i2
  have i3 := D0.out.i3
  have i4 := D0.out.i4
  go_upto_region 49 with fail
  go_wp2_with fail
  refine (hi _).mono ?_
  rintro e w2 ⟨rfl, hb⟩
  have D2 : Hid (Dq w2 ib sb S 35 s t d m) := D0.out.stays hb
  have K2 : Kept w w2 (· = sb) := K0.trans (Kept.of_below _ hb) (fun _ _ h => h)
  clear hb i0 i1 i2 i3 i4 D0 K0 hi
  have D0 := D2
  have K0 := K2
  clear D2 K2
  have i0 := D0.out.i0
  have A1 := D0.out.a
  go_wp2_with fail
  refine (h1 _).mono ?_
  rintro e w8 ⟨rfl, hw8⟩
  rw [hw8]
  clear hw8 w8
  go_wp2_with fail
  refine (h2 _).mono ?_
  rintro e w8 ⟨rfl, hw8⟩
  rw [hw8]
  clear hw8 w8
  go_wp2_with fail
  refine (h3 _).mono ?_
  rintro e w8 ⟨rfl, hw8⟩
  rw [hw8]
  clear hw8 w8 h1 h2 h3
  go_wp2
  go_ret
  exact ⟨rfl, A1, K0⟩
set_option maxRecDepth 100000 in
set_option maxHeartbeats 8000000 in
theorem sumd_35n (A : StAt w sb S) (ok : S.ok) (hs : s < 32) (ht : t < 32) (hd : d < 32) (m0 : 0 ≤ m) (m1 : m < 4294967296) (hk : k = 35) (ho : ov (sg (S.r s) + sg (wd m 16 true)) = false) : Calls Tryz.prog 195 #[.pointer (some ⟨sb, 0, none⟩), .agg #[.int .i64 k, .int .i64 s, .int .i64 t, .int .i64 d, .int .u32 m]] w fun e w' => e = .returned (.int .i64 (sumD S k s t d m).1) ∧ StAt w' sb (sumD S k s t d m).2 ∧ Kept w w' (· = sb) := by
  subst hk
  have X : sumD S 35 s t d m = (-1, S.putR t (resI S 35 (S.r s) (wd m 16 true))) := by show (if ov (sg (S.r s) + sg (wd m 16 true)) = true then _ else _) = _; rw [if_neg (by rw [ho]; decide)]; rfl
  rw [X]
  clear X
  have hi := fun W => immOf_any 35 s t d m m0 m1 W
  have hwd : u32 (wd m 16 true) := wd_bd m0 m1 _
  have hk1 := fun W => kindOfD_any 35 (by unfold isK; omega) W
  have hk2 := fun W => sumK_any S 35 (by unfold isK; omega) (S.r s) (wd m 16 true) (ok.r s) hwd W
  generalize resI S 35 (S.r s) (wd m 16 true) = y at *
  generalize kindS (kdx 35) = ks at *
  have h1 := fun W => signed_any (S.r s) (ok.r s).1 (ok.r s).2 W
  have h2 := fun W => signed_any (wd m 16 true) hwd.1 hwd.2 W
  have h3 := fun W => isSigned_any (sg (S.r s) + sg (wd m 16 true)) W
  obtain ⟨s1a, s1b⟩ := sg_bd (ok.r s).1 (ok.r s).2
  obtain ⟨s2a, s2b⟩ := sg_bd hwd.1 hwd.2
  simp only [ho] at h3
  clear ho
  generalize sg (wd m 16 true) = gy at *
  generalize wd m 16 true = n at *
  clear hwd
  have D0 : Hid (Dq (w.alloc (.cells #[.int .i64 35, .int .i64 s, .int .i64 t, .int .i64 d, .int .u32 m] 113)) w.heap.size sb S 35 s t d m) := Dq.start A ok 35 hs ht hd m0 m1
  have K0 : Kept w (w.alloc (.cells #[.int .i64 35, .int .i64 s, .int .i64 t, .int .i64 d, .int .u32 m] 113)) (· = sb) := Kept.of_below _ ((Below.refl _ _).alloc (Nat.le_refl _) _)
  clear A
  go_enter Tryz.func195, Tryz.ntmps195
  go_upto_region 1 with fail
  generalize w.alloc (.cells #[.int .i64 35, .int .i64 s, .int .i64 t, .int .i64 d, .int .u32 m] 113) = W at *
  generalize w.heap.size = ib at *
  have i0 := D0.out.i0
  have i1 := D0.out.i1
  have i2 := D0.out.i2
  have i3 := D0.out.i3
  have i4 := D0.out.i4
  have qs := D0.out.a.reg D0.out.hs
  have fs := D0.out.a.fz s
  have hs' : (s : Int) < 32 := by have := D0.out.hs; omega
  have qt := D0.out.a.reg D0.out.ht
  have ft := D0.out.a.fz t
  have ht' : (t : Int) < 32 := by have := D0.out.ht; omega
  clear i0 i3 i4
  go_upto_region 1 with fail
  refine wp_region_phase 8 [(0, 0), (1, 0), (2, 1), (3, 0), (4, 0), (5, 0), (6, 1), (7, 0)] (fun W => Dq W ib sb S 35 s t d m) (by kernel_rfl) (by kernel_rfl) (fun _ _ _ d _ h => by cases d <;> first | exact h | exact Dq.drew h) D0.out.drew ?_
  repeat (first | (refine wpPlanZ_free (by rfl) (by rfl) (fun W => by (go_simp; try with_reducible rfl)) (fun K hK => ?_); go_simp; refine hK _ ?_; clear hK K) | (refine wpPlanZ_quiet (by rfl) (by rfl) (fun W hW => by (have i1 := hW.i1; have qs := hW.a.reg hW.hs; go_simp; try with_reducible rfl)) (fun K hK => ?_); go_simp; refine hK _ ?_; clear hK K))
  refine wpPlanZ_nil ?_
  have D1 : Hid (Dq W.drew ib sb S 35 s t d m) := D0.out.drew
  have K1 : Kept w W.drew (· = sb) := K0.trans (Kept.drew _ _) (fun _ _ h => h)
  clear qt ft qs fs i1 i2
  generalize W.drew = W1 at *
  clear D0 K0
  have i2 := D1.out.i2
  have qt := D1.out.a.reg D1.out.ht
  go_upto_region 2 with fail
  refine wp_region_phase 8 [(0, 0), (1, 0), (2, 1), (3, 0), (4, 0), (5, 0), (6, 1), (7, 0)] (fun W => Dq W ib sb S 35 s t d m) (by kernel_rfl) (by kernel_rfl) (fun _ _ _ d _ h => by cases d <;> first | exact h | exact Dq.drew h) D1.out.drew ?_
  repeat (first | (refine wpPlanZ_free (by rfl) (by rfl) (fun W => by (go_simp; try with_reducible rfl)) (fun K hK => ?_); go_simp; refine hK _ ?_; clear hK K) | (refine wpPlanZ_quiet (by rfl) (by rfl) (fun W hW => by (have i2 := hW.i2; have qt := hW.a.reg hW.ht; go_simp; try with_reducible rfl)) (fun K hK => ?_); go_simp; refine hK _ ?_; clear hK K))
  refine wpPlanZ_nil ?_
  have D0 : Hid (Dq W1.drew ib sb S 35 s t d m) := D1.out.drew
  have K0 : Kept w W1.drew (· = sb) := K1.trans (Kept.drew _ _) (fun _ _ h => h)
  clear qt i2
  generalize W1.drew = W at *
  clear D1 K1 W1
  generalize sg (S.r s) = gx at *
  have i0 := D0.out.i0
  have i1 := D0.out.i1
  have i2 := D0.out.i2
  have i3 := D0.out.i3
  have i4 := D0.out.i4
  go_upto_region 49 with fail
  go_wp2_with fail
  refine (hi _).mono ?_
  rintro e w2 ⟨rfl, hb⟩
  have D2 : Hid (Dq w2 ib sb S 35 s t d m) := D0.out.stays hb
  have K2 : Kept w w2 (· = sb) := K0.trans (Kept.of_below _ hb) (fun _ _ h => h)
  clear hb i0 i1 i2 i3 i4 D0 K0 hi
  have D0 := D2
  have K0 := K2
  clear D2 K2
  have i0 := D0.out.i0
  have qt := D0.out.a.reg D0.out.ht
  have ft := D0.out.a.fz t
  have ht' : (t : Int) < 32 := by have := D0.out.ht; omega
  go_wp2_with fail
  refine (h1 _).mono ?_
  rintro e w8 ⟨rfl, hw8⟩
  rw [hw8]
  clear hw8 w8
  go_wp2_with fail
  refine (h2 _).mono ?_
  rintro e w8 ⟨rfl, hw8⟩
  rw [hw8]
  clear hw8 w8
  go_wp2_with fail
  refine (h3 _).mono ?_
  rintro e w8 ⟨rfl, hw8⟩
  rw [hw8]
  clear hw8 w8 h1 h2 h3
  go_upto_region 53 with fail
  clear i0
  obtain ⟨W, hW⟩ : ∃ W, W = w2 := ⟨_, rfl⟩
  rw [← hW] at D0 K0 qt ft ⊢
  clear hW
  refine wp_region_phase 12 [(0, 0), (1, 0), (2, 1), (3, 0), (4, 1), (6, 0), (7, 0), (9, 0), (10, 0), (5, 2), (8, 2), (11, 0), (12, 2)] (fun W => Dq W ib sb S 35 s t d m) (by kernel_rfl) (by kernel_rfl) (fun _ _ _ d _ h => by cases d <;> first | exact h | exact Dq.drew h) D0.out.drew ?_
  repeat (first | (refine wpPlanZ_free (by rfl) (by rfl) (fun W => by (go_simp; try with_reducible rfl)) (fun K hK => ?_); go_simp; refine hK _ ?_; clear hK K) | (refine wpPlanZ_quiet (by rfl) (by rfl) (fun W hW => by (have i2 := hW.i2; have i0 := hW.i0; go_simp; try with_reducible rfl)) (fun K hK => ?_); go_simp; refine hK _ ?_; clear hK K))
  refine wpPlanZ_serial (by rfl) (by rfl) (fun K hK => ?_)
  go_simp
  refine (hk1 _).mono ?_
  rintro e_ w_ ⟨rfl, rfl⟩
  refine hK _ _ (fun _ => D0.out.drew) ?_
  clear hK K
  repeat (first | (refine wpPlanZ_free (by rfl) (by rfl) (fun W => by (go_simp; try with_reducible rfl)) (fun K hK => ?_); go_simp; refine hK _ ?_; clear hK K) | (refine wpPlanZ_quiet (by rfl) (by rfl) (fun W hW => by (have i2 := hW.i2; have i0 := hW.i0; go_simp; try with_reducible rfl)) (fun K hK => ?_); go_simp; refine hK _ ?_; clear hK K))
  refine wpPlanZ_serial (by rfl) (by rfl) (fun K hK => ?_)
  go_simp
  refine (hk2 _).mono ?_
  rintro e_ w_ ⟨rfl, rfl⟩
  refine hK _ _ (fun _ => D0.out.drew) ?_
  clear hK K
  repeat (first | (refine wpPlanZ_free (by rfl) (by rfl) (fun W => by (go_simp; try with_reducible rfl)) (fun K hK => ?_); go_simp; refine hK _ ?_; clear hK K) | (refine wpPlanZ_quiet (by rfl) (by rfl) (fun W hW => by (have i2 := hW.i2; have i0 := hW.i0; go_simp; try with_reducible rfl)) (fun K hK => ?_); go_simp; refine hK _ ?_; clear hK K))
  refine wpPlanZ_serial (by rfl) (by rfl) (fun K hK => ?_)
  go_simp
  refine hK _ _ (fun h => absurd h (by decide)) ?_
  clear hK K
  refine wpPlanZ_nil ?_
  refine ck (R := fun W' => StAt W' sb (S.putR t y) ∧ Kept W W' (· = sb)) ?_ (fun w1 ⟨A1, T1⟩ => ?_)
  · exact ⟨(D0.out.a.putR t D0.out.ht _).drew, (Kept.put (Kept.refl W _) _ _).trans (Kept.drew _ _) (fun _ _ h => h)⟩
  clear qt ft
  go_wp2
  go_ret
  exact ⟨rfl, A1, K0.trans T1 (fun _ _ h => h)⟩
set_option maxRecDepth 100000 in
set_option maxHeartbeats 8000000 in
theorem sumd_36 (A : StAt w sb S) (ok : S.ok) (hs : s < 32) (ht : t < 32) (hd : d < 32) (m0 : 0 ≤ m) (m1 : m < 4294967296) (hk : k = 36) : Calls Tryz.prog 195 #[.pointer (some ⟨sb, 0, none⟩), .agg #[.int .i64 k, .int .i64 s, .int .i64 t, .int .i64 d, .int .u32 m]] w fun e w' => e = .returned (.int .i64 (sumD S k s t d m).1) ∧ StAt w' sb (sumD S k s t d m).2 ∧ Kept w w' (· = sb) := by
  subst hk
  have X : sumD S 36 s t d m = (-1, S.putR t (resI S 36 (S.r s) (wd m 16 true))) := rfl
  rw [X]
  clear X
  have hi := fun W => immOf_any 36 s t d m m0 m1 W
  have hwd : u32 (wd m 16 true) := wd_bd m0 m1 _
  have hk1 := fun W => kindOfD_any 36 (by unfold isK; omega) W
  have hk2 := fun W => sumK_any S 36 (by unfold isK; omega) (S.r s) (wd m 16 true) (ok.r s) hwd W
  generalize resI S 36 (S.r s) (wd m 16 true) = y at *
  generalize kindS (kdx 36) = ks at *
  have h1 := fun W => signed_any (S.r s) (ok.r s).1 (ok.r s).2 W
  have h2 := fun W => signed_any (wd m 16 true) hwd.1 hwd.2 W
  have h3 := fun W => isSigned_any (sg (S.r s) + sg (wd m 16 true)) W
  obtain ⟨s1a, s1b⟩ := sg_bd (ok.r s).1 (ok.r s).2
  obtain ⟨s2a, s2b⟩ := sg_bd hwd.1 hwd.2
  generalize sg (wd m 16 true) = gy at *
  generalize wd m 16 true = n at *
  clear hwd
  have D0 : Hid (Dq (w.alloc (.cells #[.int .i64 36, .int .i64 s, .int .i64 t, .int .i64 d, .int .u32 m] 113)) w.heap.size sb S 36 s t d m) := Dq.start A ok 36 hs ht hd m0 m1
  have K0 : Kept w (w.alloc (.cells #[.int .i64 36, .int .i64 s, .int .i64 t, .int .i64 d, .int .u32 m] 113)) (· = sb) := Kept.of_below _ ((Below.refl _ _).alloc (Nat.le_refl _) _)
  clear A
  go_enter Tryz.func195, Tryz.ntmps195
  go_upto_region 1 with fail
  generalize w.alloc (.cells #[.int .i64 36, .int .i64 s, .int .i64 t, .int .i64 d, .int .u32 m] 113) = W at *
  generalize w.heap.size = ib at *
  have i0 := D0.out.i0
  have i1 := D0.out.i1
  have i2 := D0.out.i2
  have i3 := D0.out.i3
  have i4 := D0.out.i4
  have qs := D0.out.a.reg D0.out.hs
  have fs := D0.out.a.fz s
  have hs' : (s : Int) < 32 := by have := D0.out.hs; omega
  have qt := D0.out.a.reg D0.out.ht
  have ft := D0.out.a.fz t
  have ht' : (t : Int) < 32 := by have := D0.out.ht; omega
  clear i0 i3 i4
  go_upto_region 1 with fail
  refine wp_region_phase 8 [(0, 0), (1, 0), (2, 1), (3, 0), (4, 0), (5, 0), (6, 1), (7, 0)] (fun W => Dq W ib sb S 36 s t d m) (by kernel_rfl) (by kernel_rfl) (fun _ _ _ d _ h => by cases d <;> first | exact h | exact Dq.drew h) D0.out.drew ?_
  repeat (first | (refine wpPlanZ_free (by rfl) (by rfl) (fun W => by (go_simp; try with_reducible rfl)) (fun K hK => ?_); go_simp; refine hK _ ?_; clear hK K) | (refine wpPlanZ_quiet (by rfl) (by rfl) (fun W hW => by (have i1 := hW.i1; have qs := hW.a.reg hW.hs; go_simp; try with_reducible rfl)) (fun K hK => ?_); go_simp; refine hK _ ?_; clear hK K))
  refine wpPlanZ_nil ?_
  have D1 : Hid (Dq W.drew ib sb S 36 s t d m) := D0.out.drew
  have K1 : Kept w W.drew (· = sb) := K0.trans (Kept.drew _ _) (fun _ _ h => h)
  clear qt ft qs fs i1 i2
  generalize W.drew = W1 at *
  clear D0 K0
  have i2 := D1.out.i2
  have qt := D1.out.a.reg D1.out.ht
  go_upto_region 2 with fail
  refine wp_region_phase 8 [(0, 0), (1, 0), (2, 1), (3, 0), (4, 0), (5, 0), (6, 1), (7, 0)] (fun W => Dq W ib sb S 36 s t d m) (by kernel_rfl) (by kernel_rfl) (fun _ _ _ d _ h => by cases d <;> first | exact h | exact Dq.drew h) D1.out.drew ?_
  repeat (first | (refine wpPlanZ_free (by rfl) (by rfl) (fun W => by (go_simp; try with_reducible rfl)) (fun K hK => ?_); go_simp; refine hK _ ?_; clear hK K) | (refine wpPlanZ_quiet (by rfl) (by rfl) (fun W hW => by (have i2 := hW.i2; have qt := hW.a.reg hW.ht; go_simp; try with_reducible rfl)) (fun K hK => ?_); go_simp; refine hK _ ?_; clear hK K))
  refine wpPlanZ_nil ?_
  have D0 : Hid (Dq W1.drew ib sb S 36 s t d m) := D1.out.drew
  have K0 : Kept w W1.drew (· = sb) := K1.trans (Kept.drew _ _) (fun _ _ h => h)
  clear qt i2
  generalize W1.drew = W at *
  clear D1 K1 W1
  generalize sg (S.r s) = gx at *
  generalize ov (gx + gy) = ovb at *
  have i0 := D0.out.i0
  have i1 := D0.out.i1
  have i2 := D0.out.i2
  have i3 := D0.out.i3
  have i4 := D0.out.i4
  go_upto_region 49 with fail
  go_wp2_with fail
  refine (hi _).mono ?_
  rintro e w2 ⟨rfl, hb⟩
  have D2 : Hid (Dq w2 ib sb S 36 s t d m) := D0.out.stays hb
  have K2 : Kept w w2 (· = sb) := K0.trans (Kept.of_below _ hb) (fun _ _ h => h)
  clear hb i0 i1 i2 i3 i4 D0 K0 hi
  have D0 := D2
  have K0 := K2
  clear D2 K2
  have i0 := D0.out.i0
  have qt := D0.out.a.reg D0.out.ht
  have ft := D0.out.a.fz t
  have ht' : (t : Int) < 32 := by have := D0.out.ht; omega
  go_wp2_with fail
  refine (h1 _).mono ?_
  rintro e w8 ⟨rfl, hw8⟩
  rw [hw8]
  clear hw8 w8
  go_wp2_with fail
  refine (h2 _).mono ?_
  rintro e w8 ⟨rfl, hw8⟩
  rw [hw8]
  clear hw8 w8
  go_wp2_with fail
  refine (h3 _).mono ?_
  rintro e w8 ⟨rfl, hw8⟩
  rw [hw8]
  clear hw8 w8 h1 h2 h3
  go_upto_region 53 with fail
  clear i0
  obtain ⟨W, hW⟩ : ∃ W, W = w2 := ⟨_, rfl⟩
  rw [← hW] at D0 K0 qt ft ⊢
  clear hW
  refine wp_region_phase 12 [(0, 0), (1, 0), (2, 1), (3, 0), (4, 1), (6, 0), (7, 0), (9, 0), (10, 0), (5, 2), (8, 2), (11, 0), (12, 2)] (fun W => Dq W ib sb S 36 s t d m) (by kernel_rfl) (by kernel_rfl) (fun _ _ _ d _ h => by cases d <;> first | exact h | exact Dq.drew h) D0.out.drew ?_
  repeat (first | (refine wpPlanZ_free (by rfl) (by rfl) (fun W => by (go_simp; try with_reducible rfl)) (fun K hK => ?_); go_simp; refine hK _ ?_; clear hK K) | (refine wpPlanZ_quiet (by rfl) (by rfl) (fun W hW => by (have i2 := hW.i2; have i0 := hW.i0; go_simp; try with_reducible rfl)) (fun K hK => ?_); go_simp; refine hK _ ?_; clear hK K))
  refine wpPlanZ_serial (by rfl) (by rfl) (fun K hK => ?_)
  go_simp
  refine (hk1 _).mono ?_
  rintro e_ w_ ⟨rfl, rfl⟩
  refine hK _ _ (fun _ => D0.out.drew) ?_
  clear hK K
  repeat (first | (refine wpPlanZ_free (by rfl) (by rfl) (fun W => by (go_simp; try with_reducible rfl)) (fun K hK => ?_); go_simp; refine hK _ ?_; clear hK K) | (refine wpPlanZ_quiet (by rfl) (by rfl) (fun W hW => by (have i2 := hW.i2; have i0 := hW.i0; go_simp; try with_reducible rfl)) (fun K hK => ?_); go_simp; refine hK _ ?_; clear hK K))
  refine wpPlanZ_serial (by rfl) (by rfl) (fun K hK => ?_)
  go_simp
  refine (hk2 _).mono ?_
  rintro e_ w_ ⟨rfl, rfl⟩
  refine hK _ _ (fun _ => D0.out.drew) ?_
  clear hK K
  repeat (first | (refine wpPlanZ_free (by rfl) (by rfl) (fun W => by (go_simp; try with_reducible rfl)) (fun K hK => ?_); go_simp; refine hK _ ?_; clear hK K) | (refine wpPlanZ_quiet (by rfl) (by rfl) (fun W hW => by (have i2 := hW.i2; have i0 := hW.i0; go_simp; try with_reducible rfl)) (fun K hK => ?_); go_simp; refine hK _ ?_; clear hK K))
  refine wpPlanZ_serial (by rfl) (by rfl) (fun K hK => ?_)
  go_simp
  refine hK _ _ (fun h => absurd h (by decide)) ?_
  clear hK K
  refine wpPlanZ_nil ?_
  refine ck (R := fun W' => StAt W' sb (S.putR t y) ∧ Kept W W' (· = sb)) ?_ (fun w1 ⟨A1, T1⟩ => ?_)
  · exact ⟨(D0.out.a.putR t D0.out.ht _).drew, (Kept.put (Kept.refl W _) _ _).trans (Kept.drew _ _) (fun _ _ h => h)⟩
  clear qt ft
  go_wp2
  go_ret
  exact ⟨rfl, A1, K0.trans T1 (fun _ _ h => h)⟩
set_option maxRecDepth 100000 in
set_option maxHeartbeats 8000000 in
theorem sumd_37 (A : StAt w sb S) (ok : S.ok) (hs : s < 32) (ht : t < 32) (hd : d < 32) (m0 : 0 ≤ m) (m1 : m < 4294967296) (hk : k = 37) : Calls Tryz.prog 195 #[.pointer (some ⟨sb, 0, none⟩), .agg #[.int .i64 k, .int .i64 s, .int .i64 t, .int .i64 d, .int .u32 m]] w fun e w' => e = .returned (.int .i64 (sumD S k s t d m).1) ∧ StAt w' sb (sumD S k s t d m).2 ∧ Kept w w' (· = sb) := by
  subst hk
  have X : sumD S 37 s t d m = (-1, S.putR t (resI S 37 (S.r s) (wd m 16 true))) := rfl
  rw [X]
  clear X
  have hi := fun W => immOf_any 37 s t d m m0 m1 W
  have hwd : u32 (wd m 16 true) := wd_bd m0 m1 _
  have hk1 := fun W => kindOfD_any 37 (by unfold isK; omega) W
  have hk2 := fun W => sumK_any S 37 (by unfold isK; omega) (S.r s) (wd m 16 true) (ok.r s) hwd W
  generalize resI S 37 (S.r s) (wd m 16 true) = y at *
  generalize kindS (kdx 37) = ks at *
  have h1 := fun W => signed_any (S.r s) (ok.r s).1 (ok.r s).2 W
  have h2 := fun W => signed_any (wd m 16 true) hwd.1 hwd.2 W
  have h3 := fun W => isSigned_any (sg (S.r s) + sg (wd m 16 true)) W
  obtain ⟨s1a, s1b⟩ := sg_bd (ok.r s).1 (ok.r s).2
  obtain ⟨s2a, s2b⟩ := sg_bd hwd.1 hwd.2
  generalize sg (wd m 16 true) = gy at *
  generalize wd m 16 true = n at *
  clear hwd
  have D0 : Hid (Dq (w.alloc (.cells #[.int .i64 37, .int .i64 s, .int .i64 t, .int .i64 d, .int .u32 m] 113)) w.heap.size sb S 37 s t d m) := Dq.start A ok 37 hs ht hd m0 m1
  have K0 : Kept w (w.alloc (.cells #[.int .i64 37, .int .i64 s, .int .i64 t, .int .i64 d, .int .u32 m] 113)) (· = sb) := Kept.of_below _ ((Below.refl _ _).alloc (Nat.le_refl _) _)
  clear A
  go_enter Tryz.func195, Tryz.ntmps195
  go_upto_region 1 with fail
  generalize w.alloc (.cells #[.int .i64 37, .int .i64 s, .int .i64 t, .int .i64 d, .int .u32 m] 113) = W at *
  generalize w.heap.size = ib at *
  have i0 := D0.out.i0
  have i1 := D0.out.i1
  have i2 := D0.out.i2
  have i3 := D0.out.i3
  have i4 := D0.out.i4
  have qs := D0.out.a.reg D0.out.hs
  have fs := D0.out.a.fz s
  have hs' : (s : Int) < 32 := by have := D0.out.hs; omega
  have qt := D0.out.a.reg D0.out.ht
  have ft := D0.out.a.fz t
  have ht' : (t : Int) < 32 := by have := D0.out.ht; omega
  clear i0 i3 i4
  go_upto_region 1 with fail
  refine wp_region_phase 8 [(0, 0), (1, 0), (2, 1), (3, 0), (4, 0), (5, 0), (6, 1), (7, 0)] (fun W => Dq W ib sb S 37 s t d m) (by kernel_rfl) (by kernel_rfl) (fun _ _ _ d _ h => by cases d <;> first | exact h | exact Dq.drew h) D0.out.drew ?_
  repeat (first | (refine wpPlanZ_free (by rfl) (by rfl) (fun W => by (go_simp; try with_reducible rfl)) (fun K hK => ?_); go_simp; refine hK _ ?_; clear hK K) | (refine wpPlanZ_quiet (by rfl) (by rfl) (fun W hW => by (have i1 := hW.i1; have qs := hW.a.reg hW.hs; go_simp; try with_reducible rfl)) (fun K hK => ?_); go_simp; refine hK _ ?_; clear hK K))
  refine wpPlanZ_nil ?_
  have D1 : Hid (Dq W.drew ib sb S 37 s t d m) := D0.out.drew
  have K1 : Kept w W.drew (· = sb) := K0.trans (Kept.drew _ _) (fun _ _ h => h)
  clear qt ft qs fs i1 i2
  generalize W.drew = W1 at *
  clear D0 K0
  have i2 := D1.out.i2
  have qt := D1.out.a.reg D1.out.ht
  go_upto_region 2 with fail
  refine wp_region_phase 8 [(0, 0), (1, 0), (2, 1), (3, 0), (4, 0), (5, 0), (6, 1), (7, 0)] (fun W => Dq W ib sb S 37 s t d m) (by kernel_rfl) (by kernel_rfl) (fun _ _ _ d _ h => by cases d <;> first | exact h | exact Dq.drew h) D1.out.drew ?_
  repeat (first | (refine wpPlanZ_free (by rfl) (by rfl) (fun W => by (go_simp; try with_reducible rfl)) (fun K hK => ?_); go_simp; refine hK _ ?_; clear hK K) | (refine wpPlanZ_quiet (by rfl) (by rfl) (fun W hW => by (have i2 := hW.i2; have qt := hW.a.reg hW.ht; go_simp; try with_reducible rfl)) (fun K hK => ?_); go_simp; refine hK _ ?_; clear hK K))
  refine wpPlanZ_nil ?_
  have D0 : Hid (Dq W1.drew ib sb S 37 s t d m) := D1.out.drew
  have K0 : Kept w W1.drew (· = sb) := K1.trans (Kept.drew _ _) (fun _ _ h => h)
  clear qt i2
  generalize W1.drew = W at *
  clear D1 K1 W1
  generalize sg (S.r s) = gx at *
  generalize ov (gx + gy) = ovb at *
  have i0 := D0.out.i0
  have i1 := D0.out.i1
  have i2 := D0.out.i2
  have i3 := D0.out.i3
  have i4 := D0.out.i4
  go_upto_region 49 with fail
  go_wp2_with fail
  refine (hi _).mono ?_
  rintro e w2 ⟨rfl, hb⟩
  have D2 : Hid (Dq w2 ib sb S 37 s t d m) := D0.out.stays hb
  have K2 : Kept w w2 (· = sb) := K0.trans (Kept.of_below _ hb) (fun _ _ h => h)
  clear hb i0 i1 i2 i3 i4 D0 K0 hi
  have D0 := D2
  have K0 := K2
  clear D2 K2
  have i0 := D0.out.i0
  have qt := D0.out.a.reg D0.out.ht
  have ft := D0.out.a.fz t
  have ht' : (t : Int) < 32 := by have := D0.out.ht; omega
  go_wp2_with fail
  refine (h1 _).mono ?_
  rintro e w8 ⟨rfl, hw8⟩
  rw [hw8]
  clear hw8 w8
  go_wp2_with fail
  refine (h2 _).mono ?_
  rintro e w8 ⟨rfl, hw8⟩
  rw [hw8]
  clear hw8 w8
  go_wp2_with fail
  refine (h3 _).mono ?_
  rintro e w8 ⟨rfl, hw8⟩
  rw [hw8]
  clear hw8 w8 h1 h2 h3
  go_upto_region 53 with fail
  clear i0
  obtain ⟨W, hW⟩ : ∃ W, W = w2 := ⟨_, rfl⟩
  rw [← hW] at D0 K0 qt ft ⊢
  clear hW
  refine wp_region_phase 12 [(0, 0), (1, 0), (2, 1), (3, 0), (4, 1), (6, 0), (7, 0), (9, 0), (10, 0), (5, 2), (8, 2), (11, 0), (12, 2)] (fun W => Dq W ib sb S 37 s t d m) (by kernel_rfl) (by kernel_rfl) (fun _ _ _ d _ h => by cases d <;> first | exact h | exact Dq.drew h) D0.out.drew ?_
  repeat (first | (refine wpPlanZ_free (by rfl) (by rfl) (fun W => by (go_simp; try with_reducible rfl)) (fun K hK => ?_); go_simp; refine hK _ ?_; clear hK K) | (refine wpPlanZ_quiet (by rfl) (by rfl) (fun W hW => by (have i2 := hW.i2; have i0 := hW.i0; go_simp; try with_reducible rfl)) (fun K hK => ?_); go_simp; refine hK _ ?_; clear hK K))
  refine wpPlanZ_serial (by rfl) (by rfl) (fun K hK => ?_)
  go_simp
  refine (hk1 _).mono ?_
  rintro e_ w_ ⟨rfl, rfl⟩
  refine hK _ _ (fun _ => D0.out.drew) ?_
  clear hK K
  repeat (first | (refine wpPlanZ_free (by rfl) (by rfl) (fun W => by (go_simp; try with_reducible rfl)) (fun K hK => ?_); go_simp; refine hK _ ?_; clear hK K) | (refine wpPlanZ_quiet (by rfl) (by rfl) (fun W hW => by (have i2 := hW.i2; have i0 := hW.i0; go_simp; try with_reducible rfl)) (fun K hK => ?_); go_simp; refine hK _ ?_; clear hK K))
  refine wpPlanZ_serial (by rfl) (by rfl) (fun K hK => ?_)
  go_simp
  refine (hk2 _).mono ?_
  rintro e_ w_ ⟨rfl, rfl⟩
  refine hK _ _ (fun _ => D0.out.drew) ?_
  clear hK K
  repeat (first | (refine wpPlanZ_free (by rfl) (by rfl) (fun W => by (go_simp; try with_reducible rfl)) (fun K hK => ?_); go_simp; refine hK _ ?_; clear hK K) | (refine wpPlanZ_quiet (by rfl) (by rfl) (fun W hW => by (have i2 := hW.i2; have i0 := hW.i0; go_simp; try with_reducible rfl)) (fun K hK => ?_); go_simp; refine hK _ ?_; clear hK K))
  refine wpPlanZ_serial (by rfl) (by rfl) (fun K hK => ?_)
  go_simp
  refine hK _ _ (fun h => absurd h (by decide)) ?_
  clear hK K
  refine wpPlanZ_nil ?_
  refine ck (R := fun W' => StAt W' sb (S.putR t y) ∧ Kept W W' (· = sb)) ?_ (fun w1 ⟨A1, T1⟩ => ?_)
  · exact ⟨(D0.out.a.putR t D0.out.ht _).drew, (Kept.put (Kept.refl W _) _ _).trans (Kept.drew _ _) (fun _ _ h => h)⟩
  clear qt ft
  go_wp2
  go_ret
  exact ⟨rfl, A1, K0.trans T1 (fun _ _ h => h)⟩
set_option maxRecDepth 100000 in
set_option maxHeartbeats 8000000 in
theorem sumd_38 (A : StAt w sb S) (ok : S.ok) (hs : s < 32) (ht : t < 32) (hd : d < 32) (m0 : 0 ≤ m) (m1 : m < 4294967296) (hk : k = 38) : Calls Tryz.prog 195 #[.pointer (some ⟨sb, 0, none⟩), .agg #[.int .i64 k, .int .i64 s, .int .i64 t, .int .i64 d, .int .u32 m]] w fun e w' => e = .returned (.int .i64 (sumD S k s t d m).1) ∧ StAt w' sb (sumD S k s t d m).2 ∧ Kept w w' (· = sb) := by
  subst hk
  have X : sumD S 38 s t d m = (-1, S.putR t (resI S 38 (S.r s) (wd m 16 true))) := rfl
  rw [X]
  clear X
  have hi := fun W => immOf_any 38 s t d m m0 m1 W
  have hwd : u32 (wd m 16 true) := wd_bd m0 m1 _
  have hk1 := fun W => kindOfD_any 38 (by unfold isK; omega) W
  have hk2 := fun W => sumK_any S 38 (by unfold isK; omega) (S.r s) (wd m 16 true) (ok.r s) hwd W
  generalize resI S 38 (S.r s) (wd m 16 true) = y at *
  generalize kindS (kdx 38) = ks at *
  have h1 := fun W => signed_any (S.r s) (ok.r s).1 (ok.r s).2 W
  have h2 := fun W => signed_any (wd m 16 true) hwd.1 hwd.2 W
  have h3 := fun W => isSigned_any (sg (S.r s) + sg (wd m 16 true)) W
  obtain ⟨s1a, s1b⟩ := sg_bd (ok.r s).1 (ok.r s).2
  obtain ⟨s2a, s2b⟩ := sg_bd hwd.1 hwd.2
  generalize sg (wd m 16 true) = gy at *
  generalize wd m 16 true = n at *
  clear hwd
  have D0 : Hid (Dq (w.alloc (.cells #[.int .i64 38, .int .i64 s, .int .i64 t, .int .i64 d, .int .u32 m] 113)) w.heap.size sb S 38 s t d m) := Dq.start A ok 38 hs ht hd m0 m1
  have K0 : Kept w (w.alloc (.cells #[.int .i64 38, .int .i64 s, .int .i64 t, .int .i64 d, .int .u32 m] 113)) (· = sb) := Kept.of_below _ ((Below.refl _ _).alloc (Nat.le_refl _) _)
  clear A
  go_enter Tryz.func195, Tryz.ntmps195
  go_upto_region 1 with fail
  generalize w.alloc (.cells #[.int .i64 38, .int .i64 s, .int .i64 t, .int .i64 d, .int .u32 m] 113) = W at *
  generalize w.heap.size = ib at *
  have i0 := D0.out.i0
  have i1 := D0.out.i1
  have i2 := D0.out.i2
  have i3 := D0.out.i3
  have i4 := D0.out.i4
  have qs := D0.out.a.reg D0.out.hs
  have fs := D0.out.a.fz s
  have hs' : (s : Int) < 32 := by have := D0.out.hs; omega
  have qt := D0.out.a.reg D0.out.ht
  have ft := D0.out.a.fz t
  have ht' : (t : Int) < 32 := by have := D0.out.ht; omega
  clear i0 i3 i4
  go_upto_region 1 with fail
  refine wp_region_phase 8 [(0, 0), (1, 0), (2, 1), (3, 0), (4, 0), (5, 0), (6, 1), (7, 0)] (fun W => Dq W ib sb S 38 s t d m) (by kernel_rfl) (by kernel_rfl) (fun _ _ _ d _ h => by cases d <;> first | exact h | exact Dq.drew h) D0.out.drew ?_
  repeat (first | (refine wpPlanZ_free (by rfl) (by rfl) (fun W => by (go_simp; try with_reducible rfl)) (fun K hK => ?_); go_simp; refine hK _ ?_; clear hK K) | (refine wpPlanZ_quiet (by rfl) (by rfl) (fun W hW => by (have i1 := hW.i1; have qs := hW.a.reg hW.hs; go_simp; try with_reducible rfl)) (fun K hK => ?_); go_simp; refine hK _ ?_; clear hK K))
  refine wpPlanZ_nil ?_
  have D1 : Hid (Dq W.drew ib sb S 38 s t d m) := D0.out.drew
  have K1 : Kept w W.drew (· = sb) := K0.trans (Kept.drew _ _) (fun _ _ h => h)
  clear qt ft qs fs i1 i2
  generalize W.drew = W1 at *
  clear D0 K0
  have i2 := D1.out.i2
  have qt := D1.out.a.reg D1.out.ht
  go_upto_region 2 with fail
  refine wp_region_phase 8 [(0, 0), (1, 0), (2, 1), (3, 0), (4, 0), (5, 0), (6, 1), (7, 0)] (fun W => Dq W ib sb S 38 s t d m) (by kernel_rfl) (by kernel_rfl) (fun _ _ _ d _ h => by cases d <;> first | exact h | exact Dq.drew h) D1.out.drew ?_
  repeat (first | (refine wpPlanZ_free (by rfl) (by rfl) (fun W => by (go_simp; try with_reducible rfl)) (fun K hK => ?_); go_simp; refine hK _ ?_; clear hK K) | (refine wpPlanZ_quiet (by rfl) (by rfl) (fun W hW => by (have i2 := hW.i2; have qt := hW.a.reg hW.ht; go_simp; try with_reducible rfl)) (fun K hK => ?_); go_simp; refine hK _ ?_; clear hK K))
  refine wpPlanZ_nil ?_
  have D0 : Hid (Dq W1.drew ib sb S 38 s t d m) := D1.out.drew
  have K0 : Kept w W1.drew (· = sb) := K1.trans (Kept.drew _ _) (fun _ _ h => h)
  clear qt i2
  generalize W1.drew = W at *
  clear D1 K1 W1
  generalize sg (S.r s) = gx at *
  generalize ov (gx + gy) = ovb at *
  have i0 := D0.out.i0
  have i1 := D0.out.i1
  have i2 := D0.out.i2
  have i3 := D0.out.i3
  have i4 := D0.out.i4
  go_upto_region 49 with fail
  go_wp2_with fail
  refine (hi _).mono ?_
  rintro e w2 ⟨rfl, hb⟩
  have D2 : Hid (Dq w2 ib sb S 38 s t d m) := D0.out.stays hb
  have K2 : Kept w w2 (· = sb) := K0.trans (Kept.of_below _ hb) (fun _ _ h => h)
  clear hb i0 i1 i2 i3 i4 D0 K0 hi
  have D0 := D2
  have K0 := K2
  clear D2 K2
  have i0 := D0.out.i0
  have qt := D0.out.a.reg D0.out.ht
  have ft := D0.out.a.fz t
  have ht' : (t : Int) < 32 := by have := D0.out.ht; omega
  go_wp2_with fail
  refine (h1 _).mono ?_
  rintro e w8 ⟨rfl, hw8⟩
  rw [hw8]
  clear hw8 w8
  go_wp2_with fail
  refine (h2 _).mono ?_
  rintro e w8 ⟨rfl, hw8⟩
  rw [hw8]
  clear hw8 w8
  go_wp2_with fail
  refine (h3 _).mono ?_
  rintro e w8 ⟨rfl, hw8⟩
  rw [hw8]
  clear hw8 w8 h1 h2 h3
  go_upto_region 53 with fail
  clear i0
  obtain ⟨W, hW⟩ : ∃ W, W = w2 := ⟨_, rfl⟩
  rw [← hW] at D0 K0 qt ft ⊢
  clear hW
  refine wp_region_phase 12 [(0, 0), (1, 0), (2, 1), (3, 0), (4, 1), (6, 0), (7, 0), (9, 0), (10, 0), (5, 2), (8, 2), (11, 0), (12, 2)] (fun W => Dq W ib sb S 38 s t d m) (by kernel_rfl) (by kernel_rfl) (fun _ _ _ d _ h => by cases d <;> first | exact h | exact Dq.drew h) D0.out.drew ?_
  repeat (first | (refine wpPlanZ_free (by rfl) (by rfl) (fun W => by (go_simp; try with_reducible rfl)) (fun K hK => ?_); go_simp; refine hK _ ?_; clear hK K) | (refine wpPlanZ_quiet (by rfl) (by rfl) (fun W hW => by (have i2 := hW.i2; have i0 := hW.i0; go_simp; try with_reducible rfl)) (fun K hK => ?_); go_simp; refine hK _ ?_; clear hK K))
  refine wpPlanZ_serial (by rfl) (by rfl) (fun K hK => ?_)
  go_simp
  refine (hk1 _).mono ?_
  rintro e_ w_ ⟨rfl, rfl⟩
  refine hK _ _ (fun _ => D0.out.drew) ?_
  clear hK K
  repeat (first | (refine wpPlanZ_free (by rfl) (by rfl) (fun W => by (go_simp; try with_reducible rfl)) (fun K hK => ?_); go_simp; refine hK _ ?_; clear hK K) | (refine wpPlanZ_quiet (by rfl) (by rfl) (fun W hW => by (have i2 := hW.i2; have i0 := hW.i0; go_simp; try with_reducible rfl)) (fun K hK => ?_); go_simp; refine hK _ ?_; clear hK K))
  refine wpPlanZ_serial (by rfl) (by rfl) (fun K hK => ?_)
  go_simp
  refine (hk2 _).mono ?_
  rintro e_ w_ ⟨rfl, rfl⟩
  refine hK _ _ (fun _ => D0.out.drew) ?_
  clear hK K
  repeat (first | (refine wpPlanZ_free (by rfl) (by rfl) (fun W => by (go_simp; try with_reducible rfl)) (fun K hK => ?_); go_simp; refine hK _ ?_; clear hK K) | (refine wpPlanZ_quiet (by rfl) (by rfl) (fun W hW => by (have i2 := hW.i2; have i0 := hW.i0; go_simp; try with_reducible rfl)) (fun K hK => ?_); go_simp; refine hK _ ?_; clear hK K))
  refine wpPlanZ_serial (by rfl) (by rfl) (fun K hK => ?_)
  go_simp
  refine hK _ _ (fun h => absurd h (by decide)) ?_
  clear hK K
  refine wpPlanZ_nil ?_
  refine ck (R := fun W' => StAt W' sb (S.putR t y) ∧ Kept W W' (· = sb)) ?_ (fun w1 ⟨A1, T1⟩ => ?_)
  · exact ⟨(D0.out.a.putR t D0.out.ht _).drew, (Kept.put (Kept.refl W _) _ _).trans (Kept.drew _ _) (fun _ _ h => h)⟩
  clear qt ft
  go_wp2
  go_ret
  exact ⟨rfl, A1, K0.trans T1 (fun _ _ h => h)⟩
end
end Go.Proofs.YtflagpkmebdckaaGreatDoor
/-
  Sums of the document, all.
-/
namespace Go.Proofs.YtflagpkmebdckaaGreatDoor
open Go.RowKit Go.Maps
open Num
set_option linter.unusedVariables false
section
variable {w : World} {sb : Nat} {S : St} {k s t d : Nat} {m : Int}
theorem sumD_any (A : StAt w sb S) (ok : S.ok) (hs : s < 32) (ht : t < 32) (hd : d < 32) (m0 : 0 ≤ m) (m1 : m < 4294967296) (hk : (1 ≤ k ∧ k ≤ 6) ∨ (11 ≤ k ∧ k ≤ 28) ∨ (35 ≤ k ∧ k ≤ 42)) (hm : k = 1 ∨ k = 2 ∨ k = 3 → m < 32) : Calls Tryz.prog 195 #[.pointer (some ⟨sb, 0, none⟩), .agg #[.int .i64 k, .int .i64 s, .int .i64 t, .int .i64 d, .int .u32 m]] w fun e w' => e = .returned (.int .i64 (sumD S k s t d m).1) ∧ StAt w' sb (sumD S k s t d m).2 ∧ Kept w w' (· = sb) := by
  have h : k = 1 ∨ k = 2 ∨ k = 3 ∨ k = 4 ∨ k = 5 ∨ k = 6 ∨ k = 11 ∨ k = 12 ∨ k = 13 ∨ k = 14 ∨ k = 15 ∨ k = 16 ∨ k = 17 ∨ k = 18 ∨ k = 19 ∨ k = 20 ∨ k = 21 ∨ k = 22 ∨ k = 23 ∨ k = 24 ∨ k = 25 ∨ k = 26 ∨ k = 27 ∨ k = 28 ∨ k = 35 ∨ k = 36 ∨ k = 37 ∨ k = 38 ∨ k = 39 ∨ k = 40 ∨ k = 41 ∨ k = 42 := by omega
  rcases h with h | h | h | h | h | h | h | h | h | h | h | h | h | h | h | h | h | h | h | h | h | h | h | h | h | h | h | h | h | h | h | h
  · exact sumd_1 A ok hs ht hd m0 m1 h (hm (by omega))
  · exact sumd_2 A ok hs ht hd m0 m1 h (hm (by omega))
  · exact sumd_3 A ok hs ht hd m0 m1 h (hm (by omega))
  · exact sumd_4 A ok hs ht hd m0 m1 h
  · exact sumd_5 A ok hs ht hd m0 m1 h
  · exact sumd_6 A ok hs ht hd m0 m1 h
  · exact sumd_11 A ok hs ht hd m0 m1 h
  · exact sumd_12 A ok hs ht hd m0 m1 h
  · exact sumd_13 A ok hs ht hd m0 m1 h
  · exact sumd_14 A ok hs ht hd m0 m1 h
  · exact sumd_15 A ok hs ht hd m0 m1 h
  · exact sumd_16 A ok hs ht hd m0 m1 h
  · by_cases hz : S.r t = 0
    · exact sumd_17z A ok hs ht hd m0 m1 h hz
    · exact sumd_17n A ok hs ht hd m0 m1 h hz
  · by_cases hz : S.r t = 0
    · exact sumd_18z A ok hs ht hd m0 m1 h hz
    · exact sumd_18n A ok hs ht hd m0 m1 h hz
  · cases ho : ov (sg (S.r s) + sg (S.r t)) with
    | true => exact sumd_19o A ok hs ht hd m0 m1 h ho
    | false => exact sumd_19n A ok hs ht hd m0 m1 h ho
  · exact sumd_20 A ok hs ht hd m0 m1 h
  · cases ho : ov (sg (S.r s) - sg (S.r t)) with
    | true => exact sumd_21o A ok hs ht hd m0 m1 h ho
    | false => exact sumd_21n A ok hs ht hd m0 m1 h ho
  · exact sumd_22 A ok hs ht hd m0 m1 h
  · exact sumd_23 A ok hs ht hd m0 m1 h
  · exact sumd_24 A ok hs ht hd m0 m1 h
  · exact sumd_25 A ok hs ht hd m0 m1 h
  · exact sumd_26 A ok hs ht hd m0 m1 h
  · exact sumd_27 A ok hs ht hd m0 m1 h
  · exact sumd_28 A ok hs ht hd m0 m1 h
  · cases ho : ov (sg (S.r s) + sg (wd m 16 true)) with
    | true => exact sumd_35o A ok hs ht hd m0 m1 h ho
    | false => exact sumd_35n A ok hs ht hd m0 m1 h ho
  · exact sumd_36 A ok hs ht hd m0 m1 h
  · exact sumd_37 A ok hs ht hd m0 m1 h
  · exact sumd_38 A ok hs ht hd m0 m1 h
  · exact sumd_39 A ok hs ht hd m0 m1 h
  · exact sumd_40 A ok hs ht hd m0 m1 h
  · exact sumd_41 A ok hs ht hd m0 m1 h
  · exact sumd_42 A ok hs ht hd m0 m1 h
end
end Go.Proofs.YtflagpkmebdckaaGreatDoor
/-
  The document's bus: its loads and stores.
-/
namespace Go.Proofs.YtflagpkmebdckaaGreatDoor
open Go.RowKit Go.Maps
open Num
set_option linter.unusedVariables false
theorem outS_add (out : List Int) (x : Int) : outS out ++ ⟨#[UInt8.ofNat x.toNat]⟩ = outS (out ++ [x]) := by
  apply ByteArray.ext
  simp [outS, strOfNums]
theorem hcell (n : Int) (w : World) : ∀ i, i < 1 → (w.alloc (.cells #[.int .u8 n] 5)).cell? ⟨w.heap.size, 0 + i, none⟩ = some (.int .u8 ([n].getD i 0)) := by
  intro i hi
  have h : i = 0 := by omega
  subst h; simp
set_option maxRecDepth 100000 in
set_option maxHeartbeats 1000000 in
theorem byte_any (n : Int) (h0 : 0 ≤ n) (h1 : n < 256) (w : World) : Calls Tryz.prog 244 #[.int .i64 n] w fun e w' => e = .returned (.string ⟨#[UInt8.ofNat n.toNat]⟩) ∧ w' = w.alloc (.cells #[.int .u8 n] 5) := by
  have hcv : (convert 92 9 (.slice (some ⟨w.heap.size, 0, none⟩) 1 1)).run Tryz.prog (w.alloc (.cells #[.int .u8 n] 5)) = .ok (.string ⟨#[UInt8.ofNat n.toNat]⟩) (w.alloc (.cells #[.int .u8 n] 5)) := by
    have := run_convert_bytes_arg (P := Tryz.prog) (w.alloc (.cells #[.int .u8 n] 5)) 92 5 Tryz.underlying92 Tryz.underlying5 w.heap.size 0 1 1 [n] rfl (hcell n w) 9 Tryz.underlying9
    rw [this]; rfl
  go_enter Tryz.func244, Tryz.ntmps244
  go_wp2
  go_ret
  exact ⟨rfl, rfl⟩
section
variable {w : World} {base db rb gb kb hb : Nat} {b : Bs} {wt ht : Int → Bool} {vt : Value}
set_option maxRecDepth 100000 in
set_option maxHeartbeats 1000000 in
theorem dbstore_mem (B : DBus w base db rb gb kb hb b wt ht vt) (a s v c : Int) (h0 : 0 ≤ a) (ha : a < 16384) (v0 : 0 ≤ v) (v1 : v < 4294967296) (hc : chk a s = 0) :
    Calls Tryz.prog 234 #[.pointer (some ⟨db, 0, none⟩), .int .u32 a, .int .i64 s, .int .u32 v, .int .i64 c] w fun e w' => e = .returned (.int .i64 0) ∧ DBus w' base db rb gb kb hb { b with m := upd b.m a s v } wt (hitN wt ht a) vt ∧ Kept w w' (DX db gb hb vt) := by
  have hst := dstoreH_ok B.D a s v h0 (by omega) v0 v1 hc
  have c0 := B.c0
  have BH : Hid (DBus w base db rb gb kb hb b wt ht vt) := B
  clear B hc
  go_enter Tryz.func234, Tryz.ntmps234
  go_wp2_with fail
  refine hst.mono ?_
  rintro e w2 ⟨rfl, D2, G2⟩
  clear hst
  go_wp2
  go_ret
  exact ⟨rfl, BH.out.own D2 G2, DX.mem G2⟩
set_option maxRecDepth 100000 in
set_option maxHeartbeats 1000000 in
theorem dbstore_low (B : DBus w base db rb gb kb hb b wt ht vt) (a s v c : Int) (h0 : 0 ≤ a) (ha : a < 16384) (s0 : -9223372036854775808 ≤ s) (s1 : s ≤ 9223372036854775807) (hc : chk a s ≠ 0) :
    Calls Tryz.prog 234 #[.pointer (some ⟨db, 0, none⟩), .int .u32 a, .int .i64 s, .int .u32 v, .int .i64 c] w fun e w' => e = .returned (.int .i64 (rc a s)) ∧ w' = w := by
  have hst := dstore_no w (.pointer (some ⟨rb, 0, none⟩)) a s v h0 (by omega) s0 s1 hc
  have c0 := B.c0
  clear B hc
  generalize rc a s = r at *
  go_enter Tryz.func234, Tryz.ntmps234
  go_wp2_with fail
  refine hst.mono ?_
  rintro e w2 ⟨rfl, rfl⟩
  clear hst
  go_wp2
  go_ret
  exact ⟨rfl, rfl⟩
set_option maxRecDepth 100000 in
set_option maxHeartbeats 1000000 in
theorem dbstore_high (w : World) (p : Value) (a s v c : Int) (ha : 16384 ≤ a) (h1 : a < 4294967296) (s0 : -9223372036854775808 ≤ s) (s1 : s ≤ 9223372036854775807) (hd : dev a s = false) (hc : chk a s ≠ 0) :
    Calls Tryz.prog 234 #[p, .int .u32 a, .int .i64 s, .int .u32 v, .int .i64 c] w fun e w' => e = .returned (.int .i64 (rc a s)) ∧ w' = w := by
  have hst := devErr_any a s ha h1 s0 s1 w
  rw [if_neg (by rw [hd]; decide)] at hst
  have hp := rc_no hc
  clear hc hd
  generalize rc a s = r at *
  go_enter Tryz.func234, Tryz.ntmps234
  go_wp2_with fail
  refine hst.mono ?_
  rintro e w2 ⟨rfl, rfl⟩
  clear hst
  go_wp2
  go_ret
  exact ⟨rfl, rfl⟩
set_option maxRecDepth 100000 in
set_option maxHeartbeats 2000000 in
theorem dbstore_dev (B : DBus w base db rb gb kb hb b wt ht vt) (a s v c : Int) (h0 : 0 ≤ a) (h1 : a < 4294967296) (s0 : -9223372036854775808 ≤ s) (s1 : s ≤ 9223372036854775807) (v0 : 0 ≤ v) (v1 : v < 4294967296) (hn : b.out.length ≤ 1000) (hn2 : b.tr.length ≤ 1000) (hd : dev a s = true) :
    Calls Tryz.prog 234 #[.pointer (some ⟨db, 0, none⟩), .int .u32 a, .int .i64 s, .int .u32 v, .int .i64 c] w fun e w' => e = .returned (.int .i64 0) ∧ ∃ vt', DBus w' base db rb gb kb hb ⟨b.m, outN b.out a v, lampN b.lamp a v, b.tr ++ [⟨c, true, a, v⟩]⟩ wt ht vt' ∧ Kept w w' (DX db gb hb vt) ∧ Moved w vt vt' := by
  obtain ⟨i0, hi, hz0, hz1, hz2⟩ := info_parts info55
  have ha : 16384 ≤ a := by unfold dev at hd; simp at hd; omega
  have hst := devErr_any a s ha h1 s0 s1 w
  rw [if_pos hd] at hst
  clear hd
  have BH : Hid (DBus w base db rb gb kb hb b wt ht vt) := B
  clear B
  go_enter Tryz.func234, Tryz.ntmps234
  go_wp2_with fail
  refine hst.mono ?_
  rintro e w' ⟨rfl, rfl⟩
  clear hst
  by_cases hA : a = 65536
  · have HO : Hid (outN b.out a v = b.out ++ [v % 256] ∧ lampN b.lamp a v = b.lamp) := ⟨by unfold outN; rw [if_pos hA], by unfold lampN; rw [if_neg (by omega)]⟩
    have e1 : (a == 65536) = true := by simpa using hA
    clear hA
    have c1 := BH.out.c1
    have f1 := BH.out.fz 1
    have hpa : ∀ W : World, Calls Tryz.prog 46 #[.int .u32 v, .int .i64 0, .int .i64 8] W fun e w' => e = .returned (.int .i64 (v % 256)) ∧ w' = W := by
      intro W
      have := part_any v 0 8 v0 v1 (by omega) (by omega) (by omega) (by omega) W
      rwa [pw8, show pw 0 = 1 by decide, Int.ediv_one] at this
    have hby := fun W => byte_any (v % 256) (by omega) (by omega) W
    obtain ⟨l, hl, hll⟩ : ∃ l : List UInt8, outS b.out = ⟨l.toArray⟩ ∧ (l.length : Int) ≤ 1000 := ⟨b.out.map fun n => UInt8.ofNat n.toNat, rfl, by simp; omega⟩
    have HL : Hid (outS b.out = ⟨l.toArray⟩) := hl
    have hdb : db < w'.heap.size := BH.out.lt (Or.inl rfl)
    rw [hl] at c1
    clear hl
    go_upto_region 8 with fail
    go_region_with (first | (go_at_call 46; refine (hpa _).mono ?_; rintro e w2 ⟨rfl, rfl⟩) | (go_at_call 244; refine (hby _).mono ?_; rintro e w2 ⟨rfl, rfl⟩))
    all_goals
      have hS : (⟨l.toArray⟩ : ByteArray) ++ ⟨#[UInt8.ofNat (v % 256).toNat]⟩ = outS (b.out ++ [v % 256]) := by rw [← HL.out]; exact outS_add b.out _
      rw [hS]
      have P1 := BH.out.putOut (v % 256)
      have hA : Below (w'.setCell ⟨db, 1, none⟩ (.string (outS (b.out ++ [v % 256])))).heap.size (w'.setCell ⟨db, 1, none⟩ (.string (outS (b.out ++ [v % 256])))) (((w'.setCell ⟨db, 1, none⟩ (.string (outS (b.out ++ [v % 256])))).alloc (.cells #[.int .u8 (v % 256)] 5)).drew) := below_drew ((Below.refl _ _).alloc (Nat.le_refl _) _)
      have B1 : Hid (DBus (((w'.setCell ⟨db, 1, none⟩ (.string (outS (b.out ++ [v % 256])))).alloc (.cells #[.int .u8 (v % 256)] 5)).drew) base db rb gb kb hb { b with out := b.out ++ [v % 256] } wt ht vt) := P1.1.stays hA
      have T1 : Hid (Kept w' (((w'.setCell ⟨db, 1, none⟩ (.string (outS (b.out ++ [v % 256])))).alloc (.cells #[.int .u8 (v % 256)] 5)).drew) (DX db gb hb vt)) := by
        have t := P1.2
        exact t.trans (Kept.of_below (DX db gb hb vt) hA) (fun _ _ h => h)
      clear P1 hA hS hpa hby c1 f1 HL hll
      generalize ((w'.setCell ⟨db, 1, none⟩ (.string (outS (b.out ++ [v % 256])))).alloc (.cells #[.int .u8 (v % 256)] 5)).drew = w1 at *
      clear BH
      have c3 := B1.out.c3
      have hbs : base ≤ w1.heap.size := B1.out.bs
      have hnews := acc_cells w1 ⟨c, true, a, v⟩
      go_wp2_with (at_builtin; refine wpList_append_moved rfl _ _ 37 rfl base 187 i0 (.agg #[.int .i64 0, .bool false, .int .u32 0, .int .u32 0]) 4 24 Tryz.underlying37 hi hz0 hz1 hz2 rfl (by decide) vt b.tr.length (b.tr.flatMap accC) rfl (B1.out.rt.alloc _) ⟨w1.heap.size, 0, none⟩ 1 1 (accC ⟨c, true, a, v⟩) rfl rfl hnews (by simp [Value.oneCell', accC]) (by unfold maxLen; omega) (by omega) (by simp; omega) ?_; intro v' w2 ho hg hm; obtain ⟨g', cap', rfl⟩ := owns_pos ho; have hp := B1.out.putTr ho hg hm; obtain ⟨⟨hc1, hf1⟩, hp2⟩ := hp)
      go_ret
      exact ⟨rfl, _, by rw [HO.out.1, HO.out.2]; exact hp2.1, T1.out.trans hp2.2.1 (fun _ _ h => h), fun k hk => (hp2.2.2 k hk).imp id (fun h => Nat.le_trans T1.out.size h)⟩
  · have e1 : (a == 65536) = false := by simpa using hA
    by_cases hB : a = 65544
    · have HO : Hid (outN b.out a v = b.out ∧ lampN b.lamp a v = v) := ⟨by unfold outN; rw [if_neg hA], by unfold lampN; rw [if_pos hB]⟩
      have e2 : (a == 65544) = true := by simpa using hB
      clear hA hB
      have c2 := BH.out.c2
      have f2 := BH.out.fz 2
      go_upto_region 11 with fail
      have B1 : Hid (DBus (w'.setCell ⟨db, 2, none⟩ (.int .u32 v)) base db rb gb kb hb { b with lamp := v } wt ht vt) := (BH.out.putLamp v).1
      have T1 : Hid (Kept w' (w'.setCell ⟨db, 2, none⟩ (.int .u32 v)) (DX db gb hb vt)) := (BH.out.putLamp v).2
      clear c2 f2
      generalize w'.setCell ⟨db, 2, none⟩ (.int .u32 v) = w1 at *
      clear BH
      have c3 := B1.out.c3
      have hbs : base ≤ w1.heap.size := B1.out.bs
      have hnews := acc_cells w1 ⟨c, true, a, v⟩
      go_wp2_with (at_builtin; refine wpList_append_moved rfl _ _ 37 rfl base 187 i0 (.agg #[.int .i64 0, .bool false, .int .u32 0, .int .u32 0]) 4 24 Tryz.underlying37 hi hz0 hz1 hz2 rfl (by decide) vt b.tr.length (b.tr.flatMap accC) rfl (B1.out.rt.alloc _) ⟨w1.heap.size, 0, none⟩ 1 1 (accC ⟨c, true, a, v⟩) rfl rfl hnews (by simp [Value.oneCell', accC]) (by unfold maxLen; omega) (by omega) (by simp; omega) ?_; intro v' w2 ho hg hm; obtain ⟨g', cap', rfl⟩ := owns_pos ho; have hp := B1.out.putTr ho hg hm; obtain ⟨⟨hc1, hf1⟩, hp2⟩ := hp)
      go_ret
      exact ⟨rfl, _, by rw [HO.out.1, HO.out.2]; exact hp2.1, T1.out.trans hp2.2.1 (fun _ _ h => h), fun k hk => (hp2.2.2 k hk).imp id (fun h => Nat.le_trans T1.out.size h)⟩
    · have HO : Hid (outN b.out a v = b.out ∧ lampN b.lamp a v = b.lamp) := ⟨by unfold outN; rw [if_neg hA], by unfold lampN; rw [if_neg hB]⟩
      have e2 : (a == 65544) = false := by simpa using hB
      clear hA hB
      go_upto_region 11 with fail
      obtain ⟨w1, hw1⟩ : ∃ w1, w1 = w' := ⟨_, rfl⟩
      have B1 : Hid (DBus w1 base db rb gb kb hb b wt ht vt) := by rw [hw1]; exact BH.out
      have T1 : Hid (Kept w' w1 (DX db gb hb vt)) := by rw [hw1]; exact Kept.refl _ _
      rw [← hw1]
      clear hw1
      clear BH
      have c3 := B1.out.c3
      have hbs : base ≤ w1.heap.size := B1.out.bs
      have hnews := acc_cells w1 ⟨c, true, a, v⟩
      go_wp2_with (at_builtin; refine wpList_append_moved rfl _ _ 37 rfl base 187 i0 (.agg #[.int .i64 0, .bool false, .int .u32 0, .int .u32 0]) 4 24 Tryz.underlying37 hi hz0 hz1 hz2 rfl (by decide) vt b.tr.length (b.tr.flatMap accC) rfl (B1.out.rt.alloc _) ⟨w1.heap.size, 0, none⟩ 1 1 (accC ⟨c, true, a, v⟩) rfl rfl hnews (by simp [Value.oneCell', accC]) (by unfold maxLen; omega) (by omega) (by simp; omega) ?_; intro v' w2 ho hg hm; obtain ⟨g', cap', rfl⟩ := owns_pos ho; have hp := B1.out.putTr ho hg hm; obtain ⟨⟨hc1, hf1⟩, hp2⟩ := hp)
      go_ret
      exact ⟨rfl, _, by rw [HO.out.1, HO.out.2]; exact hp2.1, T1.out.trans hp2.2.1 (fun _ _ h => h), fun k hk => (hp2.2.2 k hk).imp id (fun h => Nat.le_trans T1.out.size h)⟩
set_option maxRecDepth 100000 in
set_option maxHeartbeats 1000000 in
theorem dbload_mem (B : DBus w base db rb gb kb hb b wt ht vt) (a s c : Int) (sgn : Bool) (h0 : 0 ≤ a) (ha : a < 16384) (hc : chk a s = 0) :
    Calls Tryz.prog 233 #[.pointer (some ⟨db, 0, none⟩), .int .u32 a, .int .i64 s, .bool sgn, .int .i64 c] w fun e w' => e = .returned (.tuple #[.int .u32 (ld b.m a s sgn), .int .i64 0]) ∧ w' = w := by
  have hst := dload_ok B.D.d a s sgn h0 (by omega) hc
  have c0 := B.c0
  clear B hc
  go_enter Tryz.func233, Tryz.ntmps233
  go_wp2_with fail
  refine hst.mono ?_
  rintro e w2 ⟨rfl, rfl⟩
  clear hst
  go_wp2
  go_ret2
  exact ⟨rfl, rfl⟩
set_option maxRecDepth 100000 in
set_option maxHeartbeats 1000000 in
theorem dbload_low (B : DBus w base db rb gb kb hb b wt ht vt) (a s c : Int) (sgn : Bool) (h0 : 0 ≤ a) (ha : a < 16384) (s0 : -9223372036854775808 ≤ s) (s1 : s ≤ 9223372036854775807) (hc : chk a s ≠ 0) :
    Calls Tryz.prog 233 #[.pointer (some ⟨db, 0, none⟩), .int .u32 a, .int .i64 s, .bool sgn, .int .i64 c] w fun e w' => e = .returned (.tuple #[.int .u32 0, .int .i64 (rc a s)]) ∧ w' = w := by
  have hst := dload_no w (.pointer (some ⟨rb, 0, none⟩)) a s sgn h0 (by omega) s0 s1 hc
  have c0 := B.c0
  clear B hc
  generalize rc a s = r at *
  go_enter Tryz.func233, Tryz.ntmps233
  go_wp2_with fail
  refine hst.mono ?_
  rintro e w2 ⟨rfl, rfl⟩
  clear hst
  go_wp2
  go_ret2
  exact ⟨rfl, rfl⟩
set_option maxRecDepth 100000 in
set_option maxHeartbeats 1000000 in
theorem dbload_high (w : World) (p : Value) (a s c : Int) (sgn : Bool) (ha : 16384 ≤ a) (h1 : a < 4294967296) (s0 : -9223372036854775808 ≤ s) (s1 : s ≤ 9223372036854775807) (hd : dev a s = false) (hc : chk a s ≠ 0) :
    Calls Tryz.prog 233 #[p, .int .u32 a, .int .i64 s, .bool sgn, .int .i64 c] w fun e w' => e = .returned (.tuple #[.int .u32 0, .int .i64 (rc a s)]) ∧ w' = w := by
  have hst := devErr_any a s ha h1 s0 s1 w
  rw [if_neg (by rw [hd]; decide)] at hst
  have hp := rc_no hc
  clear hc hd
  generalize rc a s = r at *
  go_enter Tryz.func233, Tryz.ntmps233
  go_wp2_with fail
  refine hst.mono ?_
  rintro e w2 ⟨rfl, rfl⟩
  clear hst
  go_wp2
  go_ret2
  exact ⟨rfl, rfl⟩
set_option maxRecDepth 100000 in
set_option maxHeartbeats 2000000 in
theorem dbload_dev (B : DBus w base db rb gb kb hb b wt ht vt) (a s c : Int) (sgn : Bool) (h0 : 0 ≤ a) (h1 : a < 4294967296) (s0 : -9223372036854775808 ≤ s) (s1 : s ≤ 9223372036854775807) (q0 : -9223372036854775808 ≤ c) (q1 : c ≤ 9223372036854775807) (hn2 : b.tr.length ≤ 1000) (hd : dev a s = true) :
    Calls Tryz.prog 233 #[.pointer (some ⟨db, 0, none⟩), .int .u32 a, .int .i64 s, .bool sgn, .int .i64 c] w fun e w' => e = .returned (.tuple #[.int .u32 (devV a c b.lamp), .int .i64 0]) ∧ ∃ vt', DBus w' base db rb gb kb hb ⟨b.m, b.out, b.lamp, b.tr ++ [⟨c, false, a, devV a c b.lamp⟩]⟩ wt ht vt' ∧ Kept w w' (DX db gb hb vt) ∧ Moved w vt vt' := by
  obtain ⟨i0, hi, hz0, hz1, hz2⟩ := info_parts info55
  have ha : 16384 ≤ a := by unfold dev at hd; simp at hd; omega
  have hst := devErr_any a s ha h1 s0 s1 w
  rw [if_pos hd] at hst
  clear hd
  have hwd := word_any c q0 q1 w
  have BH : Hid (DBus w base db rb gb kb hb b wt ht vt) := B
  have c2 := B.c2
  have c3 := B.c3
  have hbs : base ≤ w.heap.size := B.bs
  clear B
  by_cases hA : a = 65540
  · have HV : Hid (devV a c b.lamp = lo c) := by show _ = _; unfold devV lo; rw [if_pos hA]
    have e1 : (a == 65540) = true := by simpa using hA
    have hnews := acc_cells w ⟨c, false, a, lo c⟩
    rw [HV.out]
    clear hA
    generalize lo c = dv at *
    go_enter Tryz.func233, Tryz.ntmps233
    go_wp2_with fail
    refine hst.mono ?_
    rintro e w' ⟨rfl, rfl⟩
    clear hst
    go_wp2_with fail
    refine hwd.mono ?_
    rintro e w'' ⟨rfl, rfl⟩
    clear hwd
    go_wp2_with (at_builtin; refine wpList_append_moved rfl _ _ 37 rfl base 187 i0 (.agg #[.int .i64 0, .bool false, .int .u32 0, .int .u32 0]) 4 24 Tryz.underlying37 hi hz0 hz1 hz2 rfl (by decide) vt b.tr.length (b.tr.flatMap accC) rfl (BH.out.rt.alloc _) ⟨_, 0, none⟩ 1 1 (accC ⟨c, false, a, dv⟩) rfl rfl hnews (by simp [Value.oneCell', accC]) (by unfold maxLen; omega) (by omega) (by simp; omega) ?_; intro v' w2 ho hg hm; obtain ⟨g', cap', rfl⟩ := owns_pos ho; have hp := BH.out.putTr ho hg hm; obtain ⟨⟨hc1, hf1⟩, hp2⟩ := hp)
    go_ret2
    exact ⟨rfl, _, hp2.1, hp2.2.1, hp2.2.2⟩
  · have e1 : (a == 65540) = false := by simpa using hA
    by_cases hB : a = 65544
    · have HV : Hid (devV a c b.lamp = b.lamp) := by show _ = _; unfold devV; rw [if_neg hA, if_pos hB]
      have e2 : (a == 65544) = true := by simpa using hB
      have hnews := acc_cells w ⟨c, false, a, b.lamp⟩
      rw [HV.out]
      clear hA hB hwd
      go_enter Tryz.func233, Tryz.ntmps233
      go_wp2_with fail
      refine hst.mono ?_
      rintro e w' ⟨rfl, rfl⟩
      clear hst
      go_wp2_with (at_builtin; refine wpList_append_moved rfl _ _ 37 rfl base 187 i0 (.agg #[.int .i64 0, .bool false, .int .u32 0, .int .u32 0]) 4 24 Tryz.underlying37 hi hz0 hz1 hz2 rfl (by decide) vt b.tr.length (b.tr.flatMap accC) rfl (BH.out.rt.alloc _) ⟨_, 0, none⟩ 1 1 (accC ⟨c, false, a, b.lamp⟩) rfl rfl hnews (by simp [Value.oneCell', accC]) (by unfold maxLen; omega) (by omega) (by simp; omega) ?_; intro v' w2 ho hg hm; obtain ⟨g', cap', rfl⟩ := owns_pos ho; have hp := BH.out.putTr ho hg hm; obtain ⟨⟨hc1, hf1⟩, hp2⟩ := hp)
      go_ret2
      exact ⟨rfl, _, hp2.1, hp2.2.1, hp2.2.2⟩
    · have HV : Hid (devV a c b.lamp = 0) := by show _ = _; unfold devV; rw [if_neg hA, if_neg hB]
      have e2 : (a == 65544) = false := by simpa using hB
      have hnews := acc_cells w ⟨c, false, a, 0⟩
      rw [HV.out]
      clear hA hB hwd
      go_enter Tryz.func233, Tryz.ntmps233
      go_wp2_with fail
      refine hst.mono ?_
      rintro e w' ⟨rfl, rfl⟩
      clear hst
      go_wp2_with (at_builtin; refine wpList_append_moved rfl _ _ 37 rfl base 187 i0 (.agg #[.int .i64 0, .bool false, .int .u32 0, .int .u32 0]) 4 24 Tryz.underlying37 hi hz0 hz1 hz2 rfl (by decide) vt b.tr.length (b.tr.flatMap accC) rfl (BH.out.rt.alloc _) ⟨_, 0, none⟩ 1 1 (accC ⟨c, false, a, 0⟩) rfl rfl hnews (by simp [Value.oneCell', accC]) (by unfold maxLen; omega) (by omega) (by simp; omega) ?_; intro v' w2 ho hg hm; obtain ⟨g', cap', rfl⟩ := owns_pos ho; have hp := BH.out.putTr ho hg hm; obtain ⟨⟨hc1, hf1⟩, hp2⟩ := hp)
      go_ret2
      exact ⟨rfl, _, hp2.1, hp2.2.1, hp2.2.2⟩
end
end Go.Proofs.YtflagpkmebdckaaGreatDoor
/-
  What a load and a store make of the document's bus, in one word.
-/
namespace Go.Proofs.YtflagpkmebdckaaGreatDoor
open Go.RowKit Go.Maps
open Num
set_option linter.unusedVariables false
def htD (wt ht : Int → Bool) (a s : Int) : Int → Bool := if dev a s = true then ht else if chk a s = 0 then hitN wt ht a else ht
/-- the error's number that the document's bus tells -/
def erD (a s : Int) : Int := if bad a s = true then rc a s else 0
theorem erD_pos {a s : Int} (h : bad a s = true) : 0 < erD a s := by
  unfold erD; rw [if_pos h]
  refine rc_no ?_
  unfold bad at h; simp at h; exact h.2
theorem erD_zero {a s : Int} (h : bad a s = false) : erD a s = 0 := by unfold erD; rw [if_neg (by rw [h]; decide)]
section
variable {w : World} {base db rb gb kb hb : Nat} {b : Bs} {wt ht : Int → Bool} {vt : Value}
theorem dbstore_all (B : DBus w base db rb gb kb hb b wt ht vt) (a s v c : Int) (h0 : 0 ≤ a) (h1 : a < 4294967296) (s0 : -9223372036854775808 ≤ s) (s1 : s ≤ 9223372036854775807) (v0 : 0 ≤ v) (v1 : v < 4294967296) (hn : b.out.length ≤ 1000) (hn2 : b.tr.length ≤ 1000) :
    Calls Tryz.prog 234 #[.pointer (some ⟨db, 0, none⟩), .int .u32 a, .int .i64 s, .int .u32 v, .int .i64 c] w fun e w' => e = .returned (.int .i64 (erD a s)) ∧ ∃ vt', DBus w' base db rb gb kb hb (b.put a s v c) wt (htD wt ht a s) vt' ∧ Kept w w' (DX db gb hb vt) ∧ Moved w vt vt' := by
  by_cases hd : dev a s = true
  · refine (dbstore_dev B a s v c h0 h1 s0 s1 v0 v1 hn hn2 hd).mono ?_
    rintro e w' ⟨rfl, vt', B', T, M⟩
    refine ⟨by rw [erD_zero (by simp [bad, hd])], vt', ?_, T, M⟩
    unfold Bs.put htD; rw [if_pos hd, if_pos hd]; exact B'
  · have hd' : dev a s = false := by simpa using hd
    by_cases hc : chk a s = 0
    · have hf := (chk_ok hc).2.2
      refine (dbstore_mem B a s v c h0 (by omega) v0 v1 hc).mono ?_
      rintro e w' ⟨rfl, B', T⟩
      refine ⟨by rw [erD_zero (by simp [bad, hc])], vt, ?_, T, Moved.refl _ _⟩
      unfold Bs.put htD; rw [if_neg hd, if_neg hd, if_pos hc, if_pos hc]; exact B'
    · have er : erD a s = rc a s := by unfold erD; rw [if_pos (by simp [bad, hd', hc])]
      have eb : b.put a s v c = b := by unfold Bs.put; rw [if_neg hd, if_neg hc]
      have eh : htD wt ht a s = ht := by unfold htD; rw [if_neg hd, if_neg hc]
      rw [er, eb, eh]
      by_cases hl : a < 16384
      · refine (dbstore_low B a s v c h0 hl s0 s1 hc).mono ?_
        rintro e w' ⟨rfl, rfl⟩
        exact ⟨rfl, vt, B, Kept.refl _ _, Moved.refl _ _⟩
      · refine (dbstore_high w _ a s v c (by omega) h1 s0 s1 hd' hc).mono ?_
        rintro e w' ⟨rfl, rfl⟩
        exact ⟨rfl, vt, B, Kept.refl _ _, Moved.refl _ _⟩
theorem dbload_all (B : DBus w base db rb gb kb hb b wt ht vt) (a s c : Int) (sgn : Bool) (h0 : 0 ≤ a) (h1 : a < 4294967296) (s0 : -9223372036854775808 ≤ s) (s1 : s ≤ 9223372036854775807) (c0 : -9223372036854775808 ≤ c) (c1 : c ≤ 9223372036854775807) (hn2 : b.tr.length ≤ 1000) :
    Calls Tryz.prog 233 #[.pointer (some ⟨db, 0, none⟩), .int .u32 a, .int .i64 s, .bool sgn, .int .i64 c] w fun e w' => e = .returned (.tuple #[.int .u32 (b.val a s sgn c), .int .i64 (erD a s)]) ∧ ∃ vt', DBus w' base db rb gb kb hb (b.got a s c) wt ht vt' ∧ Kept w w' (DX db gb hb vt) ∧ Moved w vt vt' := by
  by_cases hd : dev a s = true
  · refine (dbload_dev B a s c sgn h0 h1 s0 s1 c0 c1 hn2 hd).mono ?_
    rintro e w' ⟨rfl, vt', B', T, M⟩
    refine ⟨by rw [erD_zero (by simp [bad, hd])]; unfold Bs.val; rw [if_pos hd], vt', ?_, T, M⟩
    unfold Bs.got; rw [if_pos hd]; exact B'
  · have hd' : dev a s = false := by simpa using hd
    have eg : b.got a s c = b := by unfold Bs.got; rw [if_neg hd]
    rw [eg]
    by_cases hc : chk a s = 0
    · have hf := (chk_ok hc).2.2
      refine (dbload_mem B a s c sgn h0 (by omega) hc).mono ?_
      rintro e w' ⟨rfl, rfl⟩
      refine ⟨by rw [erD_zero (by simp [bad, hc])]; unfold Bs.val; rw [if_neg hd, if_pos hc], vt, B, Kept.refl _ _, Moved.refl _ _⟩
    · have er : erD a s = rc a s := by unfold erD; rw [if_pos (by simp [bad, hd', hc])]
      have ev : b.val a s sgn c = 0 := by unfold Bs.val; rw [if_neg hd, if_neg hc]
      rw [er, ev]
      by_cases hl : a < 16384
      · refine (dbload_low B a s c sgn h0 hl s0 s1 hc).mono ?_
        rintro e w' ⟨rfl, rfl⟩
        exact ⟨rfl, vt, B, Kept.refl _ _, Moved.refl _ _⟩
      · refine (dbload_high w _ a s c sgn (by omega) h1 s0 s1 hd' hc).mono ?_
        rintro e w' ⟨rfl, rfl⟩
        exact ⟨rfl, vt, B, Kept.refl _ _, Moved.refl _ _⟩
end
end Go.Proofs.YtflagpkmebdckaaGreatDoor
