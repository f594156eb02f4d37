/-
  Sums, as the document has them: products and quotients.
-/
import Derived.Test.YtflagpkmebdckaaGreatDoorKDK0
namespace Go.Proofs.YtflagpkmebdckaaGreatDoor
open Go.RowKit Go.Maps
open Num
set_option linter.unusedVariables false
section
variable {w : World} {sb : Nat} {S : St} {k s t d : Nat} {m : Int}
set_option maxRecDepth 100000 in
set_option maxHeartbeats 8000000 in
theorem sumd_11 (A : StAt w sb S) (ok : S.ok) (hs : s < 32) (ht : t < 32) (hd : d < 32) (m0 : 0 ≤ m) (m1 : m < 4294967296) (hk : k = 11) : Calls Tryz.prog 195 #[.pointer (some ⟨sb, 0, none⟩), .agg #[.int .i64 k, .int .i64 s, .int .i64 t, .int .i64 d, .int .u32 m]] w fun e w' => e = .returned (.int .i64 (sumD S k s t d m).1) ∧ StAt w' sb (sumD S k s t d m).2 ∧ Kept w w' (· = sb) := by
  subst hk
  have D0 : Hid (Dq (w.alloc (.cells #[.int .i64 11, .int .i64 s, .int .i64 t, .int .i64 d, .int .u32 m] 113)) w.heap.size sb S 11 s t d m) := Dq.start A ok 11 hs ht hd m0 m1
  have K0 : Kept w (w.alloc (.cells #[.int .i64 11, .int .i64 s, .int .i64 t, .int .i64 d, .int .u32 m] 113)) (· = sb) := Kept.of_below _ ((Below.refl _ _).alloc (Nat.le_refl _) _)
  clear A
  go_enter Tryz.func195, Tryz.ntmps195
  go_upto_region 1 with fail
  generalize w.alloc (.cells #[.int .i64 11, .int .i64 s, .int .i64 t, .int .i64 d, .int .u32 m] 113) = W at *
  generalize w.heap.size = ib at *
  have i0 := D0.out.i0
  have i1 := D0.out.i1
  have i2 := D0.out.i2
  have i3 := D0.out.i3
  have i4 := D0.out.i4
  have qs := D0.out.a.reg D0.out.hs
  have fs := D0.out.a.fz s
  have hs' : (s : Int) < 32 := by have := D0.out.hs; omega
  have qt := D0.out.a.reg D0.out.ht
  have ft := D0.out.a.fz t
  have ht' : (t : Int) < 32 := by have := D0.out.ht; omega
  clear i0 i3 i4
  go_upto_region 1 with fail
  refine wp_region_phase 8 [(0, 0), (1, 0), (2, 1), (3, 0), (4, 0), (5, 0), (6, 1), (7, 0)] (fun W => Dq W ib sb S 11 s t d m) (by kernel_rfl) (by kernel_rfl) (fun _ _ _ d _ h => by cases d <;> first | exact h | exact Dq.drew h) D0.out.drew ?_
  repeat (first | (refine wpPlanZ_free (by rfl) (by rfl) (fun W => by (go_simp; try with_reducible rfl)) (fun K hK => ?_); go_simp; refine hK _ ?_; clear hK K) | (refine wpPlanZ_quiet (by rfl) (by rfl) (fun W hW => by (have i1 := hW.i1; have qs := hW.a.reg hW.hs; go_simp; try with_reducible rfl)) (fun K hK => ?_); go_simp; refine hK _ ?_; clear hK K))
  refine wpPlanZ_nil ?_
  have D1 : Hid (Dq W.drew ib sb S 11 s t d m) := D0.out.drew
  have K1 : Kept w W.drew (· = sb) := K0.trans (Kept.drew _ _) (fun _ _ h => h)
  clear qt ft qs fs i1 i2
  generalize W.drew = W1 at *
  clear D0 K0
  have i2 := D1.out.i2
  have qt := D1.out.a.reg D1.out.ht
  go_upto_region 2 with fail
  refine wp_region_phase 8 [(0, 0), (1, 0), (2, 1), (3, 0), (4, 0), (5, 0), (6, 1), (7, 0)] (fun W => Dq W ib sb S 11 s t d m) (by kernel_rfl) (by kernel_rfl) (fun _ _ _ d _ h => by cases d <;> first | exact h | exact Dq.drew h) D1.out.drew ?_
  repeat (first | (refine wpPlanZ_free (by rfl) (by rfl) (fun W => by (go_simp; try with_reducible rfl)) (fun K hK => ?_); go_simp; refine hK _ ?_; clear hK K) | (refine wpPlanZ_quiet (by rfl) (by rfl) (fun W hW => by (have i2 := hW.i2; have qt := hW.a.reg hW.ht; go_simp; try with_reducible rfl)) (fun K hK => ?_); go_simp; refine hK _ ?_; clear hK K))
  refine wpPlanZ_nil ?_
  have D0 : Hid (Dq W1.drew ib sb S 11 s t d m) := D1.out.drew
  have K0 : Kept w W1.drew (· = sb) := K1.trans (Kept.drew _ _) (fun _ _ h => h)
  clear qt i2
  generalize W1.drew = W at *
  clear D1 K1 W1
  have i0 := D0.out.i0
  have qd := D0.out.a.reg D0.out.hd
  have fd := D0.out.a.fz d
  have hd' : (d : Int) < 32 := by have := D0.out.hd; omega
  go_upto_region 5 with fail
  clear i0
  refine wp_region_phase 10 [(0, 0), (1, 0), (2, 1), (3, 0), (4, 0), (5, 0), (6, 1), (7, 0), (8, 0), (9, 0), (10, 2)] (fun W => Dq W ib sb S 11 s t d m) (by kernel_rfl) (by kernel_rfl) (fun _ _ _ d _ h => by cases d <;> first | exact h | exact Dq.drew h) D0.out.drew ?_
  repeat (first | (refine wpPlanZ_free (by rfl) (by rfl) (fun W => by (go_simp; try with_reducible rfl)) (fun K hK => ?_); go_simp; refine hK _ ?_; clear hK K) | (refine wpPlanZ_quiet (by rfl) (by rfl) (fun W hW => by (have i3 := hW.i3; have q32 := hW.a.told.1; go_simp; try with_reducible rfl)) (fun K hK => ?_); go_simp; refine hK _ ?_; clear hK K))
  refine wpPlanZ_serial (by rfl) (by rfl) (fun K hK => ?_)
  go_simp
  refine hK _ _ (fun h => absurd h (by decide)) ?_
  clear hK K
  refine wpPlanZ_nil ?_
  refine ck (R := fun W' => StAt W' sb (S.putR d S.hi) ∧ Kept W W' (· = sb)) ?_ (fun w1 ⟨A1, T1⟩ => ?_)
  · exact ⟨(D0.out.a.putR d D0.out.hd _).drew, (Kept.put (Kept.refl W _) _ _).trans (Kept.drew _ _) (fun _ _ h => h)⟩
  clear qd fd
  go_wp2
  go_ret
  exact ⟨rfl, A1, K0.trans T1 (fun _ _ h => h)⟩
set_option maxRecDepth 100000 in
set_option maxHeartbeats 8000000 in
theorem sumd_13 (A : StAt w sb S) (ok : S.ok) (hs : s < 32) (ht : t < 32) (hd : d < 32) (m0 : 0 ≤ m) (m1 : m < 4294967296) (hk : k = 13) : Calls Tryz.prog 195 #[.pointer (some ⟨sb, 0, none⟩), .agg #[.int .i64 k, .int .i64 s, .int .i64 t, .int .i64 d, .int .u32 m]] w fun e w' => e = .returned (.int .i64 (sumD S k s t d m).1) ∧ StAt w' sb (sumD S k s t d m).2 ∧ Kept w w' (· = sb) := by
  subst hk
  have D0 : Hid (Dq (w.alloc (.cells #[.int .i64 13, .int .i64 s, .int .i64 t, .int .i64 d, .int .u32 m] 113)) w.heap.size sb S 13 s t d m) := Dq.start A ok 13 hs ht hd m0 m1
  have K0 : Kept w (w.alloc (.cells #[.int .i64 13, .int .i64 s, .int .i64 t, .int .i64 d, .int .u32 m] 113)) (· = sb) := Kept.of_below _ ((Below.refl _ _).alloc (Nat.le_refl _) _)
  clear A
  go_enter Tryz.func195, Tryz.ntmps195
  go_upto_region 1 with fail
  generalize w.alloc (.cells #[.int .i64 13, .int .i64 s, .int .i64 t, .int .i64 d, .int .u32 m] 113) = W at *
  generalize w.heap.size = ib at *
  have i0 := D0.out.i0
  have i1 := D0.out.i1
  have i2 := D0.out.i2
  have i3 := D0.out.i3
  have i4 := D0.out.i4
  have qs := D0.out.a.reg D0.out.hs
  have fs := D0.out.a.fz s
  have hs' : (s : Int) < 32 := by have := D0.out.hs; omega
  have qt := D0.out.a.reg D0.out.ht
  have ft := D0.out.a.fz t
  have ht' : (t : Int) < 32 := by have := D0.out.ht; omega
  clear i0 i3 i4
  go_upto_region 1 with fail
  refine wp_region_phase 8 [(0, 0), (1, 0), (2, 1), (3, 0), (4, 0), (5, 0), (6, 1), (7, 0)] (fun W => Dq W ib sb S 13 s t d m) (by kernel_rfl) (by kernel_rfl) (fun _ _ _ d _ h => by cases d <;> first | exact h | exact Dq.drew h) D0.out.drew ?_
  repeat (first | (refine wpPlanZ_free (by rfl) (by rfl) (fun W => by (go_simp; try with_reducible rfl)) (fun K hK => ?_); go_simp; refine hK _ ?_; clear hK K) | (refine wpPlanZ_quiet (by rfl) (by rfl) (fun W hW => by (have i1 := hW.i1; have qs := hW.a.reg hW.hs; go_simp; try with_reducible rfl)) (fun K hK => ?_); go_simp; refine hK _ ?_; clear hK K))
  refine wpPlanZ_nil ?_
  have D1 : Hid (Dq W.drew ib sb S 13 s t d m) := D0.out.drew
  have K1 : Kept w W.drew (· = sb) := K0.trans (Kept.drew _ _) (fun _ _ h => h)
  clear qt ft qs fs i1 i2
  generalize W.drew = W1 at *
  clear D0 K0
  have i2 := D1.out.i2
  have qt := D1.out.a.reg D1.out.ht
  go_upto_region 2 with fail
  refine wp_region_phase 8 [(0, 0), (1, 0), (2, 1), (3, 0), (4, 0), (5, 0), (6, 1), (7, 0)] (fun W => Dq W ib sb S 13 s t d m) (by kernel_rfl) (by kernel_rfl) (fun _ _ _ d _ h => by cases d <;> first | exact h | exact Dq.drew h) D1.out.drew ?_
  repeat (first | (refine wpPlanZ_free (by rfl) (by rfl) (fun W => by (go_simp; try with_reducible rfl)) (fun K hK => ?_); go_simp; refine hK _ ?_; clear hK K) | (refine wpPlanZ_quiet (by rfl) (by rfl) (fun W hW => by (have i2 := hW.i2; have qt := hW.a.reg hW.ht; go_simp; try with_reducible rfl)) (fun K hK => ?_); go_simp; refine hK _ ?_; clear hK K))
  refine wpPlanZ_nil ?_
  have D0 : Hid (Dq W1.drew ib sb S 13 s t d m) := D1.out.drew
  have K0 : Kept w W1.drew (· = sb) := K1.trans (Kept.drew _ _) (fun _ _ h => h)
  clear qt i2
  generalize W1.drew = W at *
  clear D1 K1 W1
  have i0 := D0.out.i0
  have qd := D0.out.a.reg D0.out.hd
  have fd := D0.out.a.fz d
  have hd' : (d : Int) < 32 := by have := D0.out.hd; omega
  go_upto_region 8 with fail
  clear i0
  refine wp_region_phase 10 [(0, 0), (1, 0), (2, 1), (3, 0), (4, 0), (5, 0), (6, 1), (7, 0), (8, 0), (9, 0), (10, 2)] (fun W => Dq W ib sb S 13 s t d m) (by kernel_rfl) (by kernel_rfl) (fun _ _ _ d _ h => by cases d <;> first | exact h | exact Dq.drew h) D0.out.drew ?_
  repeat (first | (refine wpPlanZ_free (by rfl) (by rfl) (fun W => by (go_simp; try with_reducible rfl)) (fun K hK => ?_); go_simp; refine hK _ ?_; clear hK K) | (refine wpPlanZ_quiet (by rfl) (by rfl) (fun W hW => by (have i3 := hW.i3; have q33 := hW.a.told.2.1; go_simp; try with_reducible rfl)) (fun K hK => ?_); go_simp; refine hK _ ?_; clear hK K))
  refine wpPlanZ_serial (by rfl) (by rfl) (fun K hK => ?_)
  go_simp
  refine hK _ _ (fun h => absurd h (by decide)) ?_
  clear hK K
  refine wpPlanZ_nil ?_
  refine ck (R := fun W' => StAt W' sb (S.putR d S.lo) ∧ Kept W W' (· = sb)) ?_ (fun w1 ⟨A1, T1⟩ => ?_)
  · exact ⟨(D0.out.a.putR d D0.out.hd _).drew, (Kept.put (Kept.refl W _) _ _).trans (Kept.drew _ _) (fun _ _ h => h)⟩
  clear qd fd
  go_wp2
  go_ret
  exact ⟨rfl, A1, K0.trans T1 (fun _ _ h => h)⟩
set_option maxRecDepth 100000 in
set_option maxHeartbeats 8000000 in
theorem sumd_12 (A : StAt w sb S) (ok : S.ok) (hs : s < 32) (ht : t < 32) (hd : d < 32) (m0 : 0 ≤ m) (m1 : m < 4294967296) (hk : k = 12) : Calls Tryz.prog 195 #[.pointer (some ⟨sb, 0, none⟩), .agg #[.int .i64 k, .int .i64 s, .int .i64 t, .int .i64 d, .int .u32 m]] w fun e w' => e = .returned (.int .i64 (sumD S k s t d m).1) ∧ StAt w' sb (sumD S k s t d m).2 ∧ Kept w w' (· = sb) := by
  subst hk
  have D0 : Hid (Dq (w.alloc (.cells #[.int .i64 12, .int .i64 s, .int .i64 t, .int .i64 d, .int .u32 m] 113)) w.heap.size sb S 12 s t d m) := Dq.start A ok 12 hs ht hd m0 m1
  have K0 : Kept w (w.alloc (.cells #[.int .i64 12, .int .i64 s, .int .i64 t, .int .i64 d, .int .u32 m] 113)) (· = sb) := Kept.of_below _ ((Below.refl _ _).alloc (Nat.le_refl _) _)
  clear A
  go_enter Tryz.func195, Tryz.ntmps195
  go_upto_region 1 with fail
  generalize w.alloc (.cells #[.int .i64 12, .int .i64 s, .int .i64 t, .int .i64 d, .int .u32 m] 113) = W at *
  generalize w.heap.size = ib at *
  have i0 := D0.out.i0
  have i1 := D0.out.i1
  have i2 := D0.out.i2
  have i3 := D0.out.i3
  have i4 := D0.out.i4
  have qs := D0.out.a.reg D0.out.hs
  have fs := D0.out.a.fz s
  have hs' : (s : Int) < 32 := by have := D0.out.hs; omega
  have qt := D0.out.a.reg D0.out.ht
  have ft := D0.out.a.fz t
  have ht' : (t : Int) < 32 := by have := D0.out.ht; omega
  clear i0 i3 i4
  go_upto_region 1 with fail
  refine wp_region_phase 8 [(0, 0), (1, 0), (2, 1), (3, 0), (4, 0), (5, 0), (6, 1), (7, 0)] (fun W => Dq W ib sb S 12 s t d m) (by kernel_rfl) (by kernel_rfl) (fun _ _ _ d _ h => by cases d <;> first | exact h | exact Dq.drew h) D0.out.drew ?_
  repeat (first | (refine wpPlanZ_free (by rfl) (by rfl) (fun W => by (go_simp; try with_reducible rfl)) (fun K hK => ?_); go_simp; refine hK _ ?_; clear hK K) | (refine wpPlanZ_quiet (by rfl) (by rfl) (fun W hW => by (have i1 := hW.i1; have qs := hW.a.reg hW.hs; go_simp; try with_reducible rfl)) (fun K hK => ?_); go_simp; refine hK _ ?_; clear hK K))
  refine wpPlanZ_nil ?_
  have D1 : Hid (Dq W.drew ib sb S 12 s t d m) := D0.out.drew
  have K1 : Kept w W.drew (· = sb) := K0.trans (Kept.drew _ _) (fun _ _ h => h)
  clear qt ft qs fs i1 i2
  generalize W.drew = W1 at *
  clear D0 K0
  have i2 := D1.out.i2
  have qt := D1.out.a.reg D1.out.ht
  go_upto_region 2 with fail
  refine wp_region_phase 8 [(0, 0), (1, 0), (2, 1), (3, 0), (4, 0), (5, 0), (6, 1), (7, 0)] (fun W => Dq W ib sb S 12 s t d m) (by kernel_rfl) (by kernel_rfl) (fun _ _ _ d _ h => by cases d <;> first | exact h | exact Dq.drew h) D1.out.drew ?_
  repeat (first | (refine wpPlanZ_free (by rfl) (by rfl) (fun W => by (go_simp; try with_reducible rfl)) (fun K hK => ?_); go_simp; refine hK _ ?_; clear hK K) | (refine wpPlanZ_quiet (by rfl) (by rfl) (fun W hW => by (have i2 := hW.i2; have qt := hW.a.reg hW.ht; go_simp; try with_reducible rfl)) (fun K hK => ?_); go_simp; refine hK _ ?_; clear hK K))
  refine wpPlanZ_nil ?_
  have D0 : Hid (Dq W1.drew ib sb S 12 s t d m) := D1.out.drew
  have K0 : Kept w W1.drew (· = sb) := K1.trans (Kept.drew _ _) (fun _ _ h => h)
  clear qt i2
  generalize W1.drew = W at *
  clear D1 K1 W1
  have i0 := D0.out.i0
  obtain ⟨q32, _, _, _, _, _, _, _, _, _, _⟩ := D0.out.a.told
  have f32 := D0.out.a.fz 32
  have A1 := D0.out.a.putHi (S.r s)
  go_wp2
  go_ret
  exact ⟨rfl, A1, K0.put _ _⟩
set_option maxRecDepth 100000 in
set_option maxHeartbeats 8000000 in
theorem sumd_14 (A : StAt w sb S) (ok : S.ok) (hs : s < 32) (ht : t < 32) (hd : d < 32) (m0 : 0 ≤ m) (m1 : m < 4294967296) (hk : k = 14) : Calls Tryz.prog 195 #[.pointer (some ⟨sb, 0, none⟩), .agg #[.int .i64 k, .int .i64 s, .int .i64 t, .int .i64 d, .int .u32 m]] w fun e w' => e = .returned (.int .i64 (sumD S k s t d m).1) ∧ StAt w' sb (sumD S k s t d m).2 ∧ Kept w w' (· = sb) := by
  subst hk
  have D0 : Hid (Dq (w.alloc (.cells #[.int .i64 14, .int .i64 s, .int .i64 t, .int .i64 d, .int .u32 m] 113)) w.heap.size sb S 14 s t d m) := Dq.start A ok 14 hs ht hd m0 m1
  have K0 : Kept w (w.alloc (.cells #[.int .i64 14, .int .i64 s, .int .i64 t, .int .i64 d, .int .u32 m] 113)) (· = sb) := Kept.of_below _ ((Below.refl _ _).alloc (Nat.le_refl _) _)
  clear A
  go_enter Tryz.func195, Tryz.ntmps195
  go_upto_region 1 with fail
  generalize w.alloc (.cells #[.int .i64 14, .int .i64 s, .int .i64 t, .int .i64 d, .int .u32 m] 113) = W at *
  generalize w.heap.size = ib at *
  have i0 := D0.out.i0
  have i1 := D0.out.i1
  have i2 := D0.out.i2
  have i3 := D0.out.i3
  have i4 := D0.out.i4
  have qs := D0.out.a.reg D0.out.hs
  have fs := D0.out.a.fz s
  have hs' : (s : Int) < 32 := by have := D0.out.hs; omega
  have qt := D0.out.a.reg D0.out.ht
  have ft := D0.out.a.fz t
  have ht' : (t : Int) < 32 := by have := D0.out.ht; omega
  clear i0 i3 i4
  go_upto_region 1 with fail
  refine wp_region_phase 8 [(0, 0), (1, 0), (2, 1), (3, 0), (4, 0), (5, 0), (6, 1), (7, 0)] (fun W => Dq W ib sb S 14 s t d m) (by kernel_rfl) (by kernel_rfl) (fun _ _ _ d _ h => by cases d <;> first | exact h | exact Dq.drew h) D0.out.drew ?_
  repeat (first | (refine wpPlanZ_free (by rfl) (by rfl) (fun W => by (go_simp; try with_reducible rfl)) (fun K hK => ?_); go_simp; refine hK _ ?_; clear hK K) | (refine wpPlanZ_quiet (by rfl) (by rfl) (fun W hW => by (have i1 := hW.i1; have qs := hW.a.reg hW.hs; go_simp; try with_reducible rfl)) (fun K hK => ?_); go_simp; refine hK _ ?_; clear hK K))
  refine wpPlanZ_nil ?_
  have D1 : Hid (Dq W.drew ib sb S 14 s t d m) := D0.out.drew
  have K1 : Kept w W.drew (· = sb) := K0.trans (Kept.drew _ _) (fun _ _ h => h)
  clear qt ft qs fs i1 i2
  generalize W.drew = W1 at *
  clear D0 K0
  have i2 := D1.out.i2
  have qt := D1.out.a.reg D1.out.ht
  go_upto_region 2 with fail
  refine wp_region_phase 8 [(0, 0), (1, 0), (2, 1), (3, 0), (4, 0), (5, 0), (6, 1), (7, 0)] (fun W => Dq W ib sb S 14 s t d m) (by kernel_rfl) (by kernel_rfl) (fun _ _ _ d _ h => by cases d <;> first | exact h | exact Dq.drew h) D1.out.drew ?_
  repeat (first | (refine wpPlanZ_free (by rfl) (by rfl) (fun W => by (go_simp; try with_reducible rfl)) (fun K hK => ?_); go_simp; refine hK _ ?_; clear hK K) | (refine wpPlanZ_quiet (by rfl) (by rfl) (fun W hW => by (have i2 := hW.i2; have qt := hW.a.reg hW.ht; go_simp; try with_reducible rfl)) (fun K hK => ?_); go_simp; refine hK _ ?_; clear hK K))
  refine wpPlanZ_nil ?_
  have D0 : Hid (Dq W1.drew ib sb S 14 s t d m) := D1.out.drew
  have K0 : Kept w W1.drew (· = sb) := K1.trans (Kept.drew _ _) (fun _ _ h => h)
  clear qt i2
  generalize W1.drew = W at *
  clear D1 K1 W1
  have i0 := D0.out.i0
  obtain ⟨_, q33, _, _, _, _, _, _, _, _, _⟩ := D0.out.a.told
  have f33 := D0.out.a.fz 33
  have A1 := D0.out.a.putLo (S.r s)
  go_wp2
  go_ret
  exact ⟨rfl, A1, K0.put _ _⟩
set_option maxRecDepth 100000 in
set_option maxHeartbeats 8000000 in
theorem sumd_15 (A : StAt w sb S) (ok : S.ok) (hs : s < 32) (ht : t < 32) (hd : d < 32) (m0 : 0 ≤ m) (m1 : m < 4294967296) (hk : k = 15) : Calls Tryz.prog 195 #[.pointer (some ⟨sb, 0, none⟩), .agg #[.int .i64 k, .int .i64 s, .int .i64 t, .int .i64 d, .int .u32 m]] w fun e w' => e = .returned (.int .i64 (sumD S k s t d m).1) ∧ StAt w' sb (sumD S k s t d m).2 ∧ Kept w w' (· = sb) := by
  subst hk
  have X : sumD S 15 s t d m = (-1, { S with hi := hi (nm (S.r s) true * nm (S.r t) true), lo := lo (nm (S.r s) true * nm (S.r t) true) }) := rfl
  rw [X]
  clear X
  have hm := fun W => mulOf_any (S.r s) (S.r t) true (ok.r s).1 (ok.r s).2 (ok.r t).1 (ok.r t).2 W
  generalize hi (nm (S.r s) true * nm (S.r t) true) = H at *
  generalize lo (nm (S.r s) true * nm (S.r t) true) = L at *
  have D0 : Hid (Dq (w.alloc (.cells #[.int .i64 15, .int .i64 s, .int .i64 t, .int .i64 d, .int .u32 m] 113)) w.heap.size sb S 15 s t d m) := Dq.start A ok 15 hs ht hd m0 m1
  have K0 : Kept w (w.alloc (.cells #[.int .i64 15, .int .i64 s, .int .i64 t, .int .i64 d, .int .u32 m] 113)) (· = sb) := Kept.of_below _ ((Below.refl _ _).alloc (Nat.le_refl _) _)
  clear A
  go_enter Tryz.func195, Tryz.ntmps195
  go_upto_region 1 with fail
  generalize w.alloc (.cells #[.int .i64 15, .int .i64 s, .int .i64 t, .int .i64 d, .int .u32 m] 113) = W at *
  generalize w.heap.size = ib at *
  have i0 := D0.out.i0
  have i1 := D0.out.i1
  have i2 := D0.out.i2
  have i3 := D0.out.i3
  have i4 := D0.out.i4
  have qs := D0.out.a.reg D0.out.hs
  have fs := D0.out.a.fz s
  have hs' : (s : Int) < 32 := by have := D0.out.hs; omega
  have qt := D0.out.a.reg D0.out.ht
  have ft := D0.out.a.fz t
  have ht' : (t : Int) < 32 := by have := D0.out.ht; omega
  clear i0 i3 i4
  go_upto_region 1 with fail
  refine wp_region_phase 8 [(0, 0), (1, 0), (2, 1), (3, 0), (4, 0), (5, 0), (6, 1), (7, 0)] (fun W => Dq W ib sb S 15 s t d m) (by kernel_rfl) (by kernel_rfl) (fun _ _ _ d _ h => by cases d <;> first | exact h | exact Dq.drew h) D0.out.drew ?_
  repeat (first | (refine wpPlanZ_free (by rfl) (by rfl) (fun W => by (go_simp; try with_reducible rfl)) (fun K hK => ?_); go_simp; refine hK _ ?_; clear hK K) | (refine wpPlanZ_quiet (by rfl) (by rfl) (fun W hW => by (have i1 := hW.i1; have qs := hW.a.reg hW.hs; go_simp; try with_reducible rfl)) (fun K hK => ?_); go_simp; refine hK _ ?_; clear hK K))
  refine wpPlanZ_nil ?_
  have D1 : Hid (Dq W.drew ib sb S 15 s t d m) := D0.out.drew
  have K1 : Kept w W.drew (· = sb) := K0.trans (Kept.drew _ _) (fun _ _ h => h)
  clear qt ft qs fs i1 i2
  generalize W.drew = W1 at *
  clear D0 K0
  have i2 := D1.out.i2
  have qt := D1.out.a.reg D1.out.ht
  go_upto_region 2 with fail
  refine wp_region_phase 8 [(0, 0), (1, 0), (2, 1), (3, 0), (4, 0), (5, 0), (6, 1), (7, 0)] (fun W => Dq W ib sb S 15 s t d m) (by kernel_rfl) (by kernel_rfl) (fun _ _ _ d _ h => by cases d <;> first | exact h | exact Dq.drew h) D1.out.drew ?_
  repeat (first | (refine wpPlanZ_free (by rfl) (by rfl) (fun W => by (go_simp; try with_reducible rfl)) (fun K hK => ?_); go_simp; refine hK _ ?_; clear hK K) | (refine wpPlanZ_quiet (by rfl) (by rfl) (fun W hW => by (have i2 := hW.i2; have qt := hW.a.reg hW.ht; go_simp; try with_reducible rfl)) (fun K hK => ?_); go_simp; refine hK _ ?_; clear hK K))
  refine wpPlanZ_nil ?_
  have D0 : Hid (Dq W1.drew ib sb S 15 s t d m) := D1.out.drew
  have K0 : Kept w W1.drew (· = sb) := K1.trans (Kept.drew _ _) (fun _ _ h => h)
  clear qt i2
  generalize W1.drew = W at *
  clear D1 K1 W1
  have i0 := D0.out.i0
  obtain ⟨q32, q33, _, _, _, _, _, _, _, _, _⟩ := D0.out.a.told
  have f32 := D0.out.a.fz 32
  have f33 := D0.out.a.fz 33
  have A1 := (D0.out.a.putHi H).putLo L
  go_wp2_with (go_at_call 230; refine (hm _).mono ?_; rintro e w2 ⟨rfl, rfl⟩)
  go_ret
  exact ⟨rfl, A1, (K0.put _ _).put _ _⟩
set_option maxRecDepth 100000 in
set_option maxHeartbeats 8000000 in
theorem sumd_16 (A : StAt w sb S) (ok : S.ok) (hs : s < 32) (ht : t < 32) (hd : d < 32) (m0 : 0 ≤ m) (m1 : m < 4294967296) (hk : k = 16) : Calls Tryz.prog 195 #[.pointer (some ⟨sb, 0, none⟩), .agg #[.int .i64 k, .int .i64 s, .int .i64 t, .int .i64 d, .int .u32 m]] w fun e w' => e = .returned (.int .i64 (sumD S k s t d m).1) ∧ StAt w' sb (sumD S k s t d m).2 ∧ Kept w w' (· = sb) := by
  subst hk
  have X : sumD S 16 s t d m = (-1, { S with hi := hi (nm (S.r s) false * nm (S.r t) false), lo := lo (nm (S.r s) false * nm (S.r t) false) }) := rfl
  rw [X]
  clear X
  have hm := fun W => mulOf_any (S.r s) (S.r t) false (ok.r s).1 (ok.r s).2 (ok.r t).1 (ok.r t).2 W
  generalize hi (nm (S.r s) false * nm (S.r t) false) = H at *
  generalize lo (nm (S.r s) false * nm (S.r t) false) = L at *
  have D0 : Hid (Dq (w.alloc (.cells #[.int .i64 16, .int .i64 s, .int .i64 t, .int .i64 d, .int .u32 m] 113)) w.heap.size sb S 16 s t d m) := Dq.start A ok 16 hs ht hd m0 m1
  have K0 : Kept w (w.alloc (.cells #[.int .i64 16, .int .i64 s, .int .i64 t, .int .i64 d, .int .u32 m] 113)) (· = sb) := Kept.of_below _ ((Below.refl _ _).alloc (Nat.le_refl _) _)
  clear A
  go_enter Tryz.func195, Tryz.ntmps195
  go_upto_region 1 with fail
  generalize w.alloc (.cells #[.int .i64 16, .int .i64 s, .int .i64 t, .int .i64 d, .int .u32 m] 113) = W at *
  generalize w.heap.size = ib at *
  have i0 := D0.out.i0
  have i1 := D0.out.i1
  have i2 := D0.out.i2
  have i3 := D0.out.i3
  have i4 := D0.out.i4
  have qs := D0.out.a.reg D0.out.hs
  have fs := D0.out.a.fz s
  have hs' : (s : Int) < 32 := by have := D0.out.hs; omega
  have qt := D0.out.a.reg D0.out.ht
  have ft := D0.out.a.fz t
  have ht' : (t : Int) < 32 := by have := D0.out.ht; omega
  clear i0 i3 i4
  go_upto_region 1 with fail
  refine wp_region_phase 8 [(0, 0), (1, 0), (2, 1), (3, 0), (4, 0), (5, 0), (6, 1), (7, 0)] (fun W => Dq W ib sb S 16 s t d m) (by kernel_rfl) (by kernel_rfl) (fun _ _ _ d _ h => by cases d <;> first | exact h | exact Dq.drew h) D0.out.drew ?_
  repeat (first | (refine wpPlanZ_free (by rfl) (by rfl) (fun W => by (go_simp; try with_reducible rfl)) (fun K hK => ?_); go_simp; refine hK _ ?_; clear hK K) | (refine wpPlanZ_quiet (by rfl) (by rfl) (fun W hW => by (have i1 := hW.i1; have qs := hW.a.reg hW.hs; go_simp; try with_reducible rfl)) (fun K hK => ?_); go_simp; refine hK _ ?_; clear hK K))
  refine wpPlanZ_nil ?_
  have D1 : Hid (Dq W.drew ib sb S 16 s t d m) := D0.out.drew
  have K1 : Kept w W.drew (· = sb) := K0.trans (Kept.drew _ _) (fun _ _ h => h)
  clear qt ft qs fs i1 i2
  generalize W.drew = W1 at *
  clear D0 K0
  have i2 := D1.out.i2
  have qt := D1.out.a.reg D1.out.ht
  go_upto_region 2 with fail
  refine wp_region_phase 8 [(0, 0), (1, 0), (2, 1), (3, 0), (4, 0), (5, 0), (6, 1), (7, 0)] (fun W => Dq W ib sb S 16 s t d m) (by kernel_rfl) (by kernel_rfl) (fun _ _ _ d _ h => by cases d <;> first | exact h | exact Dq.drew h) D1.out.drew ?_
  repeat (first | (refine wpPlanZ_free (by rfl) (by rfl) (fun W => by (go_simp; try with_reducible rfl)) (fun K hK => ?_); go_simp; refine hK _ ?_; clear hK K) | (refine wpPlanZ_quiet (by rfl) (by rfl) (fun W hW => by (have i2 := hW.i2; have qt := hW.a.reg hW.ht; go_simp; try with_reducible rfl)) (fun K hK => ?_); go_simp; refine hK _ ?_; clear hK K))
  refine wpPlanZ_nil ?_
  have D0 : Hid (Dq W1.drew ib sb S 16 s t d m) := D1.out.drew
  have K0 : Kept w W1.drew (· = sb) := K1.trans (Kept.drew _ _) (fun _ _ h => h)
  clear qt i2
  generalize W1.drew = W at *
  clear D1 K1 W1
  have i0 := D0.out.i0
  obtain ⟨q32, q33, _, _, _, _, _, _, _, _, _⟩ := D0.out.a.told
  have f32 := D0.out.a.fz 32
  have f33 := D0.out.a.fz 33
  have A1 := (D0.out.a.putHi H).putLo L
  go_wp2_with (go_at_call 230; refine (hm _).mono ?_; rintro e w2 ⟨rfl, rfl⟩)
  go_ret
  exact ⟨rfl, A1, (K0.put _ _).put _ _⟩
set_option maxRecDepth 100000 in
set_option maxHeartbeats 8000000 in
theorem sumd_17z (A : StAt w sb S) (ok : S.ok) (hs : s < 32) (ht : t < 32) (hd : d < 32) (m0 : 0 ≤ m) (m1 : m < 4294967296) (hk : k = 17) (hz : S.r t = 0) : Calls Tryz.prog 195 #[.pointer (some ⟨sb, 0, none⟩), .agg #[.int .i64 k, .int .i64 s, .int .i64 t, .int .i64 d, .int .u32 m]] w fun e w' => e = .returned (.int .i64 (sumD S k s t d m).1) ∧ StAt w' sb (sumD S k s t d m).2 ∧ Kept w w' (· = sb) := by
  subst hk
  have X : sumD S 17 s t d m = (-1, S) := by show (-1, if S.r t = 0 then S else _) = _; rw [if_pos hz]
  rw [X]
  clear X
  have hm := fun W => divOf_0 (S.r s) true W
  have D0 : Hid (Dq (w.alloc (.cells #[.int .i64 17, .int .i64 s, .int .i64 t, .int .i64 d, .int .u32 m] 113)) w.heap.size sb S 17 s t d m) := Dq.start A ok 17 hs ht hd m0 m1
  have K0 : Kept w (w.alloc (.cells #[.int .i64 17, .int .i64 s, .int .i64 t, .int .i64 d, .int .u32 m] 113)) (· = sb) := Kept.of_below _ ((Below.refl _ _).alloc (Nat.le_refl _) _)
  clear A
  go_enter Tryz.func195, Tryz.ntmps195
  go_upto_region 1 with fail
  generalize w.alloc (.cells #[.int .i64 17, .int .i64 s, .int .i64 t, .int .i64 d, .int .u32 m] 113) = W at *
  generalize w.heap.size = ib at *
  have i0 := D0.out.i0
  have i1 := D0.out.i1
  have i2 := D0.out.i2
  have i3 := D0.out.i3
  have i4 := D0.out.i4
  have qs := D0.out.a.reg D0.out.hs
  have fs := D0.out.a.fz s
  have hs' : (s : Int) < 32 := by have := D0.out.hs; omega
  have qt := D0.out.a.reg D0.out.ht
  have ft := D0.out.a.fz t
  have ht' : (t : Int) < 32 := by have := D0.out.ht; omega
  clear i0 i3 i4
  go_upto_region 1 with fail
  refine wp_region_phase 8 [(0, 0), (1, 0), (2, 1), (3, 0), (4, 0), (5, 0), (6, 1), (7, 0)] (fun W => Dq W ib sb S 17 s t d m) (by kernel_rfl) (by kernel_rfl) (fun _ _ _ d _ h => by cases d <;> first | exact h | exact Dq.drew h) D0.out.drew ?_
  repeat (first | (refine wpPlanZ_free (by rfl) (by rfl) (fun W => by (go_simp; try with_reducible rfl)) (fun K hK => ?_); go_simp; refine hK _ ?_; clear hK K) | (refine wpPlanZ_quiet (by rfl) (by rfl) (fun W hW => by (have i1 := hW.i1; have qs := hW.a.reg hW.hs; go_simp; try with_reducible rfl)) (fun K hK => ?_); go_simp; refine hK _ ?_; clear hK K))
  refine wpPlanZ_nil ?_
  have D1 : Hid (Dq W.drew ib sb S 17 s t d m) := D0.out.drew
  have K1 : Kept w W.drew (· = sb) := K0.trans (Kept.drew _ _) (fun _ _ h => h)
  clear qt ft qs fs i1 i2
  generalize W.drew = W1 at *
  clear D0 K0
  have i2 := D1.out.i2
  have qt := D1.out.a.reg D1.out.ht
  go_upto_region 2 with fail
  refine wp_region_phase 8 [(0, 0), (1, 0), (2, 1), (3, 0), (4, 0), (5, 0), (6, 1), (7, 0)] (fun W => Dq W ib sb S 17 s t d m) (by kernel_rfl) (by kernel_rfl) (fun _ _ _ d _ h => by cases d <;> first | exact h | exact Dq.drew h) D1.out.drew ?_
  repeat (first | (refine wpPlanZ_free (by rfl) (by rfl) (fun W => by (go_simp; try with_reducible rfl)) (fun K hK => ?_); go_simp; refine hK _ ?_; clear hK K) | (refine wpPlanZ_quiet (by rfl) (by rfl) (fun W hW => by (have i2 := hW.i2; have qt := hW.a.reg hW.ht; go_simp; try with_reducible rfl)) (fun K hK => ?_); go_simp; refine hK _ ?_; clear hK K))
  refine wpPlanZ_nil ?_
  have D0 : Hid (Dq W1.drew ib sb S 17 s t d m) := D1.out.drew
  have K0 : Kept w W1.drew (· = sb) := K1.trans (Kept.drew _ _) (fun _ _ h => h)
  clear qt i2
  generalize W1.drew = W at *
  clear D1 K1 W1
  have i0 := D0.out.i0
  have A1 := D0.out.a
  go_wp2_with (go_at_call 189; refine (hm _).mono ?_; rintro e w2 ⟨rfl, rfl⟩)
  go_ret
  exact ⟨rfl, A1, K0⟩
set_option maxRecDepth 100000 in
set_option maxHeartbeats 8000000 in
theorem sumd_17n (A : StAt w sb S) (ok : S.ok) (hs : s < 32) (ht : t < 32) (hd : d < 32) (m0 : 0 ≤ m) (m1 : m < 4294967296) (hk : k = 17) (hz : ¬ S.r t = 0) : Calls Tryz.prog 195 #[.pointer (some ⟨sb, 0, none⟩), .agg #[.int .i64 k, .int .i64 s, .int .i64 t, .int .i64 d, .int .u32 m]] w fun e w' => e = .returned (.int .i64 (sumD S k s t d m).1) ∧ StAt w' sb (sumD S k s t d m).2 ∧ Kept w w' (· = sb) := by
  subst hk
  have X : sumD S 17 s t d m = (-1, { S with lo := quo (S.r s) (S.r t) true, hi := rst (S.r s) (S.r t) true }) := by show (-1, if S.r t = 0 then S else _) = _; rw [if_neg hz]; rfl
  rw [X]
  clear X
  have hm := fun W => divOf_any (S.r s) (S.r t) true (ok.r s).1 (ok.r s).2 (by have := (ok.r t).1; omega) (ok.r t).2 W
  generalize quo (S.r s) (S.r t) true = H at *
  generalize rst (S.r s) (S.r t) true = L at *
  clear hz
  have D0 : Hid (Dq (w.alloc (.cells #[.int .i64 17, .int .i64 s, .int .i64 t, .int .i64 d, .int .u32 m] 113)) w.heap.size sb S 17 s t d m) := Dq.start A ok 17 hs ht hd m0 m1
  have K0 : Kept w (w.alloc (.cells #[.int .i64 17, .int .i64 s, .int .i64 t, .int .i64 d, .int .u32 m] 113)) (· = sb) := Kept.of_below _ ((Below.refl _ _).alloc (Nat.le_refl _) _)
  clear A
  go_enter Tryz.func195, Tryz.ntmps195
  go_upto_region 1 with fail
  generalize w.alloc (.cells #[.int .i64 17, .int .i64 s, .int .i64 t, .int .i64 d, .int .u32 m] 113) = W at *
  generalize w.heap.size = ib at *
  have i0 := D0.out.i0
  have i1 := D0.out.i1
  have i2 := D0.out.i2
  have i3 := D0.out.i3
  have i4 := D0.out.i4
  have qs := D0.out.a.reg D0.out.hs
  have fs := D0.out.a.fz s
  have hs' : (s : Int) < 32 := by have := D0.out.hs; omega
  have qt := D0.out.a.reg D0.out.ht
  have ft := D0.out.a.fz t
  have ht' : (t : Int) < 32 := by have := D0.out.ht; omega
  clear i0 i3 i4
  go_upto_region 1 with fail
  refine wp_region_phase 8 [(0, 0), (1, 0), (2, 1), (3, 0), (4, 0), (5, 0), (6, 1), (7, 0)] (fun W => Dq W ib sb S 17 s t d m) (by kernel_rfl) (by kernel_rfl) (fun _ _ _ d _ h => by cases d <;> first | exact h | exact Dq.drew h) D0.out.drew ?_
  repeat (first | (refine wpPlanZ_free (by rfl) (by rfl) (fun W => by (go_simp; try with_reducible rfl)) (fun K hK => ?_); go_simp; refine hK _ ?_; clear hK K) | (refine wpPlanZ_quiet (by rfl) (by rfl) (fun W hW => by (have i1 := hW.i1; have qs := hW.a.reg hW.hs; go_simp; try with_reducible rfl)) (fun K hK => ?_); go_simp; refine hK _ ?_; clear hK K))
  refine wpPlanZ_nil ?_
  have D1 : Hid (Dq W.drew ib sb S 17 s t d m) := D0.out.drew
  have K1 : Kept w W.drew (· = sb) := K0.trans (Kept.drew _ _) (fun _ _ h => h)
  clear qt ft qs fs i1 i2
  generalize W.drew = W1 at *
  clear D0 K0
  have i2 := D1.out.i2
  have qt := D1.out.a.reg D1.out.ht
  go_upto_region 2 with fail
  refine wp_region_phase 8 [(0, 0), (1, 0), (2, 1), (3, 0), (4, 0), (5, 0), (6, 1), (7, 0)] (fun W => Dq W ib sb S 17 s t d m) (by kernel_rfl) (by kernel_rfl) (fun _ _ _ d _ h => by cases d <;> first | exact h | exact Dq.drew h) D1.out.drew ?_
  repeat (first | (refine wpPlanZ_free (by rfl) (by rfl) (fun W => by (go_simp; try with_reducible rfl)) (fun K hK => ?_); go_simp; refine hK _ ?_; clear hK K) | (refine wpPlanZ_quiet (by rfl) (by rfl) (fun W hW => by (have i2 := hW.i2; have qt := hW.a.reg hW.ht; go_simp; try with_reducible rfl)) (fun K hK => ?_); go_simp; refine hK _ ?_; clear hK K))
  refine wpPlanZ_nil ?_
  have D0 : Hid (Dq W1.drew ib sb S 17 s t d m) := D1.out.drew
  have K0 : Kept w W1.drew (· = sb) := K1.trans (Kept.drew _ _) (fun _ _ h => h)
  clear qt i2
  generalize W1.drew = W at *
  clear D1 K1 W1
  have i0 := D0.out.i0
  go_wp2_with fail
  refine (hm _).mono ?_
  rintro e w2 ⟨rfl, n, rfl⟩
  have D2 : Hid _ := D0.out.drewN n
  have K2 : Kept w (W.drewN n) (· = sb) := K0.trans (Kept.of_below _ (below_drewN (Below.refl _ _) n)) (fun _ _ h => h)
  clear i0
  generalize W.drewN n = W2 at *
  obtain ⟨q32, q33, _, _, _, _, _, _, _, _, _⟩ := D2.out.a.told
  have f32 := D2.out.a.fz 32
  have f33 := D2.out.a.fz 33
  have A1 := (D2.out.a.putLo H).putHi L
  go_wp2
  go_ret
  exact ⟨rfl, A1, (K2.put _ _).put _ _⟩
set_option maxRecDepth 100000 in
set_option maxHeartbeats 8000000 in
theorem sumd_18z (A : StAt w sb S) (ok : S.ok) (hs : s < 32) (ht : t < 32) (hd : d < 32) (m0 : 0 ≤ m) (m1 : m < 4294967296) (hk : k = 18) (hz : S.r t = 0) : Calls Tryz.prog 195 #[.pointer (some ⟨sb, 0, none⟩), .agg #[.int .i64 k, .int .i64 s, .int .i64 t, .int .i64 d, .int .u32 m]] w fun e w' => e = .returned (.int .i64 (sumD S k s t d m).1) ∧ StAt w' sb (sumD S k s t d m).2 ∧ Kept w w' (· = sb) := by
  subst hk
  have X : sumD S 18 s t d m = (-1, S) := by show (-1, if S.r t = 0 then S else _) = _; rw [if_pos hz]
  rw [X]
  clear X
  have hm := fun W => divOf_0 (S.r s) false W
  have D0 : Hid (Dq (w.alloc (.cells #[.int .i64 18, .int .i64 s, .int .i64 t, .int .i64 d, .int .u32 m] 113)) w.heap.size sb S 18 s t d m) := Dq.start A ok 18 hs ht hd m0 m1
  have K0 : Kept w (w.alloc (.cells #[.int .i64 18, .int .i64 s, .int .i64 t, .int .i64 d, .int .u32 m] 113)) (· = sb) := Kept.of_below _ ((Below.refl _ _).alloc (Nat.le_refl _) _)
  clear A
  go_enter Tryz.func195, Tryz.ntmps195
  go_upto_region 1 with fail
  generalize w.alloc (.cells #[.int .i64 18, .int .i64 s, .int .i64 t, .int .i64 d, .int .u32 m] 113) = W at *
  generalize w.heap.size = ib at *
  have i0 := D0.out.i0
  have i1 := D0.out.i1
  have i2 := D0.out.i2
  have i3 := D0.out.i3
  have i4 := D0.out.i4
  have qs := D0.out.a.reg D0.out.hs
  have fs := D0.out.a.fz s
  have hs' : (s : Int) < 32 := by have := D0.out.hs; omega
  have qt := D0.out.a.reg D0.out.ht
  have ft := D0.out.a.fz t
  have ht' : (t : Int) < 32 := by have := D0.out.ht; omega
  clear i0 i3 i4
  go_upto_region 1 with fail
  refine wp_region_phase 8 [(0, 0), (1, 0), (2, 1), (3, 0), (4, 0), (5, 0), (6, 1), (7, 0)] (fun W => Dq W ib sb S 18 s t d m) (by kernel_rfl) (by kernel_rfl) (fun _ _ _ d _ h => by cases d <;> first | exact h | exact Dq.drew h) D0.out.drew ?_
  repeat (first | (refine wpPlanZ_free (by rfl) (by rfl) (fun W => by (go_simp; try with_reducible rfl)) (fun K hK => ?_); go_simp; refine hK _ ?_; clear hK K) | (refine wpPlanZ_quiet (by rfl) (by rfl) (fun W hW => by (have i1 := hW.i1; have qs := hW.a.reg hW.hs; go_simp; try with_reducible rfl)) (fun K hK => ?_); go_simp; refine hK _ ?_; clear hK K))
  refine wpPlanZ_nil ?_
  have D1 : Hid (Dq W.drew ib sb S 18 s t d m) := D0.out.drew
  have K1 : Kept w W.drew (· = sb) := K0.trans (Kept.drew _ _) (fun _ _ h => h)
  clear qt ft qs fs i1 i2
  generalize W.drew = W1 at *
  clear D0 K0
  have i2 := D1.out.i2
  have qt := D1.out.a.reg D1.out.ht
  go_upto_region 2 with fail
  refine wp_region_phase 8 [(0, 0), (1, 0), (2, 1), (3, 0), (4, 0), (5, 0), (6, 1), (7, 0)] (fun W => Dq W ib sb S 18 s t d m) (by kernel_rfl) (by kernel_rfl) (fun _ _ _ d _ h => by cases d <;> first | exact h | exact Dq.drew h) D1.out.drew ?_
  repeat (first | (refine wpPlanZ_free (by rfl) (by rfl) (fun W => by (go_simp; try with_reducible rfl)) (fun K hK => ?_); go_simp; refine hK _ ?_; clear hK K) | (refine wpPlanZ_quiet (by rfl) (by rfl) (fun W hW => by (have i2 := hW.i2; have qt := hW.a.reg hW.ht; go_simp; try with_reducible rfl)) (fun K hK => ?_); go_simp; refine hK _ ?_; clear hK K))
  refine wpPlanZ_nil ?_
  have D0 : Hid (Dq W1.drew ib sb S 18 s t d m) := D1.out.drew
  have K0 : Kept w W1.drew (· = sb) := K1.trans (Kept.drew _ _) (fun _ _ h => h)
  clear qt i2
  generalize W1.drew = W at *
  clear D1 K1 W1
  have i0 := D0.out.i0
  have A1 := D0.out.a
  go_wp2_with (go_at_call 189; refine (hm _).mono ?_; rintro e w2 ⟨rfl, rfl⟩)
  go_ret
  exact ⟨rfl, A1, K0⟩
set_option maxRecDepth 100000 in
set_option maxHeartbeats 8000000 in
theorem sumd_18n (A : StAt w sb S) (ok : S.ok) (hs : s < 32) (ht : t < 32) (hd : d < 32) (m0 : 0 ≤ m) (m1 : m < 4294967296) (hk : k = 18) (hz : ¬ S.r t = 0) : Calls Tryz.prog 195 #[.pointer (some ⟨sb, 0, none⟩), .agg #[.int .i64 k, .int .i64 s, .int .i64 t, .int .i64 d, .int .u32 m]] w fun e w' => e = .returned (.int .i64 (sumD S k s t d m).1) ∧ StAt w' sb (sumD S k s t d m).2 ∧ Kept w w' (· = sb) := by
  subst hk
  have X : sumD S 18 s t d m = (-1, { S with lo := quo (S.r s) (S.r t) false, hi := rst (S.r s) (S.r t) false }) := by show (-1, if S.r t = 0 then S else _) = _; rw [if_neg hz]; rfl
  rw [X]
  clear X
  have hm := fun W => divOf_any (S.r s) (S.r t) false (ok.r s).1 (ok.r s).2 (by have := (ok.r t).1; omega) (ok.r t).2 W
  generalize quo (S.r s) (S.r t) false = H at *
  generalize rst (S.r s) (S.r t) false = L at *
  clear hz
  have D0 : Hid (Dq (w.alloc (.cells #[.int .i64 18, .int .i64 s, .int .i64 t, .int .i64 d, .int .u32 m] 113)) w.heap.size sb S 18 s t d m) := Dq.start A ok 18 hs ht hd m0 m1
  have K0 : Kept w (w.alloc (.cells #[.int .i64 18, .int .i64 s, .int .i64 t, .int .i64 d, .int .u32 m] 113)) (· = sb) := Kept.of_below _ ((Below.refl _ _).alloc (Nat.le_refl _) _)
  clear A
  go_enter Tryz.func195, Tryz.ntmps195
  go_upto_region 1 with fail
  generalize w.alloc (.cells #[.int .i64 18, .int .i64 s, .int .i64 t, .int .i64 d, .int .u32 m] 113) = W at *
  generalize w.heap.size = ib at *
  have i0 := D0.out.i0
  have i1 := D0.out.i1
  have i2 := D0.out.i2
  have i3 := D0.out.i3
  have i4 := D0.out.i4
  have qs := D0.out.a.reg D0.out.hs
  have fs := D0.out.a.fz s
  have hs' : (s : Int) < 32 := by have := D0.out.hs; omega
  have qt := D0.out.a.reg D0.out.ht
  have ft := D0.out.a.fz t
  have ht' : (t : Int) < 32 := by have := D0.out.ht; omega
  clear i0 i3 i4
  go_upto_region 1 with fail
  refine wp_region_phase 8 [(0, 0), (1, 0), (2, 1), (3, 0), (4, 0), (5, 0), (6, 1), (7, 0)] (fun W => Dq W ib sb S 18 s t d m) (by kernel_rfl) (by kernel_rfl) (fun _ _ _ d _ h => by cases d <;> first | exact h | exact Dq.drew h) D0.out.drew ?_
  repeat (first | (refine wpPlanZ_free (by rfl) (by rfl) (fun W => by (go_simp; try with_reducible rfl)) (fun K hK => ?_); go_simp; refine hK _ ?_; clear hK K) | (refine wpPlanZ_quiet (by rfl) (by rfl) (fun W hW => by (have i1 := hW.i1; have qs := hW.a.reg hW.hs; go_simp; try with_reducible rfl)) (fun K hK => ?_); go_simp; refine hK _ ?_; clear hK K))
  refine wpPlanZ_nil ?_
  have D1 : Hid (Dq W.drew ib sb S 18 s t d m) := D0.out.drew
  have K1 : Kept w W.drew (· = sb) := K0.trans (Kept.drew _ _) (fun _ _ h => h)
  clear qt ft qs fs i1 i2
  generalize W.drew = W1 at *
  clear D0 K0
  have i2 := D1.out.i2
  have qt := D1.out.a.reg D1.out.ht
  go_upto_region 2 with fail
  refine wp_region_phase 8 [(0, 0), (1, 0), (2, 1), (3, 0), (4, 0), (5, 0), (6, 1), (7, 0)] (fun W => Dq W ib sb S 18 s t d m) (by kernel_rfl) (by kernel_rfl) (fun _ _ _ d _ h => by cases d <;> first | exact h | exact Dq.drew h) D1.out.drew ?_
  repeat (first | (refine wpPlanZ_free (by rfl) (by rfl) (fun W => by (go_simp; try with_reducible rfl)) (fun K hK => ?_); go_simp; refine hK _ ?_; clear hK K) | (refine wpPlanZ_quiet (by rfl) (by rfl) (fun W hW => by (have i2 := hW.i2; have qt := hW.a.reg hW.ht; go_simp; try with_reducible rfl)) (fun K hK => ?_); go_simp; refine hK _ ?_; clear hK K))
  refine wpPlanZ_nil ?_
  have D0 : Hid (Dq W1.drew ib sb S 18 s t d m) := D1.out.drew
  have K0 : Kept w W1.drew (· = sb) := K1.trans (Kept.drew _ _) (fun _ _ h => h)
  clear qt i2
  generalize W1.drew = W at *
  clear D1 K1 W1
  have i0 := D0.out.i0
  go_wp2_with fail
  refine (hm _).mono ?_
  rintro e w2 ⟨rfl, n, rfl⟩
  have D2 : Hid _ := D0.out.drewN n
  have K2 : Kept w (W.drewN n) (· = sb) := K0.trans (Kept.of_below _ (below_drewN (Below.refl _ _) n)) (fun _ _ h => h)
  clear i0
  generalize W.drewN n = W2 at *
  obtain ⟨q32, q33, _, _, _, _, _, _, _, _, _⟩ := D2.out.a.told
  have f32 := D2.out.a.fz 32
  have f33 := D2.out.a.fz 33
  have A1 := (D2.out.a.putLo H).putHi L
  go_wp2
  go_ret
  exact ⟨rfl, A1, (K2.put _ _).put _ _⟩
end
end Go.Proofs.YtflagpkmebdckaaGreatDoor
