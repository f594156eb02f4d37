/-
  Sums and loads: their ops.
-/
import Derived.Test.YtflagpkmebdckaaGreatDoorQLw4
namespace Go.Proofs.YtflagpkmebdckaaGreatDoor.Low
open Go.RowKit Go.Maps
open Num
set_option linter.unusedVariables false
section
variable {w0 w : World} {lb : Nat} {pc many at_ : Int} {l : List Opx} {v : Value}
set_option maxRecDepth 100000 in
set_option maxHeartbeats 8000000 in
theorem sumL_any (F : LAt w0 w lb pc many at_ l v) (hn : l.length ≤ 900) (k : Nat) (s t d m : Int) (m0 : 0 ≤ m) (m1 : m < 4294967296) :
    Calls Tryz.prog 111 #[.pointer (some ⟨lb, 0, none⟩), .agg #[.int .i64 k, .int .i64 s, .int .i64 t, .int .i64 d, .int .u32 m]] w (LP w0 w lb pc many at_ (l ++ sumL ⟨k, s, t, d, m⟩ at_) v) := by
  by_cases h15 : k = 15
  · subst h15
    have B : Hid _ := LB.start F 15 s t d m
    clear F
    go_enter Tryz.func111, Tryz.ntmps111
    go_upto_region 1 with fail
    generalize hW : w.alloc (.cells #[.int .i64 15, .int .i64 s, .int .i64 t, .int .i64 d, .int .u32 m] 113) = W at B ⊢
    generalize hib : w.heap.size = ib at B ⊢
    clear hW hib
    have c0 := B.out.c0; have c1 := B.out.c1; have c2 := B.out.c2; have c3 := B.out.c3; have c4 := B.out.c4
    go_wp2_with fail
    refine (hiLo_any B.out.f hn 15 s t d m ⟨#[109, 117, 108, 104]⟩ ⟨#[109, 117, 108]⟩).mono ?_
    rintro e W1 ⟨rfl, v1, F1, L1⟩
    have B1 : Hid _ := B.out.add F1 L1
    clear c0 c1 c2 c3 c4 B F1 L1
    have B : Hid _ := B1.out
    clear B1
    have c0 := B.out.c0; have c1 := B.out.c1; have c2 := B.out.c2; have c3 := B.out.c3; have c4 := B.out.c4
    clear c0 c1 c2 c3 c4
    go_wp2
    go_end0
    have := B.out.done
    exact this
  by_cases h16 : k = 16
  · subst h16
    have B : Hid _ := LB.start F 16 s t d m
    clear F
    go_enter Tryz.func111, Tryz.ntmps111
    go_upto_region 1 with fail
    generalize hW : w.alloc (.cells #[.int .i64 16, .int .i64 s, .int .i64 t, .int .i64 d, .int .u32 m] 113) = W at B ⊢
    generalize hib : w.heap.size = ib at B ⊢
    clear hW hib
    have c0 := B.out.c0; have c1 := B.out.c1; have c2 := B.out.c2; have c3 := B.out.c3; have c4 := B.out.c4
    go_wp2_with fail
    refine (hiLo_any B.out.f hn 16 s t d m ⟨#[109, 117, 108, 104, 117]⟩ ⟨#[109, 117, 108]⟩).mono ?_
    rintro e W1 ⟨rfl, v1, F1, L1⟩
    have B1 : Hid _ := B.out.add F1 L1
    clear c0 c1 c2 c3 c4 B F1 L1
    have B : Hid _ := B1.out
    clear B1
    have c0 := B.out.c0; have c1 := B.out.c1; have c2 := B.out.c2; have c3 := B.out.c3; have c4 := B.out.c4
    clear c0 c1 c2 c3 c4
    go_wp2
    go_end0
    have := B.out.done
    exact this
  by_cases h17 : k = 17
  · subst h17
    have B : Hid _ := LB.start F 17 s t d m
    clear F
    go_enter Tryz.func111, Tryz.ntmps111
    go_upto_region 1 with fail
    generalize hW : w.alloc (.cells #[.int .i64 17, .int .i64 s, .int .i64 t, .int .i64 d, .int .u32 m] 113) = W at B ⊢
    generalize hib : w.heap.size = ib at B ⊢
    clear hW hib
    have c0 := B.out.c0; have c1 := B.out.c1; have c2 := B.out.c2; have c3 := B.out.c3; have c4 := B.out.c4
    go_wp2_with fail
    refine (hiLo_any B.out.f hn 17 s t d m ⟨#[114, 101, 109]⟩ ⟨#[113, 117, 111]⟩).mono ?_
    rintro e W1 ⟨rfl, v1, F1, L1⟩
    have B1 : Hid _ := B.out.add F1 L1
    clear c0 c1 c2 c3 c4 B F1 L1
    have B : Hid _ := B1.out
    clear B1
    have c0 := B.out.c0; have c1 := B.out.c1; have c2 := B.out.c2; have c3 := B.out.c3; have c4 := B.out.c4
    clear c0 c1 c2 c3 c4
    go_wp2
    go_end0
    have := B.out.done
    exact this
  by_cases h18 : k = 18
  · subst h18
    have B : Hid _ := LB.start F 18 s t d m
    clear F
    go_enter Tryz.func111, Tryz.ntmps111
    go_upto_region 1 with fail
    generalize hW : w.alloc (.cells #[.int .i64 18, .int .i64 s, .int .i64 t, .int .i64 d, .int .u32 m] 113) = W at B ⊢
    generalize hib : w.heap.size = ib at B ⊢
    clear hW hib
    have c0 := B.out.c0; have c1 := B.out.c1; have c2 := B.out.c2; have c3 := B.out.c3; have c4 := B.out.c4
    go_wp2_with fail
    refine (hiLo_any B.out.f hn 18 s t d m ⟨#[114, 101, 109, 117]⟩ ⟨#[113, 117, 111, 117]⟩).mono ?_
    rintro e W1 ⟨rfl, v1, F1, L1⟩
    have B1 : Hid _ := B.out.add F1 L1
    clear c0 c1 c2 c3 c4 B F1 L1
    have B : Hid _ := B1.out
    clear B1
    have c0 := B.out.c0; have c1 := B.out.c1; have c2 := B.out.c2; have c3 := B.out.c3; have c4 := B.out.c4
    clear c0 c1 c2 c3 c4
    go_wp2
    go_end0
    have := B.out.done
    exact this
  by_cases h11 : k = 11
  · subst h11
    have B : Hid _ := LB.start F 11 s t d m
    clear F
    go_enter Tryz.func111, Tryz.ntmps111
    go_upto_region 1 with fail
    generalize hW : w.alloc (.cells #[.int .i64 11, .int .i64 s, .int .i64 t, .int .i64 d, .int .u32 m] 113) = W at B ⊢
    generalize hib : w.heap.size = ib at B ⊢
    clear hW hib
    have c0 := B.out.c0; have c1 := B.out.c1; have c2 := B.out.c2; have c3 := B.out.c3; have c4 := B.out.c4
    go_wp2_with fail
    refine (write_any B.out.f (by omega) ⟨#[99, 111, 112, 121]⟩ d 32 0 0 0).mono ?_
    rintro e W1 ⟨rfl, v1, F1, L1⟩
    have B1 : Hid _ := B.out.add F1 L1
    clear c0 c1 c2 c3 c4 B F1 L1
    have B : Hid _ := B1.out
    clear B1
    have c0 := B.out.c0; have c1 := B.out.c1; have c2 := B.out.c2; have c3 := B.out.c3; have c4 := B.out.c4
    clear c0 c1 c2 c3 c4
    go_wp2
    go_end0
    have := B.out.done
    exact this
  by_cases h13 : k = 13
  · subst h13
    have B : Hid _ := LB.start F 13 s t d m
    clear F
    go_enter Tryz.func111, Tryz.ntmps111
    go_upto_region 1 with fail
    generalize hW : w.alloc (.cells #[.int .i64 13, .int .i64 s, .int .i64 t, .int .i64 d, .int .u32 m] 113) = W at B ⊢
    generalize hib : w.heap.size = ib at B ⊢
    clear hW hib
    have c0 := B.out.c0; have c1 := B.out.c1; have c2 := B.out.c2; have c3 := B.out.c3; have c4 := B.out.c4
    go_wp2_with fail
    refine (write_any B.out.f (by omega) ⟨#[99, 111, 112, 121]⟩ d 33 0 0 0).mono ?_
    rintro e W1 ⟨rfl, v1, F1, L1⟩
    have B1 : Hid _ := B.out.add F1 L1
    clear c0 c1 c2 c3 c4 B F1 L1
    have B : Hid _ := B1.out
    clear B1
    have c0 := B.out.c0; have c1 := B.out.c1; have c2 := B.out.c2; have c3 := B.out.c3; have c4 := B.out.c4
    clear c0 c1 c2 c3 c4
    go_wp2
    go_end0
    have := B.out.done
    exact this
  by_cases h12 : k = 12
  · subst h12
    have B : Hid _ := LB.start F 12 s t d m
    clear F
    go_enter Tryz.func111, Tryz.ntmps111
    go_upto_region 1 with fail
    generalize hW : w.alloc (.cells #[.int .i64 12, .int .i64 s, .int .i64 t, .int .i64 d, .int .u32 m] 113) = W at B ⊢
    generalize hib : w.heap.size = ib at B ⊢
    clear hW hib
    have c0 := B.out.c0; have c1 := B.out.c1; have c2 := B.out.c2; have c3 := B.out.c3; have c4 := B.out.c4
    go_wp2_with fail
    refine (write_any B.out.f (by omega) ⟨#[99, 111, 112, 121]⟩ 32 s 0 0 0).mono ?_
    rintro e W1 ⟨rfl, v1, F1, L1⟩
    have B1 : Hid _ := B.out.add F1 L1
    clear c0 c1 c2 c3 c4 B F1 L1
    have B : Hid _ := B1.out
    clear B1
    have c0 := B.out.c0; have c1 := B.out.c1; have c2 := B.out.c2; have c3 := B.out.c3; have c4 := B.out.c4
    clear c0 c1 c2 c3 c4
    go_wp2
    go_end0
    have := B.out.done
    exact this
  by_cases h14 : k = 14
  · subst h14
    have B : Hid _ := LB.start F 14 s t d m
    clear F
    go_enter Tryz.func111, Tryz.ntmps111
    go_upto_region 1 with fail
    generalize hW : w.alloc (.cells #[.int .i64 14, .int .i64 s, .int .i64 t, .int .i64 d, .int .u32 m] 113) = W at B ⊢
    generalize hib : w.heap.size = ib at B ⊢
    clear hW hib
    have c0 := B.out.c0; have c1 := B.out.c1; have c2 := B.out.c2; have c3 := B.out.c3; have c4 := B.out.c4
    go_wp2_with fail
    refine (write_any B.out.f (by omega) ⟨#[99, 111, 112, 121]⟩ 33 s 0 0 0).mono ?_
    rintro e W1 ⟨rfl, v1, F1, L1⟩
    have B1 : Hid _ := B.out.add F1 L1
    clear c0 c1 c2 c3 c4 B F1 L1
    have B : Hid _ := B1.out
    clear B1
    have c0 := B.out.c0; have c1 := B.out.c1; have c2 := B.out.c2; have c3 := B.out.c3; have c4 := B.out.c4
    clear c0 c1 c2 c3 c4
    go_wp2
    go_end0
    have := B.out.done
    exact this
  by_cases h42 : k = 42
  · subst h42
    have B : Hid _ := LB.start F 42 s t d m
    clear F
    go_enter Tryz.func111, Tryz.ntmps111
    go_upto_region 1 with fail
    generalize hW : w.alloc (.cells #[.int .i64 42, .int .i64 s, .int .i64 t, .int .i64 d, .int .u32 m] 113) = W at B ⊢
    generalize hib : w.heap.size = ib at B ⊢
    clear hW hib
    have c0 := B.out.c0; have c1 := B.out.c1; have c2 := B.out.c2; have c3 := B.out.c3; have c4 := B.out.c4
    go_upto_region 20 with fail
    refine wp_region_phase 8 [(0, 0), (1, 0), (2, 1), (3, 1), (4, 2), (5, 0), (6, 2), (7, 2)] (fun W => W.cell? ⟨ib, 0, none⟩ = some (.int .i64 42) ∧ W.cell? ⟨ib, 1, none⟩ = some (.int .i64 s) ∧ W.cell? ⟨ib, 2, none⟩ = some (.int .i64 t) ∧ W.cell? ⟨ib, 3, none⟩ = some (.int .i64 d) ∧ W.cell? ⟨ib, 4, none⟩ = some (.int .u32 m)) (by kernel_rfl) (by kernel_rfl) (fun _ _ _ d _ h => by cases d <;> exact h) ⟨c0, c1, c2, c3, c4⟩ ?_
    repeat (first | (refine wpPlanZ_free (by rfl) (by rfl) (fun W => by (go_simp; try with_reducible rfl)) (fun K hK => ?_); go_simp; refine hK _ ?_; clear hK K) | (refine wpPlanZ_quiet (by rfl) (by rfl) (fun W hW => by (obtain ⟨d0, d1, d2, d3, d4⟩ := hW; go_simp; try with_reducible rfl)) (fun K hK => ?_); go_simp; refine hK _ ?_; clear hK K))
    refine wpPlanZ_serial (by rfl) (by rfl) (fun K hK => ?_)
    go_simp
    refine (immC_any 42 s t d m m0 m1).mono ?_
    rintro e W1 ⟨rfl, hb⟩
    have B1 : Hid _ := (B.out.pure ((Below.refl _ _).drew)).pure hb
    clear c0 c1 c2 c3 c4 hb B
    have B : Hid _ := B1.out
    clear B1
    have c0 := B.out.c0; have c1 := B.out.c1; have c2 := B.out.c2; have c3 := B.out.c3; have c4 := B.out.c4
    refine hK _ _ (fun _ => ⟨c0, c1, c2, c3, c4⟩) ?_
    clear hK K
    repeat (first | (refine wpPlanZ_free (by rfl) (by rfl) (fun W => by (go_simp; try with_reducible rfl)) (fun K hK => ?_); go_simp; refine hK _ ?_; clear hK K) | (refine wpPlanZ_quiet (by rfl) (by rfl) (fun W hW => by (obtain ⟨d0, d1, d2, d3, d4⟩ := hW; go_simp; try with_reducible rfl)) (fun K hK => ?_); go_simp; refine hK _ ?_; clear hK K))
    refine wpPlanZ_serial (by rfl) (by rfl) (fun K hK => ?_)
    go_simp
    refine hK _ _ (fun _ => ⟨c0, c1, c2, c3, c4⟩) ?_
    clear hK K
    refine wpPlanZ_serial (by rfl) (by rfl) (fun K hK => ?_)
    go_simp
    refine (write_any B.out.f (by omega) ⟨#[115, 101, 116]⟩ t 0 0 (lo (m * 65536)) 0).mono ?_
    rintro e W2 ⟨rfl, v2, F2, L2⟩
    have B2 : Hid _ := B.out.add F2 L2
    clear c0 c1 c2 c3 c4 B F2 L2
    have B : Hid _ := B2.out
    clear B2
    have c0 := B.out.c0; have c1 := B.out.c1; have c2 := B.out.c2; have c3 := B.out.c3; have c4 := B.out.c4
    refine hK _ _ (fun _ => ⟨c0, c1, c2, c3, c4⟩) ?_
    clear hK K
    refine wpPlanZ_nil ?_
    clear c0 c1 c2 c3 c4
    go_wp2
    go_end0
    have := B.out.done
    exact this
  have e : sumL ⟨k, s, t, d, m⟩ at_ = resL ⟨k, s, t, d, m⟩ at_ := by unfold sumL; rw [if_neg (by simp [Ix.n]; omega), if_neg (by simp [Ix.n]; omega), if_neg (by simp [Ix.n]; omega), if_neg (by simp [Ix.n]; omega), if_neg (by simp [Ix.n]; omega), if_neg (by simp [Ix.n]; omega), if_neg (by simp [Ix.n]; omega), if_neg (by simp [Ix.n]; omega), if_neg (by simp [Ix.n]; omega)]
  rw [e]
  have b15 := nkL h15
  have b16 := nkL h16
  have b17 := nkL h17
  have b18 := nkL h18
  have b11 := nkL h11
  have b13 := nkL h13
  have b12 := nkL h12
  have b14 := nkL h14
  have b42 := nkL h42
  clear e h15 h16 h17 h18 h11 h13 h12 h14 h42
  have B : Hid _ := LB.start F k s t d m
  clear F
  go_enter Tryz.func111, Tryz.ntmps111
  go_upto_region 1 with fail
  generalize hW : w.alloc (.cells #[.int .i64 k, .int .i64 s, .int .i64 t, .int .i64 d, .int .u32 m] 113) = W at B ⊢
  generalize hib : w.heap.size = ib at B ⊢
  clear hW hib
  have c0 := B.out.c0; have c1 := B.out.c1; have c2 := B.out.c2; have c3 := B.out.c3; have c4 := B.out.c4
  go_wp2_with fail
  refine (result_any B.out.f hn k s t d m m0 m1).mono ?_
  rintro e W1 ⟨rfl, v1, F1, L1⟩
  have B1 : Hid _ := B.out.add F1 L1
  clear c0 c1 c2 c3 c4 B F1 L1
  have B : Hid _ := B1.out
  clear B1
  have c0 := B.out.c0; have c1 := B.out.c1; have c2 := B.out.c2; have c3 := B.out.c3; have c4 := B.out.c4
  clear c0 c1 c2 c3 c4
  go_wp2
  go_end0
  have := B.out.done
  exact this
set_option maxRecDepth 100000 in
set_option maxHeartbeats 8000000 in
theorem loadL_any (F : LAt w0 w lb pc many at_ l v) (hn : l.length ≤ 900) (k : Nat) (hk : 46 ≤ k ∧ k ≤ 50) (s t d m : Int) (m0 : 0 ≤ m) (m1 : m < 4294967296) :
    Calls Tryz.prog 107 #[.pointer (some ⟨lb, 0, none⟩), .agg #[.int .i64 k, .int .i64 s, .int .i64 t, .int .i64 d, .int .u32 m]] w (LP w0 w lb pc many at_ (l ++ ldL ⟨k, s, t, d, m⟩ at_) v) := by
  have hby := fun W => bytesC_any (w := W) k (by omega)
  have him := fun W => immC_any (w := W) k s t d m m0 m1
  have B : Hid _ := LB.start F k s t d m
  clear F
  have e : ldL ⟨k, s, t, d, m⟩ at_ = [⟨kindS 23, if t = 0 then 36 else t, s, if sgI k = true then -szI k else szI k, immI k m, at_⟩] := rfl
  rw [e]
  have hz : szI k = 1 ∨ szI k = 2 ∨ szI k = 4 := by unfold szI; split; simp; split; simp; simp
  have hz0 : 1 ≤ szI k := by omega
  have hz1 : szI k ≤ 4 := by omega
  clear e hz
  generalize szI k = z at *
  generalize sgI k = g at *
  generalize immI k m = im at *
  by_cases ht : t = 0
  · subst ht
    rw [if_pos rfl]
    cases g with
    | false =>
      rw [if_neg (by decide)]
      go_enter Tryz.func107, Tryz.ntmps107
      go_upto_region 1 with fail
      generalize hW : w.alloc (.cells #[.int .i64 k, .int .i64 s, .int .i64 0, .int .i64 d, .int .u32 m] 113) = W at B ⊢
      generalize hib : w.heap.size = ib at B ⊢
      clear hW hib
      have c0 := B.out.c0; have c1 := B.out.c1; have c2 := B.out.c2; have c3 := B.out.c3; have c4 := B.out.c4
      go_wp2_with fail
      refine (hby _).mono ?_
      rintro e W1 ⟨rfl, hb⟩
      have B1 : Hid _ := B.out.pure hb
      clear c0 c1 c2 c3 c4 hb B
      have B : Hid _ := B1.out
      clear B1
      have c0 := B.out.c0; have c1 := B.out.c1; have c2 := B.out.c2; have c3 := B.out.c3; have c4 := B.out.c4
      go_upto_region 7 with fail
      refine wp_region_phase 9 [(0, 0), (1, 0), (2, 0), (3, 1), (4, 0), (5, 1), (6, 2), (7, 2), (8, 2)] (fun W => W.cell? ⟨ib, 0, none⟩ = some (.int .i64 k) ∧ W.cell? ⟨ib, 1, none⟩ = some (.int .i64 s) ∧ W.cell? ⟨ib, 2, none⟩ = some (.int .i64 0) ∧ W.cell? ⟨ib, 3, none⟩ = some (.int .i64 d) ∧ W.cell? ⟨ib, 4, none⟩ = some (.int .u32 m)) (by kernel_rfl) (by kernel_rfl) (fun _ _ _ d _ h => by cases d <;> exact h) ⟨c0, c1, c2, c3, c4⟩ ?_
      repeat (first | (refine wpPlanZ_free (by rfl) (by rfl) (fun W => by (go_simp; try with_reducible rfl)) (fun K hK => ?_); go_simp; refine hK _ ?_; clear hK K) | (refine wpPlanZ_quiet (by rfl) (by rfl) (fun W hW => by (obtain ⟨d0, d1, d2, d3, d4⟩ := hW; go_simp; try with_reducible rfl)) (fun K hK => ?_); go_simp; refine hK _ ?_; clear hK K))
      refine wpPlanZ_serial (by rfl) (by rfl) (fun K hK => ?_)
      go_simp
      refine (him _).mono ?_
      rintro e W2 ⟨rfl, hb⟩
      have B2 : Hid _ := (B.out.pure ((Below.refl _ _).drew)).pure hb
      clear c0 c1 c2 c3 c4 hb B
      have B : Hid _ := B2.out
      clear B2
      have c0 := B.out.c0; have c1 := B.out.c1; have c2 := B.out.c2; have c3 := B.out.c3; have c4 := B.out.c4
      refine hK _ _ (fun _ => ⟨c0, c1, c2, c3, c4⟩) ?_
      clear hK K
      repeat (first | (refine wpPlanZ_free (by rfl) (by rfl) (fun W => by (go_simp; try with_reducible rfl)) (fun K hK => ?_); go_simp; refine hK _ ?_; clear hK K) | (refine wpPlanZ_quiet (by rfl) (by rfl) (fun W hW => by (obtain ⟨d0, d1, d2, d3, d4⟩ := hW; go_simp; try with_reducible rfl)) (fun K hK => ?_); go_simp; refine hK _ ?_; clear hK K))
      refine wpPlanZ_serial (by rfl) (by rfl) (fun K hK => ?_)
      go_simp
      refine hK _ _ (fun _ => ⟨c0, c1, c2, c3, c4⟩) ?_
      clear hK K
      refine wpPlanZ_serial (by rfl) (by rfl) (fun K hK => ?_)
      go_simp
      refine (add_any B.out.f (by omega) ⟨#[108, 111, 97, 100]⟩ 36 s z im 0).mono ?_
      rintro e W3 ⟨rfl, v3, F3, L3⟩
      have B3 : Hid _ := B.out.add F3 L3
      clear c0 c1 c2 c3 c4 B F3 L3
      have B : Hid _ := B3.out
      clear B3
      have c0 := B.out.c0; have c1 := B.out.c1; have c2 := B.out.c2; have c3 := B.out.c3; have c4 := B.out.c4
      refine hK _ _ (fun _ => ⟨c0, c1, c2, c3, c4⟩) ?_
      clear hK K
      refine wpPlanZ_nil ?_
      clear c0 c1 c2 c3 c4
      go_wp2
      go_end0
      have := B.out.done
      exact this
    | true =>
      rw [if_pos rfl]
      go_enter Tryz.func107, Tryz.ntmps107
      go_upto_region 1 with fail
      generalize hW : w.alloc (.cells #[.int .i64 k, .int .i64 s, .int .i64 0, .int .i64 d, .int .u32 m] 113) = W at B ⊢
      generalize hib : w.heap.size = ib at B ⊢
      clear hW hib
      have c0 := B.out.c0; have c1 := B.out.c1; have c2 := B.out.c2; have c3 := B.out.c3; have c4 := B.out.c4
      go_wp2_with fail
      refine (hby _).mono ?_
      rintro e W1 ⟨rfl, hb⟩
      have B1 : Hid _ := B.out.pure hb
      clear c0 c1 c2 c3 c4 hb B
      have B : Hid _ := B1.out
      clear B1
      have c0 := B.out.c0; have c1 := B.out.c1; have c2 := B.out.c2; have c3 := B.out.c3; have c4 := B.out.c4
      go_upto_region 7 with fail
      refine wp_region_phase 9 [(0, 0), (1, 0), (2, 0), (3, 1), (4, 0), (5, 1), (6, 2), (7, 2), (8, 2)] (fun W => W.cell? ⟨ib, 0, none⟩ = some (.int .i64 k) ∧ W.cell? ⟨ib, 1, none⟩ = some (.int .i64 s) ∧ W.cell? ⟨ib, 2, none⟩ = some (.int .i64 0) ∧ W.cell? ⟨ib, 3, none⟩ = some (.int .i64 d) ∧ W.cell? ⟨ib, 4, none⟩ = some (.int .u32 m)) (by kernel_rfl) (by kernel_rfl) (fun _ _ _ d _ h => by cases d <;> exact h) ⟨c0, c1, c2, c3, c4⟩ ?_
      repeat (first | (refine wpPlanZ_free (by rfl) (by rfl) (fun W => by (go_simp; try with_reducible rfl)) (fun K hK => ?_); go_simp; refine hK _ ?_; clear hK K) | (refine wpPlanZ_quiet (by rfl) (by rfl) (fun W hW => by (obtain ⟨d0, d1, d2, d3, d4⟩ := hW; go_simp; try with_reducible rfl)) (fun K hK => ?_); go_simp; refine hK _ ?_; clear hK K))
      refine wpPlanZ_serial (by rfl) (by rfl) (fun K hK => ?_)
      go_simp
      refine (him _).mono ?_
      rintro e W2 ⟨rfl, hb⟩
      have B2 : Hid _ := (B.out.pure ((Below.refl _ _).drew)).pure hb
      clear c0 c1 c2 c3 c4 hb B
      have B : Hid _ := B2.out
      clear B2
      have c0 := B.out.c0; have c1 := B.out.c1; have c2 := B.out.c2; have c3 := B.out.c3; have c4 := B.out.c4
      refine hK _ _ (fun _ => ⟨c0, c1, c2, c3, c4⟩) ?_
      clear hK K
      repeat (first | (refine wpPlanZ_free (by rfl) (by rfl) (fun W => by (go_simp; try with_reducible rfl)) (fun K hK => ?_); go_simp; refine hK _ ?_; clear hK K) | (refine wpPlanZ_quiet (by rfl) (by rfl) (fun W hW => by (obtain ⟨d0, d1, d2, d3, d4⟩ := hW; go_simp; try with_reducible rfl)) (fun K hK => ?_); go_simp; refine hK _ ?_; clear hK K))
      refine wpPlanZ_serial (by rfl) (by rfl) (fun K hK => ?_)
      go_simp
      refine hK _ _ (fun _ => ⟨c0, c1, c2, c3, c4⟩) ?_
      clear hK K
      refine wpPlanZ_serial (by rfl) (by rfl) (fun K hK => ?_)
      go_simp
      refine (add_any B.out.f (by omega) ⟨#[108, 111, 97, 100]⟩ 36 s (-z) im 0).mono ?_
      rintro e W3 ⟨rfl, v3, F3, L3⟩
      have B3 : Hid _ := B.out.add F3 L3
      clear c0 c1 c2 c3 c4 B F3 L3
      have B : Hid _ := B3.out
      clear B3
      have c0 := B.out.c0; have c1 := B.out.c1; have c2 := B.out.c2; have c3 := B.out.c3; have c4 := B.out.c4
      refine hK _ _ (fun _ => ⟨c0, c1, c2, c3, c4⟩) ?_
      clear hK K
      refine wpPlanZ_nil ?_
      clear c0 c1 c2 c3 c4
      go_wp2
      go_end0
      have := B.out.done
      exact this
  · have ht' : (t == 0) = false := by simpa using ht
    rw [if_neg ht]
    cases g with
    | false =>
      rw [if_neg (by decide)]
      go_enter Tryz.func107, Tryz.ntmps107
      go_upto_region 1 with fail
      generalize hW : w.alloc (.cells #[.int .i64 k, .int .i64 s, .int .i64 t, .int .i64 d, .int .u32 m] 113) = W at B ⊢
      generalize hib : w.heap.size = ib at B ⊢
      clear hW hib
      have c0 := B.out.c0; have c1 := B.out.c1; have c2 := B.out.c2; have c3 := B.out.c3; have c4 := B.out.c4
      go_wp2_with fail
      refine (hby _).mono ?_
      rintro e W1 ⟨rfl, hb⟩
      have B1 : Hid _ := B.out.pure hb
      clear c0 c1 c2 c3 c4 hb B
      have B : Hid _ := B1.out
      clear B1
      have c0 := B.out.c0; have c1 := B.out.c1; have c2 := B.out.c2; have c3 := B.out.c3; have c4 := B.out.c4
      go_upto_region 7 with fail
      refine wp_region_phase 9 [(0, 0), (1, 0), (2, 0), (3, 1), (4, 0), (5, 1), (6, 2), (7, 2), (8, 2)] (fun W => W.cell? ⟨ib, 0, none⟩ = some (.int .i64 k) ∧ W.cell? ⟨ib, 1, none⟩ = some (.int .i64 s) ∧ W.cell? ⟨ib, 2, none⟩ = some (.int .i64 t) ∧ W.cell? ⟨ib, 3, none⟩ = some (.int .i64 d) ∧ W.cell? ⟨ib, 4, none⟩ = some (.int .u32 m)) (by kernel_rfl) (by kernel_rfl) (fun _ _ _ d _ h => by cases d <;> exact h) ⟨c0, c1, c2, c3, c4⟩ ?_
      repeat (first | (refine wpPlanZ_free (by rfl) (by rfl) (fun W => by (go_simp; try with_reducible rfl)) (fun K hK => ?_); go_simp; refine hK _ ?_; clear hK K) | (refine wpPlanZ_quiet (by rfl) (by rfl) (fun W hW => by (obtain ⟨d0, d1, d2, d3, d4⟩ := hW; go_simp; try with_reducible rfl)) (fun K hK => ?_); go_simp; refine hK _ ?_; clear hK K))
      refine wpPlanZ_serial (by rfl) (by rfl) (fun K hK => ?_)
      go_simp
      refine (him _).mono ?_
      rintro e W2 ⟨rfl, hb⟩
      have B2 : Hid _ := (B.out.pure ((Below.refl _ _).drew)).pure hb
      clear c0 c1 c2 c3 c4 hb B
      have B : Hid _ := B2.out
      clear B2
      have c0 := B.out.c0; have c1 := B.out.c1; have c2 := B.out.c2; have c3 := B.out.c3; have c4 := B.out.c4
      refine hK _ _ (fun _ => ⟨c0, c1, c2, c3, c4⟩) ?_
      clear hK K
      repeat (first | (refine wpPlanZ_free (by rfl) (by rfl) (fun W => by (go_simp; try with_reducible rfl)) (fun K hK => ?_); go_simp; refine hK _ ?_; clear hK K) | (refine wpPlanZ_quiet (by rfl) (by rfl) (fun W hW => by (obtain ⟨d0, d1, d2, d3, d4⟩ := hW; go_simp; try with_reducible rfl)) (fun K hK => ?_); go_simp; refine hK _ ?_; clear hK K))
      refine wpPlanZ_serial (by rfl) (by rfl) (fun K hK => ?_)
      go_simp
      refine hK _ _ (fun _ => ⟨c0, c1, c2, c3, c4⟩) ?_
      clear hK K
      refine wpPlanZ_serial (by rfl) (by rfl) (fun K hK => ?_)
      go_simp
      refine (add_any B.out.f (by omega) ⟨#[108, 111, 97, 100]⟩ t s z im 0).mono ?_
      rintro e W3 ⟨rfl, v3, F3, L3⟩
      have B3 : Hid _ := B.out.add F3 L3
      clear c0 c1 c2 c3 c4 B F3 L3
      have B : Hid _ := B3.out
      clear B3
      have c0 := B.out.c0; have c1 := B.out.c1; have c2 := B.out.c2; have c3 := B.out.c3; have c4 := B.out.c4
      refine hK _ _ (fun _ => ⟨c0, c1, c2, c3, c4⟩) ?_
      clear hK K
      refine wpPlanZ_nil ?_
      clear c0 c1 c2 c3 c4
      go_wp2
      go_end0
      have := B.out.done
      exact this
    | true =>
      rw [if_pos rfl]
      go_enter Tryz.func107, Tryz.ntmps107
      go_upto_region 1 with fail
      generalize hW : w.alloc (.cells #[.int .i64 k, .int .i64 s, .int .i64 t, .int .i64 d, .int .u32 m] 113) = W at B ⊢
      generalize hib : w.heap.size = ib at B ⊢
      clear hW hib
      have c0 := B.out.c0; have c1 := B.out.c1; have c2 := B.out.c2; have c3 := B.out.c3; have c4 := B.out.c4
      go_wp2_with fail
      refine (hby _).mono ?_
      rintro e W1 ⟨rfl, hb⟩
      have B1 : Hid _ := B.out.pure hb
      clear c0 c1 c2 c3 c4 hb B
      have B : Hid _ := B1.out
      clear B1
      have c0 := B.out.c0; have c1 := B.out.c1; have c2 := B.out.c2; have c3 := B.out.c3; have c4 := B.out.c4
      go_upto_region 7 with fail
      refine wp_region_phase 9 [(0, 0), (1, 0), (2, 0), (3, 1), (4, 0), (5, 1), (6, 2), (7, 2), (8, 2)] (fun W => W.cell? ⟨ib, 0, none⟩ = some (.int .i64 k) ∧ W.cell? ⟨ib, 1, none⟩ = some (.int .i64 s) ∧ W.cell? ⟨ib, 2, none⟩ = some (.int .i64 t) ∧ W.cell? ⟨ib, 3, none⟩ = some (.int .i64 d) ∧ W.cell? ⟨ib, 4, none⟩ = some (.int .u32 m)) (by kernel_rfl) (by kernel_rfl) (fun _ _ _ d _ h => by cases d <;> exact h) ⟨c0, c1, c2, c3, c4⟩ ?_
      repeat (first | (refine wpPlanZ_free (by rfl) (by rfl) (fun W => by (go_simp; try with_reducible rfl)) (fun K hK => ?_); go_simp; refine hK _ ?_; clear hK K) | (refine wpPlanZ_quiet (by rfl) (by rfl) (fun W hW => by (obtain ⟨d0, d1, d2, d3, d4⟩ := hW; go_simp; try with_reducible rfl)) (fun K hK => ?_); go_simp; refine hK _ ?_; clear hK K))
      refine wpPlanZ_serial (by rfl) (by rfl) (fun K hK => ?_)
      go_simp
      refine (him _).mono ?_
      rintro e W2 ⟨rfl, hb⟩
      have B2 : Hid _ := (B.out.pure ((Below.refl _ _).drew)).pure hb
      clear c0 c1 c2 c3 c4 hb B
      have B : Hid _ := B2.out
      clear B2
      have c0 := B.out.c0; have c1 := B.out.c1; have c2 := B.out.c2; have c3 := B.out.c3; have c4 := B.out.c4
      refine hK _ _ (fun _ => ⟨c0, c1, c2, c3, c4⟩) ?_
      clear hK K
      repeat (first | (refine wpPlanZ_free (by rfl) (by rfl) (fun W => by (go_simp; try with_reducible rfl)) (fun K hK => ?_); go_simp; refine hK _ ?_; clear hK K) | (refine wpPlanZ_quiet (by rfl) (by rfl) (fun W hW => by (obtain ⟨d0, d1, d2, d3, d4⟩ := hW; go_simp; try with_reducible rfl)) (fun K hK => ?_); go_simp; refine hK _ ?_; clear hK K))
      refine wpPlanZ_serial (by rfl) (by rfl) (fun K hK => ?_)
      go_simp
      refine hK _ _ (fun _ => ⟨c0, c1, c2, c3, c4⟩) ?_
      clear hK K
      refine wpPlanZ_serial (by rfl) (by rfl) (fun K hK => ?_)
      go_simp
      refine (add_any B.out.f (by omega) ⟨#[108, 111, 97, 100]⟩ t s (-z) im 0).mono ?_
      rintro e W3 ⟨rfl, v3, F3, L3⟩
      have B3 : Hid _ := B.out.add F3 L3
      clear c0 c1 c2 c3 c4 B F3 L3
      have B : Hid _ := B3.out
      clear B3
      have c0 := B.out.c0; have c1 := B.out.c1; have c2 := B.out.c2; have c3 := B.out.c3; have c4 := B.out.c4
      refine hK _ _ (fun _ => ⟨c0, c1, c2, c3, c4⟩) ?_
      clear hK K
      refine wpPlanZ_nil ?_
      clear c0 c1 c2 c3 c4
      go_wp2
      go_end0
      have := B.out.done
      exact this
end
end Go.Proofs.YtflagpkmebdckaaGreatDoor.Low
