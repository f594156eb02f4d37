/-
  A processor's step: where it reads what an instruction has at once (package code's functions, which make memory).
-/
import Derived.Test.YtckcbnfobjmhpaaDoorKSerial
import Derived.Test.YtckcbnfobjmhpaaDoorQCpu1
import Derived.Test.YtckcbnfobjmhpaaDoorQLw2
namespace Go.Proofs.YtckcbnfobjmhpaaDoor
open Go.RowKit Go.Maps
open Num
set_option linter.unusedVariables false
section
variable {w : World} {pb sb bb : Nat} {S : St} {k s t d : Nat} {m : Int}
theorem Cp.stays {w' : World} (c : Cp w pb sb bb S k s t d m) (h : Below w.heap.size w w') : Cp w' pb sb bb S k s t d m :=
  ⟨c.p.block (h.block _ c.p.lt), c.a.stays h, c.ok, c.ne, c.hs, c.ht, c.hd, c.m0, c.m1⟩
/-- what a region that only reads asks of worlds -/
def CpW (pb sb : Nat) (k s t d : Nat) (m : Int) (rs rt pc : Int) (W : World) : Prop := W.cell? ⟨pb, 0, none⟩ = some (.pointer (some ⟨sb, 0, none⟩)) ∧ W.cell? ⟨pb, 1, none⟩ = some (.int .i64 k) ∧ W.cell? ⟨pb, 2, none⟩ = some (.int .i64 s) ∧ W.cell? ⟨pb, 3, none⟩ = some (.int .i64 t) ∧ W.cell? ⟨pb, 4, none⟩ = some (.int .i64 d) ∧ W.cell? ⟨pb, 5, none⟩ = some (.int .u32 m) ∧ W.cell? ⟨sb, s, none⟩ = some (.int .u32 rs) ∧ W.cell? ⟨sb, t, none⟩ = some (.int .u32 rt) ∧ W.cell? ⟨sb, 34, none⟩ = some (.int .u32 pc)
theorem Cp.cls (c : Cp w pb sb bb S k s t d m) : CpW pb sb k s t d m (S.r s) (S.r t) S.pc w :=
  ⟨c.p.p0, c.p.p1, c.p.p2, c.p.p3, c.p.p4, c.p.p5, c.a.reg c.hs, c.a.reg c.ht, c.a.told.2.2.1⟩
set_option maxRecDepth 100000 in
set_option maxHeartbeats 4000000 in
theorem address_any (c : Cp w pb sb bb S k s t d m) : Calls Tryd.prog 79 #[.pointer (some ⟨pb, 0, none⟩)] w fun e w' => e = .returned (.int .u32 (adI S k s m)) ∧ Below w.heap.size w w' := by
  have him := fun W => Low.immC_any (w := W) k s t d m c.m0 c.m1
  have hs : (s : Int) < 32 := by have := c.hs; omega
  obtain ⟨r0, r1⟩ := c.ok.r s
  have HC : Hid (∀ W, Below w.heap.size w W → CpW pb sb k s t d m (S.r s) (S.r t) S.pc W) := fun W h => (c.stays h).cls
  have hiv : Low.immI k m = immI k m := rfl
  unfold adI Num.lo
  clear c
  generalize S.r s = rs at *
  generalize S.r t = rt at *
  generalize S.pc = pc at *
  rw [hiv] at him
  clear hiv
  generalize immI k m = im at *
  go_enter Tryd.func79, Tryd.ntmps79
  go_upto_region 1 with fail
  refine wp_region_phase 20 [(0, 0), (1, 0), (2, 0), (3, 1), (4, 0), (5, 0), (6, 0), (7, 0), (8, 1), (9, 0), (10, 0), (11, 0), (12, 1), (13, 0), (14, 0), (15, 0), (16, 1), (17, 2), (18, 0), (19, 0)] (CpW pb sb k s t d m rs rt pc) (by kernel_rfl) (by kernel_rfl) (fun _ _ _ d _ h => by cases d <;> exact h) (HC.out _ (Below.refl _ _).drew) ?_
  repeat (first | (refine wpPlanZ_free (by rfl) (by rfl) (fun W => by (go_simp; try with_reducible rfl)) (fun K hK => ?_); go_simp; refine hK _ ?_; clear hK K) | (refine wpPlanZ_quiet (by rfl) (by rfl) (fun W hW => by (obtain ⟨d0, d1, d2, d3, d4, d5, d6, d7, d8⟩ := hW; go_simp; try with_reducible rfl)) (fun K hK => ?_); go_simp; refine hK _ ?_; clear hK K))
  refine wpPlanZ_serial (by rfl) (by rfl) (fun K hK => ?_)
  go_simp
  refine (him _).mono ?_
  rintro e W1 ⟨rfl, hb⟩
  have HB : Hid (Below w.heap.size w W1) := ((Below.refl _ _).drew).trans hb
  refine hK _ _ (fun _ => HC.out _ HB.out) ?_
  clear hK K hb him
  repeat (first | (refine wpPlanZ_free (by rfl) (by rfl) (fun W => by (go_simp; try with_reducible rfl)) (fun K hK => ?_); go_simp; refine hK _ ?_; clear hK K))
  refine wpPlanZ_nil ?_
  go_wp2
  go_ret
  exact ⟨rfl, HB.out⟩
set_option maxRecDepth 100000 in
set_option maxHeartbeats 8000000 in
theorem target_any (c : Cp w pb sb bb S k s t d m) (hk : k = 31 ∨ k = 32 ∨ k = 33 ∨ k = 34 ∨ k = 29 ∨ k = 30 ∨ k = 7 ∨ k = 8) : Calls Tryd.prog 77 #[.pointer (some ⟨pb, 0, none⟩)] w fun e w' => e = .returned (.int .u32 (targI S k s m)) ∧ Below w.heap.size w w' := by
  have htg := fun W => Low.targetC_any (w := W) k s t d m S.pc c.m0 c.m1
  have hs : (s : Int) < 32 := by have := c.hs; omega
  have HC : Hid (∀ W, Below w.heap.size w W → CpW pb sb k s t d m (S.r s) (S.r t) S.pc W) := fun W h => (c.stays h).cls
  obtain ⟨p0, p1, p2, p3, p4, p5, qs, qt, qpc⟩ := HC.out w (Below.refl _ _)
  have e : targI S k s m = if k = 7 ∨ k = 8 then S.r s else Low.tgI ⟨k, s, t, d, m⟩ S.pc := by
    unfold targI Low.tgI
    by_cases h7 : k = 7 ∨ k = 8
    · rw [if_neg (by omega), if_pos h7, if_pos h7]
    · rw [if_neg h7, if_neg h7]; rfl
  rw [e]
  clear e c
  generalize hrs : S.r s = rs at *
  generalize hrt : S.r t = rt at *
  generalize hpc : S.pc = pc at *
  clear hrs hrt hpc
  by_cases h7 : k = 7 ∨ k = 8
  · rw [if_pos h7]
    clear htg hk
    rcases h7 with rfl | rfl <;>
      (go_enter Tryd.func77, Tryd.ntmps77
       go_wp2
       go_quiet (fail)
       go_wp2
       go_ret
       exact ⟨rfl, (Below.refl _ _).trans ⟨rfl, rfl, rfl, Nat.le_refl _, fun _ _ => rfl⟩⟩)
  rw [if_neg h7]
  have b7 := nk (k := k) (n := 7) (by omega)
  have b8 := nk (k := k) (n := 8) (by omega)
  clear h7 hk
  generalize Low.tgI ⟨k, s, t, d, m⟩ pc = tg at *
  go_enter Tryd.func77, Tryd.ntmps77
  go_upto_region 5 with fail
  refine wp_region_phase 13 [(0, 0), (1, 0), (2, 0), (3, 1), (4, 0), (5, 0), (6, 0), (7, 1), (8, 0), (9, 0), (10, 1), (11, 2), (12, 0)] (CpW pb sb k s t d m rs rt pc) (by kernel_rfl) (by kernel_rfl) (fun _ _ _ d _ h => by cases d <;> exact h) (HC.out _ (Below.refl _ _).drew) ?_
  repeat (first | (refine wpPlanZ_free (by rfl) (by rfl) (fun W => by (go_simp; try with_reducible rfl)) (fun K hK => ?_); go_simp; refine hK _ ?_; clear hK K) | (refine wpPlanZ_quiet (by rfl) (by rfl) (fun W hW => by (obtain ⟨d0, d1, d2, d3, d4, d5, d6, d7, d8⟩ := hW; go_simp; try with_reducible rfl)) (fun K hK => ?_); go_simp; refine hK _ ?_; clear hK K))
  refine wpPlanZ_serial (by rfl) (by rfl) (fun K hK => ?_)
  go_simp
  refine (htg _).mono ?_
  rintro e W1 ⟨rfl, hb⟩
  have HB : Hid (Below w.heap.size w W1) := ((Below.refl _ _).drew).trans hb
  refine hK _ _ (fun _ => HC.out _ HB.out) ?_
  clear hK K hb
  repeat (first | (refine wpPlanZ_free (by rfl) (by rfl) (fun W => by (go_simp; try with_reducible rfl)) (fun K hK => ?_); go_simp; refine hK _ ?_; clear hK K) | (refine wpPlanZ_quiet (by rfl) (by rfl) (fun W hW => by (obtain ⟨d0, d1, d2, d3, d4, d5, d6, d7, d8⟩ := hW; go_simp; try with_reducible rfl)) (fun K hK => ?_); go_simp; refine hK _ ?_; clear hK K))
  refine wpPlanZ_nil ?_
  go_wp2
  go_ret
  exact ⟨rfl, HB.out⟩
set_option maxRecDepth 100000 in
set_option maxHeartbeats 16000000 in
theorem operands_any (c : Cp w pb sb bb S k s t d m) : Calls Tryd.prog 87 #[.pointer (some ⟨pb, 0, none⟩)] w fun e w' => e = .returned (.tuple #[.int .u32 (opA S k s t), .int .u32 (opB S k s t m), .int .i64 (opT k t d)]) ∧ Below w.heap.size w w' := by
  have him := fun W => Low.immC_any (w := W) k s t d m c.m0 c.m1
  have hs : (s : Int) < 32 := by have := c.hs; omega
  have ht : (t : Int) < 32 := by have := c.ht; omega
  have HC : Hid (∀ W, Below w.heap.size w W → CpW pb sb k s t d m (S.r s) (S.r t) S.pc W) := fun W h => (c.stays h).cls
  obtain ⟨p0, p1, p2, p3, p4, p5, qs, qt, qpc⟩ := HC.out w (Below.refl _ _)
  have eA : opA S k s t = if k = 1 ∨ k = 2 ∨ k = 3 ∨ k = 4 ∨ k = 5 ∨ k = 6 then S.r t else S.r s := rfl
  have eB : opB S k s t m = if k = 1 ∨ k = 2 ∨ k = 3 then Low.immI k m else if k = 4 ∨ k = 5 ∨ k = 6 then S.r s else if 35 ≤ k ∧ k ≤ 42 then Low.immI k m else S.r t := rfl
  have eT : opT k t d = if 35 ≤ k ∧ k ≤ 42 then t else d := rfl
  rw [eA, eB, eT]
  clear eA eB eT c
  generalize hrs : S.r s = rs at *
  generalize hrt : S.r t = rt at *
  generalize hpc : S.pc = pc at *
  clear hrs hrt hpc
  by_cases h1 : k = 1 ∨ k = 2 ∨ k = 3
  · rcases h1 with rfl | rfl | rfl <;>
      (simp only [true_or, or_true, if_true, Nat.reduceLeDiff, Nat.reduceEqDiff, false_and, if_false]
       generalize Low.immI _ m = im at *
       go_enter Tryd.func87, Tryd.ntmps87
       go_upto_region 5 with fail
       refine wp_region_phase 26 [(0, 0), (1, 0), (2, 0), (3, 1), (4, 0), (5, 0), (6, 0), (7, 0), (8, 1), (9, 0), (10, 0), (11, 0), (12, 1), (13, 0), (14, 0), (15, 0), (16, 1), (18, 0), (19, 0), (20, 0), (21, 0), (22, 1), (17, 2), (23, 0), (24, 0), (25, 0)] (CpW pb sb _ s t d m rs rt pc) (by kernel_rfl) (by kernel_rfl) (fun _ _ _ d _ h => by cases d <;> exact h) (HC.out _ (Below.refl _ _).drew) ?_
       repeat (first | (refine wpPlanZ_free (by rfl) (by rfl) (fun W => by (go_simp; try with_reducible rfl)) (fun K hK => ?_); go_simp; refine hK _ ?_; clear hK K) | (refine wpPlanZ_quiet (by rfl) (by rfl) (fun W hW => by (obtain ⟨d0, d1, d2, d3, d4, d5, d6, d7, d8⟩ := hW; go_simp; try with_reducible rfl)) (fun K hK => ?_); go_simp; refine hK _ ?_; clear hK K))
       refine wpPlanZ_serial (by rfl) (by rfl) (fun K hK => ?_)
       go_simp
       refine (him _).mono ?_
       rintro e W1 ⟨rfl, hb⟩
       have HB : Hid (Below w.heap.size w W1) := ((Below.refl _ _).drew).trans hb
       refine hK _ _ (fun _ => HC.out _ HB.out) ?_
       clear hK K hb
       repeat (first | (refine wpPlanZ_free (by rfl) (by rfl) (fun W => by (go_simp; try with_reducible rfl)) (fun K hK => ?_); go_simp; refine hK _ ?_; clear hK K) | (refine wpPlanZ_quiet (by rfl) (by rfl) (fun W hW => by (obtain ⟨d0, d1, d2, d3, d4, d5, d6, d7, d8⟩ := hW; go_simp; try with_reducible rfl)) (fun K hK => ?_); go_simp; refine hK _ ?_; clear hK K))
       refine wpPlanZ_nil ?_
       go_wp2
       go_ret3
       exact ⟨rfl, HB.out⟩)
  by_cases h2 : k = 4 ∨ k = 5 ∨ k = 6
  · rcases h2 with rfl | rfl | rfl <;>
      (simp only [true_or, or_true, if_true, Nat.reduceLeDiff, Nat.reduceEqDiff, false_and, if_false]
       clear him
       go_enter Tryd.func87, Tryd.ntmps87
       go_wp2
       go_quiet (fail)
       go_wp2
       go_ret3
       exact ⟨rfl, (Below.refl _ _).trans ⟨rfl, rfl, rfl, Nat.le_refl _, fun _ _ => rfl⟩⟩)
  rw [if_neg (by omega), if_neg h1, if_neg h2]
  by_cases h3 : k = 35 ∨ k = 36 ∨ k = 37 ∨ k = 38 ∨ k = 39 ∨ k = 40 ∨ k = 41 ∨ k = 42
  · rw [if_pos (by omega), if_pos (by omega)]
    clear h1 h2
    rcases h3 with rfl | rfl | rfl | rfl | rfl | rfl | rfl | rfl <;>
      (generalize Low.immI _ m = im at *
       go_enter Tryd.func87, Tryd.ntmps87
       go_upto_region 18 with fail
       refine wp_region_phase 26 [(0, 0), (1, 0), (2, 0), (3, 1), (4, 0), (5, 0), (6, 0), (7, 0), (8, 1), (9, 0), (10, 0), (11, 0), (12, 1), (13, 0), (14, 0), (15, 0), (16, 1), (18, 0), (19, 0), (20, 0), (21, 0), (22, 1), (17, 2), (23, 0), (24, 0), (25, 0)] (CpW pb sb _ s t d m rs rt pc) (by kernel_rfl) (by kernel_rfl) (fun _ _ _ d _ h => by cases d <;> exact h) (HC.out _ (Below.refl _ _).drew) ?_
       repeat (first | (refine wpPlanZ_free (by rfl) (by rfl) (fun W => by (go_simp; try with_reducible rfl)) (fun K hK => ?_); go_simp; refine hK _ ?_; clear hK K) | (refine wpPlanZ_quiet (by rfl) (by rfl) (fun W hW => by (obtain ⟨d0, d1, d2, d3, d4, d5, d6, d7, d8⟩ := hW; go_simp; try with_reducible rfl)) (fun K hK => ?_); go_simp; refine hK _ ?_; clear hK K))
       refine wpPlanZ_serial (by rfl) (by rfl) (fun K hK => ?_)
       go_simp
       refine (him _).mono ?_
       rintro e W1 ⟨rfl, hb⟩
       have HB : Hid (Below w.heap.size w W1) := ((Below.refl _ _).drew).trans hb
       refine hK _ _ (fun _ => HC.out _ HB.out) ?_
       clear hK K hb
       repeat (first | (refine wpPlanZ_free (by rfl) (by rfl) (fun W => by (go_simp; try with_reducible rfl)) (fun K hK => ?_); go_simp; refine hK _ ?_; clear hK K) | (refine wpPlanZ_quiet (by rfl) (by rfl) (fun W hW => by (obtain ⟨d0, d1, d2, d3, d4, d5, d6, d7, d8⟩ := hW; go_simp; try with_reducible rfl)) (fun K hK => ?_); go_simp; refine hK _ ?_; clear hK K))
       refine wpPlanZ_nil ?_
       go_wp2
       go_ret3
       exact ⟨rfl, HB.out⟩)
  rw [if_neg (by omega), if_neg (by omega)]
  have b1 := nk (k := k) (n := 1) (by omega)
  have b2 := nk (k := k) (n := 2) (by omega)
  have b3 := nk (k := k) (n := 3) (by omega)
  have b4 := nk (k := k) (n := 4) (by omega)
  have b5 := nk (k := k) (n := 5) (by omega)
  have b6 := nk (k := k) (n := 6) (by omega)
  have b35 := nk (k := k) (n := 35) (by omega)
  have b36 := nk (k := k) (n := 36) (by omega)
  have b37 := nk (k := k) (n := 37) (by omega)
  have b38 := nk (k := k) (n := 38) (by omega)
  have b39 := nk (k := k) (n := 39) (by omega)
  have b40 := nk (k := k) (n := 40) (by omega)
  have b41 := nk (k := k) (n := 41) (by omega)
  have b42 := nk (k := k) (n := 42) (by omega)
  clear h1 h2 h3 him
  go_enter Tryd.func87, Tryd.ntmps87
  go_wp2
  go_quiet (fail)
  go_wp2
  go_ret3
  exact ⟨rfl, (Below.refl _ _).trans ⟨rfl, rfl, rfl, Nat.le_refl _, fun _ _ => rfl⟩⟩
end
end Go.Proofs.YtckcbnfobjmhpaaDoor
