/-
  Sums.
-/
import Derived.Test.YtckcbnfobjmhpaaDoorQCpuN
import Derived.Test.YtckcbnfobjmhpaaDoorQCpu3
namespace Go.Proofs.YtckcbnfobjmhpaaDoor
open Go.RowKit Go.Maps
open Num
set_option linter.unusedVariables false
section
variable {w : World} {pb sb bb : Nat} {S : St} {k s t d : Nat} {m : Int}
theorem St.ok_hl {S : St} (o : S.ok) {x y : Int} (hx : u32 x) (hy : u32 y) : St.ok { S with hi := x, lo := y } := ⟨o.r, hx, hy, o.pc, o.nx, o.st, o.ca, o.ep, o.bd, o.cm, o.c0, o.c1⟩
set_option maxHeartbeats 8000000 in
theorem sum_15 (c : Cp w pb sb bb S k s t d m) (hk : k = 15) : Calls Tryd.prog 65 #[.pointer (some ⟨pb, 0, none⟩)] w fun e w' => e = .returned (.int .i64 (sumP S k s t d m).1) ∧ StAt w' sb (sumP S k s t d m).2 ∧ Kept w w' (· = sb) := by
  have CH : Hid (Cp w pb sb bb S k s t d m) := c
  have ho := operands_any c
  obtain ⟨a0, a1⟩ := opA_bd c.ok k s t
  obtain ⟨b0, b1⟩ := opB_bd c.ok k s t c.m0 c.m1
  clear c
  have hm := fun W => mul_any (opA S k s t) (opB S k s t m) true a0 a1 b0 b1 W
  have X : sumP S k s t d m = (-1, St.on { S with hi := hi (nm (opA S k s t) true * nm (opB S k s t m) true), lo := lo (nm (opA S k s t) true * nm (opB S k s t m) true) }) := by unfold sumP; rw [if_pos (by omega)]; subst hk; rfl
  rw [X]
  have hh := hi_bd (nm (opA S k s t) true * nm (opB S k s t m) true)
  have hl := lo_bd (nm (opA S k s t) true * nm (opB S k s t m) true)
  generalize Num.hi (nm (opA S k s t) true * nm (opB S k s t m) true) = H at *
  generalize Num.lo (nm (opA S k s t) true * nm (opB S k s t m) true) = L at *
  generalize opA S k s t = a at *
  generalize opB S k s t m = b at *
  clear X
  subst hk
  go_enter Tryd.func65, Tryd.ntmps65
  go_wp2_with fail
  refine ho.mono ?_
  rintro e w1 ⟨rfl, hbx⟩
  have CN : Cp w1 pb sb bb S 15 s t d m := CH.out.stays hbx
  have KN : Kept w w1 (· = sb) := Kept.of_below _ hbx
  clear ho CH
  clear hbx
  have p0 := CN.p.p0
  have p1 := CN.p.p1
  obtain ⟨q32, q33, _, _, _, _, _, _, _, _, _⟩ := CN.a.told
  have f32 := CN.a.fz 32
  have f33 := CN.a.fz 33
  go_upto_region 9 with fail
  refine wp_region_phase 22 [(0, 0), (1, 0), (2, 0), (3, 1), (4, 0), (5, 0), (6, 0), (7, 1), (8, 0), (9, 0), (10, 0), (11, 0), (12, 0), (13, 0), (14, 1), (15, 0), (16, 2), (17, 0), (18, 0), (19, 0), (20, 0), (21, 0), (22, 2), (23, 0), (24, 0), (25, 2)] (fun W => W.cell? ⟨pb, 0, none⟩ = some (.pointer (some ⟨sb, 0, none⟩)) ∧ W.cell? ⟨pb, 1, none⟩ = some (.int .i64 15)) (by kernel_rfl) (by kernel_rfl) (fun _ _ _ d _ h => by cases d <;> exact h) ⟨p0, p1⟩ ?_
  repeat (first | (refine wpPlanZ_free (by rfl) (by rfl) (fun W => by (go_simp; try with_reducible rfl)) (fun K hK => ?_); go_simp; refine hK _ ?_; clear hK K) | (refine wpPlanZ_quiet (by rfl) (by rfl) (fun W hW => by (obtain ⟨p0, p1⟩ := hW; go_simp; try with_reducible rfl)) (fun K hK => ?_); go_simp; refine hK _ ?_; clear hK K))
  refine wpPlanZ_serial (by rfl) (by rfl) (fun K hK => ?_)
  go_simp
  refine (hm _).mono ?_
  rintro e w2 ⟨rfl, rfl⟩
  refine hK _ _ (fun _ => ⟨p0, p1⟩) ?_
  clear hK K
  repeat (first | (refine wpPlanZ_free (by rfl) (by rfl) (fun W => by (go_simp; try with_reducible rfl)) (fun K hK => ?_); go_simp; refine hK _ ?_; clear hK K) | (refine wpPlanZ_quiet (by rfl) (by rfl) (fun W hW => by (obtain ⟨p0, p1⟩ := hW; go_simp; try with_reducible rfl)) (fun K hK => ?_); go_simp; refine hK _ ?_; clear hK K))
  refine wpPlanZ_serial (by rfl) (by rfl) (fun K hK => ?_)
  go_simp
  refine hK _ _ (fun h => absurd h (by decide)) ?_
  clear hK K
  repeat (first | (refine wpPlanZ_free (by rfl) (by rfl) (fun W => by (go_simp; try with_reducible rfl)) (fun K hK => ?_); go_simp; refine hK _ ?_; clear hK K) | (refine wpPlanZ_quiet (by rfl) (by rfl) (fun W hW => by (obtain ⟨p0, p1⟩ := hW; go_simp; try with_reducible rfl)) (fun K hK => ?_); go_simp; refine hK _ ?_; clear hK K))
  refine wpPlanZ_serial (by rfl) (by rfl) (fun K hK => ?_)
  go_simp
  refine hK _ _ (fun h => absurd h (by decide)) ?_
  clear hK K
  refine wpPlanZ_nil ?_
  refine ck (R := fun W => StAt W sb { S with hi := H, lo := L } ∧ Kept w1 W (· = sb)) ?_ (fun w3 ⟨A3, T3⟩ => ?_)
  · exact ⟨((CN.a.putHi _).putLo _).drew, (((Kept.refl w1 _).put 32 _).put 33 _).trans (Kept.drew _ _) (fun _ _ h => h)⟩
  have c3 := CN.turn T3 A3 (St.ok_hl CN.ok hh hl)
  go_wp2_with fail
  refine (goOn_any c3).mono ?_
  rintro e w4 ⟨rfl, A4, T4⟩
  go_wp2
  go_ret
  exact ⟨rfl, A4, KN.trans (T3.trans T4 (fun _ _ h => h)) (fun _ _ h => h)⟩
set_option maxHeartbeats 8000000 in
theorem sum_16 (c : Cp w pb sb bb S k s t d m) (hk : k = 16) : Calls Tryd.prog 65 #[.pointer (some ⟨pb, 0, none⟩)] w fun e w' => e = .returned (.int .i64 (sumP S k s t d m).1) ∧ StAt w' sb (sumP S k s t d m).2 ∧ Kept w w' (· = sb) := by
  have CH : Hid (Cp w pb sb bb S k s t d m) := c
  have ho := operands_any c
  obtain ⟨a0, a1⟩ := opA_bd c.ok k s t
  obtain ⟨b0, b1⟩ := opB_bd c.ok k s t c.m0 c.m1
  clear c
  have hm := fun W => mul_any (opA S k s t) (opB S k s t m) false a0 a1 b0 b1 W
  have X : sumP S k s t d m = (-1, St.on { S with hi := hi (nm (opA S k s t) false * nm (opB S k s t m) false), lo := lo (nm (opA S k s t) false * nm (opB S k s t m) false) }) := by unfold sumP; rw [if_pos (by omega)]; subst hk; rfl
  rw [X]
  have hh := hi_bd (nm (opA S k s t) false * nm (opB S k s t m) false)
  have hl := lo_bd (nm (opA S k s t) false * nm (opB S k s t m) false)
  generalize Num.hi (nm (opA S k s t) false * nm (opB S k s t m) false) = H at *
  generalize Num.lo (nm (opA S k s t) false * nm (opB S k s t m) false) = L at *
  generalize opA S k s t = a at *
  generalize opB S k s t m = b at *
  clear X
  subst hk
  go_enter Tryd.func65, Tryd.ntmps65
  go_wp2_with fail
  refine ho.mono ?_
  rintro e w1 ⟨rfl, hbx⟩
  have CN : Cp w1 pb sb bb S 16 s t d m := CH.out.stays hbx
  have KN : Kept w w1 (· = sb) := Kept.of_below _ hbx
  clear ho CH
  clear hbx
  have p0 := CN.p.p0
  have p1 := CN.p.p1
  obtain ⟨q32, q33, _, _, _, _, _, _, _, _, _⟩ := CN.a.told
  have f32 := CN.a.fz 32
  have f33 := CN.a.fz 33
  go_upto_region 9 with fail
  refine wp_region_phase 22 [(0, 0), (1, 0), (2, 0), (3, 1), (4, 0), (5, 0), (6, 0), (7, 1), (8, 0), (9, 0), (10, 0), (11, 0), (12, 0), (13, 0), (14, 1), (15, 0), (16, 2), (17, 0), (18, 0), (19, 0), (20, 0), (21, 0), (22, 2), (23, 0), (24, 0), (25, 2)] (fun W => W.cell? ⟨pb, 0, none⟩ = some (.pointer (some ⟨sb, 0, none⟩)) ∧ W.cell? ⟨pb, 1, none⟩ = some (.int .i64 16)) (by kernel_rfl) (by kernel_rfl) (fun _ _ _ d _ h => by cases d <;> exact h) ⟨p0, p1⟩ ?_
  repeat (first | (refine wpPlanZ_free (by rfl) (by rfl) (fun W => by (go_simp; try with_reducible rfl)) (fun K hK => ?_); go_simp; refine hK _ ?_; clear hK K) | (refine wpPlanZ_quiet (by rfl) (by rfl) (fun W hW => by (obtain ⟨p0, p1⟩ := hW; go_simp; try with_reducible rfl)) (fun K hK => ?_); go_simp; refine hK _ ?_; clear hK K))
  refine wpPlanZ_serial (by rfl) (by rfl) (fun K hK => ?_)
  go_simp
  refine (hm _).mono ?_
  rintro e w2 ⟨rfl, rfl⟩
  refine hK _ _ (fun _ => ⟨p0, p1⟩) ?_
  clear hK K
  repeat (first | (refine wpPlanZ_free (by rfl) (by rfl) (fun W => by (go_simp; try with_reducible rfl)) (fun K hK => ?_); go_simp; refine hK _ ?_; clear hK K) | (refine wpPlanZ_quiet (by rfl) (by rfl) (fun W hW => by (obtain ⟨p0, p1⟩ := hW; go_simp; try with_reducible rfl)) (fun K hK => ?_); go_simp; refine hK _ ?_; clear hK K))
  refine wpPlanZ_serial (by rfl) (by rfl) (fun K hK => ?_)
  go_simp
  refine hK _ _ (fun h => absurd h (by decide)) ?_
  clear hK K
  repeat (first | (refine wpPlanZ_free (by rfl) (by rfl) (fun W => by (go_simp; try with_reducible rfl)) (fun K hK => ?_); go_simp; refine hK _ ?_; clear hK K) | (refine wpPlanZ_quiet (by rfl) (by rfl) (fun W hW => by (obtain ⟨p0, p1⟩ := hW; go_simp; try with_reducible rfl)) (fun K hK => ?_); go_simp; refine hK _ ?_; clear hK K))
  refine wpPlanZ_serial (by rfl) (by rfl) (fun K hK => ?_)
  go_simp
  refine hK _ _ (fun h => absurd h (by decide)) ?_
  clear hK K
  refine wpPlanZ_nil ?_
  refine ck (R := fun W => StAt W sb { S with hi := H, lo := L } ∧ Kept w1 W (· = sb)) ?_ (fun w3 ⟨A3, T3⟩ => ?_)
  · exact ⟨((CN.a.putHi _).putLo _).drew, (((Kept.refl w1 _).put 32 _).put 33 _).trans (Kept.drew _ _) (fun _ _ h => h)⟩
  have c3 := CN.turn T3 A3 (St.ok_hl CN.ok hh hl)
  go_wp2_with fail
  refine (goOn_any c3).mono ?_
  rintro e w4 ⟨rfl, A4, T4⟩
  go_wp2
  go_ret
  exact ⟨rfl, A4, KN.trans (T3.trans T4 (fun _ _ h => h)) (fun _ _ h => h)⟩
set_option maxHeartbeats 8000000 in
theorem sum_17z (c : Cp w pb sb bb S k s t d m) (hk : k = 17) (hz : opB S k s t m = 0) : Calls Tryd.prog 65 #[.pointer (some ⟨pb, 0, none⟩)] w fun e w' => e = .returned (.int .i64 (sumP S k s t d m).1) ∧ StAt w' sb (sumP S k s t d m).2 ∧ Kept w w' (· = sb) := by
  have CH : Hid (Cp w pb sb bb S k s t d m) := c
  have ho := operands_any c
  obtain ⟨a0, a1⟩ := opA_bd c.ok k s t
  obtain ⟨b0, b1⟩ := opB_bd c.ok k s t c.m0 c.m1
  clear c
  have hm := fun W => div_0 (opA S k s t) true W
  have X : sumP S k s t d m = (-1, S.on) := by unfold sumP; rw [if_neg (by omega), if_pos (by omega), if_pos hz]
  rw [X]
  rw [hz] at ho
  generalize opA S k s t = a at *
  clear X hz b0 b1
  subst hk
  go_enter Tryd.func65, Tryd.ntmps65
  go_wp2_with fail
  refine ho.mono ?_
  rintro e w1 ⟨rfl, hbx⟩
  have CN : Cp w1 pb sb bb S 17 s t d m := CH.out.stays hbx
  have KN : Kept w w1 (· = sb) := Kept.of_below _ hbx
  clear ho CH
  clear hbx
  have p0 := CN.p.p0
  have p1 := CN.p.p1
  obtain ⟨q32, q33, _, _, _, _, _, _, _, _, _⟩ := CN.a.told
  have f32 := CN.a.fz 32
  have f33 := CN.a.fz 33
  go_wp2_with (go_at_call 89; refine (hm _).mono ?_; rintro e w2 ⟨rfl, rfl⟩)
  refine (goOn_any CN).mono ?_
  rintro e w4 ⟨rfl, A4, T4⟩
  go_wp2
  go_ret
  exact ⟨rfl, A4, KN.trans T4 (fun _ _ h => h)⟩
set_option maxHeartbeats 8000000 in
theorem sum_17 (c : Cp w pb sb bb S k s t d m) (hk : k = 17) (hz : ¬ opB S k s t m = 0) : Calls Tryd.prog 65 #[.pointer (some ⟨pb, 0, none⟩)] w fun e w' => e = .returned (.int .i64 (sumP S k s t d m).1) ∧ StAt w' sb (sumP S k s t d m).2 ∧ Kept w w' (· = sb) := by
  have CH : Hid (Cp w pb sb bb S k s t d m) := c
  have ho := operands_any c
  obtain ⟨a0, a1⟩ := opA_bd c.ok k s t
  obtain ⟨b0, b1⟩ := opB_bd c.ok k s t c.m0 c.m1
  clear c
  have hm := fun W => div_any (opA S k s t) (opB S k s t m) true a0 a1 (by omega) b1 W
  have X : sumP S k s t d m = (-1, St.on { S with lo := quo (opA S k s t) (opB S k s t m) true, hi := rst (opA S k s t) (opB S k s t m) true }) := by unfold sumP; rw [if_neg (by omega), if_pos (by omega), if_neg hz]; subst hk; rfl
  rw [X]
  have hl := quo_bd (opA S k s t) (opB S k s t m) true
  have hh := rst_bd (opA S k s t) (opB S k s t m) true
  generalize quo (opA S k s t) (opB S k s t m) true = L at *
  generalize rst (opA S k s t) (opB S k s t m) true = H at *
  generalize opA S k s t = a at *
  generalize opB S k s t m = b at *
  clear X
  subst hk
  go_enter Tryd.func65, Tryd.ntmps65
  go_wp2_with fail
  refine ho.mono ?_
  rintro e w1 ⟨rfl, hbx⟩
  have CN : Cp w1 pb sb bb S 17 s t d m := CH.out.stays hbx
  have KN : Kept w w1 (· = sb) := Kept.of_below _ hbx
  clear ho CH
  clear hbx
  have p0 := CN.p.p0
  have p1 := CN.p.p1
  obtain ⟨q32, q33, _, _, _, _, _, _, _, _, _⟩ := CN.a.told
  have f32 := CN.a.fz 32
  have f33 := CN.a.fz 33
  go_upto_region 14 with (go_at_call 89; refine (hm _).mono ?_; rintro e w2 ⟨rfl, rfl⟩)
  refine wp_region_phase 12 [(0, 0), (1, 0), (2, 0), (3, 1), (4, 0), (5, 0), (6, 0), (7, 1), (8, 0), (9, 0), (10, 0), (11, 0), (12, 2), (13, 0), (14, 0), (15, 2)] (fun W => W.cell? ⟨pb, 0, none⟩ = some (.pointer (some ⟨sb, 0, none⟩))) (by kernel_rfl) (by kernel_rfl) (fun _ _ _ d _ h => by cases d <;> exact h) p0 ?_
  repeat (first | (refine wpPlanZ_free (by rfl) (by rfl) (fun W => by (go_simp; try with_reducible rfl)) (fun K hK => ?_); go_simp; refine hK _ ?_; clear hK K) | (refine wpPlanZ_quiet (by rfl) (by rfl) (fun W hW => by (have p0 := hW; go_simp; try with_reducible rfl)) (fun K hK => ?_); go_simp; refine hK _ ?_; clear hK K))
  refine wpPlanZ_serial (by rfl) (by rfl) (fun K hK => ?_)
  go_simp
  refine hK _ _ (fun h => absurd h (by decide)) ?_
  clear hK K
  repeat (first | (refine wpPlanZ_free (by rfl) (by rfl) (fun W => by (go_simp; try with_reducible rfl)) (fun K hK => ?_); go_simp; refine hK _ ?_; clear hK K) | (refine wpPlanZ_quiet (by rfl) (by rfl) (fun W hW => by (have p0 := hW; go_simp; try with_reducible rfl)) (fun K hK => ?_); go_simp; refine hK _ ?_; clear hK K))
  refine wpPlanZ_serial (by rfl) (by rfl) (fun K hK => ?_)
  go_simp
  refine hK _ _ (fun h => absurd h (by decide)) ?_
  clear hK K
  refine wpPlanZ_nil ?_
  refine ck (R := fun W => StAt W sb { S with lo := L, hi := H } ∧ Kept w1 W (· = sb)) ?_ (fun w3 ⟨A3, T3⟩ => ?_)
  · first
      | exact ⟨((CN.a.putLo _).putHi _).drew.drew, ((((Kept.refl w1 _).put 33 _).put 32 _).trans (Kept.drew _ _) (fun _ _ h => h)).trans (Kept.drew _ _) (fun _ _ h => h)⟩
      | exact ⟨((CN.a.drew.putLo _).putHi _).drew, (((Kept.drew w1 _).put 33 _).put 32 _).trans (Kept.drew _ _) (fun _ _ h => h)⟩
  have c3 := CN.turn T3 A3 (St.ok_hl CN.ok hh hl)
  go_wp2_with fail
  refine (goOn_any c3).mono ?_
  rintro e w4 ⟨rfl, A4, T4⟩
  go_wp2
  go_ret
  exact ⟨rfl, A4, KN.trans (T3.trans T4 (fun _ _ h => h)) (fun _ _ h => h)⟩
set_option maxHeartbeats 8000000 in
theorem sum_18z (c : Cp w pb sb bb S k s t d m) (hk : k = 18) (hz : opB S k s t m = 0) : Calls Tryd.prog 65 #[.pointer (some ⟨pb, 0, none⟩)] w fun e w' => e = .returned (.int .i64 (sumP S k s t d m).1) ∧ StAt w' sb (sumP S k s t d m).2 ∧ Kept w w' (· = sb) := by
  have CH : Hid (Cp w pb sb bb S k s t d m) := c
  have ho := operands_any c
  obtain ⟨a0, a1⟩ := opA_bd c.ok k s t
  obtain ⟨b0, b1⟩ := opB_bd c.ok k s t c.m0 c.m1
  clear c
  have hm := fun W => div_0 (opA S k s t) false W
  have X : sumP S k s t d m = (-1, S.on) := by unfold sumP; rw [if_neg (by omega), if_pos (by omega), if_pos hz]
  rw [X]
  rw [hz] at ho
  generalize opA S k s t = a at *
  clear X hz b0 b1
  subst hk
  go_enter Tryd.func65, Tryd.ntmps65
  go_wp2_with fail
  refine ho.mono ?_
  rintro e w1 ⟨rfl, hbx⟩
  have CN : Cp w1 pb sb bb S 18 s t d m := CH.out.stays hbx
  have KN : Kept w w1 (· = sb) := Kept.of_below _ hbx
  clear ho CH
  clear hbx
  have p0 := CN.p.p0
  have p1 := CN.p.p1
  obtain ⟨q32, q33, _, _, _, _, _, _, _, _, _⟩ := CN.a.told
  have f32 := CN.a.fz 32
  have f33 := CN.a.fz 33
  go_wp2_with (go_at_call 89; refine (hm _).mono ?_; rintro e w2 ⟨rfl, rfl⟩)
  refine (goOn_any CN).mono ?_
  rintro e w4 ⟨rfl, A4, T4⟩
  go_wp2
  go_ret
  exact ⟨rfl, A4, KN.trans T4 (fun _ _ h => h)⟩
set_option maxHeartbeats 8000000 in
theorem sum_18 (c : Cp w pb sb bb S k s t d m) (hk : k = 18) (hz : ¬ opB S k s t m = 0) : Calls Tryd.prog 65 #[.pointer (some ⟨pb, 0, none⟩)] w fun e w' => e = .returned (.int .i64 (sumP S k s t d m).1) ∧ StAt w' sb (sumP S k s t d m).2 ∧ Kept w w' (· = sb) := by
  have CH : Hid (Cp w pb sb bb S k s t d m) := c
  have ho := operands_any c
  obtain ⟨a0, a1⟩ := opA_bd c.ok k s t
  obtain ⟨b0, b1⟩ := opB_bd c.ok k s t c.m0 c.m1
  clear c
  have hm := fun W => div_any (opA S k s t) (opB S k s t m) false a0 a1 (by omega) b1 W
  have X : sumP S k s t d m = (-1, St.on { S with lo := quo (opA S k s t) (opB S k s t m) false, hi := rst (opA S k s t) (opB S k s t m) false }) := by unfold sumP; rw [if_neg (by omega), if_pos (by omega), if_neg hz]; subst hk; rfl
  rw [X]
  have hl := quo_bd (opA S k s t) (opB S k s t m) false
  have hh := rst_bd (opA S k s t) (opB S k s t m) false
  generalize quo (opA S k s t) (opB S k s t m) false = L at *
  generalize rst (opA S k s t) (opB S k s t m) false = H at *
  generalize opA S k s t = a at *
  generalize opB S k s t m = b at *
  clear X
  subst hk
  go_enter Tryd.func65, Tryd.ntmps65
  go_wp2_with fail
  refine ho.mono ?_
  rintro e w1 ⟨rfl, hbx⟩
  have CN : Cp w1 pb sb bb S 18 s t d m := CH.out.stays hbx
  have KN : Kept w w1 (· = sb) := Kept.of_below _ hbx
  clear ho CH
  clear hbx
  have p0 := CN.p.p0
  have p1 := CN.p.p1
  obtain ⟨q32, q33, _, _, _, _, _, _, _, _, _⟩ := CN.a.told
  have f32 := CN.a.fz 32
  have f33 := CN.a.fz 33
  go_upto_region 14 with (go_at_call 89; refine (hm _).mono ?_; rintro e w2 ⟨rfl, rfl⟩)
  refine wp_region_phase 12 [(0, 0), (1, 0), (2, 0), (3, 1), (4, 0), (5, 0), (6, 0), (7, 1), (8, 0), (9, 0), (10, 0), (11, 0), (12, 2), (13, 0), (14, 0), (15, 2)] (fun W => W.cell? ⟨pb, 0, none⟩ = some (.pointer (some ⟨sb, 0, none⟩))) (by kernel_rfl) (by kernel_rfl) (fun _ _ _ d _ h => by cases d <;> exact h) p0 ?_
  repeat (first | (refine wpPlanZ_free (by rfl) (by rfl) (fun W => by (go_simp; try with_reducible rfl)) (fun K hK => ?_); go_simp; refine hK _ ?_; clear hK K) | (refine wpPlanZ_quiet (by rfl) (by rfl) (fun W hW => by (have p0 := hW; go_simp; try with_reducible rfl)) (fun K hK => ?_); go_simp; refine hK _ ?_; clear hK K))
  refine wpPlanZ_serial (by rfl) (by rfl) (fun K hK => ?_)
  go_simp
  refine hK _ _ (fun h => absurd h (by decide)) ?_
  clear hK K
  repeat (first | (refine wpPlanZ_free (by rfl) (by rfl) (fun W => by (go_simp; try with_reducible rfl)) (fun K hK => ?_); go_simp; refine hK _ ?_; clear hK K) | (refine wpPlanZ_quiet (by rfl) (by rfl) (fun W hW => by (have p0 := hW; go_simp; try with_reducible rfl)) (fun K hK => ?_); go_simp; refine hK _ ?_; clear hK K))
  refine wpPlanZ_serial (by rfl) (by rfl) (fun K hK => ?_)
  go_simp
  refine hK _ _ (fun h => absurd h (by decide)) ?_
  clear hK K
  refine wpPlanZ_nil ?_
  refine ck (R := fun W => StAt W sb { S with lo := L, hi := H } ∧ Kept w1 W (· = sb)) ?_ (fun w3 ⟨A3, T3⟩ => ?_)
  · first
      | exact ⟨((CN.a.putLo _).putHi _).drew.drew, ((((Kept.refl w1 _).put 33 _).put 32 _).trans (Kept.drew _ _) (fun _ _ h => h)).trans (Kept.drew _ _) (fun _ _ h => h)⟩
      | exact ⟨((CN.a.drew.putLo _).putHi _).drew, (((Kept.drew w1 _).put 33 _).put 32 _).trans (Kept.drew _ _) (fun _ _ h => h)⟩
  have c3 := CN.turn T3 A3 (St.ok_hl CN.ok hh hl)
  go_wp2_with fail
  refine (goOn_any c3).mono ?_
  rintro e w4 ⟨rfl, A4, T4⟩
  go_wp2
  go_ret
  exact ⟨rfl, A4, KN.trans (T3.trans T4 (fun _ _ h => h)) (fun _ _ h => h)⟩
set_option maxHeartbeats 8000000 in
theorem sum_12 (c : Cp w pb sb bb S k s t d m) (hk : k = 12) : Calls Tryd.prog 65 #[.pointer (some ⟨pb, 0, none⟩)] w fun e w' => e = .returned (.int .i64 (sumP S k s t d m).1) ∧ StAt w' sb (sumP S k s t d m).2 ∧ Kept w w' (· = sb) := by
  have CH : Hid (Cp w pb sb bb S k s t d m) := c
  have ho := operands_any c
  obtain ⟨a0, a1⟩ := opA_bd c.ok k s t
  obtain ⟨b0, b1⟩ := opB_bd c.ok k s t c.m0 c.m1
  clear c
  have X : sumP S k s t d m = (-1, St.on { S with hi := opA S k s t }) := by unfold sumP; subst hk; rfl
  rw [X]
  generalize opA S k s t = a at *
  generalize opB S k s t m = b at *
  clear X
  subst hk
  go_enter Tryd.func65, Tryd.ntmps65
  go_wp2_with fail
  refine ho.mono ?_
  rintro e w1 ⟨rfl, hbx⟩
  have CN : Cp w1 pb sb bb S 12 s t d m := CH.out.stays hbx
  have KN : Kept w w1 (· = sb) := Kept.of_below _ hbx
  clear ho CH
  clear hbx
  have p0 := CN.p.p0
  have p1 := CN.p.p1
  obtain ⟨q32, q33, _, _, _, _, _, _, _, _, _⟩ := CN.a.told
  have f32 := CN.a.fz 32
  have f33 := CN.a.fz 33
  have c3 := CN.at (CN.a.putHi a) (St.ok_hl CN.ok ⟨a0, a1⟩ CN.ok.lo)
  go_wp2_with fail
  refine (goOn_any c3).mono ?_
  rintro e w4 ⟨rfl, A4, T4⟩
  go_wp2
  go_ret
  exact ⟨rfl, A4, (KN.put _ _).trans T4 (fun _ _ h => h)⟩
set_option maxHeartbeats 8000000 in
theorem sum_14 (c : Cp w pb sb bb S k s t d m) (hk : k = 14) : Calls Tryd.prog 65 #[.pointer (some ⟨pb, 0, none⟩)] w fun e w' => e = .returned (.int .i64 (sumP S k s t d m).1) ∧ StAt w' sb (sumP S k s t d m).2 ∧ Kept w w' (· = sb) := by
  have CH : Hid (Cp w pb sb bb S k s t d m) := c
  have ho := operands_any c
  obtain ⟨a0, a1⟩ := opA_bd c.ok k s t
  obtain ⟨b0, b1⟩ := opB_bd c.ok k s t c.m0 c.m1
  clear c
  have X : sumP S k s t d m = (-1, St.on { S with lo := opA S k s t }) := by unfold sumP; subst hk; rfl
  rw [X]
  generalize opA S k s t = a at *
  generalize opB S k s t m = b at *
  clear X
  subst hk
  go_enter Tryd.func65, Tryd.ntmps65
  go_wp2_with fail
  refine ho.mono ?_
  rintro e w1 ⟨rfl, hbx⟩
  have CN : Cp w1 pb sb bb S 14 s t d m := CH.out.stays hbx
  have KN : Kept w w1 (· = sb) := Kept.of_below _ hbx
  clear ho CH
  clear hbx
  have p0 := CN.p.p0
  have p1 := CN.p.p1
  obtain ⟨q32, q33, _, _, _, _, _, _, _, _, _⟩ := CN.a.told
  have f32 := CN.a.fz 32
  have f33 := CN.a.fz 33
  have c3 := CN.at (CN.a.putLo a) (St.ok_hl CN.ok CN.ok.hi ⟨a0, a1⟩)
  go_wp2_with fail
  refine (goOn_any c3).mono ?_
  rintro e w4 ⟨rfl, A4, T4⟩
  go_wp2
  go_ret
  exact ⟨rfl, A4, (KN.put _ _).trans T4 (fun _ _ h => h)⟩
set_option maxHeartbeats 8000000 in
theorem sum_rest (c : Cp w pb sb bb S k s t d m) (hk : k = 19 ∨ k = 35 ∨ k = 21 ∨ k = 20 ∨ k = 36 ∨ k = 22 ∨ k = 11 ∨ k = 13 ∨ k = 23 ∨ k = 39 ∨ k = 24 ∨ k = 40 ∨ k = 25 ∨ k = 41 ∨ k = 26 ∨ k = 27 ∨ k = 37 ∨ k = 28 ∨ k = 38 ∨ k = 1 ∨ k = 4 ∨ k = 2 ∨ k = 5 ∨ k = 3 ∨ k = 6 ∨ k = 42) : Calls Tryd.prog 65 #[.pointer (some ⟨pb, 0, none⟩)] w fun e w' => e = .returned (.int .i64 (sumP S k s t d m).1) ∧ StAt w' sb (sumP S k s t d m).2 ∧ Kept w w' (· = sb) := by
  have CH : Hid (Cp w pb sb bb S k s t d m) := c
  have ho := operands_any c
  obtain ⟨a0, a1⟩ := opA_bd c.ok k s t
  obtain ⟨b0, b1⟩ := opB_bd c.ok k s t c.m0 c.m1
  clear c
  have hr := fun W (h : Below w.heap.size w W) => resC_any (CH.out.stays h) (opA S k s t) (opB S k s t m) ⟨a0, a1⟩ ⟨b0, b1⟩ hk
  have hv := resI_bd CH.out.ok k (a := opA S k s t) (b := opB S k s t m) ⟨a0, a1⟩ ⟨b0, b1⟩
  have hT := opT_lt (k := k) CH.out.ht CH.out.hd
  have X : sumP S k s t d m = if overI k (opA S k s t) (opB S k s t m) = true then (12, S) else (-1, (S.set (opT k t d) (resI S k (opA S k s t) (opB S k s t m))).on) := by unfold sumP; rw [if_neg (by omega), if_neg (by omega), if_neg (by omega), if_neg (by omega)]
  rw [X]
  clear X
  generalize resI S k (opA S k s t) (opB S k s t m) = v at *
  generalize overI k (opA S k s t) (opB S k s t m) = o at *
  generalize opT k t d = T at *
  generalize opA S k s t = a at *
  generalize opB S k s t m = b at *
  have e15 := nk (k := k) (n := 15) (by omega)
  have e16 := nk (k := k) (n := 16) (by omega)
  have e17 := nk (k := k) (n := 17) (by omega)
  have e18 := nk (k := k) (n := 18) (by omega)
  have e12 := nk (k := k) (n := 12) (by omega)
  have e14 := nk (k := k) (n := 14) (by omega)
  clear hk
  go_enter Tryd.func65, Tryd.ntmps65
  go_wp2_with fail
  refine ho.mono ?_
  rintro e w1 ⟨rfl, hbx⟩
  have CN : Cp w1 pb sb bb S k s t d m := CH.out.stays hbx
  have KN : Kept w w1 (· = sb) := Kept.of_below _ hbx
  have hr1 := hr w1 hbx
  clear ho CH hr
  clear hbx
  have p0 := CN.p.p0
  have p1 := CN.p.p1
  cases o with
  | true =>
    go_wp2_with (go_at_call 90; refine hr1.mono ?_; rintro e w2 ⟨rfl, rfl⟩)
    go_ret
    exact ⟨rfl, CN.a, KN⟩
  | false =>
    go_wp2_with (go_at_call 90; refine hr1.mono ?_; rintro e w2 ⟨rfl, rfl⟩)
    refine (set_any CN T hT v).mono ?_
    rintro e w3 ⟨rfl, A3, T3⟩
    have c3 := CN.turn T3 A3 (St.set_ok CN.ok T hv)
    go_wp2_with fail
    refine (goOn_any c3).mono ?_
    rintro e w4 ⟨rfl, A4, T4⟩
    go_wp2
    go_ret
    exact ⟨rfl, A4, KN.trans (T3.trans T4 (fun _ _ h => h)) (fun _ _ h => h)⟩
theorem sum_any (c : Cp w pb sb bb S k s t d m) (hk : (1 ≤ k ∧ k ≤ 6) ∨ (11 ≤ k ∧ k ≤ 28) ∨ (35 ≤ k ∧ k ≤ 42)) : Calls Tryd.prog 65 #[.pointer (some ⟨pb, 0, none⟩)] w fun e w' => e = .returned (.int .i64 (sumP S k s t d m).1) ∧ StAt w' sb (sumP S k s t d m).2 ∧ Kept w w' (· = sb) := by
  by_cases h1 : k = 15
  · exact sum_15 c h1
  by_cases h2 : k = 16
  · exact sum_16 c h2
  by_cases h3 : k = 17
  · by_cases hz : opB S k s t m = 0
    · exact sum_17z c h3 hz
    · exact sum_17 c h3 hz
  by_cases h4 : k = 18
  · by_cases hz : opB S k s t m = 0
    · exact sum_18z c h4 hz
    · exact sum_18 c h4 hz
  by_cases h5 : k = 12
  · exact sum_12 c h5
  by_cases h6 : k = 14
  · exact sum_14 c h6
  exact sum_rest c (by omega)
end
end Go.Proofs.YtckcbnfobjmhpaaDoor
