/-
  What stands at a place that is in memory.
-/
import Derived.Test.YtckcbnfobjmhpaaDoorLk2
namespace Go.Proofs.YtckcbnfobjmhpaaDoor
open Go.RowKit Go.Maps
open Num
set_option linter.unusedVariables false
section
variable {w0 w : World} {fb : Nat} {pc : Int} {sb most n st bp bw bh N : Nat} {m : Nat → Int} {wt ht : Int → Bool} {vi : Value}
set_option maxRecDepth 100000 in
set_option maxHeartbeats 8000000 in
theorem look_in (pk pb : Addr) (T : K.Tb pk pb w0) (R : RamIs w0 sb bp bw bh N m wt ht) (F : FAt w0 w fb pc sb most n st m vi) (fu : Nat) (hpc : 0 ≤ pc) (hpc1 : pc < 16384) (h4 : pc % 4 = 0) (hn : n ≤ 24) (hfu : fu ≤ 1) (hm : most ≤ 24) (hst : st ≤ 8) (h : n + fu < most) (hf : n + fu < many pc) :
    Calls Tryd.prog 67 #[.pointer (some ⟨fb, 0, none⟩), .int .i64 fu] w fun e w' => e = .returned (.tuple #[insV (wAt m pc (n + fu)), kwV (kdAt m pc (n + fu)), .bool (lkP (kdAt m pc) (many pc) most (n + fu) st)]) ∧ Below w.heap.size w w' := by
  have bA : Below w.heap.size w (w.alloc (.cells #[.int .i64 0, .int .i64 0, .int .i64 0, .int .i64 0, .int .u32 0] 65)) := (Below.refl _ _).alloc (Nat.le_refl _) _
  have hin : pc + 4 * ((n : Int) + fu) < 16384 := by unfold many at hf; omega
  have hld : ld m (pc + 4 * ((n : Int) + fu)) 4 false = wAt m pc (n + fu) := by
    have := ld_at m R.mb pc (n + fu) hpc h4
    rw [← this]; congr 1
  have hl : ∀ W, Below w0.heap.size w0 W → _ := fun W hW => load_ok (R.stays hW (Nat.le_refl _)) (pc + 4 * ((n : Int) + fu)) 4 false (by omega) (by omega) (chk_in (by omega) hin)
  rw [hld] at hl
  have hv := R.mb ((pc / 4).toNat + (n + fu))
  change 0 ≤ wAt m pc (n + fu) ∧ wAt m pc (n + fu) < 4294967296 at hv
  have hlk : lkP (kdAt m pc) (many pc) most (n + fu) st = (decide (knd (wAt m pc (n + fu)) ≠ 3) && (decide (knd (wAt m pc (n + fu)) ≠ 5) || decide (st < 8))) := by
    unfold lkP
    rw [decide_eq_true h, decide_eq_true hf]; rfl
  rw [hlk]
  clear hlk
  change Calls Tryd.prog 67 #[.pointer (some ⟨fb, 0, none⟩), .int .i64 fu] w fun e w' => e = .returned (.tuple #[insV (wAt m pc (n + fu)), kwV (knd (wAt m pc (n + fu))), _]) ∧ Below w.heap.size w w'
  generalize wAt m pc (n + fu) = v at *
  have hde := fun W (hW : Below w0.heap.size w0 W) => decode_v pk pb v hv.1 hv.2 W (T.stays hW (Nat.le_refl _))
  have hki := fun W => K.kind_nat (decK v) (decK_lt v) _ (kind_knd v) W
  have hk := knd_in v
  have HV : Hid (insV v = K.ins (decK v) (Tab.xs (Tab.sh (decK v)) v) (Tab.xt (Tab.sh (decK v)) v) (Tab.xd (Tab.sh (decK v)) v) (Tab.xm (Tab.sh (decK v)) v)) := rfl
  have hkl := decK_lt v
  have hxm := (K.x_rng (Tab.sh (decK v)) v hv.1 hv.2)
  rw [HV.out] at hde ⊢
  clear HV hld
  generalize hok : (decide (knd v ≠ 3) && (decide (knd v ≠ 5) || decide (st < 8))) = ok
  generalize knd v = kd at *
  generalize Tab.xs (Tab.sh (decK v)) v = i1 at *
  generalize Tab.xt (Tab.sh (decK v)) v = i2 at *
  generalize Tab.xd (Tab.sh (decK v)) v = i3 at *
  generalize Tab.xm (Tab.sh (decK v)) v = i4 at *
  generalize decK v = i0 at *
  have FA := F.stays bA
  have Z := K.ZAt.alloc w
  have hl2 := hl _ FA.be.drew
  have hwr : IntKind.u32.wrap (pc + IntKind.u32.wrap (4 * IntKind.u32.wrap ((n : Int) + fu))) = pc + 4 * ((n : Int) + fu) := by
    simp only [IntKind.wrap_u32]; omega
  rw [← hwr] at hl2
  have c1 := F.c1
  have c4 := F.c4
  have hlt := F.lt
  obtain ⟨p, c, rfl⟩ := F.len
  clear F hl T hf hwr hin R
  have hn' : (n : Int) ≤ 24 := by omega
  have hfu' : (fu : Int) ≤ 1 := by omega
  have hm' : (most : Int) ≤ 24 := by omega
  have hd : decide ((most : Int) ≤ (n : Int) + fu) = false := by simp; omega
  have hB : Hid (Below w.heap.size w (w.alloc (.cells #[.int .i64 0, .int .i64 0, .int .i64 0, .int .i64 0, .int .u32 0] 65))) := bA
  have hF : Hid (FAt w0 (w.alloc (.cells #[.int .i64 0, .int .i64 0, .int .i64 0, .int .i64 0, .int .u32 0] 65)) fb pc sb most n st m (.slice p n c)) := FA
  have hZ : Hid (K.ZAt w.heap.size (w.alloc (.cells #[.int .i64 0, .int .i64 0, .int .i64 0, .int .i64 0, .int .u32 0] 65))) := Z
  have hBl : w.heap.size < (w.alloc (.cells #[.int .i64 0, .int .i64 0, .int .i64 0, .int .i64 0, .int .u32 0] 65)).heap.size := by simp
  clear bA FA Z
  go_enter Tryd.func67, Tryd.ntmps67
  go_upto_region 4 with fail
  generalize w.alloc (.cells #[.int .i64 0, .int .i64 0, .int .i64 0, .int .i64 0, .int .u32 0] 65) = w1 at *
  clear c1 c4 hlt
  have q0 := hF.out.c0
  have q3 := hF.out.c3
  refine wp_region_phase 19 [(0, 0), (1, 0), (2, 0), (3, 1), (4, 0), (5, 0), (6, 0), (7, 0), (8, 1), (9, 0), (10, 0), (11, 0), (12, 0), (13, 2), (14, 0), (15, 0), (16, 0), (17, 0), (18, 0)] (fun W => W.cell? ⟨fb, 0, none⟩ = some (.int .u32 pc) ∧ W.cell? ⟨fb, 3, none⟩ = some (.pointer (some ⟨sb, 0, none⟩))) (by kernel_rfl) (by kernel_rfl) (fun _ _ _ d _ h => by cases d <;> exact h) ⟨q0, q3⟩ ?_
  repeat (first | (refine wpPlanZ_free (by rfl) (by rfl) (fun W => by (go_simp; try with_reducible rfl)) (fun K hK => ?_); go_simp; refine hK _ ?_; clear hK K) | (refine wpPlanZ_quiet (by rfl) (by rfl) (fun W hW => by (obtain ⟨q0, q3⟩ := hW; go_simp; try with_reducible rfl)) (fun K hK => ?_); go_simp; refine hK _ ?_; clear hK K))
  refine wpPlanZ_serial (by rfl) (by rfl) (fun K hK => ?_)
  go_simp
  refine hl2.mono ?_
  rintro e wx ⟨rfl, n2, rfl⟩
  refine hK _ _ (fun _ => ⟨q0, q3⟩) ?_
  clear hK K
  repeat (first | (refine wpPlanZ_free (by rfl) (by rfl) (fun W => by (go_simp; try with_reducible rfl)) (fun K hK => ?_); go_simp; refine hK _ ?_; clear hK K))
  refine wpPlanZ_nil ?_
  have hb2 : Below w1.heap.size w1 (w1.drew.drewN n2) := below_drewN (Below.refl _ _).drew n2
  have F2 : Hid (FAt w0 (w1.drew.drewN n2) fb pc sb most n st m (.slice p n c)) := hF.out.stays hb2
  have Z2 : Hid (K.ZAt w.heap.size (w1.drew.drewN n2)) := hZ.out.stays hb2 hBl
  have B2 : Hid (Below w.heap.size w (w1.drew.drewN n2)) := hB.out.trans (hb2.mono (by omega))
  have hBl2 : w.heap.size < (w1.drew.drewN n2).heap.size := by have := hb2.size; omega
  clear hb2 hl2 q0 q3 hF hZ hB hBl
  generalize w1.drew.drewN n2 = w2 at *
  clear w1
  have hde2 := hde w2 F2.out.be
  clear hde
  go_wp2_with fail
  refine hde2.mono ?_
  rintro e w3 ⟨rfl, hb3⟩
  have F3 := F2.out.stays hb3
  have Z3 := Z2.out.stays hb3 hBl2
  have B3 := B2.out.trans (hb3.mono (by omega))
  have hBl3 : w.heap.size < w3.heap.size := by have := hb3.size; omega
  clear hde2 F2 Z2 B2 hBl2 hb3 w2
  go_wp2_with fail
  refine (hki _).mono ?_
  rintro e wk ⟨rfl, hwk⟩
  rw [hwk]; clear hwk wk hki
  have hb4 : Below w3.heap.size w3 (w3.alloc (.cells #[.int .i64 i0, .int .i64 i1, .int .i64 i2, .int .i64 i3, .int .u32 i4] 65)) := (Below.refl _ _).alloc (Nat.le_refl _) _
  have F4 : Hid (FAt w0 _ fb pc sb most n st m (.slice p n c)) := F3.stays hb4
  have Z4 : Hid (K.ZAt w.heap.size _) := Z3.stays hb4 hBl3
  have B4 : Hid (Below w.heap.size w _) := B3.trans (hb4.mono (by omega))
  have g0 : (w3.alloc (.cells #[.int .i64 i0, .int .i64 i1, .int .i64 i2, .int .i64 i3, .int .u32 i4] 65)).cell? ⟨w3.heap.size, 0, none⟩ = some (.int .i64 i0) := by simp
  have g1 : (w3.alloc (.cells #[.int .i64 i0, .int .i64 i1, .int .i64 i2, .int .i64 i3, .int .u32 i4] 65)).cell? ⟨w3.heap.size, 1, none⟩ = some (.int .i64 i1) := by simp
  have g2 : (w3.alloc (.cells #[.int .i64 i0, .int .i64 i1, .int .i64 i2, .int .i64 i3, .int .u32 i4] 65)).cell? ⟨w3.heap.size, 2, none⟩ = some (.int .i64 i2) := by simp
  have g3 : (w3.alloc (.cells #[.int .i64 i0, .int .i64 i1, .int .i64 i2, .int .i64 i3, .int .u32 i4] 65)).cell? ⟨w3.heap.size, 3, none⟩ = some (.int .i64 i3) := by simp
  have g4 : (w3.alloc (.cells #[.int .i64 i0, .int .i64 i1, .int .i64 i2, .int .i64 i3, .int .u32 i4] 65)).cell? ⟨w3.heap.size, 4, none⟩ = some (.int .u32 i4) := by simp
  have hfl := F3.lt
  have hne : w3.heap.size ≠ w.heap.size := by omega
  have hfw : fb ≠ w.heap.size := by
    intro e
    have h1 := Z3.z1; have h2 := F3.c1
    rw [← e, h2] at h1
    cases h1
  clear F3 Z3 B3 hb4
  generalize w3.alloc (.cells #[.int .i64 i0, .int .i64 i1, .int .i64 i2, .int .i64 i3, .int .u32 i4] 65) = w4 at *
  generalize w3.heap.size = gb at *
  clear w3
  have c5 := F4.out.c5
  obtain ⟨z0, z1, z2, z3, z4, zf⟩ := Z4.out
  have zf0 := zf 0
  have zf1 := zf 1
  have zf2 := zf 2
  have zf3 := zf 3
  have zf4 := zf 4
  have hst' : (st : Int) ≤ 8 := by omega
  have hcl : ∀ W : World, (W = w4.drew ∨ W = (put5 w4 w.heap.size i0 i1 i2 i3 i4).drew) → W.cell? ⟨fb, 5, none⟩ = some (.int .i64 st) ∧ W.cell? ⟨gb, 0, none⟩ = some (.int .i64 i0) ∧ W.cell? ⟨gb, 1, none⟩ = some (.int .i64 i1) ∧ W.cell? ⟨gb, 2, none⟩ = some (.int .i64 i2) ∧ W.cell? ⟨gb, 3, none⟩ = some (.int .i64 i3) ∧ W.cell? ⟨gb, 4, none⟩ = some (.int .u32 i4) := by
    rintro W (rfl | rfl)
    · exact ⟨by simpa using c5, by simpa using g0, by simpa using g1, by simpa using g2, by simpa using g3, by simpa using g4⟩
    · have a5 : (put5 w4 w.heap.size i0 i1 i2 i3 i4).cell? ⟨fb, 5, none⟩ = _ := (put5_other hfw).trans c5
      have a0 : (put5 w4 w.heap.size i0 i1 i2 i3 i4).cell? ⟨gb, 0, none⟩ = _ := (put5_other hne).trans g0
      have a1 : (put5 w4 w.heap.size i0 i1 i2 i3 i4).cell? ⟨gb, 1, none⟩ = _ := (put5_other hne).trans g1
      have a2 : (put5 w4 w.heap.size i0 i1 i2 i3 i4).cell? ⟨gb, 2, none⟩ = _ := (put5_other hne).trans g2
      have a3 : (put5 w4 w.heap.size i0 i1 i2 i3 i4).cell? ⟨gb, 3, none⟩ = _ := (put5_other hne).trans g3
      have a4 : (put5 w4 w.heap.size i0 i1 i2 i3 i4).cell? ⟨gb, 4, none⟩ = _ := (put5_other hne).trans g4
      generalize put5 w4 w.heap.size i0 i1 i2 i3 i4 = V at *
      exact ⟨by simpa using a5, by simpa using a0, by simpa using a1, by simpa using a2, by simpa using a3, by simpa using a4⟩
  clear c5 g0 g1 g2 g3 g4 F4
  have hC1 : Hid _ := hcl _ (Or.inl rfl)
  have hC2 : Hid _ := hcl _ (Or.inr rfl)
  clear hcl
  rcases hk with rfl | rfl | rfl | rfl | rfl
  · obtain rfl : ok = true := by rw [← hok]; simp
    rw [show Tab.kwL.getD 1 [] = [115, 117, 109] from rfl]
    clear hok
    go_upto_region 9 with fail
    refine wp_region_phase 18 [(0, 1), (1, 0), (2, 0), (3, 0), (4, 0), (5, 0), (6, 0), (7, 0), (8, 0), (9, 0), (10, 0), (11, 1), (12, 0), (13, 0), (14, 0), (15, 2), (16, 0), (17, 0)] (fun W => W.cell? ⟨fb, 5, none⟩ = some (.int .i64 st) ∧ W.cell? ⟨gb, 0, none⟩ = some (.int .i64 i0) ∧ W.cell? ⟨gb, 1, none⟩ = some (.int .i64 i1) ∧ W.cell? ⟨gb, 2, none⟩ = some (.int .i64 i2) ∧ W.cell? ⟨gb, 3, none⟩ = some (.int .i64 i3) ∧ W.cell? ⟨gb, 4, none⟩ = some (.int .u32 i4)) (by kernel_rfl) (by kernel_rfl) (fun _ _ _ d _ h => by cases d <;> exact h) hC1.out ?_
    repeat (first | (refine wpPlanZ_free (by rfl) (by rfl) (fun W => by (go_simp; try with_reducible rfl)) (fun K hK => ?_); go_simp; refine hK _ ?_; clear hK K) | (refine wpPlanZ_quiet (by rfl) (by rfl) (fun W hW => by (obtain ⟨c5, g0, g1, g2, g3, g4⟩ := hW; go_simp; try with_reducible rfl)) (fun K hK => ?_); go_simp; refine hK _ ?_; clear hK K) | (refine wpPlanZ_skip (by rfl) (by rfl) (fun K hK => ?_); go_simp; refine hK _ ?_; clear hK K))
    refine wpPlanZ_serial (by rfl) (by rfl) (fun K hK => ?_)
    go_simp
    refine hK _ _ (fun _ => hC2.out) ?_
    clear hK K
    repeat (first | (refine wpPlanZ_free (by rfl) (by rfl) (fun W => by (go_simp; try with_reducible rfl)) (fun K hK => ?_); go_simp; refine hK _ ?_; clear hK K))
    refine wpPlanZ_nil ?_
    go_wp2
    exact bodyPost_ret (results_cell2 Tryd.results67 _ _ _ (A := ⟨w.heap.size, 0, none⟩) rfl (ins_stored_drew Z4.out)) rfl ⟨rfl, (below_put5 B4.out (Nat.le_refl _)).drew⟩
  · obtain rfl : ok = true := by rw [← hok]; simp
    rw [show Tab.kwL.getD 2 [] = [98, 114, 97, 110, 99, 104] from rfl]
    clear hok
    go_upto_region 9 with fail
    refine wp_region_phase 18 [(0, 1), (1, 0), (2, 0), (3, 0), (4, 0), (5, 0), (6, 0), (7, 0), (8, 0), (9, 0), (10, 0), (11, 1), (12, 0), (13, 0), (14, 0), (15, 2), (16, 0), (17, 0)] (fun W => W.cell? ⟨fb, 5, none⟩ = some (.int .i64 st) ∧ W.cell? ⟨gb, 0, none⟩ = some (.int .i64 i0) ∧ W.cell? ⟨gb, 1, none⟩ = some (.int .i64 i1) ∧ W.cell? ⟨gb, 2, none⟩ = some (.int .i64 i2) ∧ W.cell? ⟨gb, 3, none⟩ = some (.int .i64 i3) ∧ W.cell? ⟨gb, 4, none⟩ = some (.int .u32 i4)) (by kernel_rfl) (by kernel_rfl) (fun _ _ _ d _ h => by cases d <;> exact h) hC1.out ?_
    repeat (first | (refine wpPlanZ_free (by rfl) (by rfl) (fun W => by (go_simp; try with_reducible rfl)) (fun K hK => ?_); go_simp; refine hK _ ?_; clear hK K) | (refine wpPlanZ_quiet (by rfl) (by rfl) (fun W hW => by (obtain ⟨c5, g0, g1, g2, g3, g4⟩ := hW; go_simp; try with_reducible rfl)) (fun K hK => ?_); go_simp; refine hK _ ?_; clear hK K) | (refine wpPlanZ_skip (by rfl) (by rfl) (fun K hK => ?_); go_simp; refine hK _ ?_; clear hK K))
    refine wpPlanZ_serial (by rfl) (by rfl) (fun K hK => ?_)
    go_simp
    refine hK _ _ (fun _ => hC2.out) ?_
    clear hK K
    repeat (first | (refine wpPlanZ_free (by rfl) (by rfl) (fun W => by (go_simp; try with_reducible rfl)) (fun K hK => ?_); go_simp; refine hK _ ?_; clear hK K))
    refine wpPlanZ_nil ?_
    go_wp2
    exact bodyPost_ret (results_cell2 Tryd.results67 _ _ _ (A := ⟨w.heap.size, 0, none⟩) rfl (ins_stored_drew Z4.out)) rfl ⟨rfl, (below_put5 B4.out (Nat.le_refl _)).drew⟩
  · obtain rfl : ok = false := by rw [← hok]; simp
    rw [show Tab.kwL.getD 3 [] = [116, 114, 97, 112] from rfl]
    clear hok
    go_upto_region 9 with fail
    refine wp_region_phase 18 [(0, 1), (1, 0), (2, 0), (3, 0), (4, 0), (5, 0), (6, 0), (7, 0), (8, 0), (9, 0), (10, 0), (11, 1), (12, 0), (13, 0), (14, 0), (15, 2), (16, 0), (17, 0)] (fun W => W.cell? ⟨fb, 5, none⟩ = some (.int .i64 st) ∧ W.cell? ⟨gb, 0, none⟩ = some (.int .i64 i0) ∧ W.cell? ⟨gb, 1, none⟩ = some (.int .i64 i1) ∧ W.cell? ⟨gb, 2, none⟩ = some (.int .i64 i2) ∧ W.cell? ⟨gb, 3, none⟩ = some (.int .i64 i3) ∧ W.cell? ⟨gb, 4, none⟩ = some (.int .u32 i4)) (by kernel_rfl) (by kernel_rfl) (fun _ _ _ d _ h => by cases d <;> exact h) hC1.out ?_
    repeat (first | (refine wpPlanZ_free (by rfl) (by rfl) (fun W => by (go_simp; try with_reducible rfl)) (fun K hK => ?_); go_simp; refine hK _ ?_; clear hK K) | (refine wpPlanZ_quiet (by rfl) (by rfl) (fun W hW => by (obtain ⟨c5, g0, g1, g2, g3, g4⟩ := hW; go_simp; try with_reducible rfl)) (fun K hK => ?_); go_simp; refine hK _ ?_; clear hK K) | (refine wpPlanZ_skip (by rfl) (by rfl) (fun K hK => ?_); go_simp; refine hK _ ?_; clear hK K))
    refine wpPlanZ_serial (by rfl) (by rfl) (fun K hK => ?_)
    go_simp
    refine hK _ _ (fun _ => hC2.out) ?_
    clear hK K
    repeat (first | (refine wpPlanZ_free (by rfl) (by rfl) (fun W => by (go_simp; try with_reducible rfl)) (fun K hK => ?_); go_simp; refine hK _ ?_; clear hK K))
    refine wpPlanZ_nil ?_
    go_wp2
    exact bodyPost_ret (results_cell2 Tryd.results67 _ _ _ (A := ⟨w.heap.size, 0, none⟩) rfl (ins_stored_drew Z4.out)) rfl ⟨rfl, (below_put5 B4.out (Nat.le_refl _)).drew⟩
  · obtain rfl : ok = true := by rw [← hok]; simp
    rw [show Tab.kwL.getD 4 [] = [108, 111, 97, 100] from rfl]
    clear hok
    go_upto_region 9 with fail
    refine wp_region_phase 18 [(0, 1), (1, 0), (2, 0), (3, 0), (4, 0), (5, 0), (6, 0), (7, 0), (8, 0), (9, 0), (10, 0), (11, 1), (12, 0), (13, 0), (14, 0), (15, 2), (16, 0), (17, 0)] (fun W => W.cell? ⟨fb, 5, none⟩ = some (.int .i64 st) ∧ W.cell? ⟨gb, 0, none⟩ = some (.int .i64 i0) ∧ W.cell? ⟨gb, 1, none⟩ = some (.int .i64 i1) ∧ W.cell? ⟨gb, 2, none⟩ = some (.int .i64 i2) ∧ W.cell? ⟨gb, 3, none⟩ = some (.int .i64 i3) ∧ W.cell? ⟨gb, 4, none⟩ = some (.int .u32 i4)) (by kernel_rfl) (by kernel_rfl) (fun _ _ _ d _ h => by cases d <;> exact h) hC1.out ?_
    repeat (first | (refine wpPlanZ_free (by rfl) (by rfl) (fun W => by (go_simp; try with_reducible rfl)) (fun K hK => ?_); go_simp; refine hK _ ?_; clear hK K) | (refine wpPlanZ_quiet (by rfl) (by rfl) (fun W hW => by (obtain ⟨c5, g0, g1, g2, g3, g4⟩ := hW; go_simp; try with_reducible rfl)) (fun K hK => ?_); go_simp; refine hK _ ?_; clear hK K) | (refine wpPlanZ_skip (by rfl) (by rfl) (fun K hK => ?_); go_simp; refine hK _ ?_; clear hK K))
    refine wpPlanZ_serial (by rfl) (by rfl) (fun K hK => ?_)
    go_simp
    refine hK _ _ (fun _ => hC2.out) ?_
    clear hK K
    repeat (first | (refine wpPlanZ_free (by rfl) (by rfl) (fun W => by (go_simp; try with_reducible rfl)) (fun K hK => ?_); go_simp; refine hK _ ?_; clear hK K))
    refine wpPlanZ_nil ?_
    go_wp2
    exact bodyPost_ret (results_cell2 Tryd.results67 _ _ _ (A := ⟨w.heap.size, 0, none⟩) rfl (ins_stored_drew Z4.out)) rfl ⟨rfl, (below_put5 B4.out (Nat.le_refl _)).drew⟩
  · by_cases hs8 : st < 8
    · obtain rfl : ok = true := by rw [← hok]; simp [hs8]
      rw [show Tab.kwL.getD 5 [] = [115, 116, 111, 114, 101] from rfl]
      clear hok
      have hs : decide ((st : Int) < 8) = true := by simp; omega
      go_upto_region 9 with fail
      refine wp_region_phase 18 [(0, 1), (1, 0), (2, 0), (3, 0), (4, 0), (5, 0), (6, 0), (7, 0), (8, 0), (9, 0), (10, 0), (11, 1), (12, 0), (13, 0), (14, 0), (15, 2), (16, 0), (17, 0)] (fun W => W.cell? ⟨fb, 5, none⟩ = some (.int .i64 st) ∧ W.cell? ⟨gb, 0, none⟩ = some (.int .i64 i0) ∧ W.cell? ⟨gb, 1, none⟩ = some (.int .i64 i1) ∧ W.cell? ⟨gb, 2, none⟩ = some (.int .i64 i2) ∧ W.cell? ⟨gb, 3, none⟩ = some (.int .i64 i3) ∧ W.cell? ⟨gb, 4, none⟩ = some (.int .u32 i4)) (by kernel_rfl) (by kernel_rfl) (fun _ _ _ d _ h => by cases d <;> exact h) hC1.out ?_
      repeat (first | (refine wpPlanZ_free (by rfl) (by rfl) (fun W => by (go_simp; try with_reducible rfl)) (fun K hK => ?_); go_simp; refine hK _ ?_; clear hK K) | (refine wpPlanZ_quiet (by rfl) (by rfl) (fun W hW => by (obtain ⟨c5, g0, g1, g2, g3, g4⟩ := hW; go_simp; try with_reducible rfl)) (fun K hK => ?_); go_simp; refine hK _ ?_; clear hK K) | (refine wpPlanZ_skip (by rfl) (by rfl) (fun K hK => ?_); go_simp; refine hK _ ?_; clear hK K))
      refine wpPlanZ_serial (by rfl) (by rfl) (fun K hK => ?_)
      go_simp
      refine hK _ _ (fun _ => hC2.out) ?_
      clear hK K
      repeat (first | (refine wpPlanZ_free (by rfl) (by rfl) (fun W => by (go_simp; try with_reducible rfl)) (fun K hK => ?_); go_simp; refine hK _ ?_; clear hK K))
      refine wpPlanZ_nil ?_
      go_wp2
      exact bodyPost_ret (results_cell2 Tryd.results67 _ _ _ (A := ⟨w.heap.size, 0, none⟩) rfl (ins_stored_drew Z4.out)) rfl ⟨rfl, (below_put5 B4.out (Nat.le_refl _)).drew⟩
    · obtain rfl : ok = false := by rw [← hok]; simp [hs8]
      rw [show Tab.kwL.getD 5 [] = [115, 116, 111, 114, 101] from rfl]
      clear hok
      have hs : decide ((st : Int) < 8) = false := by simp; omega
      go_upto_region 9 with fail
      refine wp_region_phase 18 [(0, 1), (1, 0), (2, 0), (3, 0), (4, 0), (5, 0), (6, 0), (7, 0), (8, 0), (9, 0), (10, 0), (11, 1), (12, 0), (13, 0), (14, 0), (15, 2), (16, 0), (17, 0)] (fun W => W.cell? ⟨fb, 5, none⟩ = some (.int .i64 st) ∧ W.cell? ⟨gb, 0, none⟩ = some (.int .i64 i0) ∧ W.cell? ⟨gb, 1, none⟩ = some (.int .i64 i1) ∧ W.cell? ⟨gb, 2, none⟩ = some (.int .i64 i2) ∧ W.cell? ⟨gb, 3, none⟩ = some (.int .i64 i3) ∧ W.cell? ⟨gb, 4, none⟩ = some (.int .u32 i4)) (by kernel_rfl) (by kernel_rfl) (fun _ _ _ d _ h => by cases d <;> exact h) hC1.out ?_
      repeat (first | (refine wpPlanZ_free (by rfl) (by rfl) (fun W => by (go_simp; try with_reducible rfl)) (fun K hK => ?_); go_simp; refine hK _ ?_; clear hK K) | (refine wpPlanZ_quiet (by rfl) (by rfl) (fun W hW => by (obtain ⟨c5, g0, g1, g2, g3, g4⟩ := hW; go_simp; try with_reducible rfl)) (fun K hK => ?_); go_simp; refine hK _ ?_; clear hK K) | (refine wpPlanZ_skip (by rfl) (by rfl) (fun K hK => ?_); go_simp; refine hK _ ?_; clear hK K))
      refine wpPlanZ_serial (by rfl) (by rfl) (fun K hK => ?_)
      go_simp
      refine hK _ _ (fun _ => hC2.out) ?_
      clear hK K
      repeat (first | (refine wpPlanZ_free (by rfl) (by rfl) (fun W => by (go_simp; try with_reducible rfl)) (fun K hK => ?_); go_simp; refine hK _ ?_; clear hK K))
      refine wpPlanZ_nil ?_
      go_wp2
      exact bodyPost_ret (results_cell2 Tryd.results67 _ _ _ (A := ⟨w.heap.size, 0, none⟩) rfl (ins_stored_drew Z4.out)) rfl ⟨rfl, (below_put5 B4.out (Nat.le_refl _)).drew⟩
end
end Go.Proofs.YtckcbnfobjmhpaaDoor
