import Derived.Test.YtjkencgcdlfjhaaGreatDoorXtra
import Derived.Test.YtjkencgcdlfjhaaGreatDoorXev
/-
  IrRuns: the walk, where the code is well and the state is not apart.
-/
namespace Go.Proofs.YtjkencgcdlfjhaaGreatDoor
open Go.RowKit Go.Maps
open Num
set_option linter.unusedVariables false
set_option maxRecDepth 100000 in
set_option maxHeartbeats 16000000 in
theorem IRK0_any (S : Nat → Addr) {w : World} (EE : Errs S w) (E : Eg (peS S) w) (T : St) (ok : T.ok) (ct0 : 0 ≤ T.ct) (ct1 : T.ct ≤ 1099511627776) {v : Value} {l : List Opx} (A : OpsIn w v l) (hl201 : (l.length : Int) ≤ 201) (rsz : ∀ o ∈ l, (o.s.size : Int) ≤ 9223372036854775807) (hlong : longO l 40 = false) {vw : Value} {xs : List Int} (X : WordsIn w vw xs) (hx : xs.length ≤ 200) (wa pc : Int) (p0 : 0 ≤ pc) (p1 : pc < 4294967296) (many : Int) (m0 : -9223372036854775808 ≤ many) (m1 : many ≤ 9223372036854775807) (hpf : codeF many l = (0, -1)) :
    Calls Tryz.prog 3 #[.int .u32 pc, .int .i64 many, v, .agg (plA T vw wa), .bool false] w fun e w' => e = .returned (.bool true) ∧ Below w.heap.size w w' := by
  have P0 := pl_row w T vw wa
  have B0 : Below w.heap.size w (w.alloc (.cells (plA T vw wa) 29)) := (Below.refl _ _).alloc (Nat.le_refl _) _
  have HEE : Hid (∀ W, Below w.heap.size w W → Errs S W) := fun W hW => EE.stays hW
  have HE : Hid (∀ W, Below w.heap.size w W → Eg (peS S) W) := fun W hW => E.stays hW
  have HA : Hid (∀ W, Below w.heap.size w W → OpsIn W v l) := fun W hW => A.stays hW
  have HX : Hid (∀ W, Below w.heap.size w W → WordsIn W vw xs) := fun W hW => X.stays hW
  have HLG : Hid (longO l 40 = false) := hlong
  have HSZ : Hid (∀ o ∈ l, (o.s.size : Int) ≤ 9223372036854775807) := rsz
  have hho := evaluated_any (peS S) (E.stays B0)
  have h43 : (plA T vw wa)[43]? = some vw := by rw [plA_get _ _ _ 43 (by omega)]; rfl
  have h44 : (plA T vw wa)[44]? = some (.int .i64 wa) := by rw [plA_get _ _ _ 44 (by omega)]; rfl
  have h42 : (plA T vw wa)[42]? = some (.int .i64 T.ct) := by rw [plA_get _ _ _ 42 (by omega)]; rfl
  have HMO : Hid (∀ W, Below w.heap.size w W → Calls Tryz.prog 20 #[.agg (plA T vw wa)] W fun e w' => ∃ rb gb kb hb : Nat, e = .returned (.pointer (some ⟨rb, 0, none⟩)) ∧ DMem w' rb gb kb hb (mw xs) (fun p => decide (p = wa)) (fun _ => false) ∧ Below W.heap.size W w' ∧ W.heap.size ≤ rb ∧ W.heap.size ≤ gb ∧ W.heap.size ≤ kb ∧ W.heap.size ≤ hb) := fun W hW => model_any (ps := plA T vw wa) h43 h44 (HX.out W hW) (by omega)
  have HME : Hid (∀ W, Below w.heap.size w W → Calls Tryz.prog 19 #[.agg (plA T vw wa)] W fun e w' => ∃ sb bp bw bh : Nat, e = .returned (.pointer (some ⟨sb, 0, none⟩)) ∧ RamIs w' sb bp bw bh 65 (mw xs) (wtP wa) (fun _ => false) ∧ Below W.heap.size W w' ∧ W.heap.size ≤ sb ∧ W.heap.size ≤ bp ∧ W.heap.size ≤ bw ∧ W.heap.size ≤ bh) := fun W hW => memory_any (peS S) (HE.out W hW) T (HX.out W hW) hx wa
  have hlp : ∀ W : World, Calls Tryz.prog 10 #[.agg (plA T vw wa)] W (fun e w' => e = .returned (.bool false) ∧ Below W.heap.size W w') := fun W => by
    obtain ⟨aw, cw, e, _⟩ := X.sh
    have h44 := h43.trans (congrArg some e)
    have hq := longPl_any (w := W) h44 h42
    have hb : (decide (200 < (xs.length : Int)) || decide (T.ct < 0) || decide (1099511627776 < T.ct)) = false := by
      simp only [Bool.or_eq_false_iff, decide_eq_false_iff_not]; omega
    rw [hb] at hq
    exact hq
  have hpla := fun W => placed_any W T vw wa pc p0 p1
  have hldp : ∀ (W : World), RowIs W w.heap.size 29 45 (plV T vw wa) → (loadVar 29 ⟨w.heap.size, 0, none⟩).run Tryz.prog W = .ok (.agg (plA T vw wa)) W := fun (W : World) h => load_place h
  obtain ⟨ra, rc, hv, _, _⟩ := A.sh
  subst hv
  obtain ⟨PA, hPA⟩ : ∃ PA, PA = plA T vw wa := ⟨_, rfl⟩
  rw [← hPA] at P0 B0 hlp hldp HMO HME hpla hho ⊢
  obtain ⟨fP, hfP⟩ : ∃ fP, fP = plV T vw wa := ⟨_, rfl⟩
  rw [← hfP] at P0 hldp
  have okT := plS_ok ok ⟨p0, p1⟩
  have HT : Hid ((plS T pc).ok ∧ (plS T pc).ct = T.ct ∧ (plS T pc).sl = false ∧ (plS T pc).pc = pc ∧ (plS T pc).nx = lo (pc + 4) ∧ (plS T pc).r 0 = 0) := ⟨okT, rfl, rfl, rfl, rfl, rfl⟩
  generalize hTT : plS T pc = T0 at *
  clear hPA hfP h43 h44 h42 EE E A X ok hTT okT rsz hlong
  have HPF : Hid (codeF many l = (0, -1)) := hpf
  clear hpf
  go_enter Tryz.func3, Tryz.ntmps3
  go_upto_region 1 with fail
  generalize w.alloc (.cells PA 29) = V at *
  have HP0 : Hid (RowIs V w.heap.size 29 45 fP) := P0
  have HB0 : Hid (Below w.heap.size w V) := B0
  clear P0 B0
  go_wp2_with fail
  refine hho.mono ?_
  rintro e w1 ⟨rfl, hb1⟩
  have B1 : Hid (Below w.heap.size w w1) := HB0.out.trans (hb1.mono HB0.out.size)
  have P1 : Hid (RowIs w1 w.heap.size 29 45 fP) := HP0.out.stays hb1
  have hl1 := hldp w1 P1.out
  have cL := longOps_any (HA.out w1 B1.out) (by omega) HSZ.out 40
  rw [HLG.out, if_neg (by decide)] at cL
  clear hho hb1 HB0 HP0
  go_wp2_with fail
  refine cL.mono ?_
  rintro e w2 ⟨rfl, hw⟩
  rw [hw]
  clear hw w2 cL
  go_upto_region 4 with (first | (refine wpList_loadT 29 _ (by rfl) w.heap.size _ (by rfl) (by rfl) hl1 ?_) | (go_at_call 10; refine (hlp _).mono ?_; rintro e w2 ⟨rfl, hb2⟩; clear hl1))
  have B2 : Hid (Below w.heap.size w w2) := B1.out.trans (hb2.mono B1.out.size)
  have P2 : Hid (RowIs w2 w.heap.size 29 45 fP) := P1.out.stays hb2
  clear hb2 hlp B1 P1
  have hor := ownOps_any (HA.out w2 B2.out) (by omega)
  go_wp2_with fail
  refine hor.mono ?_
  rintro e w3 ⟨v3, rfl, hR3, hb3⟩
  obtain ⟨a3, c3, rfl, _⟩ := hR3.sh
  have hpx : w.heap.size < w3.heap.size := by have := P2.out.lt; have := hb3.size; omega
  have B4 : Hid (Below w.heap.size w (w3.alloc (.cells #[.int .u32 pc, .int .i64 many, .slice a3 l.length c3] 35))) := (B2.out.trans (hb3.mono B2.out.size)).trans ((alloc_belowG _ _).mono (by have := B2.out.size; have := hb3.size; omega))
  have P4 : Hid (RowIs (w3.alloc (.cells #[.int .u32 pc, .int .i64 many, .slice a3 l.length c3] 35)) w.heap.size 29 45 fP) := (P2.out.stays hb3).stays (alloc_belowG _ _)
  have X4 : Hid (CBox (w3.alloc (.cells #[.int .u32 pc, .int .i64 many, .slice a3 l.length c3] 35)) w3.heap.size pc many (.slice a3 l.length c3)) := ⟨by simp, by simp, by simp⟩
  have HO3 : Hid (∀ W, Below w3.heap.size w3 W → OpsIn W (.slice a3 l.length c3) l) := fun W hW => hR3.stays hW
  have O4 : Hid (Below w3.heap.size w3 (w3.alloc (.cells #[.int .u32 pc, .int .i64 many, .slice a3 l.length c3] 35)) ∧ w3.heap.size ≤ (w3.alloc (.cells #[.int .u32 pc, .int .i64 many, .slice a3 l.length c3] 35)).heap.size) := ⟨alloc_belowG _ _, by simp⟩
  clear hor hb3 hR3 B2 P2
  go_upto_region 5 with fail
  generalize w3.alloc (.cells #[.int .u32 pc, .int .i64 many, .slice a3 l.length c3] 35) = W4 at *
  generalize w3.heap.size = xb at *
  have hpf := codeFault_any (HA.out W4 B4.out) (by omega) many m0 m1
  rw [HPF.out] at hpf
  go_wp2_with fail
  refine hpf.mono ?_
  rintro e w5 ⟨rfl, hb5⟩
  have S5 : Below W4.heap.size W4 (w5.alloc (.cells #[.int .i64 0, .int .i64 (-1)] 37)) := hb5.trans ((alloc_belowG _ _).mono hb5.size)
  have B6 : Hid (Below w.heap.size w (w5.alloc (.cells #[.int .i64 0, .int .i64 (-1)] 37))) := B4.out.trans (S5.mono B4.out.size)
  have P6 : Hid (RowIs (w5.alloc (.cells #[.int .i64 0, .int .i64 (-1)] 37)) w.heap.size 29 45 fP) := P4.out.stays S5
  have X6 : Hid (CBox (w5.alloc (.cells #[.int .i64 0, .int .i64 (-1)] 37)) xb pc many (.slice a3 l.length c3)) := X4.out.stays S5
  have O6 : Hid (Below xb w3 (w5.alloc (.cells #[.int .i64 0, .int .i64 (-1)] 37)) ∧ xb ≤ ((w5.alloc (.cells #[.int .i64 0, .int .i64 (-1)] 37))).heap.size) := ⟨O4.out.1.trans (S5.mono O4.out.2), Nat.le_trans O4.out.2 S5.size⟩
  have F6 : Hid (FBx (w5.alloc (.cells #[.int .i64 0, .int .i64 (-1)] 37)) w5.heap.size 0 (-1)) := FBx.new _ _ _
  have hxf : xb < w5.heap.size := by have := X4.out.lt; have := hb5.size; omega
  have hwf : w.heap.size ≤ w5.heap.size := by have := B4.out.size; have := hb5.size; omega
  have hnx : xb ≠ w.heap.size := by omega
  clear hpf hb5 S5
  clear B4 P4 X4 O4
  go_upto_region 6 with fail
  generalize w5.alloc (.cells #[.int .i64 0, .int .i64 (-1)] 37) = W6 at *
  generalize w5.heap.size = fb at *
  have hl6 := hldp W6 P6.out
  go_upto_region 7 with (first | (refine wpList_loadT 29 _ (by rfl) w.heap.size _ (by rfl) (by rfl) hl6 ?_) | (go_at_call 13; refine (hpla _).mono ?_; rintro e wc ⟨rfl, hbc⟩; clear hl6) | (refine wpList_allocSt rfl rfl ?_) | (refine wpList_storeSt rfl _ _ rfl (stA zS) (stA T0) rfl rfl (stA_size _) (stA_size _) (stA_one _) ?_))
  have SD : Below W6.heap.size W6 (wc.alloc (.cells (stA T0) 26)) := hbc.trans ((alloc_belowG _ _).mono hbc.size)
  have BD : Hid (Below w.heap.size w (wc.alloc (.cells (stA T0) 26))) := B6.out.trans (SD.mono B6.out.size)
  have PD : Hid (RowIs (wc.alloc (.cells (stA T0) 26)) w.heap.size 29 45 fP) := P6.out.stays SD
  have XD : Hid (CBox (wc.alloc (.cells (stA T0) 26)) xb pc many (.slice a3 l.length c3)) := X6.out.stays SD
  have OD : Hid (Below xb w3 (wc.alloc (.cells (stA T0) 26)) ∧ xb ≤ ((wc.alloc (.cells (stA T0) 26))).heap.size) := ⟨O6.out.1.trans (SD.mono O6.out.2), Nat.le_trans O6.out.2 SD.size⟩
  have FD : Hid (FBx (wc.alloc (.cells (stA T0) 26)) fb 0 (-1)) := F6.out.stays SD
  have S0D : Hid (StRow (wc.alloc (.cells (stA T0) 26)) wc.heap.size T0) := st_rowG wc T0
  have hs1w : W6.heap.size ≤ wc.heap.size := hbc.size
  have hxs : xb < wc.heap.size := by have := X6.out.lt; omega
  have hfs : fb < wc.heap.size := by have := F6.out.lt; omega
  have hps : w.heap.size < wc.heap.size := by have := P6.out.lt; omega
  clear hpla hbc SD
  clear B6 P6 X6 O6 F6
  generalize wc.alloc (.cells (stA T0) 26) = WD at *
  generalize wc.heap.size = s0 at *
  have hq0 : s0 < WD.heap.size := S0D.out.lt
  have BE := BD
  have PE := PD
  have XE := XD
  have OE := OD
  have FE := FD
  have S0E := S0D
  clear BD PD XD OD FD S0D
  go_upto_region 9 with fail
  obtain ⟨WE, hWE⟩ : ∃ WE, WE = WD := ⟨_, rfl⟩
  subst hWE
  obtain ⟨TA, hTA⟩ : ∃ TA : St, TA = T0 := ⟨_, rfl⟩
  have HTE : Hid (TA = T0) := hTA
  rw [← hTA] at S0E
  clear hTA
  have hckk := check_any (peS S) (HE.out WE.drew BE.out.drew) (HO3.out WE.drew OE.out.1.drew) (by omega) pc many m0 m1
  rw [HPF.out] at hckk
  have hbD : Below WE.heap.size WE WE.drew := (Below.refl _ _).drew
  have ck : CBox WE.drew xb pc many (.slice a3 l.length c3) ∧ FBx WE.drew fb 0 (-1) := ⟨XE.out.stays hbD, FE.out.stays hbD⟩
  clear hbD
  refine wp_region_phase 5 [(0, 1), (2, 1), (1, 2), (3, 2), (4, 0)] (fun W => CBox W xb pc many (.slice a3 l.length c3) ∧ FBx W fb 0 (-1)) (by kernel_rfl) (by kernel_rfl) (fun _ _ _ d _ h => by cases d <;> exact h) ck ?_
  refine wpPlanZ_quiet (by rfl) (by rfl) (fun W hW => by (obtain ⟨⟨h0, h1, h2⟩, _⟩ := hW; go_simp; try with_reducible rfl)) (fun K hK => ?_); go_simp; refine hK _ ?_; clear hK K
  refine wpPlanZ_quiet (by rfl) (by rfl) (fun W hW => by (obtain ⟨_, ⟨h0, h1, _⟩⟩ := hW; go_simp; try with_reducible rfl)) (fun K hK => ?_); go_simp; refine hK _ ?_; clear hK K
  refine wpPlanZ_serial (by rfl) (by rfl) (fun K hK => ?_)
  go_simp
  refine hckk.mono ?_
  rintro e wf ⟨⟨xv, rfl, hCx⟩, hbf⟩
  have hbE : Below WE.heap.size WE wf := (Below.refl _ _).drew.trans hbf
  refine hK _ _ (fun _ => ⟨XE.out.stays hbE, FE.out.stays hbE⟩) ?_
  clear hK K hckk
  have hfl := faulted_any S (HEE.out wf (BE.out.trans (hbE.mono BE.out.size))) (0, (-1)) xv hCx (.inl rfl)
  refine wpPlanZ_serial (by rfl) (by rfl) (fun K hK => ?_)
  go_simp
  refine hfl.mono ?_
  rintro e wg ⟨rfl, hbg⟩
  have hbG : Below WE.heap.size WE wg := hbE.trans (hbg.mono hbE.size)
  refine hK _ _ (fun _ => ⟨XE.out.stays hbG, FE.out.stays hbG⟩) ?_
  clear hK K hfl hCx
  refine wpPlanZ_free (by rfl) (by rfl) (fun W => by (go_simp; try with_reducible rfl)) (fun K hK => ?_); go_simp; refine hK _ ?_; clear hK K
  refine wpPlanZ_nil ?_
  have B6 : Hid (Below w.heap.size w wg) := BE.out.trans (hbG.mono BE.out.size)
  have P6 : Hid (RowIs wg w.heap.size 29 45 fP) := PE.out.stays hbG
  have X6 : Hid (CBox wg xb pc many (.slice a3 l.length c3)) := XE.out.stays hbG
  have O6 : Hid (Below xb w3 wg ∧ xb ≤ (wg).heap.size) := ⟨OE.out.1.trans (hbG.mono OE.out.2), Nat.le_trans OE.out.2 hbG.size⟩
  have F6 : Hid (FBx wg fb 0 (-1)) := FE.out.stays hbG
  have S06 : Hid (StRow wg s0 TA) := S0E.out.stays hbG
  have hsg0 : s0 < wg.heap.size := S06.out.lt
  clear hbE hbG hbf hbg ck
  clear BE PE XE OE FE S0E
  go_upto_region 11 with fail
  obtain ⟨x0, x1, x2⟩ := X6.out
  have hx6 := X6.out.lt
  have hni := ieval_nil (peS S) (HE.out wg B6.out) pc many (.slice a3 l.length c3)
  go_wp2_with fail
  refine hni.mono ?_
  rintro e w7 ⟨rfl, hb7⟩
  have S8 : Below wg.heap.size wg (w7.alloc (.cells #[.bool false, .int .i64 0] 45)) := hb7.trans ((alloc_belowG _ _).mono hb7.size)
  have B8 : Hid (Below w.heap.size w (w7.alloc (.cells #[.bool false, .int .i64 0] 45))) := B6.out.trans (S8.mono B6.out.size)
  have P8 : Hid (RowIs (w7.alloc (.cells #[.bool false, .int .i64 0] 45)) w.heap.size 29 45 fP) := P6.out.stays S8
  have X8 : Hid (CBox (w7.alloc (.cells #[.bool false, .int .i64 0] 45)) xb pc many (.slice a3 l.length c3)) := X6.out.stays S8
  have O8 : Hid (Below xb w3 (w7.alloc (.cells #[.bool false, .int .i64 0] 45)) ∧ xb ≤ ((w7.alloc (.cells #[.bool false, .int .i64 0] 45))).heap.size) := ⟨O6.out.1.trans (S8.mono O6.out.2), Nat.le_trans O6.out.2 S8.size⟩
  have F8 : Hid (FBx (w7.alloc (.cells #[.bool false, .int .i64 0] 45)) fb 0 (-1)) := F6.out.stays S8
  have S08 : Hid (StRow (w7.alloc (.cells #[.bool false, .int .i64 0] 45)) s0 TA) := S06.out.stays S8
  clear x0 x1 x2 hx6 hni hb7 S8
  clear B6 P6 X6 O6 F6 S06
  go_upto_region 12 with fail
  generalize w7.alloc (.cells #[.bool false, .int .i64 0] 45) = W8 at *
  have hcd : Calls Tryz.prog 17 #[.iface 311 (.pointer (some (peS S 3))), .int .i64 3] W8 fun e w' => e = .returned (.bool true) ∧ Below W8.heap.size W8 w' := coded_any S (HEE.out W8 B8.out) 3 (by omega) (by omega)
  go_wp2_with fail
  refine hcd.mono ?_
  rintro e w9 ⟨rfl, hb9⟩
  have B9 : Hid (Below w.heap.size w w9) := B8.out.trans (hb9.mono B8.out.size)
  have P9 : Hid (RowIs w9 w.heap.size 29 45 fP) := P8.out.stays hb9
  have X9 : Hid (CBox w9 xb pc many (.slice a3 l.length c3)) := X8.out.stays hb9
  have O9 : Hid (Below xb w3 w9 ∧ xb ≤ (w9).heap.size) := ⟨O8.out.1.trans (hb9.mono O8.out.2), Nat.le_trans O8.out.2 hb9.size⟩
  have F9 : Hid (FBx w9 fb 0 (-1)) := F8.out.stays hb9
  have S09 : Hid (StRow w9 s0 TA) := S08.out.stays hb9
  clear hcd hb9
  clear B8 P8 X8 O8 F8 S08
  obtain ⟨y0, y1, fz⟩ := F9.out
  have hf9 := F9.out.lt
  go_upto_region 16 with fail
  clear y0 y1 fz hf9
  have hl9 := hldp w9 P9.out
  have hme := HME.out w9 B9.out
  go_upto_region 17 with (first | (refine wpList_loadT 29 _ (by rfl) w.heap.size _ (by rfl) (by rfl) hl9 ?_) | (go_at_call 19; refine hme.mono ?_; rintro e wh ⟨sb, bp, bw, bh, rfl, hRh, hbh, g1, g2, g3, g4⟩; clear hl9))
  have BH : Hid (Below w.heap.size w wh) := B9.out.trans (hbh.mono B9.out.size)
  have PH : Hid (RowIs wh w.heap.size 29 45 fP) := P9.out.stays hbh
  have XH : Hid (CBox wh xb pc many (.slice a3 l.length c3)) := X9.out.stays hbh
  have OH : Hid (Below xb w3 wh ∧ xb ≤ (wh).heap.size) := ⟨O9.out.1.trans (hbh.mono O9.out.2), Nat.le_trans O9.out.2 hbh.size⟩
  have FH : Hid (FBx wh fb 0 (-1)) := F9.out.stays hbh
  have S0H : Hid (StRow wh s0 TA) := S09.out.stays hbh
  have RH : Hid (RamIs wh sb bp bw bh 65 (mw xs) (wtP wa) (fun _ => false)) := hRh
  have hlH := ram_ltG hRh
  have hsh := hbh.size
  have hq09 : s0 < w9.heap.size := S09.out.lt
  have hqf9 : fb < w9.heap.size := F9.out.lt
  have hqx9 : xb < w9.heap.size := X9.out.lt
  clear hme hbh hRh
  clear B9 P9 X9 O9 F9 S09
  have hlH2 := hldp wh PH.out
  have hmo := HMO.out wh BH.out
  go_upto_region 18 with (first | (refine wpList_loadT 29 _ (by rfl) w.heap.size _ (by rfl) (by rfl) hlH2 ?_) | (go_at_call 20; refine hmo.mono ?_; rintro e wm ⟨rb, gb, kb, hb, rfl, hDi, hbi, d1, d2, d3, d4⟩; clear hlH2))
  have BM : Hid (Below w.heap.size w wm) := BH.out.trans (hbi.mono BH.out.size)
  have PM : Hid (RowIs wm w.heap.size 29 45 fP) := PH.out.stays hbi
  have XM : Hid (CBox wm xb pc many (.slice a3 l.length c3)) := XH.out.stays hbi
  have OM : Hid (Below xb w3 wm ∧ xb ≤ (wm).heap.size) := ⟨OH.out.1.trans (hbi.mono OH.out.2), Nat.le_trans OH.out.2 hbi.size⟩
  have FM : Hid (FBx wm fb 0 (-1)) := FH.out.stays hbi
  have S0M : Hid (StRow wm s0 TA) := S0H.out.stays hbi
  have RM : Hid (RamIs wm sb bp bw bh 65 (mw xs) (wtP wa) (fun _ => false)) := RH.out.stays hbi (Nat.le_refl _)
  have DM : Hid (DMem wm rb gb kb hb (mw xs) (fun p => decide (p = wa)) (fun _ => false)) := hDi
  have hdl := hDi.hlt
  have hsi := hbi.size
  clear hmo hbi hDi hldp HMO HME HX
  clear BH PH XH OH FH S0H RH
  have lk := load_st S0M.out.at
  go_upto_region 19 with (first | (refine wpList_loadT 26 _ (by rfl) s0 _ (by rfl) (by rfl) lk ?_) | (refine wpList_allocSt rfl rfl ?_) | (refine wpList_storeSt rfl _ _ rfl (stA zS) (stA TA) rfl rfl (stA_size _) (stA_size _) (stA_one _) ?_))
  have SG : Below wm.heap.size wm (wm.alloc (.cells (stA TA) 26)) := alloc_belowG _ _
  have BG : Hid (Below w.heap.size w (wm.alloc (.cells (stA TA) 26))) := BM.out.trans (SG.mono BM.out.size)
  have XG : Hid (CBox (wm.alloc (.cells (stA TA) 26)) xb pc many (.slice a3 l.length c3)) := XM.out.stays SG
  have OG : Hid (Below xb w3 (wm.alloc (.cells (stA TA) 26)) ∧ xb ≤ ((wm.alloc (.cells (stA TA) 26))).heap.size) := ⟨OM.out.1.trans (SG.mono OM.out.2), Nat.le_trans OM.out.2 SG.size⟩
  have FG : Hid (FBx (wm.alloc (.cells (stA TA) 26)) fb 0 (-1)) := FM.out.stays SG
  have S0G : Hid (StRow (wm.alloc (.cells (stA TA) 26)) s0 TA) := S0M.out.stays SG
  have RG : Hid (RamIs (wm.alloc (.cells (stA TA) 26)) sb bp bw bh 65 (mw xs) (wtP wa) (fun _ => false)) := RM.out.stays SG (Nat.le_refl _)
  have DG : Hid (DMem (wm.alloc (.cells (stA TA) 26)) rb gb kb hb (mw xs) (fun p => decide (p = wa)) (fun _ => false)) := DM.out.stays SG
  have S1G : Hid (StRow (wm.alloc (.cells (stA TA) 26)) wm.heap.size TA) := st_rowG wm TA
  have hzG : wm.heap.size < (wm.alloc (.cells (stA TA) 26)).heap.size := by simp
  clear lk SG PM
  clear BM XM OM FM S0M RM DM
  generalize wm.alloc (.cells (stA TA) 26) = WG at *
  generalize wm.heap.size = s1 at *
  have lk := load_st S0G.out.at
  go_upto_region 20 with (first | (refine wpList_loadT 26 _ (by rfl) s0 _ (by rfl) (by rfl) lk ?_) | (refine wpList_allocSt rfl rfl ?_) | (refine wpList_storeSt rfl _ _ rfl (stA zS) (stA TA) rfl rfl (stA_size _) (stA_size _) (stA_one _) ?_))
  have SG : Below WG.heap.size WG (WG.alloc (.cells (stA TA) 26)) := alloc_belowG _ _
  have BI : Hid (Below w.heap.size w (WG.alloc (.cells (stA TA) 26))) := BG.out.trans (SG.mono BG.out.size)
  have XI : Hid (CBox (WG.alloc (.cells (stA TA) 26)) xb pc many (.slice a3 l.length c3)) := XG.out.stays SG
  have OI : Hid (Below xb w3 (WG.alloc (.cells (stA TA) 26)) ∧ xb ≤ ((WG.alloc (.cells (stA TA) 26))).heap.size) := ⟨OG.out.1.trans (SG.mono OG.out.2), Nat.le_trans OG.out.2 SG.size⟩
  have FI : Hid (FBx (WG.alloc (.cells (stA TA) 26)) fb 0 (-1)) := FG.out.stays SG
  have S1I : Hid (StRow (WG.alloc (.cells (stA TA) 26)) s1 TA) := S1G.out.stays SG
  have RI : Hid (RamIs (WG.alloc (.cells (stA TA) 26)) sb bp bw bh 65 (mw xs) (wtP wa) (fun _ => false)) := RG.out.stays SG (Nat.le_refl _)
  have DI : Hid (DMem (WG.alloc (.cells (stA TA) 26)) rb gb kb hb (mw xs) (fun p => decide (p = wa)) (fun _ => false)) := DG.out.stays SG
  have S2I : Hid (StRow (WG.alloc (.cells (stA TA) 26)) WG.heap.size TA) := st_rowG WG TA
  have hzI : WG.heap.size < (WG.alloc (.cells (stA TA) 26)).heap.size := by simp
  clear lk SG S0G
  clear BG XG OG FG S1G RG DG
  generalize WG.alloc (.cells (stA TA) 26) = wi at *
  generalize WG.heap.size = s2 at *
  obtain ⟨x0, x1, x2⟩ := XI.out
  have hx6 := XI.out.lt
  have hrun := ievalT_any (peS S) (HE.out wi BI.out) RI.out (by omega) (by rw [HTE.out]; exact HT.out.1) S1I.out (by omega) (by omega) (by omega) (by omega) (HO3.out wi OI.out.1) pc many p0 p1 m0 m1 HPF.out (by rw [HTE.out]; exact HT.out.2.2.1) (by rw [HTE.out]; exact HT.out.2.2.2.1) (by rw [HTE.out]; exact HT.out.2.2.2.2.1) (by rw [HTE.out]; exact HT.out.2.2.2.2.2) (by rw [HTE.out, HT.out.2.1]; exact ct0) (by rw [HTE.out, HT.out.2.1]; omega)
  go_wp2_with fail
  refine hrun.mono ?_
  rw [runZ_wt (fun p h0 h1 => wtP_is h0 h1)]
  obtain ⟨OO, hOO⟩ : ∃ OO, runZ (fun p => decide (p = wa)) (eachL l) (nwX (rgS TA) 34) (mw xs) = OO := ⟨_, rfl⟩
  have HOO : Hid (runZ (fun p => decide (p = wa)) (eachL l) (nwX (rgS TA) 34) (mw xs) = OO) := hOO
  rw [hOO]
  clear hOO
  rintro e wj ⟨rfl, G, hGA, hout⟩
  have HGA : Hid (stA G = stA (ozS TA many OO)) := hGA
  clear hGA
  have hHB : Below w.heap.size w wj := hout.below BI.out (by omega) (by omega) (by omega)
  have bkj : ∀ k, k < wi.heap.size → k ≠ s1 → k ≠ bp → k ≠ bh → wj.heap[k]? = wi.heap[k]? := hout.bk
  have SK : Below wj.heap.size wj (wj.alloc (.cells #[.bool (ozT OO), .int .i64 (ozA OO)] 45)) := alloc_belowG _ _
  have BK : Hid (Below w.heap.size w (wj.alloc (.cells #[.bool (ozT OO), .int .i64 (ozA OO)] 45))) := hHB.trans (SK.mono hHB.size)
  have FK : Hid (FBx (wj.alloc (.cells #[.bool (ozT OO), .int .i64 (ozA OO)] 45)) fb 0 (-1)) := (FBx.blockH FI.out (bkj fb (by omega) (by omega) (by omega) (by omega))).stays SK
  have S1K : Hid (StRow (wj.alloc (.cells #[.bool (ozT OO), .int .i64 (ozA OO)] 45)) s1 G) := hout.st.stays SK
  have S2K : Hid (StRow (wj.alloc (.cells #[.bool (ozT OO), .int .i64 (ozA OO)] 45)) s2 TA) := (S2I.out.block (bkj s2 (by omega) (by omega) (by omega) (by omega))).stays SK
  have RK : Hid (∃ N', RamIs (wj.alloc (.cells #[.bool (ozT OO), .int .i64 (ozA OO)] 45)) sb bp bw bh N' (ozM (mw xs) OO) (wtP wa) (fun _ => false)) := by obtain ⟨N', h⟩ := hout.rm; exact ⟨N', h.stays SK (Nat.le_refl _)⟩
  have DK : Hid (DMem (wj.alloc (.cells #[.bool (ozT OO), .int .i64 (ozA OO)] 45)) rb gb kb hb (mw xs) (fun p => decide (p = wa)) (fun _ => false)) := (DI.out.blocksP fun k hk => bkj k (by omega) (by omega) (by omega) (by omega)).stays SK
  have CK : Hid (CErr (peS S) (wj.alloc (.cells #[.bool (ozT OO), .int .i64 (ozA OO)] 45)) (0, (-1)) .nilIface) := CErr.staysH (.inl ⟨rfl, rfl⟩ : CErr (peS S) wj (0, (-1)) .nilIface) SK
  have ek0 : (wj.alloc (.cells #[.bool (ozT OO), .int .i64 (ozA OO)] 45)).cell? ⟨wj.heap.size, 0, none⟩ = some (.bool (ozT OO)) := by simp
  have ek1 : (wj.alloc (.cells #[.bool (ozT OO), .int .i64 (ozA OO)] 45)).cell? ⟨wj.heap.size, 1, none⟩ = some (.int .i64 (ozA OO)) := by simp
  have hsj := hout.sz
  clear hrun hout hHB bkj SK BI XI OI FI S1I S2I RI DI x0 x1 x2 hx6
  go_upto_region 21 with fail
  generalize wj.alloc (.cells #[.bool (ozT OO), .int .i64 (ozA OO)] 45) = WK at *
  generalize hej : wj.heap.size = eb at *
  have hek := World.block_lt_of_cell? _ _ ek0
  obtain ⟨y0, y1, fz⟩ := FK.out
  have hfk := FK.out.lt
  have hflt := faulted_any S (HEE.out WK BK.out) (0, (-1)) _ CK.out (.inl rfl)
  go_wp2_with fail
  refine hflt.mono ?_
  rintro e wl ⟨rfl, hbl⟩
  have SM : Below WK.heap.size WK (wl.alloc (.cells #[.bool false, .int .i64 0, .bool false] 56)) := hbl.trans ((alloc_belowG _ _).mono hbl.size)
  have BM : Hid (Below w.heap.size w (wl.alloc (.cells #[.bool false, .int .i64 0, .bool false] 56))) := BK.out.trans (SM.mono BK.out.size)
  have FM : Hid (FBx (wl.alloc (.cells #[.bool false, .int .i64 0, .bool false] 56)) fb 0 (-1)) := FK.out.stays SM
  have S1M : Hid (StRow (wl.alloc (.cells #[.bool false, .int .i64 0, .bool false] 56)) s1 G) := S1K.out.stays SM
  have S2M : Hid (StRow (wl.alloc (.cells #[.bool false, .int .i64 0, .bool false] 56)) s2 TA) := S2K.out.stays SM
  have RM : Hid (∃ N', RamIs (wl.alloc (.cells #[.bool false, .int .i64 0, .bool false] 56)) sb bp bw bh N' (ozM (mw xs) OO) (wtP wa) (fun _ => false)) := by obtain ⟨N', h⟩ := RK.out; exact ⟨N', h.stays SM (Nat.le_refl _)⟩
  have DM : Hid (DMem (wl.alloc (.cells #[.bool false, .int .i64 0, .bool false] 56)) rb gb kb hb (mw xs) (fun p => decide (p = wa)) (fun _ => false)) := DK.out.stays SM
  have em0 : (wl.alloc (.cells #[.bool false, .int .i64 0, .bool false] 56)).cell? ⟨eb, 0, none⟩ = some (.bool (ozT OO)) := (SM.cell (p := ⟨eb, 0, none⟩) hek).trans ek0
  have em1 : (wl.alloc (.cells #[.bool false, .int .i64 0, .bool false] 56)).cell? ⟨eb, 1, none⟩ = some (.int .i64 (ozA OO)) := (SM.cell (p := ⟨eb, 1, none⟩) hek).trans ek1
  have wm : EBox (wl.alloc (.cells #[.bool false, .int .i64 0, .bool false] 56)) wl.heap.size := EBox.new wl
  have wm0 : (wl.alloc (.cells #[.bool false, .int .i64 0, .bool false] 56)).cell? ⟨wl.heap.size, 0, none⟩ = some (.bool false) := by simp
  have wm1 : (wl.alloc (.cells #[.bool false, .int .i64 0, .bool false] 56)).cell? ⟨wl.heap.size, 1, none⟩ = some (.int .i64 0) := by simp
  have hsl := hbl.size
  have hwe : eb < wl.heap.size := by omega
  clear hflt hbl SM y0 y1 fz hfk hek BK FK S1K S2K RK DK CK ek0 ek1
  go_upto_region 24 with fail
  generalize wl.alloc (.cells #[.bool false, .int .i64 0, .bool false] 56) = WM at *
  generalize hel : wl.heap.size = wb at *
  obtain ⟨y0, y1, fz⟩ := FM.out
  have hfm := FM.out.lt
  have WL := codeF_well.1 HPF.out
  have hro := evalOf_any DM.out s2 TA S2M.out (by rw [HTE.out]; exact HT.out.1) (by rw [HTE.out, HT.out.2.1]; exact ct0) (by rw [HTE.out, HT.out.2.1]; exact ct1) (by omega) (by omega) (HA.out WM BM.out) (by omega) (few_each (by omega)) many WL.m0 WL.m1 (fun o ho => wellL_mem WL.ops o ho)
  rw [HOO.out] at hro
  clear WL
  go_wp2_with fail
  refine hro.mono ?_
  rintro e wn ⟨rfl, hN⟩
  have bkn : ∀ k, k < WM.heap.size → k ≠ s2 → k ≠ rb → wn.heap[k]? = WM.heap[k]? := hN.bk
  have hwbl := wm.lt
  have hdm := DM.out.hlt
  have wn1 : EBox wn wb := wm.block (bkn wb (by omega) (by omega) (by omega))
  obtain ⟨⟨uw0, vw0⟩, ⟨uw1, vw1⟩, ⟨uw2, vw2⟩, wf⟩ := id wn1
  have BN : Below w.heap.size w wn := hN.below BM.out (by omega) (by omega)
  have hoth : ∀ k, k ≠ wb → (((wn.setCell ⟨wb, 0, none⟩ (.bool (ozT OO))).setCell ⟨wb, 1, none⟩ (.int .i64 (ozA OO))).setCell ⟨wb, 2, none⟩ (.bool (ozF OO))).heap[k]? = wn.heap[k]? := fun k hk => ((Below.heap_setCell _ ⟨wb, 2, none⟩ _ k hk).trans (Below.heap_setCell _ ⟨wb, 1, none⟩ _ k hk)).trans (Below.heap_setCell _ ⟨wb, 0, none⟩ _ k hk)
  have c3 := fun j (hj : j < 3) => putN_cell (W := wn) (B := wb) (v := fun j => match j with | 0 => .bool (ozT OO) | 1 => .int .i64 (ozA OO) | _ => .bool (ozF OO)) 3 j (by
    have : j = 0 ∨ j = 1 ∨ j = 2 := by omega
    rcases this with rfl | rfl | rfl
    · exact ⟨_, vw0⟩
    · exact ⟨_, vw1⟩
    · exact ⟨_, vw2⟩)
  have cw0 : (((wn.setCell ⟨wb, 0, none⟩ (.bool (ozT OO))).setCell ⟨wb, 1, none⟩ (.int .i64 (ozA OO))).setCell ⟨wb, 2, none⟩ (.bool (ozF OO))).cell? ⟨wb, 0, none⟩ = some (.bool (ozT OO)) := c3 0 (by omega)
  have cw1 : (((wn.setCell ⟨wb, 0, none⟩ (.bool (ozT OO))).setCell ⟨wb, 1, none⟩ (.int .i64 (ozA OO))).setCell ⟨wb, 2, none⟩ (.bool (ozF OO))).cell? ⟨wb, 1, none⟩ = some (.int .i64 (ozA OO)) := c3 1 (by omega)
  have kk : ∀ k, k < WM.heap.size → k ≠ s2 → k ≠ rb → k ≠ wb → (((wn.setCell ⟨wb, 0, none⟩ (.bool (ozT OO))).setCell ⟨wb, 1, none⟩ (.int .i64 (ozA OO))).setCell ⟨wb, 2, none⟩ (.bool (ozF OO))).heap[k]? = WM.heap[k]? := fun k h1 h2 h3 h4 => (hoth k h4).trans (bkn k h1 h2 h3)
  have heM := World.block_lt_of_cell? _ _ em0
  have ce0 := (World.cell?_of_block (a := ⟨eb, 0, none⟩) (kk eb heM (by omega) (by omega) (by omega))).trans em0
  have ce1 := (World.cell?_of_block (a := ⟨eb, 1, none⟩) (kk eb heM (by omega) (by omega) (by omega))).trans em1
  have S1Z := S1M.out.block (kk s1 (by have := S1M.out.lt; omega) (by omega) (by omega) (by omega))
  have S2Z := hN.st.block (hoth s2 (by omega))
  have RZ : Hid (∃ N', RamIs (((wn.setCell ⟨wb, 0, none⟩ (.bool (ozT OO))).setCell ⟨wb, 1, none⟩ (.int .i64 (ozA OO))).setCell ⟨wb, 2, none⟩ (.bool (ozF OO))) sb bp bw bh N' (ozM (mw xs) OO) (wtP wa) (fun _ => false)) := by
    obtain ⟨N', h⟩ := RM.out
    have hl := ram_ltG h
    exact ⟨N', h.blocks (fun k hk => kk k (by omega) (by omega) (by omega) (by omega))⟩
  obtain ⟨gc, gc1, gc2, gc3⟩ := hN.wd
  have hgcw : gc ≠ wb := by rcases gc2 with e | e <;> omega
  have CD := (World.cell?_of_block (a := ⟨rb, 0, none⟩) (hoth rb (by omega))).trans gc1
  have CW : ∀ i, i < 4096 → (((wn.setCell ⟨wb, 0, none⟩ (.bool (ozT OO))).setCell ⟨wb, 1, none⟩ (.int .i64 (ozA OO))).setCell ⟨wb, 2, none⟩ (.bool (ozF OO))).cell? ⟨gc, i, none⟩ = some (.int .u32 (ozM (mw xs) OO i)) := fun i hi => (World.cell?_of_block (a := ⟨gc, i, none⟩) (hoth gc hgcw)).trans (gc3 i hi)
  have BZ : Hid (Below w.heap.size w (((wn.setCell ⟨wb, 0, none⟩ (.bool (ozT OO))).setCell ⟨wb, 1, none⟩ (.int .i64 (ozA OO))).setCell ⟨wb, 2, none⟩ (.bool (ozF OO)))) := ((BN.setCell (p := ⟨wb, 0, none⟩) (by show w.heap.size ≤ wb; omega) _).setCell (p := ⟨wb, 1, none⟩) (by show w.heap.size ≤ wb; omega) _).setCell (p := ⟨wb, 2, none⟩) (by show w.heap.size ≤ wb; omega) _
  have hwn := wn1.lt
  clear hro hN bkn BN c3 kk hoth gc1 gc3 em0 em1 wm wm0 wm1 S1M S2M RM DM FM y0 y1 fz hfm wn1 BM
  go_upto_region 26 with fail
  generalize ((wn.setCell ⟨wb, 0, none⟩ (.bool (ozT OO))).setCell ⟨wb, 1, none⟩ (.int .i64 (ozA OO))).setCell ⟨wb, 2, none⟩ (.bool (ozF OO)) = WZ at *
  clear vw0 vw1 vw2 wf hwn
  generalize ozT OO = tr at *
  generalize ozA OO = at_ at *
  generalize hF2 : ozS TA many OO = F2 at *
  generalize hMM : ozM (mw xs) OO = MZ at *
  obtain ⟨N', hRZ⟩ := RZ.out
  have hwd := words_any (w := WZ.drew) (RamIs.drew hRZ)
  have ck : Ck28 WZ.drew eb wb s1 s2 rb gc tr at_ G F2 := ⟨ce0, ce1, cw0, cw1, CD, (StRow.at S1Z).drew, (StRow.at S2Z).drew⟩
  have HCW : Hid (∀ i, i < 4096 → WZ.drew.cell? ⟨gc, i, none⟩ = some (.int .u32 (MZ i))) := CW
  clear ce0 ce1 cw0 cw1 CD S1Z S2Z hRZ RZ CW
  refine wp_region_phase 28 [(0, 0), (1, 1), (2, 0), (3, 1), (4, 0), (5, 0), (6, 0), (7, 1), (8, 0), (9, 1), (10, 0), (11, 0), (12, 0), (13, 1), (14, 1), (15, 0), (16, 0), (17, 0), (18, 0), (20, 0), (21, 0), (22, 0), (23, 1), (19, 2), (24, 2), (25, 0), (26, 0), (27, 0)] (fun W => Ck28 W eb wb s1 s2 rb gc tr at_ G F2) (by kernel_rfl) (by kernel_rfl) (fun _ _ _ d _ h => by cases d <;> exact h) ck ?_
  refine wpPlanZ_free (by rfl) (by rfl) (fun W => by (go_simp; try with_reducible rfl)) (fun K hK => ?_); go_simp; refine hK _ ?_; clear hK K
  refine wpPlanZ_quiet (by rfl) (by rfl) (fun W hW => by (obtain ⟨h0, h1, h2, h3, h4, _, _⟩ := hW; go_simp; try with_reducible rfl)) (fun K hK => ?_); go_simp; refine hK _ ?_; clear hK K
  refine wpPlanZ_free (by rfl) (by rfl) (fun W => by (go_simp; try with_reducible rfl)) (fun K hK => ?_); go_simp; refine hK _ ?_; clear hK K
  refine wpPlanZ_quiet (by rfl) (by rfl) (fun W hW => by (obtain ⟨h0, h1, h2, h3, h4, _, _⟩ := hW; go_simp; try with_reducible rfl)) (fun K hK => ?_); go_simp; refine hK _ ?_; clear hK K
  refine wpPlanZ_free (by rfl) (by rfl) (fun W => by (go_simp; try with_reducible rfl)) (fun K hK => ?_); go_simp; refine hK _ ?_; clear hK K
  refine wpPlanZ_free (by rfl) (by rfl) (fun W => by (go_simp; try with_reducible rfl)) (fun K hK => ?_); go_simp; refine hK _ ?_; clear hK K
  refine wpPlanZ_free (by rfl) (by rfl) (fun W => by (go_simp; try with_reducible rfl)) (fun K hK => ?_); go_simp; refine hK _ ?_; clear hK K
  refine wpPlanZ_quiet (by rfl) (by rfl) (fun W hW => by (obtain ⟨h0, h1, h2, h3, h4, _, _⟩ := hW; go_simp; try with_reducible rfl)) (fun K hK => ?_); go_simp; refine hK _ ?_; clear hK K
  refine wpPlanZ_free (by rfl) (by rfl) (fun W => by (go_simp; try with_reducible rfl)) (fun K hK => ?_); go_simp; refine hK _ ?_; clear hK K
  refine wpPlanZ_quiet (by rfl) (by rfl) (fun W hW => by (obtain ⟨h0, h1, h2, h3, h4, _, _⟩ := hW; go_simp; try with_reducible rfl)) (fun K hK => ?_); go_simp; refine hK _ ?_; clear hK K
  refine wpPlanZ_free (by rfl) (by rfl) (fun W => by (go_simp; try with_reducible rfl)) (fun K hK => ?_); go_simp; refine hK _ ?_; clear hK K
  refine wpPlanZ_free (by rfl) (by rfl) (fun W => by (go_simp; try with_reducible rfl)) (fun K hK => ?_); go_simp; refine hK _ ?_; clear hK K
  refine wpPlanZ_free (by rfl) (by rfl) (fun W => by (go_simp; try with_reducible rfl)) (fun K hK => ?_); go_simp; refine hK _ ?_; clear hK K
  refine wpPlanZ_quiet (v := .agg (stA G)) (by rfl) (by rfl) (fun W hW => exec_load rfl rfl W (load_st hW.x)) (fun K hK => ?_)
  go_simp
  refine hK _ ?_
  clear hK K
  refine wpPlanZ_quiet (v := .agg (stA G)) (by rfl) (by rfl) (fun W hW => exec_load rfl rfl W (by rw [HGA.out]; exact load_st hW.y)) (fun K hK => ?_)
  go_simp
  refine hK _ ?_
  clear hK K
  refine wpPlanZ_free (v := .bool true) (by rfl) (by rfl) (fun W => exec_eq rfl rfl rfl W (eq_st G W)) (fun K hK => ?_)
  go_simp
  refine hK _ ?_
  clear hK K
  refine wpPlanZ_free (by rfl) (by rfl) (fun W => by (go_simp; try with_reducible rfl)) (fun K hK => ?_); go_simp; refine hK _ ?_; clear hK K
  refine wpPlanZ_free (by rfl) (by rfl) (fun W => by (go_simp; try with_reducible rfl)) (fun K hK => ?_); go_simp; refine hK _ ?_; clear hK K
  refine wpPlanZ_free (by rfl) (by rfl) (fun W => by (go_simp; try with_reducible rfl)) (fun K hK => ?_); go_simp; refine hK _ ?_; clear hK K
  refine wpPlanZ_free (by rfl) (by rfl) (fun W => by (go_simp; try with_reducible rfl)) (fun K hK => ?_); go_simp; refine hK _ ?_; clear hK K
  refine wpPlanZ_free (by rfl) (by rfl) (fun W => by (go_simp; try with_reducible rfl)) (fun K hK => ?_); go_simp; refine hK _ ?_; clear hK K
  refine wpPlanZ_free (by rfl) (by rfl) (fun W => by (go_simp; try with_reducible rfl)) (fun K hK => ?_); go_simp; refine hK _ ?_; clear hK K
  refine wpPlanZ_quiet (by rfl) (by rfl) (fun W hW => by (obtain ⟨h0, h1, h2, h3, h4, _, _⟩ := hW; go_simp; try with_reducible rfl)) (fun K hK => ?_); go_simp; refine hK _ ?_; clear hK K
  refine wpPlanZ_serial (by rfl) (by rfl) (fun K hK => ?_)
  go_simp
  refine hwd.mono ?_
  rintro e wp ⟨rfl, hcp, hbp⟩
  have hal := alikeD_any (w := wp) (g := WZ.drew.heap.size) (h := gc) (n := 4096) (f := MZ) hcp (fun i hi => (hbp.cell (p := ⟨gc, i, none⟩) (World.block_lt_of_cell? _ _ (HCW.out i hi))).trans (HCW.out i hi)) (by omega)
  have BP : Hid (Below w.heap.size w wp) := BZ.out.drew.trans (hbp.mono BZ.out.size)
  have ck2 := ck.stays hbp
  refine hK _ _ (fun _ => ck2) ?_
  clear hK K hwd hbp hcp ck
  refine wpPlanZ_serial (by rfl) (by rfl) (fun K hK => ?_)
  go_simp
  refine hal.mono ?_
  rintro e wq ⟨rfl, hbq⟩
  refine hK _ _ (fun _ => ck2.stays hbq) ?_
  have BQ : Hid (Below w.heap.size w wq) := BP.out.trans (hbq.mono BP.out.size)
  clear hK K hal hbq ck2
  refine wpPlanZ_free (by rfl) (by rfl) (fun W => by (go_simp; try with_reducible rfl)) (fun K hK => ?_); go_simp; refine hK _ ?_; clear hK K
  refine wpPlanZ_free (by rfl) (by rfl) (fun W => by (go_simp; try with_reducible rfl)) (fun K hK => ?_); go_simp; refine hK _ ?_; clear hK K
  refine wpPlanZ_free (by rfl) (by rfl) (fun W => by (go_simp; try with_reducible rfl)) (fun K hK => ?_); go_simp; refine hK _ ?_; clear hK K
  refine wpPlanZ_nil ?_
  go_wp2
  go_ret
  exact ⟨rfl, BQ.out⟩
end Go.Proofs.YtjkencgcdlfjhaaGreatDoor
/-
  IrRuns: the walk, where the code is well and the state is apart.
-/
namespace Go.Proofs.YtjkencgcdlfjhaaGreatDoor
open Go.RowKit Go.Maps
open Num
set_option linter.unusedVariables false
set_option maxRecDepth 100000 in
set_option maxHeartbeats 16000000 in
theorem IRK1_any (S : Nat → Addr) {w : World} (EE : Errs S w) (E : Eg (peS S) w) (T : St) (ok : T.ok) (ct0 : 0 ≤ T.ct) (ct1 : T.ct ≤ 1099511627776) {v : Value} {l : List Opx} (A : OpsIn w v l) (hl201 : (l.length : Int) ≤ 201) (rsz : ∀ o ∈ l, (o.s.size : Int) ≤ 9223372036854775807) (hlong : longO l 40 = false) {vw : Value} {xs : List Int} (X : WordsIn w vw xs) (hx : xs.length ≤ 200) (wa pc : Int) (p0 : 0 ≤ pc) (p1 : pc < 4294967296) (many : Int) (m0 : -9223372036854775808 ≤ many) (m1 : many ≤ 9223372036854775807) (hpf : codeF many l = (0, -1)) :
    Calls Tryz.prog 3 #[.int .u32 pc, .int .i64 many, v, .agg (plA T vw wa), .bool true] w fun e w' => e = .returned (.bool true) ∧ Below w.heap.size w w' := by
  have P0 := pl_row w T vw wa
  have B0 : Below w.heap.size w (w.alloc (.cells (plA T vw wa) 29)) := (Below.refl _ _).alloc (Nat.le_refl _) _
  have HEE : Hid (∀ W, Below w.heap.size w W → Errs S W) := fun W hW => EE.stays hW
  have HE : Hid (∀ W, Below w.heap.size w W → Eg (peS S) W) := fun W hW => E.stays hW
  have HA : Hid (∀ W, Below w.heap.size w W → OpsIn W v l) := fun W hW => A.stays hW
  have HX : Hid (∀ W, Below w.heap.size w W → WordsIn W vw xs) := fun W hW => X.stays hW
  have HLG : Hid (longO l 40 = false) := hlong
  have HSZ : Hid (∀ o ∈ l, (o.s.size : Int) ≤ 9223372036854775807) := rsz
  have hho := evaluated_any (peS S) (E.stays B0)
  have h43 : (plA T vw wa)[43]? = some vw := by rw [plA_get _ _ _ 43 (by omega)]; rfl
  have h44 : (plA T vw wa)[44]? = some (.int .i64 wa) := by rw [plA_get _ _ _ 44 (by omega)]; rfl
  have h42 : (plA T vw wa)[42]? = some (.int .i64 T.ct) := by rw [plA_get _ _ _ 42 (by omega)]; rfl
  have HMO : Hid (∀ W, Below w.heap.size w W → Calls Tryz.prog 20 #[.agg (plA T vw wa)] W fun e w' => ∃ rb gb kb hb : Nat, e = .returned (.pointer (some ⟨rb, 0, none⟩)) ∧ DMem w' rb gb kb hb (mw xs) (fun p => decide (p = wa)) (fun _ => false) ∧ Below W.heap.size W w' ∧ W.heap.size ≤ rb ∧ W.heap.size ≤ gb ∧ W.heap.size ≤ kb ∧ W.heap.size ≤ hb) := fun W hW => model_any (ps := plA T vw wa) h43 h44 (HX.out W hW) (by omega)
  have HME : Hid (∀ W, Below w.heap.size w W → Calls Tryz.prog 19 #[.agg (plA T vw wa)] W fun e w' => ∃ sb bp bw bh : Nat, e = .returned (.pointer (some ⟨sb, 0, none⟩)) ∧ RamIs w' sb bp bw bh 65 (mw xs) (wtP wa) (fun _ => false) ∧ Below W.heap.size W w' ∧ W.heap.size ≤ sb ∧ W.heap.size ≤ bp ∧ W.heap.size ≤ bw ∧ W.heap.size ≤ bh) := fun W hW => memory_any (peS S) (HE.out W hW) T (HX.out W hW) hx wa
  have hlp : ∀ W : World, Calls Tryz.prog 10 #[.agg (plA T vw wa)] W (fun e w' => e = .returned (.bool false) ∧ Below W.heap.size W w') := fun W => by
    obtain ⟨aw, cw, e, _⟩ := X.sh
    have h44 := h43.trans (congrArg some e)
    have hq := longPl_any (w := W) h44 h42
    have hb : (decide (200 < (xs.length : Int)) || decide (T.ct < 0) || decide (1099511627776 < T.ct)) = false := by
      simp only [Bool.or_eq_false_iff, decide_eq_false_iff_not]; omega
    rw [hb] at hq
    exact hq
  have hpla := fun W => placed_any W T vw wa pc p0 p1
  have hldp : ∀ (W : World), RowIs W w.heap.size 29 45 (plV T vw wa) → (loadVar 29 ⟨w.heap.size, 0, none⟩).run Tryz.prog W = .ok (.agg (plA T vw wa)) W := fun (W : World) h => load_place h
  obtain ⟨ra, rc, hv, _, _⟩ := A.sh
  subst hv
  obtain ⟨PA, hPA⟩ : ∃ PA, PA = plA T vw wa := ⟨_, rfl⟩
  rw [← hPA] at P0 B0 hlp hldp HMO HME hpla hho ⊢
  obtain ⟨fP, hfP⟩ : ∃ fP, fP = plV T vw wa := ⟨_, rfl⟩
  rw [← hfP] at P0 hldp
  have okT := plS_ok ok ⟨p0, p1⟩
  have HT : Hid ((plS T pc).ok ∧ (plS T pc).ct = T.ct ∧ (plS T pc).sl = false ∧ (plS T pc).pc = pc ∧ (plS T pc).nx = lo (pc + 4) ∧ (plS T pc).r 0 = 0) := ⟨okT, rfl, rfl, rfl, rfl, rfl⟩
  generalize hTT : plS T pc = T0 at *
  clear hPA hfP h43 h44 h42 EE E A X ok hTT okT rsz hlong
  have HPF : Hid (codeF many l = (0, -1)) := hpf
  clear hpf
  go_enter Tryz.func3, Tryz.ntmps3
  go_upto_region 1 with fail
  generalize w.alloc (.cells PA 29) = V at *
  have HP0 : Hid (RowIs V w.heap.size 29 45 fP) := P0
  have HB0 : Hid (Below w.heap.size w V) := B0
  clear P0 B0
  go_wp2_with fail
  refine hho.mono ?_
  rintro e w1 ⟨rfl, hb1⟩
  have B1 : Hid (Below w.heap.size w w1) := HB0.out.trans (hb1.mono HB0.out.size)
  have P1 : Hid (RowIs w1 w.heap.size 29 45 fP) := HP0.out.stays hb1
  have hl1 := hldp w1 P1.out
  have cL := longOps_any (HA.out w1 B1.out) (by omega) HSZ.out 40
  rw [HLG.out, if_neg (by decide)] at cL
  clear hho hb1 HB0 HP0
  go_wp2_with fail
  refine cL.mono ?_
  rintro e w2 ⟨rfl, hw⟩
  rw [hw]
  clear hw w2 cL
  go_upto_region 4 with (first | (refine wpList_loadT 29 _ (by rfl) w.heap.size _ (by rfl) (by rfl) hl1 ?_) | (go_at_call 10; refine (hlp _).mono ?_; rintro e w2 ⟨rfl, hb2⟩; clear hl1))
  have B2 : Hid (Below w.heap.size w w2) := B1.out.trans (hb2.mono B1.out.size)
  have P2 : Hid (RowIs w2 w.heap.size 29 45 fP) := P1.out.stays hb2
  clear hb2 hlp B1 P1
  have hor := ownOps_any (HA.out w2 B2.out) (by omega)
  go_wp2_with fail
  refine hor.mono ?_
  rintro e w3 ⟨v3, rfl, hR3, hb3⟩
  obtain ⟨a3, c3, rfl, _⟩ := hR3.sh
  have hpx : w.heap.size < w3.heap.size := by have := P2.out.lt; have := hb3.size; omega
  have B4 : Hid (Below w.heap.size w (w3.alloc (.cells #[.int .u32 pc, .int .i64 many, .slice a3 l.length c3] 35))) := (B2.out.trans (hb3.mono B2.out.size)).trans ((alloc_belowG _ _).mono (by have := B2.out.size; have := hb3.size; omega))
  have P4 : Hid (RowIs (w3.alloc (.cells #[.int .u32 pc, .int .i64 many, .slice a3 l.length c3] 35)) w.heap.size 29 45 fP) := (P2.out.stays hb3).stays (alloc_belowG _ _)
  have X4 : Hid (CBox (w3.alloc (.cells #[.int .u32 pc, .int .i64 many, .slice a3 l.length c3] 35)) w3.heap.size pc many (.slice a3 l.length c3)) := ⟨by simp, by simp, by simp⟩
  have HO3 : Hid (∀ W, Below w3.heap.size w3 W → OpsIn W (.slice a3 l.length c3) l) := fun W hW => hR3.stays hW
  have O4 : Hid (Below w3.heap.size w3 (w3.alloc (.cells #[.int .u32 pc, .int .i64 many, .slice a3 l.length c3] 35)) ∧ w3.heap.size ≤ (w3.alloc (.cells #[.int .u32 pc, .int .i64 many, .slice a3 l.length c3] 35)).heap.size) := ⟨alloc_belowG _ _, by simp⟩
  clear hor hb3 hR3 B2 P2
  go_upto_region 5 with fail
  generalize w3.alloc (.cells #[.int .u32 pc, .int .i64 many, .slice a3 l.length c3] 35) = W4 at *
  generalize w3.heap.size = xb at *
  have hpf := codeFault_any (HA.out W4 B4.out) (by omega) many m0 m1
  rw [HPF.out] at hpf
  go_wp2_with fail
  refine hpf.mono ?_
  rintro e w5 ⟨rfl, hb5⟩
  have S5 : Below W4.heap.size W4 (w5.alloc (.cells #[.int .i64 0, .int .i64 (-1)] 37)) := hb5.trans ((alloc_belowG _ _).mono hb5.size)
  have B6 : Hid (Below w.heap.size w (w5.alloc (.cells #[.int .i64 0, .int .i64 (-1)] 37))) := B4.out.trans (S5.mono B4.out.size)
  have P6 : Hid (RowIs (w5.alloc (.cells #[.int .i64 0, .int .i64 (-1)] 37)) w.heap.size 29 45 fP) := P4.out.stays S5
  have X6 : Hid (CBox (w5.alloc (.cells #[.int .i64 0, .int .i64 (-1)] 37)) xb pc many (.slice a3 l.length c3)) := X4.out.stays S5
  have O6 : Hid (Below xb w3 (w5.alloc (.cells #[.int .i64 0, .int .i64 (-1)] 37)) ∧ xb ≤ ((w5.alloc (.cells #[.int .i64 0, .int .i64 (-1)] 37))).heap.size) := ⟨O4.out.1.trans (S5.mono O4.out.2), Nat.le_trans O4.out.2 S5.size⟩
  have F6 : Hid (FBx (w5.alloc (.cells #[.int .i64 0, .int .i64 (-1)] 37)) w5.heap.size 0 (-1)) := FBx.new _ _ _
  have hxf : xb < w5.heap.size := by have := X4.out.lt; have := hb5.size; omega
  have hwf : w.heap.size ≤ w5.heap.size := by have := B4.out.size; have := hb5.size; omega
  have hnx : xb ≠ w.heap.size := by omega
  clear hpf hb5 S5
  clear B4 P4 X4 O4
  go_upto_region 6 with fail
  generalize w5.alloc (.cells #[.int .i64 0, .int .i64 (-1)] 37) = W6 at *
  generalize w5.heap.size = fb at *
  have hl6 := hldp W6 P6.out
  go_upto_region 7 with (first | (refine wpList_loadT 29 _ (by rfl) w.heap.size _ (by rfl) (by rfl) hl6 ?_) | (go_at_call 13; refine (hpla _).mono ?_; rintro e wc ⟨rfl, hbc⟩; clear hl6) | (refine wpList_allocSt rfl rfl ?_) | (refine wpList_storeSt rfl _ _ rfl (stA zS) (stA T0) rfl rfl (stA_size _) (stA_size _) (stA_one _) ?_))
  have SD : Below W6.heap.size W6 (wc.alloc (.cells (stA T0) 26)) := hbc.trans ((alloc_belowG _ _).mono hbc.size)
  have BD : Hid (Below w.heap.size w (wc.alloc (.cells (stA T0) 26))) := B6.out.trans (SD.mono B6.out.size)
  have PD : Hid (RowIs (wc.alloc (.cells (stA T0) 26)) w.heap.size 29 45 fP) := P6.out.stays SD
  have XD : Hid (CBox (wc.alloc (.cells (stA T0) 26)) xb pc many (.slice a3 l.length c3)) := X6.out.stays SD
  have OD : Hid (Below xb w3 (wc.alloc (.cells (stA T0) 26)) ∧ xb ≤ ((wc.alloc (.cells (stA T0) 26))).heap.size) := ⟨O6.out.1.trans (SD.mono O6.out.2), Nat.le_trans O6.out.2 SD.size⟩
  have FD : Hid (FBx (wc.alloc (.cells (stA T0) 26)) fb 0 (-1)) := F6.out.stays SD
  have S0D : Hid (StRow (wc.alloc (.cells (stA T0) 26)) wc.heap.size T0) := st_rowG wc T0
  have hs1w : W6.heap.size ≤ wc.heap.size := hbc.size
  have hxs : xb < wc.heap.size := by have := X6.out.lt; omega
  have hfs : fb < wc.heap.size := by have := F6.out.lt; omega
  have hps : w.heap.size < wc.heap.size := by have := P6.out.lt; omega
  clear hpla hbc SD
  clear B6 P6 X6 O6 F6
  generalize wc.alloc (.cells (stA T0) 26) = WD at *
  generalize wc.heap.size = s0 at *
  have hq0 : s0 < WD.heap.size := S0D.out.lt
  have c36 := S0D.out.cell (j := 36) (by omega)
  have f36 := S0D.out.fz 36
  go_upto_region 9 with fail
  have hoth : ∀ k, k ≠ s0 → (WD.setCell ⟨s0, 36, none⟩ (.bool true)).heap[k]? = WD.heap[k]? := fun k hk => Below.heap_setCell _ ⟨s0, 36, none⟩ _ k hk
  have BE : Hid (Below w.heap.size w (WD.setCell ⟨s0, 36, none⟩ (.bool true))) := BD.out.setCell (p := ⟨s0, 36, none⟩) (by show w.heap.size ≤ s0; omega) _
  have PE : Hid (RowIs (WD.setCell ⟨s0, 36, none⟩ (.bool true)) w.heap.size 29 45 fP) := PD.out.block (hoth _ (by omega))
  have XE : Hid (CBox (WD.setCell ⟨s0, 36, none⟩ (.bool true)) xb pc many (.slice a3 l.length c3)) := CBox.blockH XD.out (hoth _ (by omega))
  have OE : Hid (Below xb w3 (WD.setCell ⟨s0, 36, none⟩ (.bool true)) ∧ xb ≤ ((WD.setCell ⟨s0, 36, none⟩ (.bool true))).heap.size) := ⟨OD.out.1.setCell (p := ⟨s0, 36, none⟩) (by show xb ≤ s0; omega) _, by have := OD.out.2; simp; omega⟩
  have FE : Hid (FBx (WD.setCell ⟨s0, 36, none⟩ (.bool true)) fb 0 (-1)) := FBx.blockH FD.out (hoth _ (by omega))
  have S0E : Hid (StRow (WD.setCell ⟨s0, 36, none⟩ (.bool true)) s0 { T0 with sl := true }) := S0D.out.put 36 (.bool true) (stV { T0 with sl := true }) rfl (fun j hj hn => by unfold stV; simp [hn])
  clear c36 f36 BD PD XD OD FD S0D hoth
  generalize (WD.setCell ⟨s0, 36, none⟩ (.bool true)) = WE at *
  obtain ⟨TA, hTA⟩ : ∃ TA : St, TA = { T0 with sl := true } := ⟨_, rfl⟩
  have HTE : Hid (TA = { T0 with sl := true }) := hTA
  rw [← hTA] at S0E
  clear hTA
  have hckk := check_any (peS S) (HE.out WE.drew BE.out.drew) (HO3.out WE.drew OE.out.1.drew) (by omega) pc many m0 m1
  rw [HPF.out] at hckk
  have hbD : Below WE.heap.size WE WE.drew := (Below.refl _ _).drew
  have ck : CBox WE.drew xb pc many (.slice a3 l.length c3) ∧ FBx WE.drew fb 0 (-1) := ⟨XE.out.stays hbD, FE.out.stays hbD⟩
  clear hbD
  refine wp_region_phase 5 [(0, 1), (2, 1), (1, 2), (3, 2), (4, 0)] (fun W => CBox W xb pc many (.slice a3 l.length c3) ∧ FBx W fb 0 (-1)) (by kernel_rfl) (by kernel_rfl) (fun _ _ _ d _ h => by cases d <;> exact h) ck ?_
  refine wpPlanZ_quiet (by rfl) (by rfl) (fun W hW => by (obtain ⟨⟨h0, h1, h2⟩, _⟩ := hW; go_simp; try with_reducible rfl)) (fun K hK => ?_); go_simp; refine hK _ ?_; clear hK K
  refine wpPlanZ_quiet (by rfl) (by rfl) (fun W hW => by (obtain ⟨_, ⟨h0, h1, _⟩⟩ := hW; go_simp; try with_reducible rfl)) (fun K hK => ?_); go_simp; refine hK _ ?_; clear hK K
  refine wpPlanZ_serial (by rfl) (by rfl) (fun K hK => ?_)
  go_simp
  refine hckk.mono ?_
  rintro e wf ⟨⟨xv, rfl, hCx⟩, hbf⟩
  have hbE : Below WE.heap.size WE wf := (Below.refl _ _).drew.trans hbf
  refine hK _ _ (fun _ => ⟨XE.out.stays hbE, FE.out.stays hbE⟩) ?_
  clear hK K hckk
  have hfl := faulted_any S (HEE.out wf (BE.out.trans (hbE.mono BE.out.size))) (0, (-1)) xv hCx (.inl rfl)
  refine wpPlanZ_serial (by rfl) (by rfl) (fun K hK => ?_)
  go_simp
  refine hfl.mono ?_
  rintro e wg ⟨rfl, hbg⟩
  have hbG : Below WE.heap.size WE wg := hbE.trans (hbg.mono hbE.size)
  refine hK _ _ (fun _ => ⟨XE.out.stays hbG, FE.out.stays hbG⟩) ?_
  clear hK K hfl hCx
  refine wpPlanZ_free (by rfl) (by rfl) (fun W => by (go_simp; try with_reducible rfl)) (fun K hK => ?_); go_simp; refine hK _ ?_; clear hK K
  refine wpPlanZ_nil ?_
  have B6 : Hid (Below w.heap.size w wg) := BE.out.trans (hbG.mono BE.out.size)
  have P6 : Hid (RowIs wg w.heap.size 29 45 fP) := PE.out.stays hbG
  have X6 : Hid (CBox wg xb pc many (.slice a3 l.length c3)) := XE.out.stays hbG
  have O6 : Hid (Below xb w3 wg ∧ xb ≤ (wg).heap.size) := ⟨OE.out.1.trans (hbG.mono OE.out.2), Nat.le_trans OE.out.2 hbG.size⟩
  have F6 : Hid (FBx wg fb 0 (-1)) := FE.out.stays hbG
  have S06 : Hid (StRow wg s0 TA) := S0E.out.stays hbG
  have hsg0 : s0 < wg.heap.size := S06.out.lt
  clear hbE hbG hbf hbg ck
  clear BE PE XE OE FE S0E
  go_upto_region 11 with fail
  obtain ⟨x0, x1, x2⟩ := X6.out
  have hx6 := X6.out.lt
  have hni := ieval_nil (peS S) (HE.out wg B6.out) pc many (.slice a3 l.length c3)
  go_wp2_with fail
  refine hni.mono ?_
  rintro e w7 ⟨rfl, hb7⟩
  have S8 : Below wg.heap.size wg (w7.alloc (.cells #[.bool false, .int .i64 0] 45)) := hb7.trans ((alloc_belowG _ _).mono hb7.size)
  have B8 : Hid (Below w.heap.size w (w7.alloc (.cells #[.bool false, .int .i64 0] 45))) := B6.out.trans (S8.mono B6.out.size)
  have P8 : Hid (RowIs (w7.alloc (.cells #[.bool false, .int .i64 0] 45)) w.heap.size 29 45 fP) := P6.out.stays S8
  have X8 : Hid (CBox (w7.alloc (.cells #[.bool false, .int .i64 0] 45)) xb pc many (.slice a3 l.length c3)) := X6.out.stays S8
  have O8 : Hid (Below xb w3 (w7.alloc (.cells #[.bool false, .int .i64 0] 45)) ∧ xb ≤ ((w7.alloc (.cells #[.bool false, .int .i64 0] 45))).heap.size) := ⟨O6.out.1.trans (S8.mono O6.out.2), Nat.le_trans O6.out.2 S8.size⟩
  have F8 : Hid (FBx (w7.alloc (.cells #[.bool false, .int .i64 0] 45)) fb 0 (-1)) := F6.out.stays S8
  have S08 : Hid (StRow (w7.alloc (.cells #[.bool false, .int .i64 0] 45)) s0 TA) := S06.out.stays S8
  clear x0 x1 x2 hx6 hni hb7 S8
  clear B6 P6 X6 O6 F6 S06
  go_upto_region 12 with fail
  generalize w7.alloc (.cells #[.bool false, .int .i64 0] 45) = W8 at *
  have hcd : Calls Tryz.prog 17 #[.iface 311 (.pointer (some (peS S 3))), .int .i64 3] W8 fun e w' => e = .returned (.bool true) ∧ Below W8.heap.size W8 w' := coded_any S (HEE.out W8 B8.out) 3 (by omega) (by omega)
  go_wp2_with fail
  refine hcd.mono ?_
  rintro e w9 ⟨rfl, hb9⟩
  have B9 : Hid (Below w.heap.size w w9) := B8.out.trans (hb9.mono B8.out.size)
  have P9 : Hid (RowIs w9 w.heap.size 29 45 fP) := P8.out.stays hb9
  have X9 : Hid (CBox w9 xb pc many (.slice a3 l.length c3)) := X8.out.stays hb9
  have O9 : Hid (Below xb w3 w9 ∧ xb ≤ (w9).heap.size) := ⟨O8.out.1.trans (hb9.mono O8.out.2), Nat.le_trans O8.out.2 hb9.size⟩
  have F9 : Hid (FBx w9 fb 0 (-1)) := F8.out.stays hb9
  have S09 : Hid (StRow w9 s0 TA) := S08.out.stays hb9
  clear hcd hb9
  clear B8 P8 X8 O8 F8 S08
  obtain ⟨y0, y1, fz⟩ := F9.out
  have hf9 := F9.out.lt
  have hba := fun W => bare_any 9 W
  go_upto_region 15 with fail
  go_wp2_with fail
  refine (hba _).mono ?_
  rintro e wa1 ⟨rfl, hba1⟩
  have Fa := F9.out.stays hba1
  have FaP : Hid (FBx ((wa1.setCell ⟨fb, 0, none⟩ (.int .i64 9)).setCell ⟨fb, 1, none⟩ (.int .i64 (-1))) fb 9 (-1)) := Fa.put 9 (-1)
  have Ba1 := B9.out.trans (hba1.mono B9.out.size)
  have BaP : Hid (Below w.heap.size w ((wa1.setCell ⟨fb, 0, none⟩ (.int .i64 9)).setCell ⟨fb, 1, none⟩ (.int .i64 (-1)))) := (Ba1.setCell (p := ⟨fb, 0, none⟩) hwf _).setCell (p := ⟨fb, 1, none⟩) hwf _
  have hoth : ∀ k, k ≠ fb → ((wa1.setCell ⟨fb, 0, none⟩ (.int .i64 9)).setCell ⟨fb, 1, none⟩ (.int .i64 (-1))).heap[k]? = wa1.heap[k]? := fun k hk => (Below.heap_setCell _ ⟨fb, 1, none⟩ _ k hk).trans (Below.heap_setCell _ ⟨fb, 0, none⟩ _ k hk)
  have PaP : Hid (RowIs ((wa1.setCell ⟨fb, 0, none⟩ (.int .i64 9)).setCell ⟨fb, 1, none⟩ (.int .i64 (-1))) w.heap.size 29 45 fP) := (P9.out.stays hba1).block (hoth _ (by have := hwf; omega))
  have XaP : Hid (CBox ((wa1.setCell ⟨fb, 0, none⟩ (.int .i64 9)).setCell ⟨fb, 1, none⟩ (.int .i64 (-1))) xb pc many (.slice a3 l.length c3)) := CBox.blockH (X9.out.stays hba1) (hoth _ (by omega))
  have OaP : Hid (Below xb w3 ((wa1.setCell ⟨fb, 0, none⟩ (.int .i64 9)).setCell ⟨fb, 1, none⟩ (.int .i64 (-1))) ∧ xb ≤ ((wa1.setCell ⟨fb, 0, none⟩ (.int .i64 9)).setCell ⟨fb, 1, none⟩ (.int .i64 (-1))).heap.size) := ⟨((O9.out.1.trans (hba1.mono O9.out.2)).setCell (p := ⟨fb, 0, none⟩) (Nat.le_of_lt hxf) _).setCell (p := ⟨fb, 1, none⟩) (Nat.le_of_lt hxf) _, by have := O9.out.2; have := hba1.size; simp; omega⟩
  have S0aP : Hid (StRow ((wa1.setCell ⟨fb, 0, none⟩ (.int .i64 9)).setCell ⟨fb, 1, none⟩ (.int .i64 (-1))) s0 TA) := (S09.out.stays hba1).block (hoth _ (by omega))
  have za := Fa.lt
  obtain ⟨ya0, ya1, fza⟩ := Fa
  clear y0 y1 fz hf9 hba hba1 B9 P9 X9 O9 F9 S09 Ba1 hoth
  go_upto_region 16 with fail
  generalize (wa1.setCell ⟨fb, 0, none⟩ (.int .i64 9)).setCell ⟨fb, 1, none⟩ (.int .i64 (-1)) = w9 at *
  clear ya0 ya1 fza za
  have B9 := BaP
  have P9 := PaP
  have X9 := XaP
  have O9 := OaP
  have F9 := FaP
  have S09 := S0aP
  clear BaP PaP XaP OaP FaP S0aP
  have hl9 := hldp w9 P9.out
  have hme := HME.out w9 B9.out
  go_upto_region 17 with (first | (refine wpList_loadT 29 _ (by rfl) w.heap.size _ (by rfl) (by rfl) hl9 ?_) | (go_at_call 19; refine hme.mono ?_; rintro e wh ⟨sb, bp, bw, bh, rfl, hRh, hbh, g1, g2, g3, g4⟩; clear hl9))
  have BH : Hid (Below w.heap.size w wh) := B9.out.trans (hbh.mono B9.out.size)
  have PH : Hid (RowIs wh w.heap.size 29 45 fP) := P9.out.stays hbh
  have XH : Hid (CBox wh xb pc many (.slice a3 l.length c3)) := X9.out.stays hbh
  have OH : Hid (Below xb w3 wh ∧ xb ≤ (wh).heap.size) := ⟨O9.out.1.trans (hbh.mono O9.out.2), Nat.le_trans O9.out.2 hbh.size⟩
  have FH : Hid (FBx wh fb 9 (-1)) := F9.out.stays hbh
  have S0H : Hid (StRow wh s0 TA) := S09.out.stays hbh
  have RH : Hid (RamIs wh sb bp bw bh 65 (mw xs) (wtP wa) (fun _ => false)) := hRh
  have hlH := ram_ltG hRh
  have hsh := hbh.size
  have hq09 : s0 < w9.heap.size := S09.out.lt
  have hqf9 : fb < w9.heap.size := F9.out.lt
  have hqx9 : xb < w9.heap.size := X9.out.lt
  clear hme hbh hRh
  clear B9 P9 X9 O9 F9 S09
  have hlH2 := hldp wh PH.out
  have hmo := HMO.out wh BH.out
  go_upto_region 18 with (first | (refine wpList_loadT 29 _ (by rfl) w.heap.size _ (by rfl) (by rfl) hlH2 ?_) | (go_at_call 20; refine hmo.mono ?_; rintro e wm ⟨rb, gb, kb, hb, rfl, hDi, hbi, d1, d2, d3, d4⟩; clear hlH2))
  have BM : Hid (Below w.heap.size w wm) := BH.out.trans (hbi.mono BH.out.size)
  have PM : Hid (RowIs wm w.heap.size 29 45 fP) := PH.out.stays hbi
  have XM : Hid (CBox wm xb pc many (.slice a3 l.length c3)) := XH.out.stays hbi
  have OM : Hid (Below xb w3 wm ∧ xb ≤ (wm).heap.size) := ⟨OH.out.1.trans (hbi.mono OH.out.2), Nat.le_trans OH.out.2 hbi.size⟩
  have FM : Hid (FBx wm fb 9 (-1)) := FH.out.stays hbi
  have S0M : Hid (StRow wm s0 TA) := S0H.out.stays hbi
  have RM : Hid (RamIs wm sb bp bw bh 65 (mw xs) (wtP wa) (fun _ => false)) := RH.out.stays hbi (Nat.le_refl _)
  have DM : Hid (DMem wm rb gb kb hb (mw xs) (fun p => decide (p = wa)) (fun _ => false)) := hDi
  have hdl := hDi.hlt
  have hsi := hbi.size
  clear hmo hbi hDi hldp HMO HME HX
  clear BH PH XH OH FH S0H RH
  have lk := load_st S0M.out.at
  go_upto_region 19 with (first | (refine wpList_loadT 26 _ (by rfl) s0 _ (by rfl) (by rfl) lk ?_) | (refine wpList_allocSt rfl rfl ?_) | (refine wpList_storeSt rfl _ _ rfl (stA zS) (stA TA) rfl rfl (stA_size _) (stA_size _) (stA_one _) ?_))
  have SG : Below wm.heap.size wm (wm.alloc (.cells (stA TA) 26)) := alloc_belowG _ _
  have BG : Hid (Below w.heap.size w (wm.alloc (.cells (stA TA) 26))) := BM.out.trans (SG.mono BM.out.size)
  have XG : Hid (CBox (wm.alloc (.cells (stA TA) 26)) xb pc many (.slice a3 l.length c3)) := XM.out.stays SG
  have OG : Hid (Below xb w3 (wm.alloc (.cells (stA TA) 26)) ∧ xb ≤ ((wm.alloc (.cells (stA TA) 26))).heap.size) := ⟨OM.out.1.trans (SG.mono OM.out.2), Nat.le_trans OM.out.2 SG.size⟩
  have FG : Hid (FBx (wm.alloc (.cells (stA TA) 26)) fb 9 (-1)) := FM.out.stays SG
  have S0G : Hid (StRow (wm.alloc (.cells (stA TA) 26)) s0 TA) := S0M.out.stays SG
  have RG : Hid (RamIs (wm.alloc (.cells (stA TA) 26)) sb bp bw bh 65 (mw xs) (wtP wa) (fun _ => false)) := RM.out.stays SG (Nat.le_refl _)
  have DG : Hid (DMem (wm.alloc (.cells (stA TA) 26)) rb gb kb hb (mw xs) (fun p => decide (p = wa)) (fun _ => false)) := DM.out.stays SG
  have S1G : Hid (StRow (wm.alloc (.cells (stA TA) 26)) wm.heap.size TA) := st_rowG wm TA
  have hzG : wm.heap.size < (wm.alloc (.cells (stA TA) 26)).heap.size := by simp
  clear lk SG PM
  clear BM XM OM FM S0M RM DM
  generalize wm.alloc (.cells (stA TA) 26) = WG at *
  generalize wm.heap.size = s1 at *
  have lk := load_st S0G.out.at
  go_upto_region 20 with (first | (refine wpList_loadT 26 _ (by rfl) s0 _ (by rfl) (by rfl) lk ?_) | (refine wpList_allocSt rfl rfl ?_) | (refine wpList_storeSt rfl _ _ rfl (stA zS) (stA TA) rfl rfl (stA_size _) (stA_size _) (stA_one _) ?_))
  have SG : Below WG.heap.size WG (WG.alloc (.cells (stA TA) 26)) := alloc_belowG _ _
  have BI : Hid (Below w.heap.size w (WG.alloc (.cells (stA TA) 26))) := BG.out.trans (SG.mono BG.out.size)
  have XI : Hid (CBox (WG.alloc (.cells (stA TA) 26)) xb pc many (.slice a3 l.length c3)) := XG.out.stays SG
  have OI : Hid (Below xb w3 (WG.alloc (.cells (stA TA) 26)) ∧ xb ≤ ((WG.alloc (.cells (stA TA) 26))).heap.size) := ⟨OG.out.1.trans (SG.mono OG.out.2), Nat.le_trans OG.out.2 SG.size⟩
  have FI : Hid (FBx (WG.alloc (.cells (stA TA) 26)) fb 9 (-1)) := FG.out.stays SG
  have S1I : Hid (StRow (WG.alloc (.cells (stA TA) 26)) s1 TA) := S1G.out.stays SG
  have RI : Hid (RamIs (WG.alloc (.cells (stA TA) 26)) sb bp bw bh 65 (mw xs) (wtP wa) (fun _ => false)) := RG.out.stays SG (Nat.le_refl _)
  have DI : Hid (DMem (WG.alloc (.cells (stA TA) 26)) rb gb kb hb (mw xs) (fun p => decide (p = wa)) (fun _ => false)) := DG.out.stays SG
  have S2I : Hid (StRow (WG.alloc (.cells (stA TA) 26)) WG.heap.size TA) := st_rowG WG TA
  have hzI : WG.heap.size < (WG.alloc (.cells (stA TA) 26)).heap.size := by simp
  clear lk SG S0G
  clear BG XG OG FG S1G RG DG
  generalize WG.alloc (.cells (stA TA) 26) = wi at *
  generalize WG.heap.size = s2 at *
  obtain ⟨x0, x1, x2⟩ := XI.out
  have hx6 := XI.out.lt
  have hrun := ieval_align (peS S) (HE.out wi BI.out) (sb := sb) S1I.out (HO3.out wi OI.out.1) (by omega) pc many p0 p1 m0 m1 HPF.out (by rw [HTE.out]; exact .inl rfl)
  go_wp2_with fail
  refine hrun.mono ?_
  rintro e wj ⟨rfl, hbj⟩
  obtain ⟨G, hG⟩ : ∃ G : St, G = TA := ⟨_, rfl⟩
  have hout : HOut wi wj s1 sb bp bw bh (wtP wa) (fun _ => false) G (mw xs) := by rw [hG]; exact HOut.of_below S1I.out RI.out hbj
  have HGA : Hid (stA G = stA TA) := by show _ = _; rw [hG]
  clear hG hbj
  have hHB : Below w.heap.size w wj := hout.below BI.out (by omega) (by omega) (by omega)
  have bkj : ∀ k, k < wi.heap.size → k ≠ s1 → k ≠ bp → k ≠ bh → wj.heap[k]? = wi.heap[k]? := hout.bk
  have SK : Below wj.heap.size wj (wj.alloc (.cells #[.bool false, .int .i64 0] 45)) := alloc_belowG _ _
  have BK : Hid (Below w.heap.size w (wj.alloc (.cells #[.bool false, .int .i64 0] 45))) := hHB.trans (SK.mono hHB.size)
  have FK : Hid (FBx (wj.alloc (.cells #[.bool false, .int .i64 0] 45)) fb 9 (-1)) := (FBx.blockH FI.out (bkj fb (by omega) (by omega) (by omega) (by omega))).stays SK
  have S1K : Hid (StRow (wj.alloc (.cells #[.bool false, .int .i64 0] 45)) s1 G) := hout.st.stays SK
  have S2K : Hid (StRow (wj.alloc (.cells #[.bool false, .int .i64 0] 45)) s2 TA) := (S2I.out.block (bkj s2 (by omega) (by omega) (by omega) (by omega))).stays SK
  have RK : Hid (∃ N', RamIs (wj.alloc (.cells #[.bool false, .int .i64 0] 45)) sb bp bw bh N' (mw xs) (wtP wa) (fun _ => false)) := by obtain ⟨N', h⟩ := hout.rm; exact ⟨N', h.stays SK (Nat.le_refl _)⟩
  have DK : Hid (DMem (wj.alloc (.cells #[.bool false, .int .i64 0] 45)) rb gb kb hb (mw xs) (fun p => decide (p = wa)) (fun _ => false)) := (DI.out.blocksP fun k hk => bkj k (by omega) (by omega) (by omega) (by omega)).stays SK
  have CK : Hid (CErr (peS S) (wj.alloc (.cells #[.bool false, .int .i64 0] 45)) (9, (-1)) (.iface 311 (.pointer (some (peS S 9))))) := CErr.staysH (.inl ⟨rfl, rfl⟩ : CErr (peS S) wj (9, (-1)) (.iface 311 (.pointer (some (peS S 9))))) SK
  have ek0 : (wj.alloc (.cells #[.bool false, .int .i64 0] 45)).cell? ⟨wj.heap.size, 0, none⟩ = some (.bool false) := by simp
  have ek1 : (wj.alloc (.cells #[.bool false, .int .i64 0] 45)).cell? ⟨wj.heap.size, 1, none⟩ = some (.int .i64 0) := by simp
  have hsj := hout.sz
  clear hrun hout hHB bkj SK BI XI OI FI S1I S2I RI DI x0 x1 x2 hx6
  go_upto_region 21 with fail
  generalize wj.alloc (.cells #[.bool false, .int .i64 0] 45) = WK at *
  generalize hej : wj.heap.size = eb at *
  have hek := World.block_lt_of_cell? _ _ ek0
  obtain ⟨y0, y1, fz⟩ := FK.out
  have hfk := FK.out.lt
  have hflt := faulted_any S (HEE.out WK BK.out) (9, (-1)) _ CK.out (.inr ⟨by decide, by decide⟩)
  go_wp2_with fail
  refine hflt.mono ?_
  rintro e wl ⟨rfl, hbl⟩
  have SM : Below WK.heap.size WK (wl.alloc (.cells #[.bool false, .int .i64 0, .bool false] 56)) := hbl.trans ((alloc_belowG _ _).mono hbl.size)
  have BM : Hid (Below w.heap.size w (wl.alloc (.cells #[.bool false, .int .i64 0, .bool false] 56))) := BK.out.trans (SM.mono BK.out.size)
  have FM : Hid (FBx (wl.alloc (.cells #[.bool false, .int .i64 0, .bool false] 56)) fb 9 (-1)) := FK.out.stays SM
  have S1M : Hid (StRow (wl.alloc (.cells #[.bool false, .int .i64 0, .bool false] 56)) s1 G) := S1K.out.stays SM
  have S2M : Hid (StRow (wl.alloc (.cells #[.bool false, .int .i64 0, .bool false] 56)) s2 TA) := S2K.out.stays SM
  have RM : Hid (∃ N', RamIs (wl.alloc (.cells #[.bool false, .int .i64 0, .bool false] 56)) sb bp bw bh N' (mw xs) (wtP wa) (fun _ => false)) := by obtain ⟨N', h⟩ := RK.out; exact ⟨N', h.stays SM (Nat.le_refl _)⟩
  have DM : Hid (DMem (wl.alloc (.cells #[.bool false, .int .i64 0, .bool false] 56)) rb gb kb hb (mw xs) (fun p => decide (p = wa)) (fun _ => false)) := DK.out.stays SM
  have em0 : (wl.alloc (.cells #[.bool false, .int .i64 0, .bool false] 56)).cell? ⟨eb, 0, none⟩ = some (.bool false) := (SM.cell (p := ⟨eb, 0, none⟩) hek).trans ek0
  have em1 : (wl.alloc (.cells #[.bool false, .int .i64 0, .bool false] 56)).cell? ⟨eb, 1, none⟩ = some (.int .i64 0) := (SM.cell (p := ⟨eb, 1, none⟩) hek).trans ek1
  have wm : EBox (wl.alloc (.cells #[.bool false, .int .i64 0, .bool false] 56)) wl.heap.size := EBox.new wl
  have wm0 : (wl.alloc (.cells #[.bool false, .int .i64 0, .bool false] 56)).cell? ⟨wl.heap.size, 0, none⟩ = some (.bool false) := by simp
  have wm1 : (wl.alloc (.cells #[.bool false, .int .i64 0, .bool false] 56)).cell? ⟨wl.heap.size, 1, none⟩ = some (.int .i64 0) := by simp
  have hsl := hbl.size
  have hwe : eb < wl.heap.size := by omega
  clear hflt hbl SM y0 y1 fz hfk hek BK FK S1K S2K RK DK CK ek0 ek1
  go_upto_region 24 with fail
  generalize wl.alloc (.cells #[.bool false, .int .i64 0, .bool false] 56) = WM at *
  generalize hel : wl.heap.size = wb at *
  obtain ⟨y0, y1, fz⟩ := FM.out
  have hfm := FM.out.lt
  have ce0 := em0
  have ce1 := em1
  have cw0 := wm0
  have cw1 := wm1
  have S1Z := S1M.out
  have S2Z := S2M.out
  have RZ := RM
  have gc1 := DM.out.d.c0
  have CW := fun i (hi : i < 4096) => DM.out.d.cell i hi
  have CD := gc1
  have BZ := BM
  obtain ⟨gc, hgc⟩ : ∃ gc, gc = gb := ⟨_, rfl⟩
  rw [← hgc] at CW CD
  go_upto_region 26 with fail
  clear hgc gc1 em0 em1 wm wm0 wm1 S1M S2M RM DM FM y0 y1 fz hfm BM
  generalize hF2 : TA = F2 at *
  generalize hMM : mw xs = MZ at *
  obtain ⟨N', hRZ⟩ := RZ.out
  have hwd := words_any (w := WM.drew) (RamIs.drew hRZ)
  have ck : Ck28 WM.drew eb wb s1 s2 rb gc false 0 G F2 := ⟨ce0, ce1, cw0, cw1, CD, (StRow.at S1Z).drew, (StRow.at S2Z).drew⟩
  have HCW : Hid (∀ i, i < 4096 → WM.drew.cell? ⟨gc, i, none⟩ = some (.int .u32 (MZ i))) := CW
  clear ce0 ce1 cw0 cw1 CD S1Z S2Z hRZ RZ CW
  refine wp_region_phase 28 [(0, 0), (1, 1), (2, 0), (3, 1), (4, 0), (5, 0), (6, 0), (7, 1), (8, 0), (9, 1), (10, 0), (11, 0), (12, 0), (13, 1), (14, 1), (15, 0), (16, 0), (17, 0), (18, 0), (20, 0), (21, 0), (22, 0), (23, 1), (19, 2), (24, 2), (25, 0), (26, 0), (27, 0)] (fun W => Ck28 W eb wb s1 s2 rb gc false 0 G F2) (by kernel_rfl) (by kernel_rfl) (fun _ _ _ d _ h => by cases d <;> exact h) ck ?_
  refine wpPlanZ_free (by rfl) (by rfl) (fun W => by (go_simp; try with_reducible rfl)) (fun K hK => ?_); go_simp; refine hK _ ?_; clear hK K
  refine wpPlanZ_quiet (by rfl) (by rfl) (fun W hW => by (obtain ⟨h0, h1, h2, h3, h4, _, _⟩ := hW; go_simp; try with_reducible rfl)) (fun K hK => ?_); go_simp; refine hK _ ?_; clear hK K
  refine wpPlanZ_free (by rfl) (by rfl) (fun W => by (go_simp; try with_reducible rfl)) (fun K hK => ?_); go_simp; refine hK _ ?_; clear hK K
  refine wpPlanZ_quiet (by rfl) (by rfl) (fun W hW => by (obtain ⟨h0, h1, h2, h3, h4, _, _⟩ := hW; go_simp; try with_reducible rfl)) (fun K hK => ?_); go_simp; refine hK _ ?_; clear hK K
  refine wpPlanZ_free (by rfl) (by rfl) (fun W => by (go_simp; try with_reducible rfl)) (fun K hK => ?_); go_simp; refine hK _ ?_; clear hK K
  refine wpPlanZ_free (by rfl) (by rfl) (fun W => by (go_simp; try with_reducible rfl)) (fun K hK => ?_); go_simp; refine hK _ ?_; clear hK K
  refine wpPlanZ_free (by rfl) (by rfl) (fun W => by (go_simp; try with_reducible rfl)) (fun K hK => ?_); go_simp; refine hK _ ?_; clear hK K
  refine wpPlanZ_quiet (by rfl) (by rfl) (fun W hW => by (obtain ⟨h0, h1, h2, h3, h4, _, _⟩ := hW; go_simp; try with_reducible rfl)) (fun K hK => ?_); go_simp; refine hK _ ?_; clear hK K
  refine wpPlanZ_free (by rfl) (by rfl) (fun W => by (go_simp; try with_reducible rfl)) (fun K hK => ?_); go_simp; refine hK _ ?_; clear hK K
  refine wpPlanZ_quiet (by rfl) (by rfl) (fun W hW => by (obtain ⟨h0, h1, h2, h3, h4, _, _⟩ := hW; go_simp; try with_reducible rfl)) (fun K hK => ?_); go_simp; refine hK _ ?_; clear hK K
  refine wpPlanZ_free (by rfl) (by rfl) (fun W => by (go_simp; try with_reducible rfl)) (fun K hK => ?_); go_simp; refine hK _ ?_; clear hK K
  refine wpPlanZ_free (by rfl) (by rfl) (fun W => by (go_simp; try with_reducible rfl)) (fun K hK => ?_); go_simp; refine hK _ ?_; clear hK K
  refine wpPlanZ_free (by rfl) (by rfl) (fun W => by (go_simp; try with_reducible rfl)) (fun K hK => ?_); go_simp; refine hK _ ?_; clear hK K
  refine wpPlanZ_quiet (v := .agg (stA G)) (by rfl) (by rfl) (fun W hW => exec_load rfl rfl W (load_st hW.x)) (fun K hK => ?_)
  go_simp
  refine hK _ ?_
  clear hK K
  refine wpPlanZ_quiet (v := .agg (stA G)) (by rfl) (by rfl) (fun W hW => exec_load rfl rfl W (by rw [HGA.out]; exact load_st hW.y)) (fun K hK => ?_)
  go_simp
  refine hK _ ?_
  clear hK K
  refine wpPlanZ_free (v := .bool true) (by rfl) (by rfl) (fun W => exec_eq rfl rfl rfl W (eq_st G W)) (fun K hK => ?_)
  go_simp
  refine hK _ ?_
  clear hK K
  refine wpPlanZ_free (by rfl) (by rfl) (fun W => by (go_simp; try with_reducible rfl)) (fun K hK => ?_); go_simp; refine hK _ ?_; clear hK K
  refine wpPlanZ_free (by rfl) (by rfl) (fun W => by (go_simp; try with_reducible rfl)) (fun K hK => ?_); go_simp; refine hK _ ?_; clear hK K
  refine wpPlanZ_free (by rfl) (by rfl) (fun W => by (go_simp; try with_reducible rfl)) (fun K hK => ?_); go_simp; refine hK _ ?_; clear hK K
  refine wpPlanZ_free (by rfl) (by rfl) (fun W => by (go_simp; try with_reducible rfl)) (fun K hK => ?_); go_simp; refine hK _ ?_; clear hK K
  refine wpPlanZ_free (by rfl) (by rfl) (fun W => by (go_simp; try with_reducible rfl)) (fun K hK => ?_); go_simp; refine hK _ ?_; clear hK K
  refine wpPlanZ_free (by rfl) (by rfl) (fun W => by (go_simp; try with_reducible rfl)) (fun K hK => ?_); go_simp; refine hK _ ?_; clear hK K
  refine wpPlanZ_quiet (by rfl) (by rfl) (fun W hW => by (obtain ⟨h0, h1, h2, h3, h4, _, _⟩ := hW; go_simp; try with_reducible rfl)) (fun K hK => ?_); go_simp; refine hK _ ?_; clear hK K
  refine wpPlanZ_serial (by rfl) (by rfl) (fun K hK => ?_)
  go_simp
  refine hwd.mono ?_
  rintro e wp ⟨rfl, hcp, hbp⟩
  have hal := alikeD_any (w := wp) (g := WM.drew.heap.size) (h := gc) (n := 4096) (f := MZ) hcp (fun i hi => (hbp.cell (p := ⟨gc, i, none⟩) (World.block_lt_of_cell? _ _ (HCW.out i hi))).trans (HCW.out i hi)) (by omega)
  have BP : Hid (Below w.heap.size w wp) := BZ.out.drew.trans (hbp.mono BZ.out.size)
  have ck2 := ck.stays hbp
  refine hK _ _ (fun _ => ck2) ?_
  clear hK K hwd hbp hcp ck
  refine wpPlanZ_serial (by rfl) (by rfl) (fun K hK => ?_)
  go_simp
  refine hal.mono ?_
  rintro e wq ⟨rfl, hbq⟩
  refine hK _ _ (fun _ => ck2.stays hbq) ?_
  have BQ : Hid (Below w.heap.size w wq) := BP.out.trans (hbq.mono BP.out.size)
  clear hK K hal hbq ck2
  refine wpPlanZ_free (by rfl) (by rfl) (fun W => by (go_simp; try with_reducible rfl)) (fun K hK => ?_); go_simp; refine hK _ ?_; clear hK K
  refine wpPlanZ_free (by rfl) (by rfl) (fun W => by (go_simp; try with_reducible rfl)) (fun K hK => ?_); go_simp; refine hK _ ?_; clear hK K
  refine wpPlanZ_free (by rfl) (by rfl) (fun W => by (go_simp; try with_reducible rfl)) (fun K hK => ?_); go_simp; refine hK _ ?_; clear hK K
  refine wpPlanZ_nil ?_
  go_wp2
  go_ret
  exact ⟨rfl, BQ.out⟩
end Go.Proofs.YtjkencgcdlfjhaaGreatDoor
