/-
  HostAll: the walk, where the instructions are a region's.
-/
import Derived.Test.YtflagpkmebdckaaGreatDoorKLowWell
namespace Go.Proofs.YtflagpkmebdckaaGreatDoor
open Go.RowKit Go.Maps
open Num Low
set_option linter.unusedVariables false
set_option maxRecDepth 100000 in
set_option maxHeartbeats 16000000 in
theorem HaK_any (S : Nat → Addr) {w : World} (E : Ep (peS S) w) (LV : Lv (peS S) w) (T : St) (ok : T.ok) (ct0 : 0 ≤ T.ct) (ct1 : T.ct ≤ 1099511627776) {v : Value} {l : List Ix} (A : InsIn w v l) (hl24 : l.length ≤ 24) {vw : Value} {xs : List Int} (X : WordsIn w vw xs) (hx : xs.length ≤ 200) (wa pc lev : Int) (p0 : 0 ≤ pc) (p1 : pc < 4294967296) (hv : lev = 0 ∨ lev = 1 ∨ lev = 2) (hR : regE l = 0) :
    Calls Tryz.prog 6 #[.int .u32 pc, v, .int .i64 lev, .agg (plA T vw wa)] w fun e w' => e = .returned (.bool true) ∧ Below w.heap.size w w' := by
  have P0 := pl_row w T vw wa
  have B0 : Below w.heap.size w (w.alloc (.cells (plA T vw wa) 50)) := (Below.refl _ _).alloc (Nat.le_refl _) _
  have HE : Hid (∀ W, Below w.heap.size w W → Ep (peS S) W) := fun W hW => E.stays hW
  have HLV : Hid (∀ W, Below w.heap.size w W → Lv (peS S) W) := fun W hW => LV.stays hW (Nat.le_refl _)
  have HIN : Hid (∀ W, Below w.heap.size w W → InsIn W v l) := fun W hW => A.stays hW (Nat.le_refl _)
  have HBD : Hid (∀ o ∈ l, o.bd) := A.bd
  have HX : Hid (∀ W, Below w.heap.size w W → WordsIn W vw xs) := fun W hW => X.stays hW
  have hho := hosted_any (peS S) (E.stays B0)
  have h43 : (plA T vw wa)[43]? = some vw := by rw [plA_get _ _ _ 43 (by omega)]; rfl
  have h42 : (plA T vw wa)[42]? = some (.int .i64 T.ct) := by rw [plA_get _ _ _ 42 (by omega)]; rfl
  have HME : Hid (∀ W, Below w.heap.size w W → Calls Tryz.prog 30 #[.agg (plA T vw wa)] W fun e w' => ∃ sb bp bw bh : Nat, e = .returned (.pointer (some ⟨sb, 0, none⟩)) ∧ RamIs w' sb bp bw bh 65 (mw xs) (wtP wa) (fun _ => false) ∧ Below W.heap.size W w' ∧ W.heap.size ≤ sb ∧ W.heap.size ≤ bp ∧ W.heap.size ≤ bw ∧ W.heap.size ≤ bh) := fun W hW => memory_any (peS S) (HE.out W hW).e T (HX.out W hW) hx wa
  have hlp : ∀ W : World, Calls Tryz.prog 17 #[.agg (plA T vw wa)] W (fun e w' => e = .returned (.bool false) ∧ Below W.heap.size W w') := fun W => by
    obtain ⟨aw, cw, e, _⟩ := X.sh
    have h44 := h43.trans (congrArg some e)
    have hq := longPl_any (w := W) h44 h42
    have hb : (decide (200 < (xs.length : Int)) || decide (T.ct < 0) || decide (1099511627776 < T.ct)) = false := by
      simp only [Bool.or_eq_false_iff, decide_eq_false_iff_not]; omega
    rw [hb] at hq
    exact hq
  have hpla := fun W => placed_any W T vw wa pc p0 p1
  have hldp : ∀ (W : World), RowIs W w.heap.size 50 45 (plV T vw wa) → (loadVar 50 ⟨w.heap.size, 0, none⟩).run Tryz.prog W = .ok (.agg (plA T vw wa)) W := fun (W : World) h => load_place h
  obtain ⟨ao, cap, hve, hcap, _⟩ := A.sh
  subst hve
  obtain ⟨PA, hPA⟩ : ∃ PA, PA = plA T vw wa := ⟨_, rfl⟩
  rw [← hPA] at P0 B0 hlp hldp HME hpla hho ⊢
  obtain ⟨fP, hfP⟩ : ∃ fP, fP = plV T vw wa := ⟨_, rfl⟩
  rw [← hfP] at P0 hldp
  have okT := plS_ok ok ⟨p0, p1⟩
  have HT : Hid ((plS T pc).ok ∧ (plS T pc).ct = T.ct ∧ (plS T pc).sl = false ∧ (plS T pc).pc = pc ∧ (plS T pc).nx = lo (pc + 4) ∧ (plS T pc).r 0 = 0) := ⟨okT, rfl, rfl, rfl, rfl, rfl⟩
  generalize hTT : plS T pc = T0 at *
  have hln : decide ((24 : Int) < (l.length : Int)) = false := decide_eq_false (by omega)
  have hv0 : decide (lev < 0) = false := decide_eq_false (by omega)
  have hv2 : decide ((2 : Int) < lev) = false := decide_eq_false (by omega)
  have HV : Hid (lev = 0 ∨ lev = 1 ∨ lev = 2) := hv
  obtain ⟨i0, hi, hz0, hz1, hz2⟩ := info_parts infoIns
  clear hPA hfP h43 h42 E LV A X ok hTT okT hv
  have hreg : Hid (regE l = 0) := hR
  clear hR
  have hRO := regE_zero hreg.out
  have hl0 := hRO.l0
  have hWL := lowL_well pc hRO
  have hokL := lowL_ok p0 p1 hRO HBD.out
  cases ao with
  | none =>
    exfalso
    obtain ⟨a, c, e, _, hh⟩ := (HIN.out w (Below.refl _ _)).sh
    obtain ⟨b, off, e2, _⟩ := hh (by omega)
    injection e with e1; rw [e2] at e1; cases e1
  | some ad =>
  obtain ⟨LW, hLW⟩ : ∃ q, q = lowL pc l := ⟨_, rfl⟩
  rw [← hLW] at hWL hokL
  have HLW : Hid (lowL pc l = LW) := hLW.symm
  have HWL : Hid (Well l.length LW) := hWL
  have HOK : Hid (∀ o ∈ LW, o.ok) := hokL
  have hl200 : LW.length ≤ 200 := hWL.len
  clear hRO hWL hokL hLW
  go_enter Tryz.func6, Tryz.ntmps6
  go_upto_region 1 with fail
  generalize w.alloc (.cells PA 50) = V at *
  have HP0 : Hid (RowIs V w.heap.size 50 45 fP) := P0
  have HB0 : Hid (Below w.heap.size w V) := B0
  clear P0 B0
  go_wp2_with fail
  refine hho.mono ?_
  rintro e w1 ⟨rfl, hb1⟩
  have B1 : Hid (Below w.heap.size w w1) := HB0.out.trans (hb1.mono HB0.out.size)
  have P1 : Hid (RowIs w1 w.heap.size 50 45 fP) := HP0.out.stays hb1
  have hl1 := hldp w1 P1.out
  clear hho hb1 HB0 HP0
  go_upto_region 4 with (first | (refine wpList_loadT 50 _ (by rfl) w.heap.size _ (by rfl) (by rfl) hl1 ?_) | (go_at_call 17; refine (hlp _).mono ?_; rintro e w2 ⟨rfl, hb2⟩; clear hl1))
  have B2 : Hid (Below w.heap.size w w2) := B1.out.trans (hb2.mono B1.out.size)
  have P2 : Hid (RowIs w2 w.heap.size 50 45 fP) := P1.out.stays hb2
  clear hb2 hlp B1 P1
  have hnews : ∀ j u, (ixL l)[j]? = some u → w2.cell? (ad.add j) = some u := ixL_news (HIN.out w2 B2.out)
  go_upto_region 6 with (first | (at_builtin; refine wpList_append_moved rfl _ _ 48 rfl w2.heap.size 113 i0 (.agg #[.int .i64 0, .int .i64 0, .int .i64 0, .int .i64 0, .int .u32 0]) 5 40 Tryz.underlying48 hi hz0 hz1 hz2 rfl (by decide) (.slice none 0 0) 0 [] rfl (World.ownsRow_nil _ _ _ _) ad l.length cap (ixL l) rfl (ixL_len l) hnews (ixL_one l) (by unfold maxLen; omega) (by omega) (Nat.le_refl _) ?_; intro v3 w3 ho hg hm; rw [Nat.zero_add, List.nil_append] at ho; have A3 : Hid _ := ins_of_row ho HBD.out; have B3 : Hid (Below w2.heap.size w2 w3) := ⟨hg.os, hg.tape, hg.output, hg.size, fun k hk => hg.block k hk (by intro e; cases e)⟩; clear ho hg hm hnews; obtain ⟨ao3, cap3, hv3, _⟩ := A3.out.sh; subst hv3) | (go_at_call 18; refine (lower_ok (HLV.out w3 (B2.out.trans (B3.out.mono B2.out.size))) A3.out pc p0 p1 none 0 0 hreg.out).mono ?_; rintro e w4 ⟨vc, rfl, hOC, hb4⟩; rw [HLW.out] at hOC; obtain ⟨ac, cc, hvc, _⟩ := hOC.sh; subst hvc))
  have SA : Below w2.heap.size w2 (w4.alloc (.cells #[.int .u32 pc, .int .i64 l.length, .slice ac LW.length cc] 54)) := (B3.out.trans (hb4.mono B3.out.size)).trans ((alloc_belowG _ _).mono (by have := B3.out.size; have := hb4.size; omega))
  have B5 : Hid (Below w.heap.size w (w4.alloc (.cells #[.int .u32 pc, .int .i64 l.length, .slice ac LW.length cc] 54))) := B2.out.trans (SA.mono B2.out.size)
  have P5 : Hid (RowIs (w4.alloc (.cells #[.int .u32 pc, .int .i64 l.length, .slice ac LW.length cc] 54)) w.heap.size 50 45 fP) := P2.out.stays SA
  have C5 : Hid (CBox (w4.alloc (.cells #[.int .u32 pc, .int .i64 l.length, .slice ac LW.length cc] 54)) w4.heap.size pc l.length (.slice ac LW.length cc)) := ⟨by simp, by simp, by simp⟩
  have OC5 : Hid (OpsIn (w4.alloc (.cells #[.int .u32 pc, .int .i64 l.length, .slice ac LW.length cc] 54)) (.slice ac LW.length cc) LW) := hOC.stays (alloc_belowG _ _)
  have hwc : w.heap.size < w4.heap.size := by have := P2.out.lt; have := B3.out.size; have := hb4.size; omega
  clear SA hOC hb4 A3 B3 B2 P2
  generalize w4.alloc (.cells #[.int .u32 pc, .int .i64 l.length, .slice ac LW.length cc] 54) = W5 at *
  generalize w4.heap.size = cb at *
  obtain ⟨x0, x1, x2⟩ := C5.out
  have hcb := C5.out.lt
  have hop := opt_any (HE.out W5 B5.out).e OC5.out (by omega) pc l.length lev (by omega) (by omega) (codeF_well.2 HWL.out) HV.out
  go_upto_region 9 with (go_at_call 28; refine hop.mono ?_; rintro e w6 ⟨gd, cd, rfl, hcd, hRw, hgd, hb6, hokD⟩)
  obtain ⟨LD, hLD⟩ : ∃ q, q = optL lev LW := ⟨_, rfl⟩
  rw [← hLD] at hcd hRw hokD ⊢
  have HWD : Hid (Well l.length LD) := by rw [hLD]; exact HWL.out.opt lev
  have HSM : Hid (∀ (r m : Nat → Int), OzSame (runZ (wtP wa) (eachL LW) (nwX r 34) m) (runZ (wtP wa) (makeP LD).rows (nwX r 34) m)) := fun r m => by rw [hLD]; exact all_same HWL.out (wtP wa) r m
  have SB6 : Below W5.heap.size W5 (w6.alloc (.cells #[.int .u32 pc, .int .i64 l.length, .slice (some ⟨gd, 0, none⟩) LD.length cd] 54)) := hb6.trans ((alloc_belowG _ _).mono hb6.size)
  have B7 : Hid (Below w.heap.size w (w6.alloc (.cells #[.int .u32 pc, .int .i64 l.length, .slice (some ⟨gd, 0, none⟩) LD.length cd] 54))) := B5.out.trans (SB6.mono B5.out.size)
  have P7 : Hid (RowIs (w6.alloc (.cells #[.int .u32 pc, .int .i64 l.length, .slice (some ⟨gd, 0, none⟩) LD.length cd] 54)) w.heap.size 50 45 fP) := P5.out.stays SB6
  have C7 : Hid (CBox (w6.alloc (.cells #[.int .u32 pc, .int .i64 l.length, .slice (some ⟨gd, 0, none⟩) LD.length cd] 54)) cb pc l.length (.slice ac LW.length cc)) := C5.out.stays SB6
  have OC7 : Hid (OpsIn (w6.alloc (.cells #[.int .u32 pc, .int .i64 l.length, .slice (some ⟨gd, 0, none⟩) LD.length cd] 54)) (.slice ac LW.length cc) LW) := OC5.out.stays SB6
  have D7 : Hid (CBox (w6.alloc (.cells #[.int .u32 pc, .int .i64 l.length, .slice (some ⟨gd, 0, none⟩) LD.length cd] 54)) w6.heap.size pc l.length (.slice (some ⟨gd, 0, none⟩) LD.length cd)) := ⟨by simp, by simp, by simp⟩
  have OD7 : Hid (OpsIn (w6.alloc (.cells #[.int .u32 pc, .int .i64 l.length, .slice (some ⟨gd, 0, none⟩) LD.length cd] 54)) (.slice (some ⟨gd, 0, none⟩) LD.length cd) LD) := (OpsRw.in hRw hcd hokD).stays (alloc_belowG _ _)
  have HOD : Hid (∀ o ∈ LD, o.ok) := hokD
  have hcd6 : cb < w6.heap.size := by have := hb6.size; omega
  have hd200 : LD.length ≤ 200 := HWD.out.len
  clear SB6 hop hb6 hcd hRw hokD hLD x0 x1 x2 hcb
  clear B5 P5 C5 OC5
  generalize w6.alloc (.cells #[.int .u32 pc, .int .i64 l.length, .slice (some ⟨gd, 0, none⟩) LD.length cd] 54) = W7 at *
  generalize w6.heap.size = db at *
  obtain ⟨x0, x1, x2⟩ := D7.out
  have hdb := D7.out.lt
  have hmk := make_ok (peS S) (HE.out W7 B7.out).e (HE.out W7 B7.out).m OD7.out (by omega) pc l.length (by omega) (by omega) (codeF_well.2 HWD.out)
  go_upto_region 10 with (go_at_call 29; refine hmk.mono ?_; rintro e w8 ⟨⟨vr, rfl, hRI⟩, hb8⟩; obtain ⟨ax, cx, hvr, _, _⟩ := id hRI; subst hvr)
  have HFW : Hid (Few (makeP LD).rows) := few_make HWD.out
  have HRK : Hid (∀ r ∈ (makeP LD).rows, ∀ o ∈ r, o.ok) := rok_make HOD.out
  have HPF : Hid (planF l.length (makeP LD).rows = (0, -1)) := make_well HWD.out
  generalize (makeP LD).rows = RX at *
  have SB8 : Below W7.heap.size W7 (w8.alloc (.cells #[.int .u32 pc, .int .i64 l.length, .slice ax RX.length cx] 79)) := hb8.trans ((alloc_belowG _ _).mono hb8.size)
  have B9 : Hid (Below w.heap.size w (w8.alloc (.cells #[.int .u32 pc, .int .i64 l.length, .slice ax RX.length cx] 79))) := B7.out.trans (SB8.mono B7.out.size)
  have P9 : Hid (RowIs (w8.alloc (.cells #[.int .u32 pc, .int .i64 l.length, .slice ax RX.length cx] 79)) w.heap.size 50 45 fP) := P7.out.stays SB8
  have C9 : Hid (CBox (w8.alloc (.cells #[.int .u32 pc, .int .i64 l.length, .slice ax RX.length cx] 79)) cb pc l.length (.slice ac LW.length cc)) := C7.out.stays SB8
  have OC9 : Hid (OpsIn (w8.alloc (.cells #[.int .u32 pc, .int .i64 l.length, .slice ax RX.length cx] 79)) (.slice ac LW.length cc) LW) := OC7.out.stays SB8
  have X9 : Hid (CBox (w8.alloc (.cells #[.int .u32 pc, .int .i64 l.length, .slice ax RX.length cx] 79)) w8.heap.size pc l.length (.slice ax RX.length cx)) := ⟨by simp, by simp, by simp⟩
  have HRI : Hid (∀ W, Below w8.heap.size w8 W → RowsI W (.slice ax RX.length cx) RX) := fun W hW => hRI.stays hW
  have RX9 : Hid (Below w8.heap.size w8 (w8.alloc (.cells #[.int .u32 pc, .int .i64 l.length, .slice ax RX.length cx] 79)) ∧ w8.heap.size ≤ (w8.alloc (.cells #[.int .u32 pc, .int .i64 l.length, .slice ax RX.length cx] 79)).heap.size) := ⟨alloc_belowG _ _, by simp⟩
  have hcx : cb < w8.heap.size := by have := hb8.size; omega
  clear SB8 hmk hb8 hRI x0 x1 x2 hdb D7 OD7
  clear B7 P7 C7 OC7
  generalize w8.alloc (.cells #[.int .u32 pc, .int .i64 l.length, .slice ax RX.length cx] 79) = W9 at *
  generalize w8.heap.size = xb at *
  have hx9 := X9.out.lt
  have hl9 := hldp W9 P9.out
  go_upto_region 13 with (first | (refine wpList_loadT 50 _ (by rfl) w.heap.size _ (by rfl) (by rfl) hl9 ?_) | (go_at_call 22; refine (hpla _).mono ?_; rintro e wc ⟨rfl, hbc⟩; clear hl9) | (refine wpList_allocSt rfl rfl ?_) | (refine wpList_storeSt rfl _ _ rfl (stA zS) (stA T0) rfl rfl (stA_size _) (stA_size _) (stA_one _) ?_))
  have SD : Below W9.heap.size W9 (wc.alloc (.cells (stA T0) 25)) := hbc.trans ((alloc_belowG _ _).mono hbc.size)
  have BD : Hid (Below w.heap.size w (wc.alloc (.cells (stA T0) 25))) := B9.out.trans (SD.mono B9.out.size)
  have PD : Hid (RowIs (wc.alloc (.cells (stA T0) 25)) w.heap.size 50 45 fP) := P9.out.stays SD
  have CD : Hid (CBox (wc.alloc (.cells (stA T0) 25)) cb pc l.length (.slice ac LW.length cc)) := C9.out.stays SD
  have OCD : Hid (OpsIn (wc.alloc (.cells (stA T0) 25)) (.slice ac LW.length cc) LW) := OC9.out.stays SD
  have XD : Hid (CBox (wc.alloc (.cells (stA T0) 25)) xb pc l.length (.slice ax RX.length cx)) := X9.out.stays SD
  have RXD : Hid (Below xb w8 (wc.alloc (.cells (stA T0) 25)) ∧ xb ≤ ((wc.alloc (.cells (stA T0) 25))).heap.size) := ⟨RX9.out.1.trans (SD.mono RX9.out.2), Nat.le_trans RX9.out.2 SD.size⟩
  have S1D : Hid (StRow (wc.alloc (.cells (stA T0) 25)) wc.heap.size T0) := st_rowG wc T0
  have hs1 : xb < wc.heap.size := by have := hbc.size; omega
  clear hpla hbc SD hx9
  clear B9 P9 C9 OC9 X9 RX9
  generalize wc.alloc (.cells (stA T0) 25) = WD at *
  generalize wc.heap.size = s1 at *
  have hq1 : s1 < WD.heap.size := S1D.out.lt
  have lk := load_st S1D.out.at
  go_upto_region 14 with (first | (refine wpList_loadT 25 _ (by rfl) s1 _ (by rfl) (by rfl) lk ?_) | (refine wpList_allocSt rfl rfl ?_) | (refine wpList_storeSt rfl _ _ rfl (stA zS) (stA T0) rfl rfl (stA_size _) (stA_size _) (stA_one _) ?_))
  have SG : Below WD.heap.size WD (WD.alloc (.cells (stA T0) 25)) := alloc_belowG _ _
  have BG : Hid (Below w.heap.size w (WD.alloc (.cells (stA T0) 25))) := BD.out.trans (SG.mono BD.out.size)
  have PG : Hid (RowIs (WD.alloc (.cells (stA T0) 25)) w.heap.size 50 45 fP) := PD.out.stays SG
  have CG : Hid (CBox (WD.alloc (.cells (stA T0) 25)) cb pc l.length (.slice ac LW.length cc)) := CD.out.stays SG
  have OCG : Hid (OpsIn (WD.alloc (.cells (stA T0) 25)) (.slice ac LW.length cc) LW) := OCD.out.stays SG
  have XG : Hid (CBox (WD.alloc (.cells (stA T0) 25)) xb pc l.length (.slice ax RX.length cx)) := XD.out.stays SG
  have RXG : Hid (Below xb w8 (WD.alloc (.cells (stA T0) 25)) ∧ xb ≤ ((WD.alloc (.cells (stA T0) 25))).heap.size) := ⟨RXD.out.1.trans (SG.mono RXD.out.2), Nat.le_trans RXD.out.2 SG.size⟩
  have S1G : Hid (StRow (WD.alloc (.cells (stA T0) 25)) s1 T0) := S1D.out.stays SG
  have S2G : Hid (StRow (WD.alloc (.cells (stA T0) 25)) WD.heap.size T0) := st_rowG WD T0
  clear lk SG
  clear BD PD CD OCD XD RXD S1D
  generalize WD.alloc (.cells (stA T0) 25) = WG at *
  generalize WD.heap.size = s2 at *
  have hq2 : s2 < WG.heap.size := S2G.out.lt
  have hlG := hldp WG PG.out
  have hme := HME.out WG BG.out
  go_upto_region 15 with (first | (refine wpList_loadT 50 _ (by rfl) w.heap.size _ (by rfl) (by rfl) hlG ?_) | (go_at_call 30; refine hme.mono ?_; rintro e wh ⟨sb, bp, bw, bh, rfl, hRh, hbh, g1, g2, g3, g4⟩; clear hlG))
  have BH : Hid (Below w.heap.size w wh) := BG.out.trans (hbh.mono BG.out.size)
  have PH : Hid (RowIs wh w.heap.size 50 45 fP) := PG.out.stays hbh
  have CH : Hid (CBox wh cb pc l.length (.slice ac LW.length cc)) := CG.out.stays hbh
  have OCH : Hid (OpsIn wh (.slice ac LW.length cc) LW) := OCG.out.stays hbh
  have XH : Hid (CBox wh xb pc l.length (.slice ax RX.length cx)) := XG.out.stays hbh
  have RXH : Hid (Below xb w8 wh ∧ xb ≤ (wh).heap.size) := ⟨RXG.out.1.trans (hbh.mono RXG.out.2), Nat.le_trans RXG.out.2 hbh.size⟩
  have S1H : Hid (StRow wh s1 T0) := S1G.out.stays hbh
  have S2H : Hid (StRow wh s2 T0) := S2G.out.stays hbh
  have RH : Hid (RamIs wh sb bp bw bh 65 (mw xs) (wtP wa) (fun _ => false)) := hRh
  have hlH := ram_ltG hRh
  have hsh := hbh.size
  clear hme hbh hRh
  clear BG PG CG OCG XG RXG S1G S2G
  have hlH2 := hldp wh PH.out
  have hmo := HME.out wh BH.out
  go_upto_region 16 with (first | (refine wpList_loadT 50 _ (by rfl) w.heap.size _ (by rfl) (by rfl) hlH2 ?_) | (go_at_call 30; refine hmo.mono ?_; rintro e wi ⟨sb2, bp2, bw2, bh2, rfl, hQi, hbi, d1, d2, d3, d4⟩; clear hlH2))
  have BI : Hid (Below w.heap.size w wi) := BH.out.trans (hbi.mono BH.out.size)
  have CI : Hid (CBox wi cb pc l.length (.slice ac LW.length cc)) := CH.out.stays hbi
  have OCI : Hid (OpsIn wi (.slice ac LW.length cc) LW) := OCH.out.stays hbi
  have XI : Hid (CBox wi xb pc l.length (.slice ax RX.length cx)) := XH.out.stays hbi
  have RXI : Hid (Below xb w8 wi ∧ xb ≤ (wi).heap.size) := ⟨RXH.out.1.trans (hbi.mono RXH.out.2), Nat.le_trans RXH.out.2 hbi.size⟩
  have S1I : Hid (StRow wi s1 T0) := S1H.out.stays hbi
  have S2I : Hid (StRow wi s2 T0) := S2H.out.stays hbi
  have RI : Hid (RamIs wi sb bp bw bh 65 (mw xs) (wtP wa) (fun _ => false)) := RH.out.stays hbi (Nat.le_refl _)
  have QI : Hid (RamIs wi sb2 bp2 bw2 bh2 65 (mw xs) (wtP wa) (fun _ => false)) := hQi
  have hlI := ram_ltG hQi
  have hsi := hbi.size
  clear hmo hbi hQi PH hldp HME HX
  clear BH CH OCH XH RXH S1H S2H RH
  obtain ⟨x0, x1, x2⟩ := CI.out
  have hx6 := CI.out.lt
  have hev := ievalT_any (peS S) (HE.out wi BI.out).e RI.out (by omega) HT.out.1 S1I.out (by omega) (by omega) (by omega) (by omega) OCI.out pc l.length p0 p1 (by omega) (by omega) (codeF_well.2 HWL.out) HT.out.2.2.1 HT.out.2.2.2.1 HT.out.2.2.2.2.1 HT.out.2.2.2.2.2 (by rw [HT.out.2.1]; exact ct0) (by rw [HT.out.2.1]; omega)
  go_wp2_with fail
  refine hev.mono ?_
  have hsm := HSM.out (rgS T0) (mw xs)
  obtain ⟨OA, hOA⟩ : ∃ OO, runZ (wtP wa) (eachL LW) (nwX (rgS T0) 34) (mw xs) = OO := ⟨_, rfl⟩
  obtain ⟨OB, hOB⟩ : ∃ OO, runZ (wtP wa) RX (nwX (rgS T0) 34) (mw xs) = OO := ⟨_, rfl⟩
  rw [hOA, hOB] at hsm
  have HOB : Hid (runZ (wtP wa) RX (nwX (rgS T0) 34) (mw xs) = OB) := hOB
  have HTO : Hid (∀ many : Int, ozT OA = ozT OB ∧ stA (ozS T0 many OA) = stA (ozS T0 many OB) ∧ ∀ i, i < 4096 → ozM (mw xs) OA i = ozM (mw xs) OB i) := fun many => hsm.told
  rw [hOA]
  clear hOA hOB hsm HSM
  rintro e wj ⟨rfl, G, hGA, hout⟩
  have HGA : Hid (stA G = stA (ozS T0 l.length OA)) := hGA
  clear hGA
  have hHB : Below w.heap.size w wj := hout.below BI.out (by omega) (by omega) (by omega)
  have hXB : Below xb w8 wj := hout.belowB RXI.out.1 RXI.out.2 (by omega) (by omega) (by omega)
  have bkj : ∀ k, k < wi.heap.size → k ≠ s1 → k ≠ bp → k ≠ bh → wj.heap[k]? = wi.heap[k]? := hout.bk
  have hsj := hout.sz
  have hxl := XI.out.lt
  have hs2l := S2I.out.lt
  have SK : Below wj.heap.size wj (wj.alloc (.cells #[.bool (ozT OA), .int .i64 (ozA OA)] 84)) := alloc_belowG _ _
  have BK : Hid (Below w.heap.size w (wj.alloc (.cells #[.bool (ozT OA), .int .i64 (ozA OA)] 84))) := hHB.trans (SK.mono hHB.size)
  have XK : Hid (CBox (wj.alloc (.cells #[.bool (ozT OA), .int .i64 (ozA OA)] 84)) xb pc l.length (.slice ax RX.length cx)) := (CBox.blockH XI.out (bkj xb (by omega) (by omega) (by omega) (by omega))).stays SK
  have RXK : Hid (Below xb w8 (wj.alloc (.cells #[.bool (ozT OA), .int .i64 (ozA OA)] 84)) ∧ xb ≤ (wj.alloc (.cells #[.bool (ozT OA), .int .i64 (ozA OA)] 84)).heap.size) := ⟨hXB.trans (SK.mono (by have := RXI.out.2; omega)), by have := RXI.out.2; simp; omega⟩
  have S1K : Hid (StRow (wj.alloc (.cells #[.bool (ozT OA), .int .i64 (ozA OA)] 84)) s1 G) := hout.st.stays SK
  have S2K : Hid (StRow (wj.alloc (.cells #[.bool (ozT OA), .int .i64 (ozA OA)] 84)) s2 T0) := (S2I.out.block (bkj s2 (by omega) (by omega) (by omega) (by omega))).stays SK
  have RK : Hid (∃ N', RamIs (wj.alloc (.cells #[.bool (ozT OA), .int .i64 (ozA OA)] 84)) sb bp bw bh N' (ozM (mw xs) OA) (wtP wa) (fun _ => false)) := by obtain ⟨N', h⟩ := hout.rm; exact ⟨N', h.stays SK (Nat.le_refl _)⟩
  have QK : Hid (RamIs (wj.alloc (.cells #[.bool (ozT OA), .int .i64 (ozA OA)] 84)) sb2 bp2 bw2 bh2 65 (mw xs) (wtP wa) (fun _ => false)) := (QI.out.blocks (fun k hk => bkj k (by omega) (by omega) (by omega) (by omega))).stays SK (Nat.le_refl _)
  have ek0 : (wj.alloc (.cells #[.bool (ozT OA), .int .i64 (ozA OA)] 84)).cell? ⟨wj.heap.size, 0, none⟩ = some (.bool (ozT OA)) := by simp
  clear hev hout hHB hXB bkj SK BI CI OCI XI RXI S1I S2I RI QI x0 x1 x2 hx6
  go_upto_region 17 with fail
  generalize wj.alloc (.cells #[.bool (ozT OA), .int .i64 (ozA OA)] 84) = WK at *
  generalize hej : wj.heap.size = eb at *
  have hek := World.block_lt_of_cell? _ _ ek0
  obtain ⟨x0, x1, x2⟩ := XK.out
  have hx6 := XK.out.lt
  have hrun := hrunT_any (peS S) (HE.out WK BK.out) QK.out (by omega) HT.out.1 S2K.out (by omega) (by omega) (by omega) (by omega) (HRI.out WK RXK.out.1) HRK.out HFW.out pc l.length p0 p1 (by omega) (by omega) HPF.out HT.out.2.2.1 HT.out.2.2.2.1 HT.out.2.2.2.2.1 HT.out.2.2.2.2.2 (by rw [HT.out.2.1]; exact ct0) (by rw [HT.out.2.1]; omega)
  rw [HOB.out] at hrun
  go_wp2_with fail
  refine hrun.mono ?_
  rintro e wm ⟨rfl, G2, hGB, hout⟩
  have hGG : stA G2 = stA G := by rw [hGB, HGA.out, (HTO.out l.length).2.1]
  have hHB : Below w.heap.size w wm := hout.below BK.out (by omega) (by omega) (by omega)
  have bkj : ∀ k, k < WK.heap.size → k ≠ s2 → k ≠ bp2 → k ≠ bh2 → wm.heap[k]? = WK.heap[k]? := hout.bk
  have hsm := hout.sz
  have hs1l := S1K.out.lt
  have SM : Below wm.heap.size wm (wm.alloc (.cells #[.bool (ozT OB), .int .i64 (ozA OB)] 84)) := alloc_belowG _ _
  have BM : Hid (Below w.heap.size w (wm.alloc (.cells #[.bool (ozT OB), .int .i64 (ozA OB)] 84))) := hHB.trans (SM.mono hHB.size)
  have S1M : Hid (StRow (wm.alloc (.cells #[.bool (ozT OB), .int .i64 (ozA OB)] 84)) s1 G) := (S1K.out.block (bkj s1 (by omega) (by omega) (by omega) (by omega))).stays SM
  have S2M : Hid (StRow (wm.alloc (.cells #[.bool (ozT OB), .int .i64 (ozA OB)] 84)) s2 G2) := hout.st.stays SM
  have RM : Hid (∃ N', RamIs (wm.alloc (.cells #[.bool (ozT OB), .int .i64 (ozA OB)] 84)) sb bp bw bh N' (ozM (mw xs) OA) (wtP wa) (fun _ => false)) := by
    obtain ⟨N', h⟩ := RK.out
    have hl := ram_ltG h
    exact ⟨N', (h.blocks (fun k hk => bkj k (by omega) (by omega) (by omega) (by omega))).stays SM (Nat.le_refl _)⟩
  have QM : Hid (∃ N', RamIs (wm.alloc (.cells #[.bool (ozT OB), .int .i64 (ozA OB)] 84)) sb2 bp2 bw2 bh2 N' (ozM (mw xs) OB) (wtP wa) (fun _ => false)) := by obtain ⟨N', h⟩ := hout.rm; exact ⟨N', h.stays SM (Nat.le_refl _)⟩
  have em0 : (wm.alloc (.cells #[.bool (ozT OB), .int .i64 (ozA OB)] 84)).cell? ⟨eb, 0, none⟩ = some (.bool (ozT OA)) := (SM.cell (p := ⟨eb, 0, none⟩) (by show eb < _; omega)).trans ((World.cell?_of_block (a := ⟨eb, 0, none⟩) (bkj eb (by omega) (by omega) (by omega) (by omega))).trans ek0)
  have wm0 : (wm.alloc (.cells #[.bool (ozT OB), .int .i64 (ozA OB)] 84)).cell? ⟨wm.heap.size, 0, none⟩ = some (.bool (ozT OB)) := by simp
  have hTT : Hid (ozT OA = ozT OB) := (HTO.out 0).1
  have HMM : Hid (∀ i, i < 4096 → ozM (mw xs) OA i = ozM (mw xs) OB i) := (HTO.out 0).2.2
  clear hrun hout hHB bkj SM BK XK RXK S1K S2K RK QK ek0 hek x0 x1 x2 hx6 hGB HGA HOB HTO
  go_upto_region 20 with fail
  generalize wm.alloc (.cells #[.bool (ozT OB), .int .i64 (ozA OB)] 84) = WM at *
  generalize hem : wm.heap.size = fb at *
  have lk1 := load_st S1M.out.at
  have lk2 := load_st S2M.out.at
  rw [hGG] at lk2
  rw [← hTT.out] at wm0
  obtain ⟨N1, hR1⟩ := RM.out
  obtain ⟨N2, hR2⟩ := QM.out
  have HR1 : Hid _ := hR1
  have HR2 : Hid _ := hR2
  clear hR1 hR2 RM QM S1M S2M hTT hGG
  go_wp2_with (first | (refine wpList_loadT 25 _ (by rfl) s1 _ (by rfl) (by rfl) lk1 ?_) | (refine wpList_loadT 25 _ (by rfl) s2 _ (by rfl) (by rfl) lk2 ?_) | (refine wpList_execV (.bool true) (by rfl) (exec_eq rfl rfl rfl _ (eq_st G _)) ?_))
  refine (words_any HR1.out).mono ?_
  rintro e wn ⟨rfl, hwn, hbn⟩
  have HR3 : Hid _ := HR2.out.stays hbn (Nat.le_refl _)
  have BN : Hid (Below w.heap.size w wn) := BM.out.trans (hbn.mono BM.out.size)
  have hg1 : WM.heap.size < wn.heap.size := World.block_lt_of_cell? _ _ (hwn 0 (by omega))
  have HW1 : Hid _ := hwn
  clear hbn hwn lk1 lk2 em0 wm0 HR1 HR2 BM
  generalize WM.heap.size = g1 at *
  go_wp2_with fail
  refine (words_any HR3.out).mono ?_
  rintro e wo ⟨rfl, hwo, hbo⟩
  have BO : Hid (Below w.heap.size w wo) := BN.out.trans (hbo.mono BN.out.size)
  have hal := alike_at (w := wo) (g := g1) (g' := wn.heap.size) (m := ozM (mw xs) OA) (fun i hi => by rw [Nat.zero_add]; exact (hbo.cell (p := ⟨g1, i, none⟩) hg1).trans (HW1.out i hi)) (fun i hi => by rw [Nat.zero_add, HMM.out i hi]; exact hwo i hi)
  clear hbo hwo HW1 HR3 BN
  generalize wn.heap.size = g2 at *
  go_wp2_with fail
  refine hal.mono ?_
  rintro e wp ⟨rfl, kp, hwp⟩
  have BP : Hid (Below w.heap.size w wp) := by rw [hwp]; exact bdN BO.out kp
  clear hwp hal BO
  go_wp2
  go_ret
  exact ⟨rfl, BP.out⟩
end Go.Proofs.YtflagpkmebdckaaGreatDoor
