/-
  The walk of RegionStands.
-/
import Derived.Test.YtckcbnfobjmhpaaDoorRl
namespace Go.Proofs.YtckcbnfobjmhpaaDoor
open Go.RowKit Go.Maps
open Num
set_option linter.unusedVariables false
/-- branches among the first -/
def brc (kd : Nat → Nat) : Nat → Nat
  | 0 => 0
  | n + 1 => if kd n = 2 then brc kd n + 1 else brc kd n
theorem stc_le (kd : Nat → Nat) : ∀ n, stc kd n ≤ n
  | 0 => Nat.le_refl _
  | n + 1 => by have := stc_le kd n; show stP kd n (stc kd n) ≤ _; unfold stP; split <;> omega
theorem brc_le (kd : Nat → Nat) : ∀ n, brc kd n ≤ n
  | 0 => Nat.le_refl _
  | n + 1 => by have := brc_le kd n; simp only [brc]; split <;> omega
theorem brc_one {kd : Nat → Nat} {L : Nat} (h : ∀ j, j < L → kd j = 2 → j + 2 = L) : ∀ n, n ≤ L → brc kd n ≤ 1 ∧ (n + 2 ≤ L → brc kd n = 0)
  | 0, _ => ⟨by show (0:Nat) ≤ 1; omega, fun _ => rfl⟩
  | n + 1, hn => by
    have ih := brc_one h n (by omega)
    simp only [brc]
    by_cases e : kd n = 2
    · have := h n (by omega) e
      rw [if_pos e]
      exact ⟨by have := ih.2 (by omega); omega, fun _ => by omega⟩
    · rw [if_neg e]
      exact ⟨ih.1, fun h2 => ih.2 (by omega)⟩
theorem WordsIn.stays {w w' : World} {v : Value} {xs : List Int} (X : WordsIn w v xs) (h : Below w.heap.size w w') : WordsIn w' v xs := by
  obtain ⟨⟨ao, cap, h1, h2, h3⟩, wf⟩ := X
  refine ⟨⟨ao, cap, h1, h2, fun hp => ?_⟩, wf⟩
  obtain ⟨b, off, h4, h5⟩ := h3 hp
  exact ⟨b, off, h4, fun i hi => K.cell_stays h (Nat.le_refl _) (h5 i hi)⟩
/-- a region in a variable -/
structure VarAt (w : World) (rb : Nat) (pc : Int) (L g c h k c2 : Nat) : Prop where
  q0 : w.cell? ⟨rb, 0, none⟩ = some (.int .u32 pc)
  q1 : w.cell? ⟨rb, 1, none⟩ = some (.slice (some ⟨g, 0, none⟩) L c)
  q2 : w.cell? ⟨rb, 2, none⟩ = some (.slice (some ⟨h, 0, none⟩) k c2)
theorem VarAt.stays {w w' : World} {rb : Nat} {pc : Int} {L g c h k c2 : Nat} (q : VarAt w rb pc L g c h k c2) (hb : Below w.heap.size w w') : VarAt w' rb pc L g c h k c2 :=
  ⟨K.cell_stays hb (Nat.le_refl _) q.q0, K.cell_stays hb (Nat.le_refl _) q.q1, K.cell_stays hb (Nat.le_refl _) q.q2⟩
theorem VarAt.alloc (w : World) (pc : Int) (L g c h k c2 : Nat) : VarAt (w.alloc (.cells #[.int .u32 pc, .slice (some ⟨g, 0, none⟩) L c, .slice (some ⟨h, 0, none⟩) k c2] 51)) w.heap.size pc L g c h k c2 :=
  ⟨by simp, by simp, by simp⟩
section
variable {w : World} {ps pa pf pk pb pn : Addr}
set_option maxRecDepth 100000 in
set_option maxHeartbeats 16000000 in
theorem stands_any (V : Vs ps pa pf pk pb pn w) {v : Value} {xs : List Int} (X : WordsIn w v xs) (hlen : (xs.length : Int) ≤ 9223372036854775807) (pc most : Int) (p0 : 0 ≤ pc) (p1 : pc < 4294967296) (o0 : -9223372036854775808 ≤ most) (o1 : most ≤ 9223372036854775807) :
    Calls Tryd.prog 7 #[v, .int .u32 pc, .int .i64 most] w fun e w' => e = .returned (.bool true) ∧ Below w.heap.size w w' := by
  obtain ⟨ao, cap, rfl, hcap, _⟩ := X.sh
  have hfo := formed_any V
  have XH : Hid (WordsIn w (.slice ao xs.length cap) xs) := X
  have VH : Hid (Vs ps pa pf pk pb pn w) := V
  clear X V
  go_enter Tryd.func7, Tryd.ntmps7
  go_wp2_with fail
  refine hfo.mono ?_
  rintro e w1 ⟨rfl, hb1⟩
  clear hfo
  by_cases t1 : 5000 < (xs.length : Int)
  · go_wp2
    go_ret
    exact ⟨rfl, hb1⟩
  by_cases t2 : most < 2
  · go_wp2
    go_ret
    exact ⟨rfl, hb1⟩
  by_cases t3 : 24 ≤ most
  · go_wp2
    go_ret
    exact ⟨rfl, hb1⟩
  have u1 : (xs.length : Int) ≤ 5000 := by omega
  have u2 : 2 ≤ most := by omega
  have u3 : most < 24 := by omega
  clear t1 t2 t3
  have hnw := new_ex (w := w1) (xs := xs) (v := .slice ao xs.length cap) (XH.out.stays hb1) (by omega)
  have hB1 : Hid (Below w.heap.size w w1) := hb1
  clear hb1
  go_wp2_with fail
  refine hnw.mono ?_
  rintro e w2 ⟨sb, bp, bw, bh, rfl, R, hb2, l1, l2⟩
  clear hnw l1 l2
  have hB2 : Hid (Below w.heap.size w w2) := hB1.out.trans (hb2.mono hB1.out.size)
  have RH : Hid _ := R
  have hm : Hid (∀ i, 0 ≤ mw xs i ∧ mw xs i < 4294967296) := XH.out.wf
  generalize mw xs = m at *
  have hf := form_any (VH.out.stays hB2.out) R pc most p0 p1
  clear R hb2 hB1
  go_wp2_with fail
  refine hf.mono ?_
  rintro e w3 ⟨hb3, ⟨hE, rfl⟩ | ⟨hE, g, c, h, k, c2, rfl, RV⟩⟩
  · generalize ferr ps pb pa pf pn (fE m pc most) = er at *
    clear hf RH
    have hB3 : Hid (Below w.heap.size w w3) := hB2.out.trans (hb3.mono hB2.out.size)
    clear hb3
    go_wp2
    go_ret
    exact ⟨rfl, hB3.out.alloc hB3.out.size _⟩
  · have hfc : fchk pc most = 0 := by
      by_cases e : fchk pc most = 0
      · exact e
      · unfold fE at hE; rw [if_pos e] at hE; exact absurd hE e
    obtain ⟨_, _, p4, p2⟩ := fchk_ok hfc
    have hreg := lenR_reg (kdAt m pc) (many pc) most.toNat
    have hmono := lenR_mono (kdAt m pc) (many pc) (most := most.toNat) (most' := (most + 1).toNat) (by omega)
    generalize hLe : lenR (kdAt m pc) (many pc) most.toNat = L at *
    have hL24 : L ≤ 24 := by have := hreg.room; omega
    have hpos := RV.pos
    have hA : Below w3.heap.size w3 (w3.alloc (.cells #[.int .u32 pc, .slice (some ⟨g, 0, none⟩) L c, .slice (some ⟨h, 0, none⟩) k c2] 51)) := (Below.refl _ _).alloc (Nat.le_refl _) _
    have hB3 : Hid (Below w.heap.size w (w3.alloc (.cells #[.int .u32 pc, .slice (some ⟨g, 0, none⟩) L c, .slice (some ⟨h, 0, none⟩) k c2] 51))) := (hB2.out.trans (hb3.mono hB2.out.size)).trans (hA.mono (hB2.out.trans (hb3.mono hB2.out.size)).size)
    have RH3 : Hid (RamIs (w3.alloc (.cells #[.int .u32 pc, .slice (some ⟨g, 0, none⟩) L c, .slice (some ⟨h, 0, none⟩) k c2] 51)) sb bp bw bh 64 m (fun _ => false) (fun _ => false)) := (RH.out.stays hb3 (Nat.le_refl _)).stays hA (Nat.le_refl _)
    have RV3 : Hid (RegV _ pc m L g c h k c2) := RV.stays hA
    have VA3 : Hid (VarAt _ w3.heap.size pc L g c h k c2) := VarAt.alloc w3 pc L g c h k c2
    clear hf RH hb3 hA RV hB2
    go_wp2_with fail
    generalize w3.alloc (.cells #[.int .u32 pc, .slice (some ⟨g, 0, none⟩) L c, .slice (some ⟨h, 0, none⟩) k c2] 51) = w4 at *
    generalize w3.heap.size = rb at *
    refine (words_at RH3.out).mono ?_
    rintro e w5 ⟨gw, rfl, WA, hb5, _⟩
    have hB5 : Hid (Below w.heap.size w w5) := hB3.out.trans (hb5.mono hB3.out.size)
    have RH5 : Hid _ := RH3.out.stays hb5 (Nat.le_refl _)
    have RV5 : Hid _ := RV3.out.stays hb5
    have VA5 : Hid _ := VA3.out.stays hb5
    have WA5 : Hid (WordsAt w5 gw m) := WA
    have V5 : Hid _ := VH.out.stays hB5.out
    clear hb5 hB3 RH3 RV3 VA3 WA
    go_wp2
    go_loopw [12, 13, 14] (fun sv bv iv wr => ∃ j : Nat, j ≤ L ∧ sv = .int .i64 (stc (kdAt m pc) j) ∧ bv = .int .i64 (brc (kdAt m pc) j) ∧ iv = .int .i64 j ∧ Below w5.heap.size w5 wr) (fun _ _ iv _ => L - (intOf iv).toNat)
    case atStart => exact ⟨0, by omega, rfl, rfl, rfl, Below.refl _ _⟩
    case round =>
      obtain ⟨j, hj, rfl, rfl, rfl, hbr⟩ := hrel
      have VAr := VA5.out.stays hbr
      have q1 := VAr.q1
      have HBR : Hid _ := hbr
      have hs24 := stc_le (kdAt m pc) j
      have hb24 := brc_le (kdAt m pc) j
      have hs24' : (stc (kdAt m pc) j : Int) ≤ 24 := by omega
      have hb24' : (brc (kdAt m pc) j : Int) ≤ 24 := by omega
      have hj24 : (j : Int) ≤ 24 := by omega
      have hL24' : (L : Int) ≤ 24 := by omega
      by_cases hlt : j < L
      · have hlt' : (j : Int) < L := by omega
        have hmem := hreg.mem
        have hjm : (pc / 4).toNat + j < 4096 := by unfold many at hmem; omega
        have hjm' : decide (4096 ≤ pc / 4 + (j : Int)) = false := by simp; omega
        have hwd := (WA5.out.stays hbr) ((pc / 4).toNat + j) hjm
        change wr.cell? _ = some (.int .u32 (wAt m pc j)) at hwd
        rw [Nat.zero_add] at hwd
        have hins := (RV5.out.stays hbr).ins
        have a0 := hins j 0 hlt (by omega)
        have a1 := hins j 1 hlt (by omega)
        have a2 := hins j 2 hlt (by omega)
        have a3 := hins j 3 hlt (by omega)
        have a4 := hins j 4 hlt (by omega)
        have hv := hm.out ((pc / 4).toNat + j)
        change 0 ≤ wAt m pc j ∧ wAt m pc j < 4294967296 at hv
        have hk3 := hreg.trap j hlt
        change knd (wAt m pc j) ≠ 3 at hk3
        have hk2 := hreg.branch j hlt
        have hen := encode_v (w := wr) (V5.out.stays hbr).T (wAt m pc j) hv.1 hv.2 hk3
        have hX : insV (wAt m pc j) = K.ins (decK (wAt m pc j)) (Tab.xs (Tab.sh (decK (wAt m pc j))) (wAt m pc j)) (Tab.xt (Tab.sh (decK (wAt m pc j))) (wAt m pc j)) (Tab.xd (Tab.sh (decK (wAt m pc j))) (wAt m pc j)) (Tab.xm (Tab.sh (decK (wAt m pc j))) (wAt m pc j)) := rfl
        rw [hX] at hen
        have hki := fun W => K.kind_nat (decK (wAt m pc j)) (decK_lt _) _ (kind_knd _) W
        simp only [insC, List.getElem?_cons_zero, List.getElem?_cons_succ, Nat.add_zero, Nat.zero_add] at a0 a1 a2 a3 a4
        clear hX hins hbr
        have hkc : kdAt m pc j = 1 ∨ kdAt m pc j = 2 ∨ kdAt m pc j = 4 ∨ kdAt m pc j = 5 := by
          rcases knd_in (wAt m pc j) with e | e | e | e | e <;> (change kdAt m pc j = _ at e; change kdAt m pc j ≠ 3 at hk3; omega)
        change ∀ W, Calls Tryd.prog 33 #[.int .i64 (decK (wAt m pc j))] W fun e w' => e = .returned (.string ⟨(Tab.kwL.getD (kdAt m pc j) []).toArray⟩) ∧ w' = W at hki
        have hidx : pc / 4 + (j : Int) = (((pc / 4).toNat + j : Nat) : Int) := by omega
        rw [hidx] at hjm'
        generalize (pc / 4).toNat + j = q at *
        generalize Tab.xs (Tab.sh (decK (wAt m pc j))) (wAt m pc j) = i1 at *
        generalize Tab.xt (Tab.sh (decK (wAt m pc j))) (wAt m pc j) = i2 at *
        generalize Tab.xd (Tab.sh (decK (wAt m pc j))) (wAt m pc j) = i3 at *
        generalize Tab.xm (Tab.sh (decK (wAt m pc j))) (wAt m pc j) = i4 at *
        generalize decK (wAt m pc j) = i0 at *
        generalize wAt m pc j = v at *
        have hq' : (q : Int) < 4096 := by omega
        rcases hkc with hkd | hkd | hkd | hkd <;> rw [hkd] at hki
        · rw [show Tab.kwL.getD 1 [] = [115, 117, 109] from rfl] at hki
          have e1 : stc (kdAt m pc) (j + 1) = stc (kdAt m pc) j := by show stP (kdAt m pc) j _ = _; unfold stP; rw [if_neg (by omega)]
          have e2 : brc (kdAt m pc) (j + 1) = brc (kdAt m pc) j := by simp only [brc]; rw [if_neg (by omega)]
          go_wp2_with fail
          refine hen.mono ?_
          rintro e w6 ⟨rfl, hb6⟩
          have d0 := K.cell_stays hb6 (Nat.le_refl _) a0
          have dq := K.cell_stays hb6 (Nat.le_refl _) q1
          have dw := K.cell_stays hb6 (Nat.le_refl _) hwd
          have hB6 : Hid (Below w5.heap.size w5 w6) := HBR.out.trans (hb6.mono HBR.out.size)
          clear hen hb6 a0 a1 a2 a3 a4 q1 hwd
          go_wp2_with fail
          refine (hki _).mono ?_
          rintro e wk ⟨rfl, hwk⟩
          rw [hwk]; clear hwk wk hki
          go_wp2
          go_roundw
          case rel => exact ⟨j + 1, by omega, by rw [e1], by rw [e2], by go_num, hB6.out⟩
          case measure => simp [intOf]; omega
        · rw [show Tab.kwL.getD 2 [] = [98, 114, 97, 110, 99, 104] from rfl] at hki
          have e1 : stc (kdAt m pc) (j + 1) = stc (kdAt m pc) j := by show stP (kdAt m pc) j _ = _; unfold stP; rw [if_neg (by omega)]
          have e2 : brc (kdAt m pc) (j + 1) = brc (kdAt m pc) j + 1 := by simp only [brc]; rw [if_pos hkd]
          have hbr2 : ((j : Int) != (L : Int) - 2) = false := by have := hk2 hkd; simp; omega
          go_wp2_with fail
          refine hen.mono ?_
          rintro e w6 ⟨rfl, hb6⟩
          have d0 := K.cell_stays hb6 (Nat.le_refl _) a0
          have dq := K.cell_stays hb6 (Nat.le_refl _) q1
          have dw := K.cell_stays hb6 (Nat.le_refl _) hwd
          have hB6 : Hid (Below w5.heap.size w5 w6) := HBR.out.trans (hb6.mono HBR.out.size)
          clear hen hb6 a0 a1 a2 a3 a4 q1 hwd
          go_wp2_with fail
          refine (hki _).mono ?_
          rintro e wk ⟨rfl, hwk⟩
          rw [hwk]; clear hwk wk hki
          go_wp2
          go_roundw
          case rel => exact ⟨j + 1, by omega, by rw [e1], by rw [e2]; go_num, by go_num, hB6.out⟩
          case measure => simp [intOf]; omega
        · rw [show Tab.kwL.getD 4 [] = [108, 111, 97, 100] from rfl] at hki
          have e1 : stc (kdAt m pc) (j + 1) = stc (kdAt m pc) j := by show stP (kdAt m pc) j _ = _; unfold stP; rw [if_neg (by omega)]
          have e2 : brc (kdAt m pc) (j + 1) = brc (kdAt m pc) j := by simp only [brc]; rw [if_neg (by omega)]
          go_wp2_with fail
          refine hen.mono ?_
          rintro e w6 ⟨rfl, hb6⟩
          have d0 := K.cell_stays hb6 (Nat.le_refl _) a0
          have dq := K.cell_stays hb6 (Nat.le_refl _) q1
          have dw := K.cell_stays hb6 (Nat.le_refl _) hwd
          have hB6 : Hid (Below w5.heap.size w5 w6) := HBR.out.trans (hb6.mono HBR.out.size)
          clear hen hb6 a0 a1 a2 a3 a4 q1 hwd
          go_wp2_with fail
          refine (hki _).mono ?_
          rintro e wk ⟨rfl, hwk⟩
          rw [hwk]; clear hwk wk hki
          go_wp2
          go_roundw
          case rel => exact ⟨j + 1, by omega, by rw [e1], by rw [e2], by go_num, hB6.out⟩
          case measure => simp [intOf]; omega
        · rw [show Tab.kwL.getD 5 [] = [115, 116, 111, 114, 101] from rfl] at hki
          have e1 : stc (kdAt m pc) (j + 1) = stc (kdAt m pc) j + 1 := by show stP (kdAt m pc) j _ = _; unfold stP; rw [if_pos hkd]
          have e2 : brc (kdAt m pc) (j + 1) = brc (kdAt m pc) j := by simp only [brc]; rw [if_neg (by omega)]
          go_wp2_with fail
          refine hen.mono ?_
          rintro e w6 ⟨rfl, hb6⟩
          have d0 := K.cell_stays hb6 (Nat.le_refl _) a0
          have dq := K.cell_stays hb6 (Nat.le_refl _) q1
          have dw := K.cell_stays hb6 (Nat.le_refl _) hwd
          have hB6 : Hid (Below w5.heap.size w5 w6) := HBR.out.trans (hb6.mono HBR.out.size)
          clear hen hb6 a0 a1 a2 a3 a4 q1 hwd
          go_wp2_with fail
          refine (hki _).mono ?_
          rintro e wk ⟨rfl, hwk⟩
          rw [hwk]; clear hwk wk hki
          go_wp2
          go_roundw
          case rel => exact ⟨j + 1, by omega, by rw [e1]; go_num, by rw [e2], by go_num, hB6.out⟩
          case measure => simp [intOf]; omega
      · obtain rfl : j = L := by omega
        have hsS := hreg.stores
        have hbB := (brc_one hreg.branch j (Nat.le_refl _)).1
        have hroom := hreg.room
        have e1 : (stc (kdAt m pc) j : Int) ≤ 8 := by omega
        have e2 : (brc (kdAt m pc) j : Int) ≤ 1 := by omega
        have hjm : (j : Int) ≤ most := by omega
        have hf2 := form_any (V5.out.stays hbr) (RH5.out.stays hbr (Nat.le_refl _)) pc (most + 1) p0 p1
        have hE2 : fE m pc (most + 1) = 0 := by
          unfold fE fchk
          rw [if_neg (show ¬ _ by rw [if_neg (by omega), if_neg (by omega), if_neg (by omega)]; simp), if_neg (by omega)]
        rw [hE2] at hf2
        have hreg2 := lenR_reg (kdAt m pc) (many pc) (most + 1).toNat
        generalize lenR (kdAt m pc) (many pc) (most + 1).toNat = L2 at *
        have hL2 : (L2 : Int) ≤ 10000 := by have := hreg2.room; omega
        have RVr : Hid _ := RV5.out.stays hbr
        have VArH : Hid _ := VAr
        generalize stc (kdAt m pc) j = sN at *
        generalize brc (kdAt m pc) j = bN at *
        clear hbr hE2 hE
        go_wp2_with fail
        refine hf2.mono ?_
        rintro e w6 ⟨hb6, ⟨hx, _⟩ | ⟨_, g6, c6, h6, k6, d6, rfl, RV6⟩⟩
        · exact absurd rfl hx
        clear hf2
        have hB6 : Hid (Below w.heap.size w w6) := by
          have h1 : Below w.heap.size w wr := hB5.out.trans (HBR.out.mono hB5.out.size)
          exact h1.trans (hb6.mono h1.size)
        have hA6 : Below w6.heap.size w6 (w6.alloc (.cells #[.int .u32 pc, .slice (some ⟨g6, 0, none⟩) L2 c6, .slice (some ⟨h6, 0, none⟩) k6 d6] 51)) := (Below.refl _ _).alloc (Nat.le_refl _) _
        have hB7 : Hid (Below w.heap.size w _) := hB6.out.trans (hA6.mono hB6.out.size)
        have I6 : Hid (InsAt _ g6 0 (wAt m pc) j) := fun i q hi hq => (RV6.stays hA6).ins i q (by omega) hq
        have I5 : Hid (InsAt _ g 0 (wAt m pc) j) := ((RVr.out.stays hb6).stays hA6).ins
        have VA7 := ((VArH.out.stays hb6).stays hA6).q1
        have VA8 := (VarAt.alloc w6 pc L2 g6 c6 h6 k6 d6).q1
        have hlc := RV6.lc
        have hlc' : (j : Int) ≤ c6 := by omega
        have hjL2 : (j : Int) ≤ L2 := by omega
        have hnl : decide ((L2 : Int) < j) = false := by simp; omega
        have hne : rb ≠ w6.heap.size := by
          have := World.block_lt_of_cell? _ _ (VArH.out.stays hb6).q1
          simp at this; omega
        have q1' := (VArH.out.stays hb6).q1
        have h8 : decide (8 < (sN : Int)) = false := by simp; omega
        have h9 : decide (1 < (bN : Int)) = false := by simp; omega
        have h10 : decide (most < (j : Int)) = false := by simp; omega
        clear hb6 RV6 hA6 VArH RVr q1
        go_upto_region 32 with fail
        generalize w6.alloc (.cells #[.int .u32 pc, .slice (some ⟨g6, 0, none⟩) L2 c6, .slice (some ⟨h6, 0, none⟩) k6 d6] 51) = w7 at *
        generalize w6.heap.size = r6 at *
        refine wp_region_phase 10 [(0, 0), (1, 1), (2, 0), (3, 1), (4, 0), (5, 0), (6, 0), (7, 1), (8, 2), (9, 0)] (fun W => W.cell? ⟨rb, 1, none⟩ = some (.slice (some ⟨g, 0, none⟩) j c) ∧ W.cell? ⟨r6, 1, none⟩ = some (.slice (some ⟨g6, 0, none⟩) L2 c6)) (by kernel_rfl) (by kernel_rfl) (fun _ _ _ d _ h => by cases d <;> exact h) ⟨VA7, VA8⟩ ?_
        repeat (first | (refine wpPlanZ_free (by rfl) (by rfl) (fun W => by (go_simp; try with_reducible rfl)) (fun K hK => ?_); go_simp; refine hK _ ?_; clear hK K) | (refine wpPlanZ_quiet (by rfl) (by rfl) (fun W hW => by (obtain ⟨c0, c1⟩ := hW; go_simp; try with_reducible rfl)) (fun K hK => ?_); go_simp; refine hK _ ?_; clear hK K))
        refine wpPlanZ_serial (by rfl) (by rfl) (fun K hK => ?_)
        go_simp
        have hsm := sameIns_eq w7.drew g6 0 g 0 j c6 c (wAt m pc) (by omega) I6.out I5.out
        refine hsm.mono ?_
        rintro e w8 ⟨rfl, n8, rfl⟩
        refine hK _ _ (fun _ => ⟨VA7, VA8⟩) ?_
        clear hK K hsm
        repeat (first | (refine wpPlanZ_free (by rfl) (by rfl) (fun W => by (go_simp; try with_reducible rfl)) (fun K hK => ?_); go_simp; refine hK _ ?_; clear hK K))
        refine wpPlanZ_nil ?_
        go_wp2
        go_ret
        exact ⟨rfl, below_drewN hB7.out.drew n8⟩
end
end Go.Proofs.YtckcbnfobjmhpaaDoor
