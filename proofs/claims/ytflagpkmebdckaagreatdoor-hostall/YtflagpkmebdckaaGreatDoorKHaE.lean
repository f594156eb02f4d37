/-
  HostAll: the walk, where the instructions are none of a region.
-/
import Derived.Test.YtflagpkmebdckaaGreatDoorKLowWell
import Derived.Test.YtflagpkmebdckaaGreatDoorQHaK
namespace Go.Proofs.YtflagpkmebdckaaGreatDoor
open Go.RowKit Go.Maps
open Num Low
set_option linter.unusedVariables false
set_option maxRecDepth 100000 in
set_option maxHeartbeats 16000000 in
theorem HaE_any (S : Nat → Addr) {w : World} (E : Ep (peS S) w) (LV : Lv (peS S) w) (T : St) (ok : T.ok) (ct0 : 0 ≤ T.ct) (ct1 : T.ct ≤ 1099511627776) {v : Value} {l : List Ix} (A : InsIn w v l) (hl24 : l.length ≤ 24) {vw : Value} {xs : List Int} (X : WordsIn w vw xs) (hx : xs.length ≤ 200) (wa pc lev : Int) (p0 : 0 ≤ pc) (p1 : pc < 4294967296) (hv : lev = 0 ∨ lev = 1 ∨ lev = 2) (hR : regE l ≠ 0) :
    Calls Tryz.prog 6 #[.int .u32 pc, v, .int .i64 lev, .agg (plA T vw wa)] w fun e w' => e = .returned (.bool true) ∧ Below w.heap.size w w' := by
  have P0 := pl_row w T vw wa
  have B0 : Below w.heap.size w (w.alloc (.cells (plA T vw wa) 50)) := (Below.refl _ _).alloc (Nat.le_refl _) _
  have HE : Hid (∀ W, Below w.heap.size w W → Ep (peS S) W) := fun W hW => E.stays hW
  have HLV : Hid (∀ W, Below w.heap.size w W → Lv (peS S) W) := fun W hW => LV.stays hW (Nat.le_refl _)
  have HIN : Hid (∀ W, Below w.heap.size w W → InsIn W v l) := fun W hW => A.stays hW (Nat.le_refl _)
  have HBD : Hid (∀ o ∈ l, o.bd) := A.bd
  have HX : Hid (∀ W, Below w.heap.size w W → WordsIn W vw xs) := fun W hW => X.stays hW
  have hho := hosted_any (peS S) (E.stays B0)
  have h43 : (plA T vw wa)[43]? = some vw := by rw [plA_get _ _ _ 43 (by omega)]; rfl
  have h42 : (plA T vw wa)[42]? = some (.int .i64 T.ct) := by rw [plA_get _ _ _ 42 (by omega)]; rfl
  have HME : Hid (∀ W, Below w.heap.size w W → Calls Tryz.prog 30 #[.agg (plA T vw wa)] W fun e w' => ∃ sb bp bw bh : Nat, e = .returned (.pointer (some ⟨sb, 0, none⟩)) ∧ RamIs w' sb bp bw bh 65 (mw xs) (wtP wa) (fun _ => false) ∧ Below W.heap.size W w' ∧ W.heap.size ≤ sb ∧ W.heap.size ≤ bp ∧ W.heap.size ≤ bw ∧ W.heap.size ≤ bh) := fun W hW => memory_any (peS S) (HE.out W hW).e T (HX.out W hW) hx wa
  have hlp : ∀ W : World, Calls Tryz.prog 17 #[.agg (plA T vw wa)] W (fun e w' => e = .returned (.bool false) ∧ Below W.heap.size W w') := fun W => by
    obtain ⟨aw, cw, e, _⟩ := X.sh
    have h44 := h43.trans (congrArg some e)
    have hq := longPl_any (w := W) h44 h42
    have hb : (decide (200 < (xs.length : Int)) || decide (T.ct < 0) || decide (1099511627776 < T.ct)) = false := by
      simp only [Bool.or_eq_false_iff, decide_eq_false_iff_not]; omega
    rw [hb] at hq
    exact hq
  have hpla := fun W => placed_any W T vw wa pc p0 p1
  have hldp : ∀ (W : World), RowIs W w.heap.size 50 45 (plV T vw wa) → (loadVar 50 ⟨w.heap.size, 0, none⟩).run Tryz.prog W = .ok (.agg (plA T vw wa)) W := fun (W : World) h => load_place h
  obtain ⟨ao, cap, hve, hcap, _⟩ := A.sh
  subst hve
  obtain ⟨PA, hPA⟩ : ∃ PA, PA = plA T vw wa := ⟨_, rfl⟩
  rw [← hPA] at P0 B0 hlp hldp HME hpla hho ⊢
  obtain ⟨fP, hfP⟩ : ∃ fP, fP = plV T vw wa := ⟨_, rfl⟩
  rw [← hfP] at P0 hldp
  have okT := plS_ok ok ⟨p0, p1⟩
  have HT : Hid ((plS T pc).ok ∧ (plS T pc).ct = T.ct ∧ (plS T pc).sl = false ∧ (plS T pc).pc = pc ∧ (plS T pc).nx = lo (pc + 4) ∧ (plS T pc).r 0 = 0) := ⟨okT, rfl, rfl, rfl, rfl, rfl⟩
  generalize hTT : plS T pc = T0 at *
  have hln : decide ((24 : Int) < (l.length : Int)) = false := decide_eq_false (by omega)
  have hv0 : decide (lev < 0) = false := decide_eq_false (by omega)
  have hv2 : decide ((2 : Int) < lev) = false := decide_eq_false (by omega)
  have HV : Hid (lev = 0 ∨ lev = 1 ∨ lev = 2) := hv
  obtain ⟨i0, hi, hz0, hz1, hz2⟩ := info_parts infoIns
  clear hPA hfP h43 h42 E LV A X ok hTT okT hv
  have hreg : Hid (regE l ≠ 0) := hR
  clear hR
  cases ao with
  | none =>
    go_enter Tryz.func6, Tryz.ntmps6
    go_upto_region 1 with fail
    generalize w.alloc (.cells PA 50) = V at *
    have HP0 : Hid (RowIs V w.heap.size 50 45 fP) := P0
    have HB0 : Hid (Below w.heap.size w V) := B0
    clear P0 B0
    go_wp2_with fail
    refine hho.mono ?_
    rintro e w1 ⟨rfl, hb1⟩
    have B1 : Hid (Below w.heap.size w w1) := HB0.out.trans (hb1.mono HB0.out.size)
    have P1 : Hid (RowIs w1 w.heap.size 50 45 fP) := HP0.out.stays hb1
    have hl1 := hldp w1 P1.out
    clear hho hb1 HB0 HP0
    go_upto_region 4 with (first | (refine wpList_loadT 50 _ (by rfl) w.heap.size _ (by rfl) (by rfl) hl1 ?_) | (go_at_call 17; refine (hlp _).mono ?_; rintro e w2 ⟨rfl, hb2⟩; clear hl1))
    have B2 : Hid (Below w.heap.size w w2) := B1.out.trans (hb2.mono B1.out.size)
    have P2 : Hid (RowIs w2 w.heap.size 50 45 fP) := P1.out.stays hb2
    clear hb2 hlp B1 P1
    have hl0 : l = [] := by
      rcases Nat.eq_zero_or_pos l.length with h | h
      · exact List.length_eq_zero_iff.1 h
      · obtain ⟨a, c, e, _, hh⟩ := (HIN.out w2 B2.out).sh
        obtain ⟨b, off, e2, _⟩ := hh h
        injection e with e1; rw [e2] at e1; cases e1
    subst hl0
    have hreq : ∀ pe : Nat → Addr, erV pe (regE ([] : List Ix)) = .iface 332 (.pointer (some (pe (regE ([] : List Ix))))) := fun pe => by unfold erV; rw [if_neg (by have := hreg.out; omega)]; rfl
    go_upto_region 6 with (go_at_call 18; refine (lower_bad (v := .slice none 0 0) (l := []) (HLV.out w2 B2.out) ⟨⟨none, 0, rfl, by simp, fun h => by cases h⟩, fun o ho => by cases ho⟩ (by simp) pc none 0 0 hreg.out).mono ?_; rintro e w4 ⟨rfl, hb4⟩; rw [hreq (peS S)])
    have B4 : Hid (Below w.heap.size w w4) := B2.out.trans (hb4.mono B2.out.size)
    clear B2 P2 hb4
    go_wp2
    go_ret
    exact ⟨rfl, B4.out.alloc B4.out.size _⟩
  | some ad =>
    go_enter Tryz.func6, Tryz.ntmps6
    go_upto_region 1 with fail
    generalize w.alloc (.cells PA 50) = V at *
    have HP0 : Hid (RowIs V w.heap.size 50 45 fP) := P0
    have HB0 : Hid (Below w.heap.size w V) := B0
    clear P0 B0
    go_wp2_with fail
    refine hho.mono ?_
    rintro e w1 ⟨rfl, hb1⟩
    have B1 : Hid (Below w.heap.size w w1) := HB0.out.trans (hb1.mono HB0.out.size)
    have P1 : Hid (RowIs w1 w.heap.size 50 45 fP) := HP0.out.stays hb1
    have hl1 := hldp w1 P1.out
    clear hho hb1 HB0 HP0
    go_upto_region 4 with (first | (refine wpList_loadT 50 _ (by rfl) w.heap.size _ (by rfl) (by rfl) hl1 ?_) | (go_at_call 17; refine (hlp _).mono ?_; rintro e w2 ⟨rfl, hb2⟩; clear hl1))
    have B2 : Hid (Below w.heap.size w w2) := B1.out.trans (hb2.mono B1.out.size)
    have P2 : Hid (RowIs w2 w.heap.size 50 45 fP) := P1.out.stays hb2
    clear hb2 hlp B1 P1
    have hreq : ∀ pe : Nat → Addr, erV pe (regE l) = .iface 332 (.pointer (some (pe (regE l)))) := fun pe => by unfold erV; rw [if_neg (by have := hreg.out; omega)]; rfl
    have hnews : ∀ j u, (ixL l)[j]? = some u → w2.cell? (ad.add j) = some u := ixL_news (HIN.out w2 B2.out)
    go_upto_region 6 with (first | (at_builtin; refine wpList_append_moved rfl _ _ 48 rfl w2.heap.size 113 i0 (.agg #[.int .i64 0, .int .i64 0, .int .i64 0, .int .i64 0, .int .u32 0]) 5 40 Tryz.underlying48 hi hz0 hz1 hz2 rfl (by decide) (.slice none 0 0) 0 [] rfl (World.ownsRow_nil _ _ _ _) ad l.length cap (ixL l) rfl (ixL_len l) hnews (ixL_one l) (by unfold maxLen; omega) (by omega) (Nat.le_refl _) ?_; intro v3 w3 ho hg hm; rw [Nat.zero_add, List.nil_append] at ho; have A3 : Hid _ := ins_of_row ho HBD.out; have B3 : Hid (Below w2.heap.size w2 w3) := ⟨hg.os, hg.tape, hg.output, hg.size, fun k hk => hg.block k hk (by intro e; cases e)⟩; clear ho hg hm hnews; obtain ⟨ao3, cap3, hv3, _⟩ := A3.out.sh; subst hv3) | (go_at_call 18; refine (lower_bad (HLV.out w3 (B2.out.trans (B3.out.mono B2.out.size))) A3.out (by omega) pc none 0 0 hreg.out).mono ?_; rintro e w4 ⟨rfl, hb4⟩; rw [hreq (peS S)]))
    have B4 : Hid (Below w.heap.size w w4) := (B2.out.trans (B3.out.mono B2.out.size)).trans (hb4.mono (by have := B2.out.size; have := B3.out.size; omega))
    clear B2 B3 P2 A3 hb4
    go_wp2
    go_ret
    exact ⟨rfl, B4.out.alloc B4.out.size _⟩
end Go.Proofs.YtflagpkmebdckaaGreatDoor
/-
  HostAll: what is too long, or of no level; the whole walk.
-/
namespace Go.Proofs.YtflagpkmebdckaaGreatDoor
open Go.RowKit Go.Maps
open Num Low
set_option linter.unusedVariables false
set_option maxRecDepth 100000 in
set_option maxHeartbeats 16000000 in
theorem HaL_any (S : Nat → Addr) {w : World} (E : Ep (peS S) w) (T : St) (ao : Option Addr) (n cap : Nat) {vw : Value} {xs : List Int} (X : WordsIn w vw xs) (wa pc lev : Int) (hL : 24 < n ∨ (decide (200 < (xs.length : Int)) || decide (T.ct < 0) || decide (1099511627776 < T.ct)) = true ∨ lev < 0 ∨ 2 < lev) :
    Calls Tryz.prog 6 #[.int .u32 pc, .slice ao n cap, .int .i64 lev, .agg (plA T vw wa)] w fun e w' => e = .returned (.bool true) ∧ Below w.heap.size w w' := by
  have P0 := pl_row w T vw wa
  have B0 : Below w.heap.size w (w.alloc (.cells (plA T vw wa) 50)) := (Below.refl _ _).alloc (Nat.le_refl _) _
  have hho := hosted_any (peS S) (E.stays B0)
  have h43 : (plA T vw wa)[43]? = some vw := by rw [plA_get _ _ _ 43 (by omega)]; rfl
  have h42 : (plA T vw wa)[42]? = some (.int .i64 T.ct) := by rw [plA_get _ _ _ 42 (by omega)]; rfl
  obtain ⟨R, hR⟩ : ∃ R : Bool, (decide (200 < (xs.length : Int)) || decide (T.ct < 0) || decide (1099511627776 < T.ct)) = R := ⟨_, rfl⟩
  rw [hR] at hL
  have hlp : ∀ W : World, Calls Tryz.prog 17 #[.agg (plA T vw wa)] W (fun e w' => e = .returned (.bool R) ∧ Below W.heap.size W w') := fun W => by
    obtain ⟨aw, cw, e, _⟩ := X.sh
    have h44 := h43.trans (congrArg some e)
    have hq := longPl_any (w := W) h44 h42
    rw [hR] at hq
    exact hq
  have hldp : ∀ (W : World), RowIs W w.heap.size 50 45 (plV T vw wa) → (loadVar 50 ⟨w.heap.size, 0, none⟩).run Tryz.prog W = .ok (.agg (plA T vw wa)) W := fun (W : World) h => load_place h
  obtain ⟨PA, hPA⟩ : ∃ PA, PA = plA T vw wa := ⟨_, rfl⟩
  rw [← hPA] at P0 B0 hlp hldp hho ⊢
  obtain ⟨fP, hfP⟩ : ∃ fP, fP = plV T vw wa := ⟨_, rfl⟩
  rw [← hfP] at P0 hldp
  clear hPA hfP h43 h42 E X hR
  by_cases hn : 24 < n
  · have hln : decide ((24 : Int) < (n : Int)) = true := decide_eq_true (by omega)
    clear hL hn hlp hldp
    go_enter Tryz.func6, Tryz.ntmps6
    go_upto_region 1 with fail
    generalize w.alloc (.cells PA 50) = V at *
    have HB0 : Hid (Below w.heap.size w V) := B0
    clear P0 B0
    go_wp2_with fail
    refine hho.mono ?_
    rintro e w1 ⟨rfl, hb1⟩
    have B1 : Hid (Below w.heap.size w w1) := HB0.out.trans (hb1.mono HB0.out.size)
    clear hho hb1 HB0
    go_wp2
    go_ret
    exact ⟨rfl, B1.out⟩
  have hln : decide ((24 : Int) < (n : Int)) = false := decide_eq_false (by omega)
  cases R with
  | true =>
    clear hL hn
    go_enter Tryz.func6, Tryz.ntmps6
    go_upto_region 1 with fail
    generalize w.alloc (.cells PA 50) = V at *
    have HB0 : Hid (Below w.heap.size w V) := B0
    have HP0 : Hid (RowIs V w.heap.size 50 45 fP) := P0
    clear P0 B0
    go_wp2_with fail
    refine hho.mono ?_
    rintro e w1 ⟨rfl, hb1⟩
    have B1 : Hid (Below w.heap.size w w1) := HB0.out.trans (hb1.mono HB0.out.size)
    have hl1 := hldp w1 (HP0.out.stays hb1)
    clear hho hb1 HB0 HP0
    go_upto_region 3 with (first | (refine wpList_loadT 50 _ (by rfl) w.heap.size _ (by rfl) (by rfl) hl1 ?_) | (go_at_call 17; refine (hlp _).mono ?_; rintro e w2 ⟨rfl, hb2⟩; clear hl1))
    have B2 : Hid (Below w.heap.size w w2) := B1.out.trans (hb2.mono B1.out.size)
    clear hb2 hlp B1
    go_wp2
    go_ret
    exact ⟨rfl, B2.out⟩
  | false =>
    by_cases hv : lev < 0
    · have hv0 : decide (lev < 0) = true := decide_eq_true hv
      clear hL hn hv
      go_enter Tryz.func6, Tryz.ntmps6
      go_upto_region 1 with fail
      generalize w.alloc (.cells PA 50) = V at *
      have HB0 : Hid (Below w.heap.size w V) := B0
      have HP0 : Hid (RowIs V w.heap.size 50 45 fP) := P0
      clear P0 B0
      go_wp2_with fail
      refine hho.mono ?_
      rintro e w1 ⟨rfl, hb1⟩
      have B1 : Hid (Below w.heap.size w w1) := HB0.out.trans (hb1.mono HB0.out.size)
      have hl1 := hldp w1 (HP0.out.stays hb1)
      clear hho hb1 HB0 HP0
      go_upto_region 3 with (first | (refine wpList_loadT 50 _ (by rfl) w.heap.size _ (by rfl) (by rfl) hl1 ?_) | (go_at_call 17; refine (hlp _).mono ?_; rintro e w2 ⟨rfl, hb2⟩; clear hl1))
      have B2 : Hid (Below w.heap.size w w2) := B1.out.trans (hb2.mono B1.out.size)
      clear hb2 hlp B1
      go_wp2
      go_ret
      exact ⟨rfl, B2.out⟩
    · have hv0 : decide (lev < 0) = false := decide_eq_false hv
      have hv2 : decide ((2 : Int) < lev) = true := decide_eq_true (by rcases hL with h | h | h | h; omega; cases h; omega; omega)
      clear hL hn hv
      go_enter Tryz.func6, Tryz.ntmps6
      go_upto_region 1 with fail
      generalize w.alloc (.cells PA 50) = V at *
      have HB0 : Hid (Below w.heap.size w V) := B0
      have HP0 : Hid (RowIs V w.heap.size 50 45 fP) := P0
      clear P0 B0
      go_wp2_with fail
      refine hho.mono ?_
      rintro e w1 ⟨rfl, hb1⟩
      have B1 : Hid (Below w.heap.size w w1) := HB0.out.trans (hb1.mono HB0.out.size)
      have hl1 := hldp w1 (HP0.out.stays hb1)
      clear hho hb1 HB0 HP0
      go_upto_region 3 with (first | (refine wpList_loadT 50 _ (by rfl) w.heap.size _ (by rfl) (by rfl) hl1 ?_) | (go_at_call 17; refine (hlp _).mono ?_; rintro e w2 ⟨rfl, hb2⟩; clear hl1))
      have B2 : Hid (Below w.heap.size w w2) := B1.out.trans (hb2.mono B1.out.size)
      clear hb2 hlp B1
      go_wp2
      go_ret
      exact ⟨rfl, B2.out⟩
theorem hostAll_any (S : Nat → Addr) {w : World} (E : Ep (peS S) w) (LV : Lv (peS S) w) (T : St) (ok : 0 ≤ T.ct → T.ct ≤ 1099511627776 → T.ok) {v : Value} {l : List Ix} (A : InsIn w v l) {vw : Value} {xs : List Int} (X : WordsIn w vw xs) (wa pc : Int) (p0 : 0 ≤ pc) (p1 : pc < 4294967296) (lev : Int) :
    Calls Tryz.prog 6 #[.int .u32 pc, v, .int .i64 lev, .agg (plA T vw wa)] w fun e w' => e = .returned (.bool true) ∧ Below w.heap.size w w' := by
  by_cases hL : 24 < l.length ∨ (decide (200 < (xs.length : Int)) || decide (T.ct < 0) || decide (1099511627776 < T.ct)) = true ∨ lev < 0 ∨ 2 < lev
  · obtain ⟨ao, cap, rfl, _⟩ := A.sh
    exact HaL_any S E T ao l.length cap X wa pc lev hL
  · have hb : ¬ (decide (200 < (xs.length : Int)) || decide (T.ct < 0) || decide (1099511627776 < T.ct)) = true := fun h => hL (.inr (.inl h))
    simp only [Bool.or_eq_true, decide_eq_true_eq, not_or] at hb
    have h24 : l.length ≤ 24 := by
      by_cases h : 24 < l.length
      · exact absurd (.inl h) hL
      · omega
    have hv : lev = 0 ∨ lev = 1 ∨ lev = 2 := by
      have a : ¬ lev < 0 := fun h => hL (.inr (.inr (.inl h)))
      have b : ¬ 2 < lev := fun h => hL (.inr (.inr (.inr h)))
      omega
    have c0 : 0 ≤ T.ct := by omega
    have c1 : T.ct ≤ 1099511627776 := by omega
    by_cases hR : regE l = 0
    · exact HaK_any S E LV T (ok c0 c1) c0 c1 A h24 X (by omega) wa pc lev p0 p1 hv hR
    · exact HaE_any S E LV T (ok c0 c1) c0 c1 A h24 X (by omega) wa pc lev p0 p1 hv hR
end Go.Proofs.YtflagpkmebdckaaGreatDoor
