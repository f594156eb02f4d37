/-
  The walk of AsmBack.
-/
import Derived.Test.YtccnliihdhnckaaGreatDoorAsmH
import Derived.Test.YtccnliihdhnckaaGreatDoorBackP
namespace Go.Proofs.YtccnliihdhnckaaGreatDoor
open Go.RowKit Go.Shelf Go.Joins Go.Maps
open Num Tab Fm Txt
set_option linter.unusedVariables false
theorem dec_ex (v : Int) : ∃ k, DecP v k := by
  by_cases h : ∃ k, 1 ≤ k ∧ k < 54 ∧ xw k v = v
  · obtain ⟨k, h⟩ := h; exact ⟨k, Or.inl h⟩
  · exact ⟨0, Or.inr ⟨rfl, fun j h1 h2 e => h ⟨j, h1, h2, e⟩⟩⟩
theorem ptext_len (k : Nat) (hk : k < 54) (f : F) (h : okF k f) : (ptext k f).length ≤ 600 := by
  obtain ⟨⟨a, b⟩, ⟨c, d⟩, ⟨e, g⟩, i, j⟩ := ok_rng h hk
  unfold ptext
  rw [List.length_append]
  have h1 : ((form k).flatMap (rend f)).length ≤ 21 * (form k).length := rend_len f.s f.t f.d f.m a b c d e g i j (form k)
  have h2 := form_len k hk
  omega
theorem lnB_len (v : Int) (h : WdB v) : (lnB v).length ≤ 1000 := by
  obtain ⟨k, hk⟩ := dec_ex v
  unfold lnB
  rw [kOf_eq h.1 h.2 hk]
  rcases hk with ⟨k1, k2, e⟩ | ⟨rfl, _⟩
  · rw [if_neg (by omega)]
    have := ptext_len k k2 (fOf v k) (ok_of (sh k) (sh_all k k2) v h.1 h.2)
    omega
  · rw [if_pos rfl]
    have := Lib.itoa_length_le v (by have := h.1; omega) (by have := h.2; omega)
    simp; omega
theorem lsB_short (at_ : Int) : ∀ (vs : List Int) (i : Nat), (∀ v ∈ vs, WdB v) → ∀ l ∈ lsB at_ vs i, l.length ≤ 1000
  | [], i, h, l, hl => by simp [lsB] at hl
  | v :: vs, i, h, l, hl => by
    rw [lsB, List.mem_append] at hl
    rcases hl with hl | hl
    · split at hl
      · simp at hl; subst hl; simp
      · simp at hl
    · rcases List.mem_cons.1 hl with rfl | hl
      · exact lnB_len v (h v (by simp))
      · exact lsB_short at_ vs (i + 1) (fun x hx => h x (by simp [hx])) l hl
set_option maxRecDepth 100000 in
set_option maxHeartbeats 4000000 in
theorem asmBack_any {w : World} (E : Nat → Addr) (EE : Er9 E w) (T : Tb (E 3) (E 1) w) (b : Lb w) {ao : Option Addr} {cap : Nat} {vs : List Int} (X : WIn w ao vs) (hx : ∀ v ∈ vs, WdB v) (hl : (vs.length : Int) ≤ 9223372036854775807) (at_ : Int) (a0 : -9223372036854775808 ≤ at_) (a1 : at_ ≤ 9223372036854775807) (org : Int) (o0 : 0 ≤ org) (o1 : org < 4294967296) :
    Calls Tryz.prog 5 #[.slice ao vs.length cap, .int .i64 at_, .int .u32 org] w fun e w' => e = .returned (.bool true) ∧ Below w.heap.size w w' := by
  have HE : Hid (Er9 E w) := EE
  have HT : Hid (Tb (E 3) (E 1) w) := T
  have HL : Hid (Lb w) := b
  have HX : Hid (WIn w ao vs) := X
  have HW : Hid (∀ v ∈ vs, WdB v) := hx
  have htx := texted_any (E 3) (E 1) w T b
  clear EE T b X hx
  go_enter Tryz.func5, Tryz.ntmps5
  go_wp2_with fail
  refine htx.mono ?_
  rintro e w1 ⟨rfl, hb1⟩
  clear htx
  have HB1 : Hid (Below w.heap.size w w1) := hb1
  clear hb1
  by_cases h1 : 100 < (vs.length : Int)
  · go_wp2
    go_ret
    exact ⟨rfl, HB1.out⟩
  have h1' : (vs.length : Int) ≤ 100 := by omega
  clear h1
  by_cases h2 : at_ < 0
  · go_wp2
    go_ret
    exact ⟨rfl, HB1.out⟩
  have h2' : 0 ≤ at_ := by omega
  clear h2
  by_cases h3 : (vs.length : Int) < at_
  · go_wp2
    go_ret
    exact ⟨rfl, HB1.out⟩
  have h3' : at_ ≤ (vs.length : Int) := by omega
  clear h3
  by_cases h4 : ¬ org % 4 = 0
  · have h4b : (org % 4 != 0) = true := by simpa using h4
    go_wp2
    go_ret
    exact ⟨rfl, HB1.out⟩
  have h4 : org % 4 = 0 := by omega
  have HO : Hid (org % 4 = 0) := h4
  go_upto_region 4 with fail
  clear h4
  obtain ⟨i0, hi, iz0, iz1, iz2⟩ := info_parts info9
  go_wp2
  go_loopw [8, 9] (fun lv i wr => ∃ j : Nat, j ≤ vs.length ∧ i = .int .i64 j ∧ LAt w wr lv (lsB at_ (vs.take j) 0)) (fun _ i _ => vs.length - (intOf i).toNat)
  case atStart => exact ⟨0, Nat.zero_le _, rfl, ⟨World.ownsRow_nil _ _ _ _, HB1.out⟩⟩
  case round =>
    obtain ⟨j, hj, rfl, A⟩ := hrel
    have HA : Hid (LAt w wr u8 (lsB at_ (vs.take j) 0)) := A
    have hlen := lsB_len at_ (vs.take j) 0
    have hlen2 : (lsB at_ (vs.take j) 0).length ≤ 101 := by
      have : (vs.take j).length ≤ 100 := by simp; omega
      split at hlen <;> omega
    clear A hlen
    by_cases hlt : j < vs.length
    · obtain ⟨x, hx⟩ : ∃ x, vs[j]? = some x := ⟨_, List.getElem?_eq_getElem hlt⟩
      have hwx := HW.out x (List.mem_of_getElem? hx)
      have htk : vs.take (j + 1) = vs.take j ++ [x] := by rw [List.take_add_one, hx]; rfl
      have hsn : Hid (lsB at_ (vs.take (j + 1)) 0 = lsB at_ (vs.take j) 0 ++ ((if (j : Int) = at_ then [hereL] else []) ++ [lnB x])) := by
        show _ = _
        rw [htk, lsB_snoc]
        have : (0 + (vs.take j).length : Nat) = j := by simp; omega
        rw [this]
      clear htk
      generalize lsB at_ (vs.take j) 0 = L0 at *
      generalize hL1 : lsB at_ (vs.take (j + 1)) 0 = L1 at *
      have HL1 : Hid (lsB at_ (vs.take (j + 1)) 0 = L1) := hL1
      clear hL1
      have hlt' : (j : Int) < vs.length := by omega
      go_upto_if 47 with fail
      go_cut [8] from 39 to 79 (fun lv wx => LAt w wx lv (L0 ++ (if (j : Int) = at_ then [hereL] else [])))
      case first =>
        rename_i hJ _
        have hJH : Hid _ := hJ
        clear hJ hsn
        have hl2 : (L0.length : Int) ≤ 101 := by omega
        have hsz := HA.out.bel.size
        by_cases hat : ((j : Int) == at_) = true
        · have hat' : (j : Int) = at_ := by simpa using hat
          have H1 : Hid (LAt w (wr.alloc (.cells #[.string ⟨#[104, 101, 114, 101, 58]⟩] 9)) u8 L0) := HA.out.more _
          have HF : Hid (∀ v' w', LAt w w' v' (L0 ++ [hereL]) → LAt w w' v' (L0 ++ (if (j : Int) = at_ then [hereL] else []))) := fun v' w' h => by rw [if_pos hat']; exact h
          clear hat'
          go_wp2_with (at_builtin; refine wpList_append_moved rfl _ _ 39 rfl w.heap.size 9 i0 _ 1 16 Tryz.underlying39 hi iz0 iz1 iz2 rfl (by decide) u8 _ _ rfl H1.out.row ⟨wr.heap.size, 0, none⟩ 1 1 [strV hereL] rfl rfl (str_cell wr hereL) (str_one _) (by unfold maxLen; omega) (by omega) (by simp; omega) ?_; intro v' w2 ho hg hm; have HN : Hid _ := HF.out v' w2 (H1.out.add (xs := [hereL]) ho hg); clear ho hg hm)
          have hJ := hJH.out
          go_meet
          exact HN.out
        · have hat2 : ((j : Int) == at_) = false := by simpa using hat
          have HN : Hid (LAt w wr u8 (L0 ++ (if (j : Int) = at_ then [hereL] else []))) := by
            show LAt _ _ _ _
            rw [if_neg (by simpa using hat2), List.append_nil]; exact HA.out
          clear hat
          go_wp2
          have hJ := hJH.out
          go_meet
          exact HN.out
      case rest =>
        have hl3 : ((L0 ++ (if (j : Int) = at_ then [hereL] else [])).length : Int) ≤ 102 := by
          rw [List.length_append]; split <;> simp <;> omega
        rw [← List.append_assoc] at hsn
        generalize L0 ++ (if (j : Int) = at_ then [hereL] else []) = L2 at *
        have HC : Hid (LAt w wc u8 L2) := hcut
        clear hcut HA
        obtain ⟨bq, off, rfl, hcx⟩ := HX.out.sh (by omega)
        have c0 : wc.cell? ⟨bq, off + j, none⟩ = some (.int .u32 x) := cell_stays HC.out.bel (Nat.le_refl _) (hcx j x hx)
        have zb := World.block_lt_of_cell? _ _ c0
        clear hcx
        have hde := decode_any (E 3) (E 1) x hwx.1 hwx.2 wc (HT.out.stays HC.out.bel (Nat.le_refl _))
        go_wp2_with fail
        refine hde.mono ?_
        rintro e w2 ⟨k, hk, rfl, hb2⟩
        clear hde
        have hl4 : (L2.length : Int) ≤ 102 := hl3
        clear hl3
        have HW2 : Hid (WdB x) := hwx
        have hek : Hid (kOf x = k) := kOf_eq hwx.1 hwx.2 hk
        have H2 : Hid (LAt w w2 u8 L2) := HC.out.stays hb2
        have c2 : w2.cell? ⟨bq, off + j, none⟩ = some (.int .u32 x) := cell_stays hb2 (Nat.le_refl _) c0
        have zb2 := World.block_lt_of_cell? _ _ c2
        have hx0 := hwx.1
        have hx1 := hwx.2
        clear hb2 HC c0 zb
        unfold decR
        rcases hk with ⟨k1, k2, hxw⟩ | ⟨rfl, hno⟩
        · have hok := ok_of (sh k) (sh_all k k2) x hx0 hx1
          obtain ⟨⟨r0, r1⟩, ⟨r2, r3⟩, ⟨r4, r5⟩, r6, r7⟩ := x_rng (sh k) x hx0 hx1
          have hte := fun W (T : Tb (E 3) (E 1) W) (b : Lb W) => text_ok (E 3) (E 1) k k1 k2 (xs (sh k) x) (xt (sh k) x) (xd (sh k) x) (xm (sh k) x) r6 (by omega) (by omega) (by omega) (by omega) (by omega) (by omega) (by omega) hok.1 W T b
          have hln : Hid (lnB x = ptext k ⟨xs (sh k) x, xt (sh k) x, xd (sh k) x, xm (sh k) x⟩) := by
            show _ = _
            unfold lnB; rw [hek.out, if_neg (by omega)]; rfl
          have hk0 : ¬ (k : Int) = 0 := by omega
          have HLn : Hid (∀ v' w', LAt w w' v' (L2 ++ [ptext k ⟨xs (sh k) x, xt (sh k) x, xd (sh k) x, xm (sh k) x⟩]) → LAt w w' v' L1) := fun v' w' h => by rw [hsn.out, hln.out]; exact h
          clear hok hsn hln hek hxw HW2
          generalize xs (sh k) x = fs at *
          generalize xt (sh k) x = ft at *
          generalize xd (sh k) x = fd at *
          generalize xm (sh k) x = fm at *
          generalize ptext k ⟨fs, ft, fd, fm⟩ = tx at *
          have H3 : Hid (LAt w (w2.alloc (.cells #[.int .i64 k, .int .i64 fs, .int .i64 ft, .int .i64 fd, .int .u32 fm] 24)) u8 L2) := H2.out.more _
          go_wp2_with fail
          refine (hte _ (HT.out.stays H3.out.bel (Nat.le_refl _)) (HL.out.stays H3.out.bel (Nat.le_refl _))).mono ?_
          rintro e w4 ⟨rfl, hb4⟩
          have H4 : Hid (LAt w w4 u8 L2) := H3.out.stays hb4
          have H5 : Hid (LAt w (w4.alloc (.cells #[.string ⟨tx.toArray⟩] 9)) u8 L2) := H4.out.more _
          have hsz := H4.out.bel.size
          clear hb4 hte H3 H2 c2
          go_wp2_with (at_builtin; refine wpList_append_moved rfl _ _ 39 rfl w.heap.size 9 i0 _ 1 16 Tryz.underlying39 hi iz0 iz1 iz2 rfl (by decide) u8 _ _ rfl H5.out.row ⟨w4.heap.size, 0, none⟩ 1 1 [strV tx] rfl rfl (str_cell w4 tx) (str_one _) (by unfold maxLen; omega) (by omega) (by simp; omega) ?_; intro v' w6 ho hg hm; have HN : Hid _ := HLn.out v' w6 (H5.out.add (xs := [tx]) ho hg); clear ho hg hm)
          go_roundw
          case rel => exact ⟨j + 1, by omega, by go_num, by rw [HL1.out]; exact HN.out⟩
          case measure => simp [intOf]; omega
        · have hdm := fun W => decimal_any x (by omega) (by omega) W
          have hln : Hid (lnB x = wMark ++ Lib.itoa x) := by
            show _ = _
            unfold lnB; rw [hek.out, if_pos rfl]
          have HLn : Hid (∀ v' w', LAt w w' v' (L2 ++ [wMark ++ Lib.itoa x]) → LAt w w' v' L1) := fun v' w' h => by rw [hsn.out, hln.out]; exact h
          have hadd := run_add wMark (Lib.itoa x) (by have := Lib.itoa_length_le x (by omega) (by omega); simp; omega)
          rw [show ((0 : Nat) : Int) = (0 : Int) from rfl]
          clear hsn hln hek hno HW2
          generalize xs (sh 0) x = fs at *
          generalize xt (sh 0) x = ft at *
          generalize xd (sh 0) x = fd at *
          generalize xm (sh 0) x = fm at *
          generalize Lib.itoa x = tx at *
          have H3 : Hid (LAt w (w2.alloc (.cells #[.int .i64 0, .int .i64 fs, .int .i64 ft, .int .i64 fd, .int .u32 fm] 24)) u8 L2) := H2.out.more _
          go_wp2_with fail
          refine (hdm _).mono ?_
          rintro e w4 ⟨rfl, hb4⟩
          have H4 : Hid (LAt w w4 u8 L2) := H3.out.stays hb4
          have H5 : Hid (LAt w (w4.alloc (.cells #[.string ⟨(wMark ++ tx).toArray⟩] 9)) u8 L2) := H4.out.more _
          have hsz := H4.out.bel.size
          clear hb4 hdm H3 H2 c2
          go_wp2_with (at_builtin; refine wpList_append_moved rfl _ _ 39 rfl w.heap.size 9 i0 _ 1 16 Tryz.underlying39 hi iz0 iz1 iz2 rfl (by decide) u8 _ _ rfl H5.out.row ⟨w4.heap.size, 0, none⟩ 1 1 [strV (wMark ++ tx)] rfl rfl (str_cell w4 (wMark ++ tx)) (str_one _) (by unfold maxLen; omega) (by omega) (by simp; omega) ?_; intro v' w6 ho hg hm; have HN : Hid _ := HLn.out v' w6 (H5.out.add (xs := [wMark ++ tx]) ho hg); clear ho hg hm)
          go_roundw
          case rel => exact ⟨j + 1, by omega, by go_num, by rw [HL1.out]; exact HN.out⟩
          case measure => simp [intOf]; omega
    · obtain rfl : j = vs.length := by omega
      rw [List.take_length] at HA hlen2
      have has := assemble_any E (HE.out.stays HA.out.bel) (HT.out.stays HA.out.bel (Nat.le_refl _)) (HL.out.stays HA.out.bel (Nat.le_refl _)) (lsB at_ vs 0) HA.out.row (by omega) (lsB_short at_ vs 0 HW.out) org o0 o1 HO.out
      rw [asm_back at_ (fun v _ => dec_ex v) vs HW.out org] at has
      clear hlen2
      go_wp2_with fail
      refine has.mono ?_
      rintro e w2 ⟨⟨v', rfl, hrow⟩, hb2⟩
      have HB2 : Hid (Below w.heap.size w w2) := HA.out.bel.trans (hb2.mono HA.out.bel.size)
      obtain ⟨wo, wc, rfl, hwo⟩ : ∃ wo wc, v' = .slice wo vs.length wc ∧ WIn w2 wo vs := by
        rcases hrow.2 with ⟨e, h⟩ | ⟨q, cq, cur, e, _⟩
        · exact ⟨none, 0, by rw [e, h], ⟨fun h2 => by omega⟩⟩
        · refine ⟨_, cq, e, ⟨fun _ => ⟨q, 0, rfl, fun i x hx => ?_⟩⟩⟩
          subst e
          have := hrow.cells (g := q) rfl i (u32V x) (by rw [List.getElem?_map, hx]; rfl)
          rw [add_lit] at this
          rw [Nat.zero_add]; exact this
      have hal := alike_any w2 hwo (HX.out.stays HB2.out) wc cap (by omega)
      clear has hb2 hrow HA hwo
      go_wp2_with fail
      refine hal.mono ?_
      rintro e w3 ⟨rfl, hb3⟩
      have HB3 : Hid (Below w.heap.size w w3) := HB2.out.trans (hb3.mono HB2.out.size)
      clear hal hb3
      go_wp2
      go_ret
      exact ⟨rfl, HB3.out⟩
end Go.Proofs.YtccnliihdhnckaaGreatDoor
