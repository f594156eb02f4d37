/-
  The walk of AsmLabels.
-/
import Derived.Test.YtccnliihdhnckaaGreatDoorAsmH
import Derived.Test.YtccnliihdhnckaaGreatDoorLabP
import Derived.Test.YtccnliihdhnckaaGreatDoorBack
namespace Go.Proofs.YtccnliihdhnckaaGreatDoor
open Go.RowKit Go.Shelf Go.Joins Go.Maps
open Num Tab Fm Txt
set_option linter.unusedVariables false
theorem str_cell2 (w : World) (l m : List UInt8) : ∀ (k : Nat) (u : Value), [strV l, strV m][k]? = some u → (w.alloc (.cells #[.string ⟨l.toArray⟩, .string ⟨m.toArray⟩] 9)).cell? ((⟨w.heap.size, 0, none⟩ : Addr).add k) = some u := by
  intro k u hk
  rw [add_lit, cell_of_row _ _ _ _ _ _ (heap_alloc_new w _)]
  unfold strV at hk
  simpa using hk
theorem str_one2 (l m : List UInt8) : ∀ u ∈ [strV l, strV m], u.oneCell' = true := by
  intro u hu; simp at hu; rcases hu with rfl | rfl <;> rfl
/-- where the branch goes -/
theorem far_sum (org : Int) (o0 : 0 ≤ org) (o1 : org ≤ 1048576) (fr tt : Nat) (hf : fr ≤ 60) (ht : tt ≤ 60) : lo (org + 4 * (fr : Int) + 4 + shf 60 (wd (mB fr tt) 16 true) 2) = org + 4 * (plc fr tt : Int) := by
  have hp : (plc fr tt : Int) ≤ 61 := by unfold plc; split <;> omega
  have hp0 : (0 : Int) ≤ plc fr tt := by omega
  have hm : mB fr tt = ((plc fr tt : Int) - (fr + 1)) % 65536 := rfl
  generalize (plc fr tt : Int) = P at *
  have h0 : 0 ≤ mB fr tt := by omega
  have h1 : mB fr tt < 65536 := by omega
  rw [wide16 _ h0 h1]
  have e4 : pw 2 = 4 := by decide
  unfold shf lo
  rw [if_pos rfl, e4]
  generalize mB fr tt = m at *
  split <;> omega
theorem far_bd (fr tt : Nat) : 0 ≤ wd (mB fr tt) 16 true ∧ wd (mB fr tt) 16 true < 4294967296 := by
  have h0 : 0 ≤ mB fr tt := by unfold mB; omega
  have h1 : mB fr tt < 65536 := by unfold mB; omega
  rw [wide16 _ h0 h1]
  split <;> omega
theorem jmp_is (org : Int) (o0 : 0 ≤ org) (o1 : org ≤ 1048576) (oa : org % 4 = 0) (fr tt : Nat) (hf : fr ≤ 60) (ht : tt ≤ 60) : 4 * mJ org fr tt = org + 4 * (plc fr tt : Int) ∧ 0 ≤ mJ org fr tt ∧ mJ org fr tt ≤ 67108863 := by
  have hp : (plc fr tt : Int) ≤ 61 := by unfold plc; split <;> omega
  unfold mJ
  omega
set_option maxRecDepth 100000 in
set_option maxHeartbeats 4000000 in
theorem asmLabels_any {w : World} (E : Nat → Addr) (EE : Er9 E w) (T : Tb (E 3) (E 1) w) (b : Lb w) (many from_ to_ : Int) (m0 : -9223372036854775808 ≤ many) (m1 : many ≤ 9223372036854775807) (f0 : -9223372036854775808 ≤ from_) (f1 : from_ ≤ 9223372036854775807) (t0 : -9223372036854775808 ≤ to_) (t1 : to_ ≤ 9223372036854775807) (org : Int) (o0 : 0 ≤ org) (o1 : org < 4294967296) :
    Calls Tryz.prog 6 #[.int .i64 many, .int .i64 from_, .int .i64 to_, .int .u32 org] w fun e w' => e = .returned (.bool true) ∧ Below w.heap.size w w' := by
  have HE : Hid (Er9 E w) := EE
  have HT : Hid (Tb (E 3) (E 1) w) := T
  have HL : Hid (Lb w) := b
  have htx := texted_any (E 3) (E 1) w T b
  clear EE T b
  go_enter Tryz.func6, Tryz.ntmps6
  go_wp2_with fail
  refine htx.mono ?_
  rintro e w1 ⟨rfl, hb1⟩
  clear htx
  have HB1 : Hid (Below w.heap.size w w1) := hb1
  clear hb1
  by_cases h1 : many < 1
  · go_wp2
    go_ret
    exact ⟨rfl, HB1.out⟩
  have h1' : 1 ≤ many := by omega
  clear h1
  by_cases h2 : 60 < many
  · go_wp2
    go_ret
    exact ⟨rfl, HB1.out⟩
  have h2' : many ≤ 60 := by omega
  clear h2
  by_cases h3 : from_ < 0
  · go_wp2
    go_ret
    exact ⟨rfl, HB1.out⟩
  have h3' : 0 ≤ from_ := by omega
  clear h3
  by_cases h4 : many ≤ from_
  · go_wp2
    go_ret
    exact ⟨rfl, HB1.out⟩
  have h4' : from_ < many := by omega
  clear h4
  by_cases h5 : to_ < 0
  · go_wp2
    go_ret
    exact ⟨rfl, HB1.out⟩
  have h5' : 0 ≤ to_ := by omega
  clear h5
  by_cases h6 : many < to_
  · go_wp2
    go_ret
    exact ⟨rfl, HB1.out⟩
  have h6' : to_ ≤ many := by omega
  clear h6
  by_cases h7 : ¬ org % 4 = 0
  · have h7b : (org % 4 != 0) = true := by simpa using h7
    go_wp2
    go_ret
    exact ⟨rfl, HB1.out⟩
  have h7 : org % 4 = 0 := by omega
  by_cases h8 : 1048576 < org
  · go_wp2
    go_ret
    exact ⟨rfl, HB1.out⟩
  have h8' : org ≤ 1048576 := by omega
  clear h8
  have HO : Hid (org % 4 = 0) := h7
  go_upto_region 6 with fail
  clear h7
  obtain ⟨M, hM⟩ : ∃ M : Nat, many = M := ⟨many.toNat, by omega⟩
  obtain ⟨F, hF⟩ : ∃ F : Nat, from_ = F := ⟨from_.toNat, by omega⟩
  obtain ⟨O, hO⟩ : ∃ O : Nat, to_ = O := ⟨to_.toNat, by omega⟩
  have HM : Hid (many = M) := hM
  have HF0 : Hid (from_ = F) := hF
  have HO0 : Hid (to_ = O) := hO
  have b1 : M ≤ 60 := by omega
  have b2 : F < M := by omega
  have b3 : O ≤ M := by omega
  clear hM hF hO
  obtain ⟨i0, hi, iz0, iz1, iz2⟩ := info_parts info9
  go_wp2
  go_loopw [10, 11] (fun lv i wr => ∃ j : Nat, j ≤ M ∧ i = .int .i64 j ∧ LAt w wr lv (lsG F O j)) (fun _ i _ => M + 1 - (intOf i).toNat)
  case atStart => exact ⟨0, Nat.zero_le _, rfl, ⟨World.ownsRow_nil _ _ _ _, HB1.out⟩⟩
  case round =>
    obtain ⟨j, hj, rfl, A⟩ := hrel
    have HA : Hid (LAt w wr u10 (lsG F O j)) := A
    have hlen := lsG_len F O j
    have hlen2 : ((lsG F O j).length : Int) ≤ 180 := by omega
    have hjM : (j : Int) ≤ many := by rw [HM.out]; omega
    clear A hlen
    go_upto_if 65 with fail
    have hsz := HA.out.bel.size
    go_cut [10] from 58 to 80 (fun lv wx => LAt w wx lv (lsG F O j ++ labL O j))
    case first =>
      rename_i hJ _
      have hJH : Hid _ := hJ
      clear hJ
      by_cases hat : ((j : Int) == to_) = true
      · have hat' : j = O := by
          have h : (j : Int) = to_ := by simpa using hat
          rw [HO0.out] at h; omega
        have H1 : Hid (LAt w (wr.alloc (.cells #[.string ⟨#[116, 104, 101, 114, 101, 58]⟩] 9)) u10 (lsG F O j)) := HA.out.more _
        have HF : Hid (∀ v' w', LAt w w' v' (lsG F O j ++ [thereL]) → LAt w w' v' (lsG F O j ++ labL O j)) := fun v' w' h => by unfold labL; rw [if_pos hat']; exact h
        clear hat'
        generalize lsG F O j = L0 at *
        go_wp2_with (at_builtin; refine wpList_append_moved rfl _ _ 39 rfl w.heap.size 9 i0 _ 1 16 Tryz.underlying39 hi iz0 iz1 iz2 rfl (by decide) u10 _ _ rfl H1.out.row ⟨wr.heap.size, 0, none⟩ 1 1 [strV thereL] rfl rfl (str_cell wr thereL) (str_one _) (by unfold maxLen; omega) (by omega) (by simp; omega) ?_; intro v' w2 ho hg hm; have HN : Hid _ := HF.out v' w2 (H1.out.add (xs := [thereL]) ho hg); clear ho hg hm)
        have hJ := hJH.out
        go_meet
        exact HN.out
      · have hat2 : ((j : Int) == to_) = false := by simpa using hat
        have hat3 : ¬ j = O := by
          intro h
          have h4 : ¬ (j : Int) = to_ := by simpa using hat2
          rw [HO0.out] at h4; omega
        have HN : Hid (LAt w wr u10 (lsG F O j ++ labL O j)) := by
          show LAt _ _ _ _
          unfold labL
          rw [if_neg hat3, List.append_nil]; exact HA.out
        clear hat hat3
        go_wp2
        have hJ := hJH.out
        go_meet
        exact HN.out
    case rest =>
      have hl3 : ((lsG F O j ++ labL O j).length : Int) ≤ 181 := by
        rw [List.length_append]; unfold labL; split <;> simp <;> omega
      have HC : Hid (LAt w wc u10 (lsG F O j ++ labL O j)) := hcut
      clear hcut HA hsz
      have hsz := HC.out.bel.size
      by_cases hjm : ((j : Int) == many) = true
      · have hjM2 : j = M := by
          have h : (j : Int) = many := by simpa using hjm
          rw [HM.out] at h; omega
        subst hjM2
        obtain ⟨vs, ha, hvl, hv1, hv2⟩ := asm_labels j F O (by omega) (by omega) (by omega) org o0 h8'
        have has := assemble_any E (HE.out.stays HC.out.bel) (HT.out.stays HC.out.bel (Nat.le_refl _)) (HL.out.stays HC.out.bel (Nat.le_refl _)) (lsL j F O) HC.out.row (by unfold lsL; omega) (lsL_short j F O) org o0 o1 HO.out
        rw [ha] at has
        clear ha
        go_wp2_with fail
        refine has.mono ?_
        rintro e w2 ⟨⟨v', rfl, hrow⟩, hb2⟩
        have HB2 : Hid (Below w.heap.size w w2) := HC.out.bel.trans (hb2.mono HC.out.bel.size)
        obtain ⟨q, cq, rfl⟩ : ∃ q cq, v' = .slice (some ⟨q, 0, none⟩) vs.length cq := by
          rcases hrow.2 with ⟨e, h⟩ | ⟨q, cq, cur, e, _⟩
          · omega
          · exact ⟨q, cq, e⟩
        have c1 : w2.cell? ⟨q, F, none⟩ = some (.int .u32 (enc 32 3 0 0 (mB F O))) := by
          have := hrow.cells (g := q) rfl F (u32V (enc 32 3 0 0 (mB F O))) (by rw [List.getElem?_map, hv1]; rfl)
          rwa [add_lit] at this
        have c2 : w2.cell? ⟨q, F + 1, none⟩ = some (.int .u32 (enc 29 0 0 0 (mJ org F O))) := by
          have := hrow.cells (g := q) rfl (F + 1) (u32V (enc 29 0 0 0 (mJ org F O))) (by rw [List.getElem?_map, hv2]; rfl)
          rwa [add_lit] at this
        have hb1' := okBne (mB F O) (by unfold mB; omega)
        have hmB0 : 0 ≤ mB F O := by unfold mB; omega
        have hmB1 : mB F O < 65536 := by unfold mB; omega
        have hjj := jmp_is org o0 h8' HO.out F O (by omega) (by omega)
        have hj1 := okJ (mJ org F O) hjj.2.2
        have hmJ0 := hjj.2.1
        have hmJ1 := hjj.2.2
        have hde1 : ∀ W, Tb (E 3) (E 1) W → Calls Tryz.prog 20 #[.int .u32 (enc 32 3 0 0 (mB F O))] W fun e w' => e = .returned (.agg #[.int .i64 32, .int .i64 3, .int .i64 0, .int .i64 0, .int .u32 (mB F O)]) ∧ Below W.heap.size W w' := fun W T => decode_back (E 3) (E 1) 32 (by omega) (by omega) 3 0 0 (mB F O) hmB0 hb1' W T
        have hde2 : ∀ W, Tb (E 3) (E 1) W → Calls Tryz.prog 20 #[.int .u32 (enc 29 0 0 0 (mJ org F O))] W fun e w' => e = .returned (.agg #[.int .i64 29, .int .i64 0, .int .i64 0, .int .i64 0, .int .u32 (mJ org F O)]) ∧ Below W.heap.size W w' := fun W T => decode_back (E 3) (E 1) 29 (by omega) (by omega) 0 0 0 (mJ org F O) hmJ0 hj1 W T
        have hwd := far_bd F O
        have hwi := fun W => wide_in (mB F O) 16 hmB0 (by omega) (by omega) (by omega) W
        have hsh := fun W => shift_any 60 (wd (mB F O) 16 true) 2 hwd.1 hwd.2 (by omega) W
        have hsb := shf_bd (k := 60) (n := 2) hwd.1 hwd.2
        have HS : Hid (lo (org + 4 * (F : Int) + 4 + shf 60 (wd (mB F O) 16 true) 2) = org + 4 * (plc F O : Int)) := far_sum org o0 h8' F O (by omega) (by omega)
        have HJ4 : Hid (4 * mJ org F O = org + 4 * (plc F O : Int)) := hjj.1
        have hplc : Hid ((plc F O : Int) = if from_ < to_ then to_ + 1 else to_) := by
          show _ = _
          unfold plc
          rw [HF0.out, HO0.out]
          split <;> split <;> omega
        have hvl2 : vs.length = j + 1 := hvl
        rw [hvl2]
        have hjm2 : ((j + 1 : Nat) : Int) = many + 1 := by rw [HM.out]; omega
        clear hv1 hv2 hrow has hb2 hvl hjj hb1' hj1
        generalize mB F O = mb at *
        generalize mJ org F O = mj at *
        generalize enc 32 3 0 0 mb = w32 at *
        generalize enc 29 0 0 0 mj = w29 at *
        have e1 := HM.out
        have e2 := HF0.out
        have e3 := HO0.out
        subst e1 e2 e3
        have zq := World.block_lt_of_cell? _ _ c1
        have hFj : (F : Int) < j := by omega
        have hTb2 := HT.out.stays HB2.out (Nat.le_refl _)
        clear HM HF0 HO0 hjm2 hjm
        by_cases hft : (F : Int) < O
        · have HP : Hid ((plc F O : Int) = (O : Int) + 1) := by
            show _ = _
            rw [hplc.out, if_pos hft]
          have hO61 : (O : Int) ≤ 60 := by omega
          clear hplc
          go_wp2_with fail
          refine (hde1 _ hTb2).mono ?_
          rintro e w3 ⟨rfl, hb3⟩
          have hbA : Below w2.heap.size w2 (w3.alloc (.cells #[.int .i64 32, .int .i64 3, .int .i64 0, .int .i64 0, .int .u32 mb] 24)) := hb3.alloc hb3.size _
          have d2 := cell_stays hbA (Nat.le_refl _) c2
          have x0 : (w3.alloc (.cells #[.int .i64 32, .int .i64 3, .int .i64 0, .int .i64 0, .int .u32 mb] 24)).cell? ⟨w3.heap.size, 0, none⟩ = some (.int .i64 32) := by simp
          have x4 : (w3.alloc (.cells #[.int .i64 32, .int .i64 3, .int .i64 0, .int .i64 0, .int .u32 mb] 24)).cell? ⟨w3.heap.size, 4, none⟩ = some (.int .u32 mb) := by simp
          have hTb3 := hTb2.stays hbA (Nat.le_refl _)
          have HB3 : Hid (Below w.heap.size w (w3.alloc (.cells #[.int .i64 32, .int .i64 3, .int .i64 0, .int .i64 0, .int .u32 mb] 24))) := HB2.out.trans (hbA.mono HB2.out.size)
          clear hb3 hbA hde1 c1 c2 hTb2 HB2
          go_upto_region 24 with fail
          generalize w3.alloc (.cells #[.int .i64 32, .int .i64 3, .int .i64 0, .int .i64 0, .int .u32 mb] 24) = W3 at *
          go_wp2_with fail
          refine (hde2 _ hTb3).mono ?_
          rintro e w4 ⟨rfl, hb4⟩
          have hbB : Below W3.heap.size W3 (w4.alloc (.cells #[.int .i64 29, .int .i64 0, .int .i64 0, .int .i64 0, .int .u32 mj] 24)) := hb4.alloc hb4.size _
          have x0' := cell_stays hbB (Nat.le_refl _) x0
          have x4' := cell_stays hbB (Nat.le_refl _) x4
          have y0 : (w4.alloc (.cells #[.int .i64 29, .int .i64 0, .int .i64 0, .int .i64 0, .int .u32 mj] 24)).cell? ⟨w4.heap.size, 0, none⟩ = some (.int .i64 29) := by simp
          have y4 : (w4.alloc (.cells #[.int .i64 29, .int .i64 0, .int .i64 0, .int .i64 0, .int .u32 mj] 24)).cell? ⟨w4.heap.size, 4, none⟩ = some (.int .u32 mj) := by simp
          have HB4 : Hid (Below w.heap.size w (w4.alloc (.cells #[.int .i64 29, .int .i64 0, .int .i64 0, .int .i64 0, .int .u32 mj] 24))) := HB3.out.trans (hbB.mono HB3.out.size)
          clear hb4 hbB hde2 x0 x4 d2 hTb3 HB3
          go_upto_region 25 with fail
          generalize w4.alloc (.cells #[.int .i64 29, .int .i64 0, .int .i64 0, .int .i64 0, .int .u32 mj] 24) = W4 at *
          go_wp2_with fail
          refine (hwi _).mono ?_
          rintro e w' ⟨rfl, rfl⟩
          clear hwi
          go_wp2_with fail
          refine (hsh _).mono ?_
          rintro e w' ⟨rfl, rfl⟩
          clear hsh
          generalize shf 60 (wd mb 16 true) 2 = sf at *
          have had := fun W => addW_any (org + 4 * (F : Int) + 4) sf (by omega) (by omega) hsb.1 hsb.2 W
          have hs2 : lo (org + 4 * (F : Int) + 4 + sf) = org + 4 * ((O : Int) + 1) := by rw [HS.out, HP.out]
          have hj2 : 4 * mj = org + 4 * ((O : Int) + 1) := by rw [HJ4.out, HP.out]
          rw [hs2] at had
          clear hs2
          go_wp2_with fail
          refine (had _).mono ?_
          rintro e w' ⟨rfl, rfl⟩
          clear had
          go_wp2
          go_ret
          exact ⟨by simp, HB4.out⟩
        · have HP : Hid ((plc F O : Int) = (O : Int)) := by
            show _ = _
            rw [hplc.out, if_neg hft]
          have hO61 : (O : Int) ≤ 60 := by omega
          clear hplc
          go_wp2_with fail
          refine (hde1 _ hTb2).mono ?_
          rintro e w3 ⟨rfl, hb3⟩
          have hbA : Below w2.heap.size w2 (w3.alloc (.cells #[.int .i64 32, .int .i64 3, .int .i64 0, .int .i64 0, .int .u32 mb] 24)) := hb3.alloc hb3.size _
          have d2 := cell_stays hbA (Nat.le_refl _) c2
          have x0 : (w3.alloc (.cells #[.int .i64 32, .int .i64 3, .int .i64 0, .int .i64 0, .int .u32 mb] 24)).cell? ⟨w3.heap.size, 0, none⟩ = some (.int .i64 32) := by simp
          have x4 : (w3.alloc (.cells #[.int .i64 32, .int .i64 3, .int .i64 0, .int .i64 0, .int .u32 mb] 24)).cell? ⟨w3.heap.size, 4, none⟩ = some (.int .u32 mb) := by simp
          have hTb3 := hTb2.stays hbA (Nat.le_refl _)
          have HB3 : Hid (Below w.heap.size w (w3.alloc (.cells #[.int .i64 32, .int .i64 3, .int .i64 0, .int .i64 0, .int .u32 mb] 24))) := HB2.out.trans (hbA.mono HB2.out.size)
          clear hb3 hbA hde1 c1 c2 hTb2 HB2
          go_upto_region 24 with fail
          generalize w3.alloc (.cells #[.int .i64 32, .int .i64 3, .int .i64 0, .int .i64 0, .int .u32 mb] 24) = W3 at *
          go_wp2_with fail
          refine (hde2 _ hTb3).mono ?_
          rintro e w4 ⟨rfl, hb4⟩
          have hbB : Below W3.heap.size W3 (w4.alloc (.cells #[.int .i64 29, .int .i64 0, .int .i64 0, .int .i64 0, .int .u32 mj] 24)) := hb4.alloc hb4.size _
          have x0' := cell_stays hbB (Nat.le_refl _) x0
          have x4' := cell_stays hbB (Nat.le_refl _) x4
          have y0 : (w4.alloc (.cells #[.int .i64 29, .int .i64 0, .int .i64 0, .int .i64 0, .int .u32 mj] 24)).cell? ⟨w4.heap.size, 0, none⟩ = some (.int .i64 29) := by simp
          have y4 : (w4.alloc (.cells #[.int .i64 29, .int .i64 0, .int .i64 0, .int .i64 0, .int .u32 mj] 24)).cell? ⟨w4.heap.size, 4, none⟩ = some (.int .u32 mj) := by simp
          have HB4 : Hid (Below w.heap.size w (w4.alloc (.cells #[.int .i64 29, .int .i64 0, .int .i64 0, .int .i64 0, .int .u32 mj] 24))) := HB3.out.trans (hbB.mono HB3.out.size)
          clear hb4 hbB hde2 x0 x4 d2 hTb3 HB3
          go_upto_region 25 with fail
          generalize w4.alloc (.cells #[.int .i64 29, .int .i64 0, .int .i64 0, .int .i64 0, .int .u32 mj] 24) = W4 at *
          go_wp2_with fail
          refine (hwi _).mono ?_
          rintro e w' ⟨rfl, rfl⟩
          clear hwi
          go_wp2_with fail
          refine (hsh _).mono ?_
          rintro e w' ⟨rfl, rfl⟩
          clear hsh
          generalize shf 60 (wd mb 16 true) 2 = sf at *
          have had := fun W => addW_any (org + 4 * (F : Int) + 4) sf (by omega) (by omega) hsb.1 hsb.2 W
          have hs2 : lo (org + 4 * (F : Int) + 4 + sf) = org + 4 * ((O : Int)) := by rw [HS.out, HP.out]
          have hj2 : 4 * mj = org + 4 * ((O : Int)) := by rw [HJ4.out, HP.out]
          rw [hs2] at had
          clear hs2
          go_wp2_with fail
          refine (had _).mono ?_
          rintro e w' ⟨rfl, rfl⟩
          clear had
          go_wp2
          go_ret
          exact ⟨by simp, HB4.out⟩
      · have hjm2 : ((j : Int) == many) = false := by simpa using hjm
        have hjM3 : j < M := by
          have h : ¬ (j : Int) = many := by simpa using hjm2
          rw [HM.out] at h; omega
        clear hjm
        by_cases hjf : ((j : Int) == from_) = true
        · have hjF : j = F := by
            have h : (j : Int) = from_ := by simpa using hjf
            rw [HF0.out] at h; omega
          have HF : Hid (∀ v' w', LAt w w' v' (lsG F O j ++ labL O j ++ [bneL, jL]) → LAt w w' v' (lsG F O (j + 1))) := fun v' w' h => by
            rw [lsG]; unfold insL; rw [if_pos hjF]; exact h
          clear hjF
          generalize lsG F O j ++ labL O j = L0 at *
          have H1 : Hid (LAt w (wc.alloc (.cells #[.string ⟨bneL.toArray⟩, .string ⟨jL.toArray⟩] 9)) u10 L0) := HC.out.more _
          go_wp2_with (at_builtin; refine wpList_append_moved rfl _ _ 39 rfl w.heap.size 9 i0 _ 1 16 Tryz.underlying39 hi iz0 iz1 iz2 rfl (by decide) u10 _ _ rfl H1.out.row ⟨wc.heap.size, 0, none⟩ 2 2 [strV bneL, strV jL] rfl rfl (str_cell2 wc bneL jL) (str_one2 _ _) (by unfold maxLen; omega) (by omega) (by simp; omega) ?_; intro v' w2 ho hg hm; have HN : Hid _ := HF.out v' w2 (H1.out.add (xs := [bneL, jL]) ho hg); clear ho hg hm)
          go_roundw
          case rel => exact ⟨j + 1, by omega, by go_num, HN.out⟩
          case measure => simp [intOf]; omega
        · have hjf2 : ((j : Int) == from_) = false := by simpa using hjf
          have hjF : ¬ j = F := by
            have h : ¬ (j : Int) = from_ := by simpa using hjf2
            rw [HF0.out] at h; omega
          have HF : Hid (∀ v' w', LAt w w' v' (lsG F O j ++ labL O j ++ [adduL]) → LAt w w' v' (lsG F O (j + 1))) := fun v' w' h => by
            rw [lsG]; unfold insL; rw [if_neg hjF]; exact h
          clear hjF hjf
          generalize lsG F O j ++ labL O j = L0 at *
          have H1 : Hid (LAt w (wc.alloc (.cells #[.string ⟨adduL.toArray⟩] 9)) u10 L0) := HC.out.more _
          go_wp2_with (at_builtin; refine wpList_append_moved rfl _ _ 39 rfl w.heap.size 9 i0 _ 1 16 Tryz.underlying39 hi iz0 iz1 iz2 rfl (by decide) u10 _ _ rfl H1.out.row ⟨wc.heap.size, 0, none⟩ 1 1 [strV adduL] rfl rfl (str_cell wc adduL) (str_one _) (by unfold maxLen; omega) (by omega) (by simp; omega) ?_; intro v' w2 ho hg hm; have HN : Hid _ := HF.out v' w2 (H1.out.add (xs := [adduL]) ho hg); clear ho hg hm)
          go_roundw
          case rel => exact ⟨j + 1, by omega, by go_num, HN.out⟩
          case measure => simp [intOf]; omega
end Go.Proofs.YtccnliihdhnckaaGreatDoor
