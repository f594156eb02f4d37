/-
  OptCounts's walk.
-/
import Derived.Test.YtcccaejjhodnkaaDoorDoc7
import Derived.Test.YtcccaejjhodnkaaDoorDoc8
import Derived.Test.YtcccaejjhodnkaaDoorAgain
import Derived.Test.YtcccaejjhodnkaaDoorOptDead
import Derived.Test.YtcccaejjhodnkaaDoorOptKnown
namespace Go.Proofs.YtcccaejjhodnkaaDoor
open Go.RowKit Go.Maps
open Num
set_option linter.unusedVariables false
/-- the six cells of one op -/
structure OneO (W : World) (b a : Nat) (x : Opx) : Prop where
  x0 : W.cell? ⟨b, a, none⟩ = some (.string x.s)
  x1 : W.cell? ⟨b, a + 1, none⟩ = some (.int .i64 x.d)
  x2 : W.cell? ⟨b, a + 2, none⟩ = some (.int .i64 x.a)
  x3 : W.cell? ⟨b, a + 3, none⟩ = some (.int .i64 x.b)
  x4 : W.cell? ⟨b, a + 4, none⟩ = some (.int .u32 x.i)
  x5 : W.cell? ⟨b, a + 5, none⟩ = some (.int .i64 x.t)
theorem opsF_nz (many : Int) : ∀ (l : List Opx) (ah : Int) (n : Nat), (opsF many ah n l).1 = 0 → opsF many ah n l = (0, -1)
  | [], _, _, _ => rfl
  | o :: l, ah, n, h => by
    rw [opsF_cons] at h ⊢
    by_cases h0 : opF o many ah l.isEmpty ≠ 0
    · rw [if_pos h0] at h; exact absurd h h0
    · rw [if_neg h0] at h ⊢; exact opsF_nz many l _ _ h
theorem codeF_nz {many : Int} {l : List Opx} (h : codeF many l ≠ (0, -1)) : (codeF many l).1 ≠ 0 := by
  intro h0
  apply h
  unfold codeF at h0 ⊢
  split at h0
  · cases h0
  · split at h0
    · cases h0
    · split at h0
      · cases h0
      · rename_i a b c; rw [if_neg a, if_neg b, if_neg c]; exact opsF_nz _ _ _ _ h0
set_option maxRecDepth 100000 in
theorem fault_field (a b : Value) (W : World) : (Instr.field 53 (.agg #[a, b]) 0).run Tryd.prog W = .ok a W := rfl
/-- what an op reads, for the second time: the numbers of the first stay -/
theorem IntsC.stays {W W' : World} {ao : Option Addr} {l : List Int} (C : IntsC W ao l) (h : Below W.heap.size W W') : IntsC W' ao l := fun hp => let ⟨g, e, c⟩ := C hp; ⟨g, e, fun i x hx => by rw [h.cell (World.block_lt_of_cell? _ _ (c i x hx))]; exact c i x hx⟩
set_option maxRecDepth 100000 in
set_option maxHeartbeats 8000000 in
theorem optCounts_any (pe : Nat → Addr) {w : World} (E : Eg pe w) {v : Value} {l : List Opx} (A : OpsIn w v l) (hl : (l.length : Int) ≤ 9223372036854775807) (hs : ∀ o ∈ l, (o.s.size : Int) ≤ 9223372036854775807) (many : Int) (m0 : -9223372036854775808 ≤ many) (m1 : many ≤ 9223372036854775807) :
    Calls Tryd.prog 4 #[.int .i64 many, v] w fun e w' => e = .returned (.bool true) ∧ Below w.heap.size w w' := by
  have hbt := bettered_any pe E
  have EH : Hid (Eg pe w) := E
  have AH : Hid (OpsIn w v l) := A
  have SZ : Hid (∀ o ∈ l, (o.s.size : Int) ≤ 9223372036854775807) := hs
  obtain ⟨ao, cap, rfl, _, hh⟩ := A.sh
  have HH : Hid (0 < l.length → ∃ b off : Nat, ao = some ⟨b, off, none⟩ ∧ ∀ (i : Nat) (o : Opx), l[i]? = some o → ∀ (j : Nat) (u : Value), (opC o)[j]? = some u → w.cell? ⟨b, off + i * 6 + j, none⟩ = some u) := hh
  clear E A hs hh
  go_enter Tryd.func4, Tryd.ntmps4
  go_wp2_with fail
  refine hbt.mono ?_
  rintro e w1 ⟨rfl, hb1⟩
  have B1 : Hid (Below w.heap.size w w1) := hb1
  have A1 : Hid (OpsIn w1 (.slice ao l.length cap) l) := AH.out.stays hb1
  have cL := longOps_any A1.out hl SZ.out 60
  clear hbt hb1
  by_cases hLO : longO l 60 = true
  · rw [if_pos hLO] at cL
    go_wp2_with fail
    refine cL.mono ?_
    rintro e w2 ⟨rfl, hw⟩
    rw [hw]
    clear hw w2
    go_wp2
    go_ret
    exact ⟨rfl, B1.out⟩
  rw [if_neg hLO] at cL
  have hl201 : l.length ≤ 201 := by
    unfold longO at hLO
    simp only [Bool.or_eq_true, Bool.and_eq_true, decide_eq_true_eq, not_or, not_and] at hLO
    have := hLO.1
    omega
  have hl201' : (l.length : Int) ≤ 201 := by omega
  clear hLO
  have hoo := ownOps_any A1.out (by omega)
  go_wp2_with fail
  refine cL.mono ?_
  rintro e w2 ⟨rfl, hw⟩
  rw [hw]
  clear hw w2 cL
  go_wp2_with fail
  refine hoo.mono ?_
  rintro e w2 ⟨v2, rfl, hA2, hb2⟩
  obtain ⟨ao2, cap2, rfl, _⟩ := hA2.sh
  have B2 : Hid (Below w.heap.size w w2) := B1.out.trans (hb2.mono B1.out.size)
  have B3 : Hid (Below w.heap.size w (w2.alloc (.cells #[.int .u32 0, .int .i64 many, .slice ao2 l.length cap2] 35))) := B2.out.trans ((alloc_below _ _).mono B2.out.size)
  have A3 : Hid (OpsIn (w2.alloc (.cells #[.int .u32 0, .int .i64 many, .slice ao2 l.length cap2] 35)) (.slice ao2 l.length cap2) l) := hA2.stays (alloc_below _ _)
  have C3 : Hid (CBox (w2.alloc (.cells #[.int .u32 0, .int .i64 many, .slice ao2 l.length cap2] 35)) w2.heap.size 0 many (.slice ao2 l.length cap2)) := CBox.new _ _ _ _
  clear hoo hb2 hA2 A1 B1 B2
  go_upto_region 5 with fail
  generalize w2.alloc (.cells #[.int .u32 0, .int .i64 many, .slice ao2 l.length cap2] 35) = W3 at *
  generalize w2.heap.size = cb at *
  have hcf0 := codeFault_any (AH.out.stays B3.out) (by omega) many m0 m1
  by_cases hcf : codeF many l = (0, -1)
  · rw [hcf] at hcf0
    have CF : Hid (codeF many l = (0, -1)) := hcf
    have DD : Hid (deadN l = deadC l) := deadN_well (codeF_well.1 hcf)
    clear hcf
    go_wp2_with fail
    refine hcf0.mono ?_
    rintro e w4 ⟨rfl, hb4⟩
    have S4 : Hid (Below W3.heap.size W3 w4) := hb4
    have B4 : Hid (Below w.heap.size w w4) := B3.out.trans (hb4.mono B3.out.size)
    have hkd := knownOf_any (AH.out.stays B4.out) (by omega)
    clear hcf0 hb4
    go_wp2_with fail
    rw [fault_field]
    go_wp2_with fail
    refine hkd.mono ?_
    rintro e w5 ⟨rfl, hb5⟩
    have S5 : Hid (Below W3.heap.size W3 w5) := S4.out.trans (hb5.mono S4.out.size)
    have B5 : Hid (Below w.heap.size w w5) := B4.out.trans (hb5.mono B4.out.size)
    have hdd := deadOf_any (AH.out.stays B5.out) (by omega)
    rw [DD.out] at hdd
    clear hkd hb5 S4 B4
    go_wp2_with fail
    refine hdd.mono ?_
    rintro e w6 ⟨rfl, hb6⟩
    have S6 : Hid (Below W3.heap.size W3 w6) := S5.out.trans (hb6.mono S5.out.size)
    have B6 : Hid (Below w.heap.size w w6) := B5.out.trans (hb6.mono B5.out.size)
    clear hdd hb6 S5 B5
    have hkn := known_ok pe (EH.out.stays B6.out) (A3.out.stays S6.out) (by omega) 0 many m0 m1 CF.out
    have C6 : Hid (CBox w6 cb 0 many (.slice ao2 l.length cap2)) := C3.out.stays S6.out
    obtain ⟨k0, k1, k2⟩ := C6.out
    have hcz := C6.out.lt
    generalize knownC fx0 l = kc at *
    go_wp2_with fail
    refine hkn.mono ?_
    rintro e w7 ⟨rfl, hb7⟩
    have S7 : Hid (Below W3.heap.size W3 w7) := S6.out.trans (hb7.mono S6.out.size)
    have B7 : Hid (Below w.heap.size w w7) := B6.out.trans (hb7.mono B6.out.size)
    have C7 : Hid (CBox w7 cb 0 many (.slice ao2 l.length cap2)) := C6.out.stays hb7
    have hde := dead_ok pe (EH.out.stays B7.out) (A3.out.stays S7.out) (by omega) 0 many m0 m1 CF.out
    clear hkn hb7 S6 B6 k0 k1 k2 hcz C6
    obtain ⟨k0, k1, k2⟩ := C7.out
    have hcz := C7.out.lt
    generalize deadC l = dc at *
    go_wp2_with fail
    refine hde.mono ?_
    rintro e w8 ⟨rfl, hb8⟩
    have BZ : Hid (Below w.heap.size w w8) := B7.out.trans (hb8.mono B7.out.size)
    clear hde hb8 S7 B7 k0 k1 k2 hcz C7 DD
    go_wp2
    go_loopw [9] (fun i wr => ∃ j : Nat, j ≤ l.length ∧ i = .int .i64 j ∧ Below w.heap.size w wr) (fun i _ => l.length - (intOf i).toNat)
    case atStart => exact ⟨0, Nat.zero_le _, rfl, BZ.out⟩
    case round =>
      obtain ⟨j, hj, rfl, hB⟩ := hrel
      have HBr : Hid (Below w.heap.size w wr) := hB
      clear BZ
      by_cases hlt : j < l.length
      · obtain ⟨o, ho⟩ : ∃ o, l[j]? = some o := ⟨_, List.getElem?_eq_getElem hlt⟩
        obtain ⟨b, off, rfl, hcell⟩ := HH.out (by omega)
        have hbl : b < w.heap.size := World.block_lt_of_cell? _ _ (hcell j o ho 0 _ rfl)
        have HCL : Hid (∀ W, Below w.heap.size w W → W.cell? ⟨b, off + j * 6, none⟩ = some (.string o.s) ∧ W.cell? ⟨b, off + j * 6 + 1, none⟩ = some (.int .i64 o.d) ∧ W.cell? ⟨b, off + j * 6 + 2, none⟩ = some (.int .i64 o.a) ∧ W.cell? ⟨b, off + j * 6 + 3, none⟩ = some (.int .i64 o.b) ∧ W.cell? ⟨b, off + j * 6 + 4, none⟩ = some (.int .u32 o.i) ∧ W.cell? ⟨b, off + j * 6 + 5, none⟩ = some (.int .i64 o.t)) := fun W hW => op_cells fun k u hk => (hW.cell (p := ⟨b, off + j * 6 + k, none⟩) hbl).trans (hcell j o ho k u hk)
        obtain ⟨x0, x1, x2, x3, x4, x5⟩ := HCL.out wr hB
        have hbr : b < wr.heap.size := World.block_lt_of_cell? _ _ x0
        have hlt' : (j : Int) < l.length := by omega
        have hr1 := fun W => reads_any o W
        have hr2 := fun W => readsOf_any o W
        have hw1 := fun W => writes_any o W
        have hw2 := fun W => writeOf_any o W
        unfold opV at hr1 hr2 hw1 hw2
        have hl3 : ((rdX o).length : Int) ≤ 3 := by rcases rd_ways o with ⟨_, _, _, h⟩ | ⟨_, _, _, h⟩ | ⟨_, _, _, h⟩ | ⟨_, _, _, h⟩ <;> rw [h] <;> simp
        clear ho hcell hB HH
        generalize rdX o = L at *
        generalize wrX o = wx at *
        go_wp2
        refine wp_region_phase 25 [(0, 0), (1, 0), (2, 0), (3, 1), (5, 0), (6, 0), (7, 0), (8, 1), (4, 2), (9, 2), (10, 2), (11, 0), (12, 0), (13, 0), (14, 0), (15, 0), (16, 1), (18, 0), (19, 0), (20, 0), (21, 1), (17, 2), (22, 2), (23, 0), (24, 0)] (fun W => OneO W b (off + j * 6) o) (by kernel_rfl) (by kernel_rfl) (fun _ _ _ d _ h => by cases d <;> exact h) ⟨by simpa using x0, by simpa using x1, by simpa using x2, by simpa using x3, by simpa using x4, by simpa using x5⟩ ?_
        repeat (first | (refine wpPlanZ_free (by rfl) (by rfl) (fun W => by (go_simp; try with_reducible rfl)) (fun K hK => ?_); go_simp; refine hK _ ?_; clear hK K) | (refine wpPlanZ_quiet (by rfl) (by rfl) (fun W hW => by (obtain ⟨z0, z1, z2, z3, z4, z5⟩ := hW; go_simp; try with_reducible rfl)) (fun K hK => ?_); go_simp; refine hK _ ?_; clear hK K))
        refine wpPlanZ_serial (by rfl) (by rfl) (fun K hK => ?_)
        go_simp
        refine (hr1 _).mono ?_
        rintro e u1 ⟨v1, rfl, hown1, hd1⟩
        obtain ⟨ao1, cp1, rfl, hcp1, hcl1⟩ := ints_cell hown1
        have I1 : Hid (IntsC u1 ao1 L) := fun h => let ⟨g, e, _, c⟩ := hcl1 h; ⟨g, e, c⟩
        have D1 : Hid (Below w.heap.size w u1) := HBr.out.drew.trans (hd1.mono HBr.out.size)
        obtain ⟨y0, y1, y2, y3, y4, y5⟩ := HCL.out u1 D1.out
        refine hK _ _ (fun _ => ⟨y0, y1, y2, y3, y4, y5⟩) ?_
        have hb1' : b < u1.heap.size := World.block_lt_of_cell? _ _ y0
        clear hK K hd1 hown1 hcl1 hr1 x0 x1 x2 x3 x4 x5 y0 y1 y2 y3 y4 y5
        refine wpPlanZ_serial (by rfl) (by rfl) (fun K hK => ?_)
        go_simp
        refine (hr2 _).mono ?_
        rintro e u2 ⟨v2, rfl, hown2, hd2⟩
        obtain ⟨ao3, cp2, rfl, hcp2, hcl2⟩ := ints_cell hown2
        have I2 : Hid (IntsC u2 ao3 L) := fun h => let ⟨g, e, _, c⟩ := hcl2 h; ⟨g, e, c⟩
        have I1' : Hid (IntsC u2 ao1 L) := I1.out.stays hd2
        have D2 : Hid (Below w.heap.size w u2) := D1.out.trans (hd2.mono D1.out.size)
        obtain ⟨y0, y1, y2, y3, y4, y5⟩ := HCL.out u2 D2.out
        refine hK _ _ (fun _ => ⟨y0, y1, y2, y3, y4, y5⟩) ?_
        have hb2' : b < u2.heap.size := World.block_lt_of_cell? _ _ y0
        clear hK K hd2 hown2 hcl2 hr2 I1 y0 y1 y2 y3 y4 y5
        have hsi := sameInts_any (ca := cp1) (cb := cp2) I1'.out I2.out (by omega)
        refine wpPlanZ_serial (by rfl) (by rfl) (fun K hK => ?_)
        go_simp
        refine hsi.mono ?_
        rintro e u3 ⟨rfl, hd3⟩
        have D3 : Hid (Below w.heap.size w u3) := D2.out.trans (hd3.mono D2.out.size)
        obtain ⟨y0, y1, y2, y3, y4, y5⟩ := HCL.out u3 D3.out
        refine hK _ _ (fun _ => ⟨y0, y1, y2, y3, y4, y5⟩) ?_
        have hb3' : b < u3.heap.size := World.block_lt_of_cell? _ _ y0
        clear hK K hd3 hsi I1' I2
        repeat (first | (refine wpPlanZ_free (by rfl) (by rfl) (fun W => by (go_simp; try with_reducible rfl)) (fun K hK => ?_); go_simp; refine hK _ ?_; clear hK K) | (refine wpPlanZ_quiet (by rfl) (by rfl) (fun W hW => by (obtain ⟨z0, z1, z2, z3, z4, z5⟩ := hW; go_simp; try with_reducible rfl)) (fun K hK => ?_); go_simp; refine hK _ ?_; clear hK K))
        refine wpPlanZ_serial (by rfl) (by rfl) (fun K hK => ?_)
        go_simp
        refine (hw1 _).mono ?_
        rintro e u4 ⟨rfl, hd4⟩
        have D4 : Hid (Below w.heap.size w u4) := D3.out.trans (hd4.mono D3.out.size)
        clear y0 y1 y2 y3 y4 y5
        obtain ⟨y0, y1, y2, y3, y4, y5⟩ := HCL.out u4 D4.out
        refine hK _ _ (fun _ => ⟨y0, y1, y2, y3, y4, y5⟩) ?_
        have hb4' : b < u4.heap.size := World.block_lt_of_cell? _ _ y0
        clear hK K hd4 hw1 y0 y1 y2 y3 y4 y5
        refine wpPlanZ_serial (by rfl) (by rfl) (fun K hK => ?_)
        go_simp
        refine (hw2 _).mono ?_
        rintro e u5 ⟨rfl, hd5⟩
        have D5 : Hid (Below w.heap.size w u5) := D4.out.trans (hd5.mono D4.out.size)
        obtain ⟨y0, y1, y2, y3, y4, y5⟩ := HCL.out u5 D5.out
        refine hK _ _ (fun _ => ⟨y0, y1, y2, y3, y4, y5⟩) ?_
        clear hK K hd5 hw2 y0 y1 y2 y3 y4 y5
        repeat (first | (refine wpPlanZ_free (by rfl) (by rfl) (fun W => by (go_simp; try with_reducible rfl)) (fun K hK => ?_); go_simp; refine hK _ ?_; clear hK K) | (refine wpPlanZ_quiet (by rfl) (by rfl) (fun W hW => by (obtain ⟨z0, z1, z2, z3, z4, z5⟩ := hW; go_simp; try with_reducible rfl)) (fun K hK => ?_); go_simp; refine hK _ ?_; clear hK K))
        refine wpPlanZ_nil ?_
        go_wp2
        go_roundw
        case rel => exact ⟨j + 1, by omega, by go_num, D5.out⟩
        case measure => simp [intOf]; omega
      · obtain rfl : j = l.length := by omega
        go_wp2
        go_ret
        exact ⟨rfl, HBr.out⟩
  · have hn0 := codeF_nz hcf
    have HCF : Hid (codeF many l ≠ (0, -1)) := hcf
    generalize (codeF many l).1 = f1 at *
    generalize (codeF many l).2 = f2 at *
    have hn0' : (f1 == 0) = false := by simpa using hn0
    clear hcf hn0
    go_wp2_with fail
    refine hcf0.mono ?_
    rintro e w4 ⟨rfl, hb4⟩
    have S6 : Hid (Below W3.heap.size W3 w4) := hb4
    have B6 : Hid (Below w.heap.size w w4) := B3.out.trans (hb4.mono B3.out.size)
    clear hcf0 hb4
    have hkn := known_bad pe (EH.out.stays B6.out) (A3.out.stays S6.out) (by omega) 0 many m0 m1 HCF.out
    have C6 : Hid (CBox w4 cb 0 many (.slice ao2 l.length cap2)) := C3.out.stays S6.out
    obtain ⟨k0, k1, k2⟩ := C6.out
    have hcz := C6.out.lt
    go_wp2_with fail
    rw [fault_field]
    go_wp2_with fail
    refine hkn.mono ?_
    rintro e w7 ⟨rfl, hb7⟩
    have S7 : Hid (Below W3.heap.size W3 w7) := S6.out.trans (hb7.mono S6.out.size)
    have B7 : Hid (Below w.heap.size w w7) := B6.out.trans (hb7.mono B6.out.size)
    have C7 : Hid (CBox w7 cb 0 many (.slice ao2 l.length cap2)) := C6.out.stays hb7
    have hde := dead_bad pe (EH.out.stays B7.out) (A3.out.stays S7.out) (by omega) 0 many m0 m1 HCF.out
    clear hkn hb7 S6 B6 k0 k1 k2 hcz C6
    obtain ⟨k0, k1, k2⟩ := C7.out
    have hcz := C7.out.lt
    go_wp2_with fail
    refine hde.mono ?_
    rintro e w8 ⟨rfl, hb8⟩
    have BZ : Hid (Below w.heap.size w w8) := B7.out.trans (hb8.mono B7.out.size)
    clear hde hb8 S7 B7 k0 k1 k2 hcz C7 hn0'
    go_wp2
    go_loopw [9] (fun i wr => ∃ j : Nat, j ≤ l.length ∧ i = .int .i64 j ∧ Below w.heap.size w wr) (fun i _ => l.length - (intOf i).toNat)
    case atStart => exact ⟨0, Nat.zero_le _, rfl, BZ.out⟩
    case round =>
      obtain ⟨j, hj, rfl, hB⟩ := hrel
      have HBr : Hid (Below w.heap.size w wr) := hB
      clear BZ
      by_cases hlt : j < l.length
      · obtain ⟨o, ho⟩ : ∃ o, l[j]? = some o := ⟨_, List.getElem?_eq_getElem hlt⟩
        obtain ⟨b, off, rfl, hcell⟩ := HH.out (by omega)
        have hbl : b < w.heap.size := World.block_lt_of_cell? _ _ (hcell j o ho 0 _ rfl)
        have HCL : Hid (∀ W, Below w.heap.size w W → W.cell? ⟨b, off + j * 6, none⟩ = some (.string o.s) ∧ W.cell? ⟨b, off + j * 6 + 1, none⟩ = some (.int .i64 o.d) ∧ W.cell? ⟨b, off + j * 6 + 2, none⟩ = some (.int .i64 o.a) ∧ W.cell? ⟨b, off + j * 6 + 3, none⟩ = some (.int .i64 o.b) ∧ W.cell? ⟨b, off + j * 6 + 4, none⟩ = some (.int .u32 o.i) ∧ W.cell? ⟨b, off + j * 6 + 5, none⟩ = some (.int .i64 o.t)) := fun W hW => op_cells fun k u hk => (hW.cell (p := ⟨b, off + j * 6 + k, none⟩) hbl).trans (hcell j o ho k u hk)
        obtain ⟨x0, x1, x2, x3, x4, x5⟩ := HCL.out wr hB
        have hbr : b < wr.heap.size := World.block_lt_of_cell? _ _ x0
        have hlt' : (j : Int) < l.length := by omega
        have hr1 := fun W => reads_any o W
        have hr2 := fun W => readsOf_any o W
        have hw1 := fun W => writes_any o W
        have hw2 := fun W => writeOf_any o W
        unfold opV at hr1 hr2 hw1 hw2
        have hl3 : ((rdX o).length : Int) ≤ 3 := by rcases rd_ways o with ⟨_, _, _, h⟩ | ⟨_, _, _, h⟩ | ⟨_, _, _, h⟩ | ⟨_, _, _, h⟩ <;> rw [h] <;> simp
        clear ho hcell hB HH
        generalize rdX o = L at *
        generalize wrX o = wx at *
        go_wp2
        refine wp_region_phase 25 [(0, 0), (1, 0), (2, 0), (3, 1), (5, 0), (6, 0), (7, 0), (8, 1), (4, 2), (9, 2), (10, 2), (11, 0), (12, 0), (13, 0), (14, 0), (15, 0), (16, 1), (18, 0), (19, 0), (20, 0), (21, 1), (17, 2), (22, 2), (23, 0), (24, 0)] (fun W => OneO W b (off + j * 6) o) (by kernel_rfl) (by kernel_rfl) (fun _ _ _ d _ h => by cases d <;> exact h) ⟨by simpa using x0, by simpa using x1, by simpa using x2, by simpa using x3, by simpa using x4, by simpa using x5⟩ ?_
        repeat (first | (refine wpPlanZ_free (by rfl) (by rfl) (fun W => by (go_simp; try with_reducible rfl)) (fun K hK => ?_); go_simp; refine hK _ ?_; clear hK K) | (refine wpPlanZ_quiet (by rfl) (by rfl) (fun W hW => by (obtain ⟨z0, z1, z2, z3, z4, z5⟩ := hW; go_simp; try with_reducible rfl)) (fun K hK => ?_); go_simp; refine hK _ ?_; clear hK K))
        refine wpPlanZ_serial (by rfl) (by rfl) (fun K hK => ?_)
        go_simp
        refine (hr1 _).mono ?_
        rintro e u1 ⟨v1, rfl, hown1, hd1⟩
        obtain ⟨ao1, cp1, rfl, hcp1, hcl1⟩ := ints_cell hown1
        have I1 : Hid (IntsC u1 ao1 L) := fun h => let ⟨g, e, _, c⟩ := hcl1 h; ⟨g, e, c⟩
        have D1 : Hid (Below w.heap.size w u1) := HBr.out.drew.trans (hd1.mono HBr.out.size)
        obtain ⟨y0, y1, y2, y3, y4, y5⟩ := HCL.out u1 D1.out
        refine hK _ _ (fun _ => ⟨y0, y1, y2, y3, y4, y5⟩) ?_
        have hb1' : b < u1.heap.size := World.block_lt_of_cell? _ _ y0
        clear hK K hd1 hown1 hcl1 hr1 x0 x1 x2 x3 x4 x5 y0 y1 y2 y3 y4 y5
        refine wpPlanZ_serial (by rfl) (by rfl) (fun K hK => ?_)
        go_simp
        refine (hr2 _).mono ?_
        rintro e u2 ⟨v2, rfl, hown2, hd2⟩
        obtain ⟨ao3, cp2, rfl, hcp2, hcl2⟩ := ints_cell hown2
        have I2 : Hid (IntsC u2 ao3 L) := fun h => let ⟨g, e, _, c⟩ := hcl2 h; ⟨g, e, c⟩
        have I1' : Hid (IntsC u2 ao1 L) := I1.out.stays hd2
        have D2 : Hid (Below w.heap.size w u2) := D1.out.trans (hd2.mono D1.out.size)
        obtain ⟨y0, y1, y2, y3, y4, y5⟩ := HCL.out u2 D2.out
        refine hK _ _ (fun _ => ⟨y0, y1, y2, y3, y4, y5⟩) ?_
        have hb2' : b < u2.heap.size := World.block_lt_of_cell? _ _ y0
        clear hK K hd2 hown2 hcl2 hr2 I1 y0 y1 y2 y3 y4 y5
        have hsi := sameInts_any (ca := cp1) (cb := cp2) I1'.out I2.out (by omega)
        refine wpPlanZ_serial (by rfl) (by rfl) (fun K hK => ?_)
        go_simp
        refine hsi.mono ?_
        rintro e u3 ⟨rfl, hd3⟩
        have D3 : Hid (Below w.heap.size w u3) := D2.out.trans (hd3.mono D2.out.size)
        obtain ⟨y0, y1, y2, y3, y4, y5⟩ := HCL.out u3 D3.out
        refine hK _ _ (fun _ => ⟨y0, y1, y2, y3, y4, y5⟩) ?_
        have hb3' : b < u3.heap.size := World.block_lt_of_cell? _ _ y0
        clear hK K hd3 hsi I1' I2
        repeat (first | (refine wpPlanZ_free (by rfl) (by rfl) (fun W => by (go_simp; try with_reducible rfl)) (fun K hK => ?_); go_simp; refine hK _ ?_; clear hK K) | (refine wpPlanZ_quiet (by rfl) (by rfl) (fun W hW => by (obtain ⟨z0, z1, z2, z3, z4, z5⟩ := hW; go_simp; try with_reducible rfl)) (fun K hK => ?_); go_simp; refine hK _ ?_; clear hK K))
        refine wpPlanZ_serial (by rfl) (by rfl) (fun K hK => ?_)
        go_simp
        refine (hw1 _).mono ?_
        rintro e u4 ⟨rfl, hd4⟩
        have D4 : Hid (Below w.heap.size w u4) := D3.out.trans (hd4.mono D3.out.size)
        clear y0 y1 y2 y3 y4 y5
        obtain ⟨y0, y1, y2, y3, y4, y5⟩ := HCL.out u4 D4.out
        refine hK _ _ (fun _ => ⟨y0, y1, y2, y3, y4, y5⟩) ?_
        have hb4' : b < u4.heap.size := World.block_lt_of_cell? _ _ y0
        clear hK K hd4 hw1 y0 y1 y2 y3 y4 y5
        refine wpPlanZ_serial (by rfl) (by rfl) (fun K hK => ?_)
        go_simp
        refine (hw2 _).mono ?_
        rintro e u5 ⟨rfl, hd5⟩
        have D5 : Hid (Below w.heap.size w u5) := D4.out.trans (hd5.mono D4.out.size)
        obtain ⟨y0, y1, y2, y3, y4, y5⟩ := HCL.out u5 D5.out
        refine hK _ _ (fun _ => ⟨y0, y1, y2, y3, y4, y5⟩) ?_
        clear hK K hd5 hw2 y0 y1 y2 y3 y4 y5
        repeat (first | (refine wpPlanZ_free (by rfl) (by rfl) (fun W => by (go_simp; try with_reducible rfl)) (fun K hK => ?_); go_simp; refine hK _ ?_; clear hK K) | (refine wpPlanZ_quiet (by rfl) (by rfl) (fun W hW => by (obtain ⟨z0, z1, z2, z3, z4, z5⟩ := hW; go_simp; try with_reducible rfl)) (fun K hK => ?_); go_simp; refine hK _ ?_; clear hK K))
        refine wpPlanZ_nil ?_
        go_wp2
        go_roundw
        case rel => exact ⟨j + 1, by omega, by go_num, D5.out⟩
        case measure => simp [intOf]; omega
      · obtain rfl : j = l.length := by omega
        go_wp2
        go_ret
        exact ⟨rfl, HBr.out⟩
end Go.Proofs.YtcccaejjhodnkaaDoor
