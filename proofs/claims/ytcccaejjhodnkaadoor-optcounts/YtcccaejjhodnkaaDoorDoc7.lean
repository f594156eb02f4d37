/-
  The document's CodeFault, walked.
-/
import Derived.Test.YtcccaejjhodnkaaDoorDoc6
namespace Go.Proofs.YtcccaejjhodnkaaDoor
open Go.RowKit Go.Maps
open Num
set_option linter.unusedVariables false
theorem opE_t0 {o : Opx} {many : Int} (h : opE o many = 0) : 0 ≤ o.t := by
  unfold opE at h
  split at h
  · omega
  · split at h
    · omega
    · rename_i h2; simp [bndB] at h2; exact h2.2.2.2.1
/-- where an answer of two cells is written -/
structure FBox (W : World) (x : Nat) : Prop where
  c0 : ∃ u, W.cell? ⟨x, 0, none⟩ = some u
  c1 : ∃ u, W.cell? ⟨x, 1, none⟩ = some u
  f0 : W.frozen? ⟨x, 0, none⟩ = false
  f1 : W.frozen? ⟨x, 1, none⟩ = false
theorem FBox.stays {W W' : World} {x : Nat} (F : FBox W x) (h : Below W.heap.size W W') : FBox W' x := by
  obtain ⟨⟨u, a⟩, ⟨v, b⟩, c, d⟩ := F
  exact ⟨⟨u, by rw [h.cell (World.block_lt_of_cell? _ _ a)]; exact a⟩, ⟨v, by rw [h.cell (World.block_lt_of_cell? _ _ b)]; exact b⟩, by rw [h.frozen (World.block_lt_of_cell? _ _ a)]; exact c, by rw [h.frozen (World.block_lt_of_cell? _ _ b)]; exact d⟩
theorem FBox.lt {W : World} {x : Nat} (F : FBox W x) : x < W.heap.size := by obtain ⟨⟨u, a⟩, _⟩ := F; exact World.block_lt_of_cell? _ _ a
theorem FBox.drewN {W : World} {x : Nat} (F : FBox W x) (n : Nat) : FBox (W.drewN n) x := ⟨F.c0, F.c1, F.f0, F.f1⟩
theorem FBox.new (w : World) : FBox (w.alloc (.cells #[.int .i64 0, .int .i64 0] 53)) w.heap.size := ⟨⟨.int .i64 0, by simp⟩, ⟨.int .i64 0, by simp⟩, by simp, by simp⟩
theorem fault_put {w W : World} (hB : Below w.heap.size w W) (F : FBox W w.heap.size) (a b : Int) :
    (loadVar 53 ⟨w.heap.size, 0, none⟩).run Tryd.prog ((W.setCell ⟨w.heap.size, 0, none⟩ (.int .i64 a)).setCell ⟨w.heap.size, 1, none⟩ (.int .i64 b)) = .ok (.agg #[.int .i64 a, .int .i64 b]) ((W.setCell ⟨w.heap.size, 0, none⟩ (.int .i64 a)).setCell ⟨w.heap.size, 1, none⟩ (.int .i64 b)) ∧ Below w.heap.size w ((W.setCell ⟨w.heap.size, 0, none⟩ (.int .i64 a)).setCell ⟨w.heap.size, 1, none⟩ (.int .i64 b)) := by
  obtain ⟨⟨u, h0⟩, ⟨v, h1⟩, _, _⟩ := F
  obtain ⟨z0, z1⟩ := putF2 (v0 := .int .i64 a) (v1 := .int .i64 b) h0 h1
  exact ⟨fault_load z0 z1, (hB.setCell (Nat.le_refl _) _).setCell (Nat.le_refl _) _⟩
set_option maxRecDepth 100000 in
set_option maxHeartbeats 4000000 in
theorem codeFault_any {w : World} {v : Value} {l : List Opx} (A : OpsIn w v l) (hl : (l.length : Int) ≤ 1000000) (many : Int) (m0 : -9223372036854775808 ≤ many) (m1 : many ≤ 9223372036854775807) :
    Calls Tryd.prog 19 #[.int .i64 many, v] w fun e w' => e = .returned (.agg #[.int .i64 (codeF many l).1, .int .i64 (codeF many l).2]) ∧ Below w.heap.size w w' := by
  have A0 := A
  obtain ⟨ao, cap, rfl, hc, hh⟩ := A.sh
  have hst : ∀ w', Below w.heap.size w w' → Calls Tryd.prog 46 #[.slice ao l.length cap] w' fun e w'' => e = .returned (.int .i64 (strs l)) ∧ w'' = w' := fun w' hb => storesD_any (A.stays hb) hl
  have hba := fun n w => bare_any n w
  have HH : Hid (0 < l.length → ∃ b off : Nat, ao = some ⟨b, off, none⟩ ∧ ∀ (i : Nat) (o : Opx), l[i]? = some o → ∀ (j : Nat) (u : Value), (opC o)[j]? = some u → w.cell? ⟨b, off + i * 6 + j, none⟩ = some u) := hh
  have hOk : Hid (∀ o ∈ l, o.ok) := A.ok
  have hB0 : Below w.heap.size w (w.alloc (.cells #[.int .i64 0, .int .i64 0] 53)) := (Below.refl _ _).alloc (Nat.le_refl _) _
  have hF0 := FBox.new w
  clear hh A A0
  by_cases hm1 : many < 1
  · have HF : Hid (codeF many l = (2, -1)) := by show _ = _; unfold codeF; rw [if_pos (Or.inl hm1)]
    clear hst HH
    go_enter Tryd.func19, Tryd.ntmps19
    go_upto_region 1 with fail
    generalize w.alloc (.cells #[.int .i64 0, .int .i64 0] 53) = V at *
    have HB0 : Hid (Below w.heap.size w V) := hB0
    have HF0 : Hid (FBox V w.heap.size) := hF0
    clear hB0 hF0
    go_wp2_with fail
    refine (hba 2 _).mono ?_
    rintro e w2 ⟨rfl, hb2⟩
    obtain ⟨⟨u0, z0⟩, ⟨u1, z1⟩, f0, f1⟩ := HF0.out.stays hb2
    have HB2 : Hid (Below w.heap.size w w2) := HB0.out.trans (hb2.mono HB0.out.size)
    have HF2 : Hid (FBox w2 w.heap.size) := HF0.out.stays hb2
    clear hb2 HB0 HF0
    go_wp2
    obtain ⟨q1, q2⟩ := fault_put HB2.out HF2.out 2 (-1)
    refine bodyPost_ret (results_one_cell (A := ⟨w.heap.size, 0, none⟩) rfl _ _ _ rfl q1) rfl ?_
    exact ⟨by rw [HF.out], q2⟩
  by_cases hm2 : 24 < many
  · have HF : Hid (codeF many l = (2, -1)) := by show _ = _; unfold codeF; rw [if_pos (Or.inr hm2)]
    clear hst HH
    go_enter Tryd.func19, Tryd.ntmps19
    go_upto_region 1 with fail
    generalize w.alloc (.cells #[.int .i64 0, .int .i64 0] 53) = V at *
    have HB0 : Hid (Below w.heap.size w V) := hB0
    have HF0 : Hid (FBox V w.heap.size) := hF0
    clear hB0 hF0
    go_wp2_with fail
    refine (hba 2 _).mono ?_
    rintro e w2 ⟨rfl, hb2⟩
    obtain ⟨⟨u0, z0⟩, ⟨u1, z1⟩, f0, f1⟩ := HF0.out.stays hb2
    have HB2 : Hid (Below w.heap.size w w2) := HB0.out.trans (hb2.mono HB0.out.size)
    have HF2 : Hid (FBox w2 w.heap.size) := HF0.out.stays hb2
    clear hb2 HB0 HF0
    go_wp2
    obtain ⟨q1, q2⟩ := fault_put HB2.out HF2.out 2 (-1)
    refine bodyPost_ret (results_one_cell (A := ⟨w.heap.size, 0, none⟩) rfl _ _ _ rfl q1) rfl ?_
    exact ⟨by rw [HF.out], q2⟩
  have hm : ¬ (many < 1 ∨ 24 < many) := by omega
  by_cases hl2 : 200 < l.length
  · have HF : Hid (codeF many l = (8, -1)) := by show _ = _; unfold codeF; rw [if_neg hm, if_pos (Or.inl hl2)]
    have hl2' : (200 : Int) < l.length := by omega
    clear hst HH hm
    go_enter Tryd.func19, Tryd.ntmps19
    go_upto_region 1 with fail
    generalize w.alloc (.cells #[.int .i64 0, .int .i64 0] 53) = V at *
    have HB0 : Hid (Below w.heap.size w V) := hB0
    have HF0 : Hid (FBox V w.heap.size) := hF0
    clear hB0 hF0
    go_wp2_with fail
    refine (hba 8 _).mono ?_
    rintro e w2 ⟨rfl, hb2⟩
    obtain ⟨⟨u0, z0⟩, ⟨u1, z1⟩, f0, f1⟩ := HF0.out.stays hb2
    have HB2 : Hid (Below w.heap.size w w2) := HB0.out.trans (hb2.mono HB0.out.size)
    have HF2 : Hid (FBox w2 w.heap.size) := HF0.out.stays hb2
    clear hb2 HB0 HF0
    go_wp2
    obtain ⟨q1, q2⟩ := fault_put HB2.out HF2.out 8 (-1)
    refine bodyPost_ret (results_one_cell (A := ⟨w.heap.size, 0, none⟩) rfl _ _ _ rfl q1) rfl ?_
    exact ⟨by rw [HF.out], q2⟩
  have hl2' : ¬ (200 : Int) < l.length := by omega
  by_cases hs8 : 8 < strs l
  · have HF : Hid (codeF many l = (8, -1)) := by show _ = _; unfold codeF; rw [if_neg hm, if_pos (Or.inr hs8)]
    have hs8' : (8 : Int) < strs l := by omega
    clear HH hm hl2
    go_enter Tryd.func19, Tryd.ntmps19
    go_upto_region 1 with fail
    generalize w.alloc (.cells #[.int .i64 0, .int .i64 0] 53) = V at *
    have HB0 : Hid (Below w.heap.size w V) := hB0
    have HF0 : Hid (FBox V w.heap.size) := hF0
    have hst' := hst V hB0
    clear hB0 hF0 hst
    go_wp2_with fail
    refine hst'.mono ?_
    rintro e w1 ⟨rfl, hw⟩
    rw [hw]
    clear hw w1 hst'
    go_wp2_with fail
    refine (hba 8 _).mono ?_
    rintro e w2 ⟨rfl, hb2⟩
    obtain ⟨⟨u0, z0⟩, ⟨u1, z1⟩, f0, f1⟩ := HF0.out.stays hb2
    have HB2 : Hid (Below w.heap.size w w2) := HB0.out.trans (hb2.mono HB0.out.size)
    have HF2 : Hid (FBox w2 w.heap.size) := HF0.out.stays hb2
    clear hb2 HB0 HF0
    go_wp2
    obtain ⟨q1, q2⟩ := fault_put HB2.out HF2.out 8 (-1)
    refine bodyPost_ret (results_one_cell (A := ⟨w.heap.size, 0, none⟩) rfl _ _ _ rfl q1) rfl ?_
    exact ⟨by rw [HF.out], q2⟩
  have hs8' : ¬ (8 : Int) < strs l := by omega
  have hn8 : ¬ (200 < l.length ∨ 8 < strs l) := by omega
  by_cases hnil : l = []
  · have HF : Hid (codeF many l = (3, -1)) := by show _ = _; unfold codeF; rw [if_neg hm, if_neg hn8, if_pos (Or.inl hnil)]
    have hlen : l.length = 0 := by rw [hnil]; rfl
    have hc0 : (l.length : Int) = 0 := by omega
    subst hnil
    clear HH hm hl2 hn8 hOk
    go_enter Tryd.func19, Tryd.ntmps19
    go_upto_region 1 with fail
    generalize w.alloc (.cells #[.int .i64 0, .int .i64 0] 53) = V at *
    have HB0 : Hid (Below w.heap.size w V) := hB0
    have HF0 : Hid (FBox V w.heap.size) := hF0
    have hst' := hst V hB0
    clear hB0 hF0 hst
    go_wp2_with fail
    refine hst'.mono ?_
    rintro e w1 ⟨rfl, hw⟩
    rw [hw]
    clear hw w1 hst'
    go_wp2_with fail
    refine (hba 3 _).mono ?_
    rintro e w2 ⟨rfl, hb2⟩
    obtain ⟨⟨u0, z0⟩, ⟨u1, z1⟩, f0, f1⟩ := HF0.out.stays hb2
    have HB2 : Hid (Below w.heap.size w w2) := HB0.out.trans (hb2.mono HB0.out.size)
    have HF2 : Hid (FBox w2 w.heap.size) := HF0.out.stays hb2
    clear hb2 HB0 HF0
    go_wp2
    obtain ⟨q1, q2⟩ := fault_put HB2.out HF2.out 3 (-1)
    refine bodyPost_ret (results_one_cell (A := ⟨w.heap.size, 0, none⟩) rfl _ _ _ rfl q1) rfl ?_
    exact ⟨by rw [HF.out], q2⟩
  have hpos : 0 < l.length := List.length_pos_iff.2 hnil
  obtain ⟨b, off, rfl, hcell⟩ := HH.out hpos
  obtain ⟨lo, hlo, hlast⟩ : ∃ o, l[l.length - 1]? = some o ∧ l.getLast? = some o := by
    have h : l[l.length - 1]? = some l[l.length - 1] := List.getElem?_eq_getElem (by omega)
    exact ⟨_, h, by rw [List.getLast?_eq_getElem?]; exact h⟩
  have hbl : b < w.heap.size := World.block_lt_of_cell? _ _ (hcell _ _ hlo 0 _ rfl)
  have hlc : Hid (∀ w' : World, Below w.heap.size w w' → ∀ (i : Nat) (o : Opx), l[i]? = some o → w'.cell? ⟨b, off + i * 6, none⟩ = some (.string o.s) ∧ w'.cell? ⟨b, off + i * 6 + 1, none⟩ = some (.int .i64 o.d) ∧ w'.cell? ⟨b, off + i * 6 + 2, none⟩ = some (.int .i64 o.a) ∧ w'.cell? ⟨b, off + i * 6 + 3, none⟩ = some (.int .i64 o.b) ∧ w'.cell? ⟨b, off + i * 6 + 4, none⟩ = some (.int .u32 o.i) ∧ w'.cell? ⟨b, off + i * 6 + 5, none⟩ = some (.int .i64 o.t)) := by
    intro w' hw i o hi
    exact op_cells fun k u hk => by rw [hw.cell hbl]; exact hcell i o hi k u hk
  clear hcell HH
  have hlen1 : ((l.length : Int) - 1).toNat = l.length - 1 := by omega
  have hpos' : ¬ (l.length : Int) - 1 < 0 := by omega
  have hpos2 : (l.length : Int) - 1 < l.length := by omega
  have hne0 : ¬ (l.length : Int) = 0 := by omega
  have hio := fun o w' => isOutD_any o w'
  unfold opV at hio
  cases hob : outB lo with
  | false =>
    have HF : Hid (codeF many l = (3, -1)) := by show _ = _; unfold codeF; rw [if_neg hm, if_neg hn8, if_pos (Or.inr (by rw [hlast]; exact hob))]
    have hio := hio lo
    rw [hob] at hio
    clear hm hl2 hn8 hOk hlast hob
    go_enter Tryd.func19, Tryd.ntmps19
    go_upto_region 1 with fail
    generalize w.alloc (.cells #[.int .i64 0, .int .i64 0] 53) = V at *
    have HB0 : Hid (Below w.heap.size w V) := hB0
    have HF0 : Hid (FBox V w.heap.size) := hF0
    have hst' := hst V hB0
    clear hB0 hF0 hst
    go_wp2_with fail
    refine hst'.mono ?_
    rintro e w1 ⟨rfl, hw⟩
    rw [hw]
    clear hw w1 hst'
    obtain ⟨x0, x1, x2, x3, x4, x5⟩ := hlc.out V HB0.out _ _ hlo
    go_wp2_with fail
    refine (hio _).mono ?_
    rintro e w1 ⟨rfl, hb1⟩
    replace HF0 : Hid (FBox w1 w.heap.size) := HF0.out.stays hb1
    replace HB0 : Hid (Below w.heap.size w w1) := HB0.out.trans (hb1.mono HB0.out.size)
    clear hb1 hio x0 x1 x2 x3 x4 x5 hlc hlo
    go_wp2_with fail
    refine (hba 3 _).mono ?_
    rintro e w2 ⟨rfl, hb2⟩
    obtain ⟨⟨u0, z0⟩, ⟨u1, z1⟩, f0, f1⟩ := HF0.out.stays hb2
    have HB2 : Hid (Below w.heap.size w w2) := HB0.out.trans (hb2.mono HB0.out.size)
    have HF2 : Hid (FBox w2 w.heap.size) := HF0.out.stays hb2
    clear hb2 HB0 HF0
    go_wp2
    obtain ⟨q1, q2⟩ := fault_put HB2.out HF2.out 3 (-1)
    refine bodyPost_ret (results_one_cell (A := ⟨w.heap.size, 0, none⟩) rfl _ _ _ rfl q1) rfl ?_
    exact ⟨by rw [HF.out], q2⟩
  | true =>
    have HF : Hid (codeF many l = opsF many 0 0 l) := by
      show _ = _; unfold codeF; rw [if_neg hm, if_neg hn8, if_neg (by rw [hlast]; simp [hob, hnil])]
    have hio2 := hio lo
    rw [hob] at hio2
    clear hm hl2 hn8 hlast hob hba hs8
    go_enter Tryd.func19, Tryd.ntmps19
    go_upto_region 1 with fail
    generalize w.alloc (.cells #[.int .i64 0, .int .i64 0] 53) = V at *
    have HB0 : Hid (Below w.heap.size w V) := hB0
    have HF0 : Hid (FBox V w.heap.size) := hF0
    have hst' := hst V hB0
    clear hB0 hF0 hst
    go_wp2_with fail
    refine hst'.mono ?_
    rintro e w1 ⟨rfl, hw⟩
    rw [hw]
    clear hw w1 hst'
    obtain ⟨x0, x1, x2, x3, x4, x5⟩ := hlc.out V HB0.out _ _ hlo
    go_wp2_with fail
    refine (hio2 _).mono ?_
    rintro e w1 ⟨rfl, hb1⟩
    replace HF0 : Hid (FBox w1 w.heap.size) := HF0.out.stays hb1
    replace HB0 : Hid (Below w.heap.size w w1) := HB0.out.trans (hb1.mono HB0.out.size)
    clear hb1 hio2 x0 x1 x2 x3 x4 x5 hlo
    go_wp2
    go_loopw [6] (fun i wr => ∃ (j : Nat) (ah : Int), j ≤ l.length ∧ i = .int .i64 j ∧ (j = 0 → ah = 0) ∧ (∀ x, 0 < j → l[j - 1]? = some x → ah = x.t) ∧ opsF many 0 0 l = opsF many ah j (l.drop j) ∧ Below w.heap.size w wr ∧ FBox wr w.heap.size) (fun i _ => l.length - (intOf i).toNat)
    case atStart => exact ⟨0, 0, Nat.zero_le _, rfl, fun _ => rfl, fun x h _ => absurd h (by omega), rfl, HB0.out, HF0.out⟩
    case round =>
      obtain ⟨j, ah, hj, rfl, hah0, hah, hop, hB, hFb⟩ := hrel
      have HO : Hid (opsF many 0 0 l = opsF many ah j (l.drop j)) := hop
      have HBr : Hid (Below w.heap.size w wr) := hB
      have HFr : Hid (FBox wr w.heap.size) := hFb
      have HA0 : Hid (j = 0 → ah = 0) := hah0
      have HAH : Hid (∀ x, 0 < j → l[j - 1]? = some x → ah = x.t) := hah
      clear hop hB hFb HB0 HF0 hah0 hah
      by_cases hlt : j < l.length
      · obtain ⟨o, ho, hd, hom⟩ : ∃ o, l[j]? = some o ∧ l.drop j = o :: l.drop (j + 1) ∧ o ∈ l := ⟨l[j], List.getElem?_eq_getElem hlt, List.drop_eq_getElem_cons hlt, List.getElem_mem hlt⟩
        have hem : (l.drop (j + 1)).isEmpty = decide (l.length ≤ j + 1) := by rw [Bool.eq_iff_iff, List.isEmpty_iff, List.drop_eq_nil_iff]; simp
        rw [hd] at HO
        have HO2 : Hid (opsF many 0 0 l = if opF o many ah (decide (l.length ≤ j + 1)) ≠ 0 then (opF o many ah (decide (l.length ≤ j + 1)), (j : Int)) else opsF many o.t (j + 1) (l.drop (j + 1))) := by
          show _ = _; rw [HO.out, opsF_cons, hem]
        have HX : Hid (codeF many l = if opF o many ah (decide (l.length ≤ j + 1)) ≠ 0 then (opF o many ah (decide (l.length ≤ j + 1)), (j : Int)) else opsF many o.t (j + 1) (l.drop (j + 1))) := HF.out.trans HO2.out
        clear HO hd hem
        have hoK : o.ok := hOk.out _ hom
        have hcl := fun W hW => hlc.out W hW _ _ ho
        have HCL : Hid (∀ W, Below w.heap.size w W → _) := hcl
        clear hcl
        obtain ⟨x0, x1, x2, x3, x4, x5⟩ := HCL.out wr HBr.out
        have hlt' : (j : Int) < l.length := by omega
        have HNX : Hid (∀ x, 0 < j + 1 → l[j + 1 - 1]? = some x → o.t = x.t) := fun x _ hx => by rw [show j + 1 - 1 = j by omega, ho] at hx; injection hx with hx; rw [hx]
        have hoe := fun w' => opError_any o hoK many w'
        unfold opV at hoe
        have hio3 := hio o
        obtain ⟨oe, hoE⟩ : ∃ x, opE o many = x := ⟨_, rfl⟩
        obtain ⟨ob, hoB⟩ : ∃ x, outB o = x := ⟨_, rfl⟩
        rw [hoE] at hoe
        rw [hoB] at hio3
        have hec := opE_cases o many
        have ht0 : Hid (oe = 0 → 0 ≤ o.t) := by rw [← hoE]; intro h; exact opE_t0 h
        have HPF : Hid (opF o many ah (decide (l.length ≤ j + 1)) = if oe ≠ 0 then oe else if o.t < ah ∨ ob = true ∧ decide (l.length ≤ j + 1) = false then 3 else 0) := by show _ = _; unfold opF; rw [hoE, hoB]
        rw [hoE] at hec
        have HEC : Hid (oe = 0 ∨ oe = 2 ∨ oe = 3 ∨ oe = 4) := hec
        clear ho hOk HF hom hoE hoB hio hec
        go_wp2_with fail
        refine (hoe _).mono ?_
        rintro e w1 ⟨rfl, hb1⟩
        have HF1 : Hid (FBox w1 w.heap.size) := HFr.out.stays hb1
        have HB1 : Hid (Below w.heap.size w w1) := HBr.out.trans (hb1.mono HBr.out.size)
        clear hb1 hoe HFr HBr x0 x1 x2 x3 x4 x5
        obtain ⟨x0, x1, x2, x3, x4, x5⟩ := HCL.out w1 HB1.out
        go_wp2_with fail
        refine (hio3 _).mono ?_
        rintro e w2 ⟨rfl, hb2⟩
        have HF2 : Hid (FBox w2 w.heap.size) := HF1.out.stays hb2
        have HB2 : Hid (Below w.heap.size w w2) := HB1.out.trans (hb2.mono HB1.out.size)
        clear hb2 hio3 HF1 HB1 x0 x1 x2 x3 x4 x5
        obtain ⟨⟨u0, z0⟩, ⟨u1, z1⟩, f0, f1⟩ := HF2.out
        -- the op alone is at fault
        by_cases hE0 : oe = 0
        · subst hE0
          have h00 := ht0.out rfl
          have HPF1 : Hid (opF o many ah (decide (l.length ≤ j + 1)) = if o.t < ah ∨ ob = true ∧ decide (l.length ≤ j + 1) = false then 3 else 0) := by show _ = _; rw [HPF.out, if_neg (by simp)]
          clear HPF ht0 HEC
          by_cases hin : ob = true ∧ j + 1 < l.length
          · obtain ⟨rfl, hjl⟩ := hin
            have HE : Hid (opF o many ah (decide (l.length ≤ j + 1)) = 3) := by show _ = _; rw [HPF1.out, if_pos (Or.inr ⟨rfl, by simp; omega⟩)]
            have hjl' : (j : Int) + 1 < l.length := by omega
            clear HPF1 h00
            go_wp2
            obtain ⟨q1, q2⟩ := fault_put HB2.out HF2.out 3 j
            refine bodyPost_ret (results_one_cell (A := ⟨w.heap.size, 0, none⟩) rfl _ _ _ rfl q1) rfl ?_
            exact ⟨by rw [HX.out, HE.out]; rfl, q2⟩
          · have hin' : ¬ (ob = true ∧ decide (l.length ≤ j + 1) = false) := by
              intro h; exact hin ⟨h.1, by have := h.2; simp at this; omega⟩
            have hlog : (ob && decide ((j : Int) + 1 < l.length)) = false := by
              cases ob <;> simp at hin' ⊢; omega
            by_cases hj0 : j = 0
            · have e0 := HA0.out hj0
              have HE : Hid (opF o many ah (decide (l.length ≤ j + 1)) = 0) := by show _ = _; rw [HPF1.out, if_neg (fun h => h.elim (fun h => by omega) hin')]
              have hj0' : ¬ (0 : Int) < j := by omega
              have HEND : Hid (opsF many 0 0 l = opsF many o.t (j + 1) (l.drop (j + 1))) := by show _ = _; rw [HO2.out, HE.out]; simp
              clear HPF1 HO2 HX HE hin' e0
              subst hj0
              have hlt2 : 0 < l.length := hlt
              have HC : Hid (ob = true → l.length ≤ 1) := fun h => by
                rw [h] at hlog; simp at hlog; omega
              cases ob with
              | false =>
                clear HC
                go_wp2
                go_roundw
                case rel => exact ⟨1, o.t, hlt2, by first | rfl | go_num, fun h => absurd h (by omega), HNX.out, HEND.out, HB2.out, HF2.out⟩
                case measure => simp [intOf]; omega
              | true =>
                clear hlog
                go_wp2
                all_goals first
                | (exfalso; have hC := HC.out rfl; omega)
                | (exfalso; have hC := HC.out; omega)
                | (exfalso; have hC := HC.out; simp at hC; omega)
                | (go_roundw
                   case rel => exact ⟨1, o.t, hlt2, by first | rfl | go_num, fun h => absurd h (by omega), HNX.out, HEND.out, HB2.out, HF2.out⟩
                   case measure => simp [intOf]; omega)
            · obtain ⟨p, hp⟩ : ∃ p, l[j - 1]? = some p := ⟨_, List.getElem?_eq_getElem (by omega)⟩
              have e0 := HAH.out p (by omega) hp
              subst e0
              have hj0' : (0 : Int) < j := by omega
              obtain ⟨_, _, _, _, _, x5⟩ := HCL.out w2 HB2.out
              obtain ⟨_, _, _, _, _, y5⟩ := hlc.out w2 HB2.out _ _ hp
              have hjn : ((j : Int) - 1).toNat = j - 1 := by omega
              have hjn2 : ¬ (j : Int) - 1 < 0 := by omega
              have hjn3 : (j : Int) - 1 < l.length := by omega
              clear hp
              by_cases htp : o.t < p.t
              · have HE : Hid (opF o many p.t (decide (l.length ≤ j + 1)) = 3) := by show _ = _; rw [HPF1.out, if_pos (Or.inl htp)]
                clear HPF1 HO2 hin'
                cases ob
                all_goals
                  go_wp2
                  go_quiet (fail)
                  go_wp2
                  obtain ⟨q1, q2⟩ := fault_put (below_drewN HB2.out nq) (HF2.out.drewN nq) 3 j
                  refine bodyPost_ret (results_one_cell (A := ⟨w.heap.size, 0, none⟩) rfl _ _ _ rfl q1) rfl ?_
                  exact ⟨by rw [HX.out, HE.out]; rfl, q2⟩
              · have HE : Hid (opF o many p.t (decide (l.length ≤ j + 1)) = 0) := by show _ = _; rw [HPF1.out, if_neg (fun h => h.elim (fun h => by omega) hin')]
                have HEND : Hid (opsF many 0 0 l = opsF many o.t (j + 1) (l.drop (j + 1))) := by show _ = _; rw [HO2.out, HE.out]; simp
                clear HPF1 HO2 HX HE hin'
                cases ob
                all_goals
                  go_wp2
                  go_quiet (fail)
                  go_wp2
                  go_roundw
                  case rel => exact ⟨j + 1, o.t, by omega, by go_num, by omega, HNX.out, HEND.out, below_drewN HB2.out nq, HF2.out.drewN nq⟩
                  case measure => simp [intOf]; omega
        · have hp0 : 0 < oe := by have := HEC.out; omega
          have hE0' : (oe == 0) = false := by simpa using hE0
          have HE : Hid (opF o many ah (decide (l.length ≤ j + 1)) = oe) := by show _ = _; rw [HPF.out, if_pos hE0]
          have HNE : Hid (oe ≠ 0) := hE0
          clear HPF HEC ht0 hE0
          go_wp2
          obtain ⟨q1, q2⟩ := fault_put HB2.out HF2.out oe j
          refine bodyPost_ret (results_one_cell (A := ⟨w.heap.size, 0, none⟩) rfl _ _ _ rfl q1) rfl ?_
          exact ⟨by rw [HX.out, HE.out, if_pos HNE.out], q2⟩
      · obtain rfl : j = l.length := by omega
        have hfi := fun w => fine_any w
        have HF3 : Hid (codeF many l = (0, -1)) := by show _ = _; rw [HF.out, HO.out]; simp [opsF]
        clear HO HF hlc hOk hio
        go_wp2_with fail
        refine (hfi _).mono ?_
        rintro e w2 ⟨rfl, hb2⟩
        obtain ⟨⟨u0, z0⟩, ⟨u1, z1⟩, f0, f1⟩ := HFr.out.stays hb2
        have HB2 : Hid (Below w.heap.size w w2) := HBr.out.trans (hb2.mono HBr.out.size)
        have HF2 : Hid (FBox w2 w.heap.size) := HFr.out.stays hb2
        clear hb2
        go_wp2
        obtain ⟨q1, q2⟩ := fault_put HB2.out HF2.out 0 (-1)
        refine bodyPost_ret (results_one_cell (A := ⟨w.heap.size, 0, none⟩) rfl _ _ _ rfl q1) rfl ?_
        exact ⟨by rw [HF3.out], q2⟩
end Go.Proofs.YtcccaejjhodnkaaDoor
