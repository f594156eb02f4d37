/-
  The walk of CpuGoes.
-/
import Derived.Test.YtckcbnfobjmhpaaDoorKStep
import Derived.Test.YtckcbnfobjmhpaaDoorQEqSt0
namespace Go.Proofs.YtckcbnfobjmhpaaDoor
open Go.RowKit Go.Maps
open Num
set_option linter.unusedVariables false
theorem set_r0 (S : St) (n : Nat) (v : Int) : (S.set n v).r 0 = S.r 0 := by
  unfold St.set
  split
  · rfl
  · show (if 0 = n then v else S.r 0) = _
    rw [if_neg (by omega)]
theorem branchP_r0 (S : St) (k s t d : Nat) (m : Int) : (branchP S k s t d m).2.r 0 = S.r 0 := by
  unfold branchP
  split
  · rfl
  · show St.r (if k = 30 then S.set 31 _ else if k = 8 then S.set d _ else S) 0 = _
    split
    · exact set_r0 _ _ _
    split
    · exact set_r0 _ _ _
    · rfl
theorem trapP_r0 (S : St) (k t d : Nat) : (trapP S k t d).2.r 0 = S.r 0 := by
  have hf : (fromP S t d).2.r 0 = S.r 0 := by unfold fromP; (repeat' split) <;> first | exact set_r0 _ _ _ | rfl
  have ht : (toP S t d).2.r 0 = S.r 0 := by unfold toP; (repeat' split) <;> rfl
  have hb : (backP S).2.r 0 = S.r 0 := by unfold backP; split <;> rfl
  unfold trapP
  split
  · rfl
  split
  · rfl
  split
  · exact hf
  split
  · exact ht
  split
  · exact hb
  · rfl
theorem sumP_r0 (S : St) (k s t d : Nat) (m : Int) : (sumP S k s t d m).2.r 0 = S.r 0 := by
  unfold sumP
  split
  · rfl
  split
  · dsimp only
    split <;> rfl
  split
  · rfl
  split
  · rfl
  split
  · rfl
  · exact set_r0 _ _ _
theorem doP_r0 (S : St) (b : Bs) : (doC S b).2.1.r 0 = S.r 0 := by
  unfold doC
  split
  · rfl
  split
  · rfl
  · dsimp only
    unfold insP
    split
    · exact branchP_r0 _ _ _ _ _ _
    split
    · split
      · rfl
      · exact set_r0 _ _ _
    split
    · split <;> rfl
    split
    · exact trapP_r0 _ _ _ _
    · exact sumP_r0 _ _ _ _ _ _
theorem excP_r (S : St) (e : Int) : (excP S e).r = S.r := by unfold excP exc1; dsimp only [St.jump]; split <;> (try split) <;> rfl
theorem stepP_r0 (S : St) (b : Bs) : (stepP S b).2.1.r 0 = S.r 0 := by
  unfold stepP
  show (if (doC S b).1 = -1 then (doC S b).2.1 else excP (doC S b).2.1 (doC S b).1).r 0 = _
  split
  · exact doP_r0 S b
  · rw [excP_r]; exact doP_r0 S b
theorem runP_r0 (S : St) (b : Bs) : ∀ n, (runP n S b).1.r 0 = S.r 0
  | 0 => rfl
  | n + 1 => by show (stepP _ _).2.1.r 0 = _; rw [stepP_r0, runP_r0 S b n]
/-- what is seen of a machine -/
structure Sn (w : World) (sb bb rb bp bw bh N : Nat) (S : St) (b : Bs) (vo vt : Value) : Prop where
  a : StAt w sb S
  B : ∃ bx by_, BusSeen w bx by_ bb rb bp bw bh N b.m F0 F0 b.out b.lamp b.tr vo vt
theorem Sn.stays {w w' : World} {sb bb rb bp bw bh N : Nat} {S : St} {b : Bs} {vo vt : Value} (h : Sn w sb bb rb bp bw bh N S b vo vt) (hb : Below w.heap.size w w') : Sn w' sb bb rb bp bw bh N S b vo vt :=
  ⟨h.a.stays hb, let ⟨x, y, B⟩ := h.B; ⟨x, y, B.stays hb⟩⟩
set_option maxRecDepth 100000 in
set_option maxHeartbeats 16000000 in
theorem goes_any (ps pa pf pk pn : Addr) {w : World} (E : Er ps pa pf w) (T : K.Tb pk pn w) {v : Value} {xs : List Int} (X : WordsIn w v xs) (hlen : (xs.length : Int) ≤ 9223372036854775807) (pc a c : Int) (p0 : 0 ≤ pc) (p1 : pc < 4294967296) :
    Calls Tryd.prog 3 #[v, .int .u32 pc, .int .i64 a, .int .i64 c] w fun e w' => e = .returned (.bool true) ∧ Below w.heap.size w w' := by
  obtain ⟨ao, cap, rfl, hcap, _⟩ := X.sh
  have hst := stepped_any ps pa pf pk pn E T
  have XH : Hid (WordsIn w (.slice ao xs.length cap) xs) := X
  have EH : Hid (Er ps pa pf w) := E
  have TH : Hid (K.Tb pk pn w) := T
  clear X E T
  go_enter Tryd.func3, Tryd.ntmps3
  go_wp2_with fail
  refine hst.mono ?_
  rintro e w1 ⟨rfl, hb1⟩
  clear hst
  by_cases t1 : 300 < (xs.length : Int)
  · go_wp2
    go_ret
    exact ⟨rfl, hb1⟩
  by_cases t2 : a < 0
  · go_wp2
    go_ret
    exact ⟨rfl, hb1⟩
  by_cases t3 : 200 < a
  · go_wp2
    go_ret
    exact ⟨rfl, hb1⟩
  by_cases t4 : c < 0
  · go_wp2
    go_ret
    exact ⟨rfl, hb1⟩
  by_cases t5 : 200 < c
  · go_wp2
    go_ret
    exact ⟨rfl, hb1⟩
  have u1 : (xs.length : Int) ≤ 300 := by omega
  obtain ⟨A, rfl⟩ : ∃ n : Nat, a = n := ⟨a.toNat, by omega⟩
  obtain ⟨D, rfl⟩ : ∃ n : Nat, c = n := ⟨c.toNat, by omega⟩
  have u2 : (0 : Int) ≤ A := by omega
  have u3 : (A : Int) ≤ 200 := by omega
  have u4 : (0 : Int) ≤ D := by omega
  have u5 : (D : Int) ≤ 200 := by omega
  clear t1 t2 t3 t4 t5
  have g1 := newSt_any pc ⟨p0, p1⟩ w1
  go_wp2_with fail
  refine g1.mono ?_
  rintro e w2 ⟨s1, rfl, A1, b2, l2⟩
  have g2 := newSt_any pc ⟨p0, p1⟩ w2
  clear g1
  go_wp2_with fail
  refine g2.mono ?_
  rintro e w3 ⟨s2, rfl, A2, b3, l3⟩
  have hb3 : Below w.heap.size w w3 := (hb1.trans (b2.mono hb1.size)).trans (b3.mono (Nat.le_trans hb1.size b2.size))
  have g3 := newBus_all (XH.out.stays hb3) (by omega)
  clear g2
  go_wp2_with fail
  refine g3.mono ?_
  rintro e w4 ⟨bb1, rb1, bp1, bw1, bh1, rfl, NB1, b4, lb1⟩
  have hb4 : Below w.heap.size w w4 := hb3.trans (b4.mono hb3.size)
  have g4 := newBus_all (XH.out.stays hb4) (by omega)
  clear g3
  go_wp2_with fail
  refine g4.mono ?_
  rintro e w5 ⟨bb2, rb2, bp2, bw2, bh2, rfl, NB2, b5, lb2⟩
  clear g4
  have z1 := hb1.size
  have z2 := b2.size
  have z3 := b3.size
  have z4 := b4.size
  have z5 := b5.size
  have M1 : Hid (Mach w w5 w4.heap.size s1 bb1 rb1 bp1 bw1 bh1 64 (St.new pc) ⟨mw xs, [], 0, []⟩ (.slice none 0 0) (.slice none 0 0)) := (mach_new ⟨p0, p1⟩ hb3 (A1.stays b3) (by omega) NB1 b4 lb1).stays b5
  have M2 : Hid (Mach w w5 w5.heap.size s2 bb2 rb2 bp2 bw2 bh2 64 (St.new pc) ⟨mw xs, [], 0, []⟩ (.slice none 0 0) (.slice none 0 0)) := mach_new ⟨p0, p1⟩ hb4 (A2.stays b4) (by omega) NB2 b5 lb2
  have k1 := A1.lt
  have k2 := A2.lt
  have k3 := NB1.is.lb
  have k4 := NB1.R.lt
  have k5 := NB2.is.lb
  have k6 := NB2.R.lt
  -- the blocks of the one, and of the other
  have ap12 : ∀ x, (x = s1 ∨ x = bb1 ∨ x = rb1 ∨ x = bp1 ∨ x = bw1 ∨ x = bh1) → x < w5.heap.size ∧ x ≠ s2 ∧ x ≠ bb2 ∧ x ≠ rb2 ∧ x ≠ bp2 ∧ x ≠ bw2 ∧ x ≠ bh2 := by
    intro x hx; omega
  have lw : ∀ x, (x = s1 ∨ x = bb1 ∨ x = bp1 ∨ x = bh1 ∨ x = s2 ∨ x = bb2 ∨ x = bp2 ∨ x = bh2) → w.heap.size ≤ x := by intro x hx; omega
  have lt2 : s2 < w5.heap.size ∧ bb2 < w5.heap.size ∧ rb2 < w5.heap.size ∧ bp2 < w5.heap.size ∧ bw2 < w5.heap.size ∧ bh2 < w5.heap.size := by omega
  have lw5 : w.heap.size ≤ w5.heap.size := by omega
  clear A1 A2 NB1 NB2 b2 b3 b4 b5 hb1 hb3 hb4 lb1 lb2 l2 l3 z1 z2 z3 z4 k1 k2 k3 k4 k5 k6 XH hcap hlen
  generalize w4.heap.size = base1 at *
  -- three runs
  have r1 := run_any ps pa pf pk pn EH.out TH.out M1.out A (by omega) (by simp) (by simp) (by omega) (by show (0:Int) ≤ 0; omega) (by show (0:Int) ≤ _; omega)
  go_wp2_with fail
  refine r1.mono ?_
  rintro e w6 ⟨rfl, ⟨⟨N1, vo1, vt1, n1, Ma, Ka, mo1, mt1⟩, o1, t1, c1⟩⟩
  have q1 : ∀ k, vo1.ownBlock = some k → w5.heap.size ≤ k := fun k hk => (mo1 k hk).resolve_left (by simp [Value.ownBlock])
  have q2 : ∀ k, vt1.ownBlock = some k → w5.heap.size ≤ k := fun k hk => (mt1 k hk).resolve_left (by simp [Value.ownBlock])
  have M2a : Hid (Mach w w6 w5.heap.size s2 bb2 rb2 bp2 bw2 bh2 64 (St.new pc) ⟨mw xs, [], 0, []⟩ (.slice none 0 0) (.slice none 0 0)) := by
    refine M2.out.kept Ka (fun h => ?_) (fun k hk h => ?_) (fun k hk h => ?_)
    · rcases h with h | h | h | h | h | h <;> first | (have := ap12 s2 (by simp [h]); omega) | (simp [Value.ownBlock] at h)
    · have hk2 : k = bb2 ∨ k = rb2 ∨ k = bp2 ∨ k = bw2 ∨ k = bh2 := by rcases hk with h | h | h | h | h | h | h <;> first | (simp [h]; done) | (simp [Value.ownBlock] at h)
      rcases h with h | h | h | h | h | h <;> first | (have := ap12 k (by simp [h]); omega) | (simp [Value.ownBlock] at h)
    · rcases h with h | h | h | h | h | h <;> first | (have := lw k (by simp [h]); omega) | (simp [Value.ownBlock] at h)
  clear r1 M1 M2 mo1 mt1
  have r2 := run_any ps pa pf pk pn EH.out TH.out Ma D (by omega) (by simp at o1; omega) (by simp at t1; omega) (by omega) (by rw [c1]; show (0:Int) ≤ 0 + _; omega) (by rw [c1]; show (0:Int) + _ ≤ _; omega)
  have Ka6 := Ka.size
  go_wp2_with fail
  refine r2.mono ?_
  rintro e w7 ⟨rfl, ⟨⟨N2, vo2, vt2, n2, Mb, Kb, mo2, mt2⟩, o2, t2, c2⟩⟩
  have q3 : ∀ k, vo2.ownBlock = some k → w5.heap.size ≤ k := fun k hk => (mo2 k hk).elim (q1 k) (fun h => by omega)
  have q4 : ∀ k, vt2.ownBlock = some k → w5.heap.size ≤ k := fun k hk => (mt2 k hk).elim (q2 k) (fun h => by omega)
  have M2b : Hid (Mach w w7 w5.heap.size s2 bb2 rb2 bp2 bw2 bh2 64 (St.new pc) ⟨mw xs, [], 0, []⟩ (.slice none 0 0) (.slice none 0 0)) := by
    refine M2a.out.kept Kb (fun h => ?_) (fun k hk h => ?_) (fun k hk h => ?_)
    · rcases h with h | h | h | h | h | h <;> first | (have := ap12 s2 (by simp [h]); omega) | (have := q1 _ h; omega) | (have := q2 _ h; omega)
    · have hk2 : k = bb2 ∨ k = rb2 ∨ k = bp2 ∨ k = bw2 ∨ k = bh2 := by rcases hk with h | h | h | h | h | h | h <;> first | (simp [h]; done) | (simp [Value.ownBlock] at h)
      rcases h with h | h | h | h | h | h <;> first | (have := ap12 k (by simp [h]); omega) | (have := q1 _ h; omega) | (have := q2 _ h; omega)
    · rcases h with h | h | h | h | h | h <;> first | (have := lw k (by simp [h]); omega) | (have := q1 _ h; omega) | (have := q2 _ h; omega)
  clear r2 Ma Ka Kb M2a mo2 mt2 q1 q2
  have Mb' : Hid (Mach w w7 base1 s1 bb1 rb1 bp1 bw1 bh1 N2 (runP (A + D) (St.new pc) ⟨mw xs, [], 0, []⟩).1 (runP (A + D) (St.new pc) ⟨mw xs, [], 0, []⟩).2 vo2 vt2) := by rw [runP_add]; exact Mb
  have r3 := run_any ps pa pf pk pn EH.out TH.out M2b.out (A + D) (by omega) (by simp) (by simp) (by omega) (by show (0:Int) ≤ 0; omega) (by show (0:Int) ≤ _; omega)
  rw [Int.natCast_add] at r3
  clear Mb o1 t1 c1 o2 t2 c2
  go_wp2_with fail
  refine r3.mono ?_
  rintro e w8 ⟨rfl, ⟨⟨N3, vo3, vt3, n3, Mc, Kc, mo3, mt3⟩, o3, t3, c3⟩⟩
  have Md : Hid (Mach w w8 base1 s1 bb1 rb1 bp1 bw1 bh1 N2 (runP (A + D) (St.new pc) ⟨mw xs, [], 0, []⟩).1 (runP (A + D) (St.new pc) ⟨mw xs, [], 0, []⟩).2 vo2 vt2) := by
    refine Mb'.out.kept Kc (fun h => ?_) (fun k hk h => ?_) (fun k hk h => ?_)
    · have := ap12 s1 (by simp)
      rcases h with h | h | h | h | h | h <;> first | omega | (simp [Value.ownBlock] at h)
    · have h2 : k = s2 ∨ k = bb2 ∨ k = bp2 ∨ k = bh2 := by rcases h with h | h | h | h | h | h <;> first | (simp [h]; done) | (simp [Value.ownBlock] at h)
      rcases hk with hk | hk | hk | hk | hk | hk | hk <;> first | (have := ap12 k (by simp [hk]); omega) | (have := q3 _ hk; omega) | (have := q4 _ hk; omega)
    · rcases h with h | h | h | h | h | h <;> first | (have := lw k (by simp [h]); omega) | (simp [Value.ownBlock] at h)
  have r4 := run_none Mc
  clear r3 Mb' M2b Kc mo3 mt3 q3 q4
  go_wp2_with fail
  refine r4.mono ?_
  rintro e w9 ⟨rfl, hw9⟩
  rw [hw9]
  clear hw9 r4 w9
  have be := Md.out.be
  have hr0 := runP_r0 (St.new pc) ⟨mw xs, [], 0, []⟩ (A + D)
  have hr0' : (runP (A + D) (St.new pc) ⟨mw xs, [], 0, []⟩).1.r 0 = 0 := hr0
  have c3' : (runP (A + D) (St.new pc) ⟨mw xs, [], 0, []⟩).1.ct = (A : Int) + D := by rw [c3]; show (0:Int) + _ = _; omega
  have t3' : (runP (A + D) (St.new pc) ⟨mw xs, [], 0, []⟩).2.tr.length ≤ 1000 := by simp at t3; omega
  have S1 : Hid (Sn w8 s1 bb1 rb1 bp1 bw1 bh1 N2 (runP (A + D) (St.new pc) ⟨mw xs, [], 0, []⟩).1 (runP (A + D) (St.new pc) ⟨mw xs, [], 0, []⟩).2 vo2 vt2) := ⟨Md.out.a, _, _, Md.out.B.seen⟩
  have S2 : Hid (Sn w8 s2 bb2 rb2 bp2 bw2 bh2 N3 (runP (A + D) (St.new pc) ⟨mw xs, [], 0, []⟩).1 (runP (A + D) (St.new pc) ⟨mw xs, [], 0, []⟩).2 vo3 vt3) := ⟨Mc.a, _, _, Mc.B.seen⟩
  clear Md Mc o3 t3 c3 hr0
  generalize (runP (A + D) (St.new pc) ⟨mw xs, [], 0, []⟩).1 = R at *
  generalize (runP (A + D) (St.new pc) ⟨mw xs, [], 0, []⟩).2 = B at *
  have hl1 := fun W => fun h : Below w8.heap.size w8 W => load_st (S1.out.stays h).a
  have hl2 := fun W => fun h : Below w8.heap.size w8 W => load_st (S2.out.stays h).a
  have hl3 : ∀ W, Below w8.heap.size w8 W → W.cell? ⟨s1, 42, none⟩ = some (.int .i64 ((A : Int) + D)) := fun W h => by rw [← c3']; exact (S1.out.stays h).a.told.2.2.2.2.2.2.2.2.2.2
  have hl4 : ∀ W, Below w8.heap.size w8 W → W.cell? ⟨s1, 0, none⟩ = some (.int .u32 0) := fun W h => by rw [← hr0']; exact (S1.out.stays h).a.reg (by omega)
  have heq := fun W => eq_st R W
  have hAD : IntKind.i64.wrap ((A : Int) + D) = (A : Int) + D := by unfold IntKind.wrap; simp [IntKind.signed, IntKind.bits]; omega
  generalize stA R = SA at *
  have b0 : Below w8.heap.size w8 w8.drew := below_drew (Below.refl _ _)
  clear c3' hr0'
  go_upto_region 12 with fail
  refine wp_region_phase 50 [(0, 0), (1, 0), (2, 1), (3, 0), (4, 0), (5, 1), (6, 0), (7, 0), (8, 0), (9, 0), (10, 0), (11, 1), (12, 0), (13, 0), (14, 0), (15, 0), (16, 0), (17, 0), (18, 0), (19, 0), (20, 0), (21, 0), (22, 1), (23, 0), (24, 0), (25, 0), (26, 0), (28, 0), (27, 2), (29, 2), (30, 0), (31, 0), (32, 0), (33, 0), (35, 0), (34, 2), (36, 2), (37, 2), (38, 0), (39, 0), (40, 0), (43, 0), (41, 2), (42, 2), (44, 2), (45, 2), (46, 2), (47, 0), (48, 0), (49, 0)] (fun W => Below w8.heap.size w8 W) (by kernel_rfl) (by kernel_rfl) (fun _ _ _ d _ h => by cases d <;> exact h) b0 ?_
  repeat (first | (refine wpPlanZ_free (by rfl) (by rfl) (fun W => by (go_simp; try with_reducible rfl)) (fun K hK => ?_); go_simp; refine hK _ ?_; clear hK K) | (refine wpPlanZ_quiet (by rfl) (by rfl) (fun W hW => by (have h3 := hl3 W hW; have h4 := hl4 W hW; go_simp; try with_reducible rfl)) (fun K hK => ?_); go_simp; refine hK _ ?_; clear hK K))
  refine wpPlanZ_quiet (v := .agg SA) (by rfl) (by rfl) (fun W hW => by exact exec_load (by rfl) (by rfl) W (hl1 W hW)) (fun K hK => ?_)
  go_simp
  refine hK _ ?_
  clear hK K
  repeat (first | (refine wpPlanZ_free (by rfl) (by rfl) (fun W => by (go_simp; try with_reducible rfl)) (fun K hK => ?_); go_simp; refine hK _ ?_; clear hK K) | (refine wpPlanZ_quiet (by rfl) (by rfl) (fun W hW => by (have h3 := hl3 W hW; have h4 := hl4 W hW; go_simp; try with_reducible rfl)) (fun K hK => ?_); go_simp; refine hK _ ?_; clear hK K))
  refine wpPlanZ_quiet (v := .agg SA) (by rfl) (by rfl) (fun W hW => by exact exec_load (by rfl) (by rfl) W (hl2 W hW)) (fun K hK => ?_)
  go_simp
  refine hK _ ?_
  clear hK K
  repeat (first | (refine wpPlanZ_free (by rfl) (by rfl) (fun W => by (go_simp; try with_reducible rfl)) (fun K hK => ?_); go_simp; refine hK _ ?_; clear hK K) | (refine wpPlanZ_quiet (by rfl) (by rfl) (fun W hW => by (have h3 := hl3 W hW; have h4 := hl4 W hW; go_simp; try with_reducible rfl)) (fun K hK => ?_); go_simp; refine hK _ ?_; clear hK K))
  refine wpPlanZ_serial (by rfl) (by rfl) (fun K hK => ?_)
  go_simp
  obtain ⟨x1, y1, B1⟩ := S1.out.B
  obtain ⟨x2, y2, B2⟩ := S2.out.B
  refine (seenOut_any (B1.stays b0)).mono ?_
  rintro e wx ⟨rfl, hwx⟩
  rw [hwx]
  clear hwx wx
  refine hK _ _ (fun _ => b0) ?_
  clear hK K
  repeat (first | (refine wpPlanZ_free (by rfl) (by rfl) (fun W => by (go_simp; try with_reducible rfl)) (fun K hK => ?_); go_simp; refine hK _ ?_; clear hK K) | (refine wpPlanZ_quiet (by rfl) (by rfl) (fun W hW => by (have h3 := hl3 W hW; have h4 := hl4 W hW; go_simp; try with_reducible rfl)) (fun K hK => ?_); go_simp; refine hK _ ?_; clear hK K))
  refine wpPlanZ_serial (by rfl) (by rfl) (fun K hK => ?_)
  go_simp
  refine (seenOut_any (B2.stays b0)).mono ?_
  rintro e wx ⟨rfl, hwx⟩
  rw [hwx]
  clear hwx wx
  refine hK _ _ (fun _ => b0) ?_
  clear hK K
  repeat (first | (refine wpPlanZ_free (by rfl) (by rfl) (fun W => by (go_simp; try with_reducible rfl)) (fun K hK => ?_); go_simp; refine hK _ ?_; clear hK K) | (refine wpPlanZ_quiet (by rfl) (by rfl) (fun W hW => by (have h3 := hl3 W hW; have h4 := hl4 W hW; go_simp; try with_reducible rfl)) (fun K hK => ?_); go_simp; refine hK _ ?_; clear hK K))
  refine wpPlanZ_serial (by rfl) (by rfl) (fun K hK => ?_)
  go_simp
  refine (seenTrace_any (B1.stays b0) t3').mono ?_
  rintro e wa ⟨ao1, cap1, rfl, O1, ba⟩
  have b1 : Below w8.heap.size w8 wa := b0.trans (ba.mono b0.size)
  refine hK _ _ (fun _ => b1) ?_
  clear hK K
  repeat (first | (refine wpPlanZ_free (by rfl) (by rfl) (fun W => by (go_simp; try with_reducible rfl)) (fun K hK => ?_); go_simp; refine hK _ ?_; clear hK K) | (refine wpPlanZ_quiet (by rfl) (by rfl) (fun W hW => by (have h3 := hl3 W hW; have h4 := hl4 W hW; go_simp; try with_reducible rfl)) (fun K hK => ?_); go_simp; refine hK _ ?_; clear hK K))
  refine wpPlanZ_serial (by rfl) (by rfl) (fun K hK => ?_)
  go_simp
  refine (seenTrace_any (B2.stays b1) t3').mono ?_
  rintro e wb ⟨ao2, cap2, rfl, O2, bb⟩
  have b2 : Below w8.heap.size w8 wb := b1.trans (bb.mono b1.size)
  have O1' := owns_blocks O1 (fun k e => bb.block k (O1.lt k e).2)
  refine hK _ _ (fun _ => b2) ?_
  clear hK K
  repeat (first | (refine wpPlanZ_free (by rfl) (by rfl) (fun W => by (go_simp; try with_reducible rfl)) (fun K hK => ?_); go_simp; refine hK _ ?_; clear hK K) | (refine wpPlanZ_quiet (by rfl) (by rfl) (fun W hW => by (have h3 := hl3 W hW; have h4 := hl4 W hW; go_simp; try with_reducible rfl)) (fun K hK => ?_); go_simp; refine hK _ ?_; clear hK K))
  refine wpPlanZ_serial (by rfl) (by rfl) (fun K hK => ?_)
  go_simp
  refine (sameTrace_any O1' O2 t3').mono ?_
  rintro e wc ⟨rfl, n4, rfl⟩
  have b3 : Below w8.heap.size w8 (wb.drewN n4) := below_drewN b2 _
  refine hK _ _ (fun _ => b3) ?_
  clear hK K
  repeat (first | (refine wpPlanZ_free (by rfl) (by rfl) (fun W => by (go_simp; try with_reducible rfl)) (fun K hK => ?_); go_simp; refine hK _ ?_; clear hK K) | (refine wpPlanZ_quiet (by rfl) (by rfl) (fun W hW => by (have h3 := hl3 W hW; have h4 := hl4 W hW; go_simp; try with_reducible rfl)) (fun K hK => ?_); go_simp; refine hK _ ?_; clear hK K))
  refine wpPlanZ_serial (by rfl) (by rfl) (fun K hK => ?_)
  go_simp
  refine (seenRam_any (B1.stays b3)).mono ?_
  rintro e wx ⟨rfl, hwx⟩
  rw [hwx]
  clear hwx wx
  refine hK _ _ (fun _ => b3) ?_
  clear hK K
  repeat (first | (refine wpPlanZ_free (by rfl) (by rfl) (fun W => by (go_simp; try with_reducible rfl)) (fun K hK => ?_); go_simp; refine hK _ ?_; clear hK K) | (refine wpPlanZ_quiet (by rfl) (by rfl) (fun W hW => by (have h3 := hl3 W hW; have h4 := hl4 W hW; go_simp; try with_reducible rfl)) (fun K hK => ?_); go_simp; refine hK _ ?_; clear hK K))
  refine wpPlanZ_serial (by rfl) (by rfl) (fun K hK => ?_)
  go_simp
  refine (words_at (B1.stays b3).R).mono ?_
  rintro e wd ⟨g1, rfl, W1, bd, _⟩
  have b4 : Below w8.heap.size w8 wd := b3.trans (bd.mono b3.size)
  refine hK _ _ (fun _ => b4) ?_
  clear hK K
  repeat (first | (refine wpPlanZ_free (by rfl) (by rfl) (fun W => by (go_simp; try with_reducible rfl)) (fun K hK => ?_); go_simp; refine hK _ ?_; clear hK K) | (refine wpPlanZ_quiet (by rfl) (by rfl) (fun W hW => by (have h3 := hl3 W hW; have h4 := hl4 W hW; go_simp; try with_reducible rfl)) (fun K hK => ?_); go_simp; refine hK _ ?_; clear hK K))
  refine wpPlanZ_serial (by rfl) (by rfl) (fun K hK => ?_)
  go_simp
  refine (seenRam_any (B2.stays b4)).mono ?_
  rintro e wx ⟨rfl, hwx⟩
  rw [hwx]
  clear hwx wx
  refine hK _ _ (fun _ => b4) ?_
  clear hK K
  repeat (first | (refine wpPlanZ_free (by rfl) (by rfl) (fun W => by (go_simp; try with_reducible rfl)) (fun K hK => ?_); go_simp; refine hK _ ?_; clear hK K) | (refine wpPlanZ_quiet (by rfl) (by rfl) (fun W hW => by (have h3 := hl3 W hW; have h4 := hl4 W hW; go_simp; try with_reducible rfl)) (fun K hK => ?_); go_simp; refine hK _ ?_; clear hK K))
  refine wpPlanZ_serial (by rfl) (by rfl) (fun K hK => ?_)
  go_simp
  refine (words_at (B2.stays b4).R).mono ?_
  rintro e we ⟨g2, rfl, W2, be2, _⟩
  have b5 : Below w8.heap.size w8 we := b4.trans (be2.mono b4.size)
  refine hK _ _ (fun _ => b5) ?_
  clear hK K
  repeat (first | (refine wpPlanZ_free (by rfl) (by rfl) (fun W => by (go_simp; try with_reducible rfl)) (fun K hK => ?_); go_simp; refine hK _ ?_; clear hK K) | (refine wpPlanZ_quiet (by rfl) (by rfl) (fun W hW => by (have h3 := hl3 W hW; have h4 := hl4 W hW; go_simp; try with_reducible rfl)) (fun K hK => ?_); go_simp; refine hK _ ?_; clear hK K))
  refine wpPlanZ_serial (by rfl) (by rfl) (fun K hK => ?_)
  go_simp
  refine (alike_at (W1.stays be2) W2).mono ?_
  rintro e wf ⟨rfl, n5, rfl⟩
  have b6 : Below w8.heap.size w8 (we.drewN n5) := below_drewN b5 _
  refine hK _ _ (fun _ => b6) ?_
  clear hK K
  repeat (first | (refine wpPlanZ_free (by rfl) (by rfl) (fun W => by (go_simp; try with_reducible rfl)) (fun K hK => ?_); go_simp; refine hK _ ?_; clear hK K) | (refine wpPlanZ_quiet (by rfl) (by rfl) (fun W hW => by (have h3 := hl3 W hW; have h4 := hl4 W hW; go_simp; try with_reducible rfl)) (fun K hK => ?_); go_simp; refine hK _ ?_; clear hK K))
  refine wpPlanZ_nil ?_
  go_wp2
  go_ret
  exact ⟨rfl, be.trans (b6.mono be.size)⟩
end Go.Proofs.YtckcbnfobjmhpaaDoor
