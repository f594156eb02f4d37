/-
  An instruction, fetched and done.
-/
import Derived.Test.YtckcbnfobjmhpaaDoorKKDecode
import Derived.Test.YtckcbnfobjmhpaaDoorQKIns
import Derived.Test.YtckcbnfobjmhpaaDoorQCpuI
import Derived.Test.YtckcbnfobjmhpaaDoorQBranch
import Derived.Test.YtckcbnfobjmhpaaDoorQTrap
import Derived.Test.YtckcbnfobjmhpaaDoorQSum
import Derived.Test.YtckcbnfobjmhpaaDoorQMem
namespace Go.Proofs.YtckcbnfobjmhpaaDoor
open Go.RowKit Go.Maps
open Num
set_option linter.unusedVariables false
section
variable {w : World} {pb sb bb : Nat} {S : St} {k s t d : Nat} {m : Int} {base rb bp bw bh N : Nat} {b : Bs} {vo vt : Value}
theorem decK_of {v : Int} (v0 : 0 ≤ v) (v1 : v < 4294967296) {k : Nat} (h : K.DecP v k) : k = decK v := by
  unfold decK
  cases hf : (List.range 54).find? (fun k => decide (1 ≤ k ∧ Tab.xw k v = v)) with
  | none =>
    rcases h with ⟨h1, h2, h3⟩ | ⟨h1, _⟩
    · have := List.find?_eq_none.1 hf k (List.mem_range.2 h2)
      simp [h1, h3] at this
    · exact h1
  | some j =>
    have hj := List.find?_some hf
    have hm := List.mem_range.1 (List.mem_of_find?_eq_some hf)
    simp only [decide_eq_true_eq] at hj
    rcases h with ⟨h1, h2, h3⟩ | ⟨h1, h2⟩
    · exact Tab.xw_one k j h2 h1 hm hj.1 v v0 v1 h3 hj.2
    · exact absurd hj.2 (h2 j hj.1 hm)
theorem ins_nat {v : Int} (v0 : 0 ≤ v) (v1 : v < 4294967296) {k : Nat} {s t d m : Int} (h : K.IsIns v k s t d m) : k = decK v ∧ k < 54 ∧ s = (Tab.xs (Tab.sh k) v).toNat ∧ t = (Tab.xt (Tab.sh k) v).toNat ∧ d = (Tab.xd (Tab.sh k) v).toNat ∧ m = Tab.xm (Tab.sh k) v ∧ (Tab.xs (Tab.sh k) v).toNat < 32 ∧ (Tab.xt (Tab.sh k) v).toNat < 32 ∧ (Tab.xd (Tab.sh k) v).toNat < 32 ∧ 0 ≤ m ∧ m < 4294967296 := by
  obtain ⟨hd, rfl, rfl, rfl, rfl⟩ := h
  have hk := K.dec_lt hd
  obtain ⟨h1, h2, h3, h4⟩ := K.x_rng (Tab.sh k) v v0 v1
  exact ⟨decK_of v0 v1 hd, hk, by omega, by omega, by omega, rfl, by omega, by omega, by omega, by omega, by omega⟩
/-- what is turned while an instruction is done -/
def XD (pb sb bb bp bh : Nat) (vo vt : Value) (k : Nat) : Prop := k = pb ∨ XM sb bb bp bh vo vt k
theorem PAt.ins {k0 s0 t0 d0 : Nat} {m0 : Int} (h : PAt w pb sb bb k0 s0 t0 d0 m0) (k s t d : Nat) (m : Int) : PAt (((((w.setCell ⟨pb, 1, none⟩ (.int .i64 k)).setCell ⟨pb, 2, none⟩ (.int .i64 s)).setCell ⟨pb, 3, none⟩ (.int .i64 t)).setCell ⟨pb, 4, none⟩ (.int .i64 d)).setCell ⟨pb, 5, none⟩ (.int .u32 m)) pb sb bb k s t d m := by
  have o : ∀ (W : World) (i j : Nat) (x : Value), i ≠ j → (W.setCell ⟨pb, j, none⟩ x).cell? ⟨pb, i, none⟩ = W.cell? ⟨pb, i, none⟩ := fun W i j x hij => World.cell?_setCell_other _ _ _ _ (by intro e; injection e with e1 e2; exact hij e2.symm)
  refine ⟨?_, ?_, ?_, ?_, ?_, ?_, ?_⟩
  · rw [o _ 0 5 _ (by omega), o _ 0 4 _ (by omega), o _ 0 3 _ (by omega), o _ 0 2 _ (by omega), o _ 0 1 _ (by omega)]; exact h.p0
  · rw [o _ 1 5 _ (by omega), o _ 1 4 _ (by omega), o _ 1 3 _ (by omega), o _ 1 2 _ (by omega)]; exact World.cell?_setCell_same _ _ _ h.p1
  · rw [o _ 2 5 _ (by omega), o _ 2 4 _ (by omega), o _ 2 3 _ (by omega)]; exact World.cell?_setCell_same _ _ _ ((o _ 2 1 _ (by omega)).trans h.p2)
  · rw [o _ 3 5 _ (by omega), o _ 3 4 _ (by omega)]; exact World.cell?_setCell_same _ _ _ ((o _ 3 2 _ (by omega)).trans ((o _ 3 1 _ (by omega)).trans h.p3))
  · rw [o _ 4 5 _ (by omega)]; exact World.cell?_setCell_same _ _ _ ((o _ 4 3 _ (by omega)).trans ((o _ 4 2 _ (by omega)).trans ((o _ 4 1 _ (by omega)).trans h.p4)))
  · exact World.cell?_setCell_same _ _ _ ((o _ 5 4 _ (by omega)).trans ((o _ 5 3 _ (by omega)).trans ((o _ 5 2 _ (by omega)).trans ((o _ 5 1 _ (by omega)).trans h.p5))))
  · rw [o _ 6 5 _ (by omega), o _ 6 4 _ (by omega), o _ 6 3 _ (by omega), o _ 6 2 _ (by omega), o _ 6 1 _ (by omega)]; exact h.p6
theorem BusIs.keptX {w' : World} {X : Nat → Prop} (B : BusIs w base bb rb bp bw bh N b.m F0 F0 b.out b.lamp b.tr vo vt) (h : Kept w w' X) (hx : ∀ k, (k = bb ∨ k = rb ∨ k = bp ∨ k = bw ∨ k = bh ∨ vo.ownBlock = some k ∨ vt.ownBlock = some k) → ¬ X k) : BusIs w' base bb rb bp bw bh N b.m F0 F0 b.out b.lamp b.tr vo vt :=
  B.blocks h.size fun k hk => h.block k (B.lt hk) (hx k hk)
theorem branchP_ok (o : S.ok) (k s t d : Nat) (m : Int) : (branchP S k s t d m).2.ok := by
  unfold branchP
  split
  · exact o
  · have h1 : St.ok (if k = 30 then S.set 31 (Num.lo (S.pc + 8)) else if k = 8 then S.set d (Num.lo (S.pc + 8)) else S) := by
      split
      · exact St.set_ok o _ (lo_bd _)
      split
      · exact St.set_ok o _ (lo_bd _)
      · exact o
    have h2 : u32 (if takenI S k s t = true then targI S k s m else Num.lo (S.nx + 4)) := by
      split
      · exact targI_bd o _ _ _
      · exact lo_bd _
    exact St.ok_ct h1 o.nx h2
theorem fromP_ok (o : S.ok) (t d : Nat) : (fromP S t d).2.ok := by
  unfold fromP
  split
  · exact St.on_ok (St.set_ok o _ o.bd)
  split
  · exact St.on_ok (St.set_ok o _ (lo_bd _))
  split
  · exact St.on_ok (St.set_ok o _ o.cm)
  split
  · exact St.on_ok (St.set_ok o _ o.st)
  split
  · exact St.on_ok (St.set_ok o _ o.ca)
  split
  · exact St.on_ok (St.set_ok o _ o.ep)
  · exact o
theorem toP_ok (o : S.ok) (t d : Nat) : (toP S t d).2.ok := by
  unfold toP
  split
  · exact St.on_ok (St.ok_cm o (o.r t))
  split
  · exact St.on_ok (St.ok_st o (and_bd (o.r t) ⟨by omega, by omega⟩))
  split
  · exact St.on_ok (St.ok_ep o (o.r t))
  · exact o
theorem backP_ok (o : S.ok) : (backP S).2.ok := by
  unfold backP
  split
  · exact o
  · exact St.ok_st (St.jump_ok o o.ep) (andNot_bd o.st ⟨by omega, by omega⟩)
theorem trapP_ok (o : S.ok) (k t d : Nat) : (trapP S k t d).2.ok := by
  unfold trapP
  split
  · exact o
  split
  · exact o
  split
  · exact fromP_ok o t d
  split
  · exact toP_ok o t d
  split
  · exact backP_ok o
  · exact o
theorem sumP_ok (o : S.ok) (k s t d : Nat) {m : Int} (m0 : 0 ≤ m) (m1 : m < 4294967296) : (sumP S k s t d m).2.ok := by
  have ha := opA_bd o k s t
  have hb := opB_bd o k s t m0 m1
  unfold sumP
  split
  · exact St.on_ok (St.ok_hl o (hi_bd _) (lo_bd _))
  split
  · dsimp only
    split
    · exact St.on_ok o
    · exact St.on_ok (St.ok_hl o (rst_bd _ _ _) (quo_bd _ _ _))
  split
  · exact St.on_ok (St.ok_hl o ha o.lo)
  split
  · exact St.on_ok (St.ok_hl o o.hi ha)
  split
  · exact o
  · exact St.on_ok (St.set_ok o _ (resI_bd o k ha hb))
theorem kind_branch : ∀ k, k < 54 → Tab.kind k = [98, 114, 97, 110, 99, 104] → (k = 31 ∨ k = 32 ∨ k = 33 ∨ k = 34 ∨ k = 29 ∨ k = 30 ∨ k = 7 ∨ k = 8) := by decide
theorem kind_load : ∀ k, k < 54 → Tab.kind k = [108, 111, 97, 100] → 46 ≤ k ∧ k ≤ 53 := by decide
theorem kind_store : ∀ k, k < 54 → Tab.kind k = [115, 116, 111, 114, 101] → 46 ≤ k ∧ k ≤ 53 := by decide
theorem kind_sum : ∀ k, k < 54 → Tab.kind k = [115, 117, 109] → (1 ≤ k ∧ k ≤ 6) ∨ (11 ≤ k ∧ k ≤ 28) ∨ (35 ≤ k ∧ k ≤ 42) := by decide
theorem Cp.mem {w' : World} {S' : St} (c : Cp w pb sb bb S k s t d m) (h : Kept w w' (XM sb bb bp bh vo vt)) (ap : Ap pb sb base bb rb bp bw bh vo vt) (A : StAt w' sb S') (ok : S'.ok) : Cp w' pb sb bb S' k s t d m :=
  ⟨c.p.block (h.block _ c.p.lt (fun hx => hx.elim c.ne ap.pe)), A, ok, c.ne, c.hs, c.ht, c.hd, c.m0, c.m1⟩
/-- what a step leaves of a bus: more of what it had, none of it another's -/
structure Bd (w w' : World) (base pb sb bb rb bp bw bh N : Nat) (b' : Bs) (vo vt : Value) (S' : St) : Prop where
  h : ∃ (k s t d : Nat) (m : Int) (N' : Nat) (vo' vt' : Value), N' ≤ N + 2 ∧ Cp w' pb sb bb S' k s t d m ∧ BusIs w' base bb rb bp bw bh N' b'.m F0 F0 b'.out b'.lamp b'.tr vo' vt' ∧ Kept w w' (XD pb sb bb bp bh vo vt) ∧ Moved w vo vo' ∧ Moved w vt vt'
theorem intM_1 (S : St) : intM S 1 = intB S := by
  unfold intM intB
  have e : decide (S.cm ≤ S.ct + 1 - 1) = decide (S.cm ≤ S.ct) := by rw [show S.ct + 1 - 1 = S.ct by omega]
  rw [e]
theorem int_any {k s t d : Nat} {m : Int} (c : Cp w pb sb bb S k s t d m) : Calls Tryd.prog 57 #[.pointer (some ⟨sb, 0, none⟩), .int .i64 1] w fun e w' => e = .returned (.bool (intB S)) ∧ ∃ n, w' = w.drewN n := by
  have h := interrupts_any c.a c.ok 1 (by omega) (by omega) (by have := c.ok.c1; omega)
  rw [intM_1] at h
  exact h.mono fun e w' ⟨he, hw⟩ => ⟨he, 0, hw⟩
set_option maxHeartbeats 8000000 in
theorem do_int (ps pa pf pk pn : Addr) (E : Er ps pa pf w) (T : K.Tb pk pn w) (c : Cp w pb sb bb S 0 0 0 0 0) (B : BusIs w base bb rb bp bw bh N b.m F0 F0 b.out b.lamp b.tr vo vt) (ap : Ap pb sb base bb rb bp bw bh vo vt) (hpb : ∀ k, (k = bb ∨ k = rb ∨ k = bp ∨ k = bw ∨ k = bh ∨ vo.ownBlock = some k ∨ vt.ownBlock = some k) → ¬ k = pb) (hlamp : u32 b.lamp) (hn0 : b.out.length ≤ 1000) (hn : b.tr.length ≤ 1000) (hN : N + 1 < maxLen) (hlo : 7 ≤ pb) (hfz : ∀ j, w.frozen? ⟨pb, j, none⟩ = false) (hint : intB S = true) :
    Calls Tryd.prog 43 #[.pointer (some ⟨pb, 0, none⟩)] w fun e w' => e = .returned (.int .i64 (doC S b).1) ∧ Bd w w' base pb sb bb rb bp bw bh N (doC S b).2.2 vo vt (doC S b).2.1 := by
  have X : doC S b = (0, S, b) := by unfold doC; rw [if_pos hint]
  rw [X]
  have hi := int_any c
  have p0i := c.p.p0
  rw [hint] at hi
  have CH : Hid (Cp w pb sb bb S 0 0 0 0 0) := c
  clear c T E
  go_enter Tryd.func43, Tryd.ntmps43
  go_wp2_with fail
  refine hi.mono ?_
  rintro e wx ⟨rfl, n1, rfl⟩
  go_wp2
  go_ret
  have hb := below_drewN (Below.refl w.heap.size w) n1
  exact ⟨rfl, ⟨_, _, _, _, _, N, vo, vt, by omega, CH.out.drewN n1, B.stays hb, Kept.of_below _ hb, Moved.refl _ _, Moved.refl _ _⟩⟩
set_option maxHeartbeats 8000000 in
theorem do_far (ps pa pf pk pn : Addr) (E : Er ps pa pf w) (T : K.Tb pk pn w) (c : Cp w pb sb bb S 0 0 0 0 0) (B : BusIs w base bb rb bp bw bh N b.m F0 F0 b.out b.lamp b.tr vo vt) (ap : Ap pb sb base bb rb bp bw bh vo vt) (hpb : ∀ k, (k = bb ∨ k = rb ∨ k = bp ∨ k = bw ∨ k = bh ∨ vo.ownBlock = some k ∨ vt.ownBlock = some k) → ¬ k = pb) (hlamp : u32 b.lamp) (hn0 : b.out.length ≤ 1000) (hn : b.tr.length ≤ 1000) (hN : N + 1 < maxLen) (hlo : 7 ≤ pb) (hfz : ∀ j, w.frozen? ⟨pb, j, none⟩ = false) (hint : intB S = false) (hc : chk S.pc 4 ≠ 0) :
    Calls Tryd.prog 43 #[.pointer (some ⟨pb, 0, none⟩)] w fun e w' => e = .returned (.int .i64 (doC S b).1) ∧ Bd w w' base pb sb bb rb bp bw bh N (doC S b).2.2 vo vt (doC S b).2.1 := by
  have X : doC S b = (4, { S with bd := S.pc }, b) := by unfold doC; rw [if_neg (by simp [hint]), if_pos hc]
  rw [X]
  have CH : Hid (Cp w pb sb bb S 0 0 0 0 0) := c
  have BH : Hid (BusIs w base bb rb bp bw bh N b.m F0 F0 b.out b.lamp b.tr vo vt) := B
  have hi := int_any c
  have p0i := c.p.p0
  rw [hint] at hi
  have hbe : ∀ n, Below w.heap.size w (w.drewN n) := fun n => below_drewN (Below.refl _ _) _
  have hr := fun n => ramOf_any (BH.out.stays (hbe n))
  have hl := fun n => load_no ps pa pf (E.stays (hbe n)) (.pointer (some ⟨rb, 0, none⟩)) S.pc 4 false c.ok.pc.1 c.ok.pc.2 (by omega) (by omega) hc
  generalize erA ps pa pf (chk S.pc 4) = er_ at *
  clear c B T X
  go_enter Tryd.func43, Tryd.ntmps43
  go_wp2_with fail
  refine hi.mono ?_
  rintro e wx ⟨rfl, n1, rfl⟩
  clear hi
  have CN := CH.out.drewN n1
  have p0 := CN.p.p0
  have p6 := CN.p.p6
  have q34 := CN.a.told.2.2.1
  go_upto_region 3 with fail
  refine wp_region_phase 18 [(0, 0), (1, 0), (2, 0), (3, 1), (5, 0), (6, 0), (7, 0), (8, 1), (9, 0), (10, 0), (11, 1), (4, 2), (12, 2), (13, 0), (14, 0), (15, 0), (16, 0), (17, 0)] (fun W => W.cell? ⟨pb, 0, none⟩ = some (.pointer (some ⟨sb, 0, none⟩)) ∧ W.cell? ⟨pb, 6, none⟩ = some (.pointer (some ⟨bb, 0, none⟩)) ∧ W.cell? ⟨sb, 34, none⟩ = some (.int .u32 S.pc)) (by kernel_rfl) (by kernel_rfl) (fun _ _ _ d _ h => by cases d <;> exact h) ⟨p0, p6, q34⟩ ?_
  repeat (first | (refine wpPlanZ_free (by rfl) (by rfl) (fun W => by (go_simp; try with_reducible rfl)) (fun K hK => ?_); go_simp; refine hK _ ?_; clear hK K) | (refine wpPlanZ_quiet (by rfl) (by rfl) (fun W hW => by (obtain ⟨p0, p6, q34⟩ := hW; go_simp; try with_reducible rfl)) (fun K hK => ?_); go_simp; refine hK _ ?_; clear hK K))
  refine wpPlanZ_serial (by rfl) (by rfl) (fun K hK => ?_)
  go_simp
  refine (hr (n1 + 1)).mono ?_
  rintro e wx ⟨rfl, rfl⟩
  refine hK _ _ (fun _ => ⟨p0, p6, q34⟩) ?_
  clear hK K
  refine wpPlanZ_serial (by rfl) (by rfl) (fun K hK => ?_)
  go_simp
  refine (hl (n1 + 1)).mono ?_
  rintro e wx ⟨rfl, rfl⟩
  refine hK _ _ (fun _ => ⟨p0, p6, q34⟩) ?_
  clear hK K
  repeat (first | (refine wpPlanZ_free (by rfl) (by rfl) (fun W => by (go_simp; try with_reducible rfl)) (fun K hK => ?_); go_simp; refine hK _ ?_; clear hK K) | (refine wpPlanZ_quiet (by rfl) (by rfl) (fun W hW => by (obtain ⟨p0, p6, q34⟩ := hW; go_simp; try with_reducible rfl)) (fun K hK => ?_); go_simp; refine hK _ ?_; clear hK K))
  refine wpPlanZ_nil ?_
  have CM : Cp (w.drewN (n1 + 1)) pb sb bb S 0 0 0 0 0 := CH.out.drewN _
  have hb1 : Below w.heap.size w (w.drewN (n1 + 1)) := hbe _
  have BM : Hid (BusIs (w.drewN (n1 + 1)) base bb rb bp bw bh N b.m F0 F0 b.out b.lamp b.tr vo vt) := BH.out.stays hb1
  clear p0 p6 q34 CN hr hl hbe
  generalize w.drewN (n1 + 1) = w1 at *
  have p0 := CM.p.p0
  have q34 := CM.a.told.2.2.1
  have hbd := bad_any CM 4 S.pc
  go_wp2_with fail
  refine hbd.mono ?_
  rintro e w3 ⟨rfl, A3, T3⟩
  go_wp2
  go_ret
  exact ⟨rfl, ⟨_, _, _, _, _, N, vo, vt, by omega, CM.turn T3 A3 (St.ok_bd CM.ok CM.ok.pc), BM.out.st T3 ap.lt ap.s1 ap.s2 ap.s3 ap.s4 ap.s5, (Kept.of_below _ hb1).trans T3 (fun k _ h => Or.inr (Or.inl h)), Moved.refl _ _, Moved.refl _ _⟩⟩
set_option maxHeartbeats 16000000 in
theorem do_ins (ps pa pf pk pn : Addr) (E : Er ps pa pf w) (T : K.Tb pk pn w) (c : Cp w pb sb bb S 0 0 0 0 0) (B : BusIs w base bb rb bp bw bh N b.m F0 F0 b.out b.lamp b.tr vo vt) (ap : Ap pb sb base bb rb bp bw bh vo vt) (hpb : ∀ k, (k = bb ∨ k = rb ∨ k = bp ∨ k = bw ∨ k = bh ∨ vo.ownBlock = some k ∨ vt.ownBlock = some k) → ¬ k = pb) (hlamp : u32 b.lamp) (hn0 : b.out.length ≤ 1000) (hn : b.tr.length ≤ 1000) (hN : N + 1 < maxLen) (hlo : 7 ≤ pb) (hfz : ∀ j, w.frozen? ⟨pb, j, none⟩ = false) (hint : intB S = false) (hc : chk S.pc 4 = 0) :
    Calls Tryd.prog 43 #[.pointer (some ⟨pb, 0, none⟩)] w fun e w' => e = .returned (.int .i64 (doC S b).1) ∧ Bd w w' base pb sb bb rb bp bw bh N (doC S b).2.2 vo vt (doC S b).2.1 := by
  have X : doC S b = insP S b (decK (ld b.m S.pc 4 false)) (Tab.xs (Tab.sh (decK (ld b.m S.pc 4 false))) (ld b.m S.pc 4 false)).toNat (Tab.xt (Tab.sh (decK (ld b.m S.pc 4 false))) (ld b.m S.pc 4 false)).toNat (Tab.xd (Tab.sh (decK (ld b.m S.pc 4 false))) (ld b.m S.pc 4 false)).toNat (Tab.xm (Tab.sh (decK (ld b.m S.pc 4 false))) (ld b.m S.pc 4 false)) := by unfold doC; rw [if_neg (by simp [hint]), if_neg (by simp [hc])]
  have CH : Hid (Cp w pb sb bb S 0 0 0 0 0) := c
  have BH : Hid (BusIs w base bb rb bp bw bh N b.m F0 F0 b.out b.lamp b.tr vo vt) := B
  have TH : Hid (K.Tb pk pn w) := T
  have EH : Hid (Er ps pa pf w) := E
  have hi := int_any c
  have p0i := c.p.p0
  rw [hint] at hi
  have hbe : ∀ n, Below w.heap.size w (w.drewN n) := fun n => below_drewN (Below.refl _ _) _
  have hr := fun n => ramOf_any (BH.out.stays (hbe n))
  have hl := fun n => load_ok (BH.out.stays (hbe n)).R S.pc 4 false c.ok.pc.1 c.ok.pc.2 hc
  have hv : u32 (ld b.m S.pc 4 false) := by
    have := BH.out.R.mb (S.pc / 4).toNat
    have h := ediv_bd (d := 2 ^ (bhd S.pc 4).toNat) this.1 (Int.pow_pos (by omega))
    exact wd_bd h.1 (by omega) _
  clear c B T E
  generalize ld b.m S.pc 4 false = v at *
  go_enter Tryd.func43, Tryd.ntmps43
  go_wp2_with fail
  refine hi.mono ?_
  rintro e wx ⟨rfl, n1, rfl⟩
  clear hi
  have CN := CH.out.drewN n1
  have p0 := CN.p.p0
  have p6 := CN.p.p6
  have q34 := CN.a.told.2.2.1
  go_upto_region 3 with fail
  refine wp_region_phase 18 [(0, 0), (1, 0), (2, 0), (3, 1), (5, 0), (6, 0), (7, 0), (8, 1), (9, 0), (10, 0), (11, 1), (4, 2), (12, 2), (13, 0), (14, 0), (15, 0), (16, 0), (17, 0)] (fun W => W.cell? ⟨pb, 0, none⟩ = some (.pointer (some ⟨sb, 0, none⟩)) ∧ W.cell? ⟨pb, 6, none⟩ = some (.pointer (some ⟨bb, 0, none⟩)) ∧ W.cell? ⟨sb, 34, none⟩ = some (.int .u32 S.pc)) (by kernel_rfl) (by kernel_rfl) (fun _ _ _ d _ h => by cases d <;> exact h) ⟨p0, p6, q34⟩ ?_
  repeat (first | (refine wpPlanZ_free (by rfl) (by rfl) (fun W => by (go_simp; try with_reducible rfl)) (fun K hK => ?_); go_simp; refine hK _ ?_; clear hK K) | (refine wpPlanZ_quiet (by rfl) (by rfl) (fun W hW => by (obtain ⟨p0, p6, q34⟩ := hW; go_simp; try with_reducible rfl)) (fun K hK => ?_); go_simp; refine hK _ ?_; clear hK K))
  refine wpPlanZ_serial (by rfl) (by rfl) (fun K hK => ?_)
  go_simp
  refine (hr (n1 + 1)).mono ?_
  rintro e wx ⟨rfl, rfl⟩
  refine hK _ _ (fun _ => ⟨p0, p6, q34⟩) ?_
  clear hK K
  refine wpPlanZ_serial (by rfl) (by rfl) (fun K hK => ?_)
  go_simp
  refine (hl (n1 + 1)).mono ?_
  rintro e wx ⟨rfl, n2, rfl⟩
  refine hK _ _ (fun _ => ⟨p0, p6, q34⟩) ?_
  clear hK K
  repeat (first | (refine wpPlanZ_free (by rfl) (by rfl) (fun W => by (go_simp; try with_reducible rfl)) (fun K hK => ?_); go_simp; refine hK _ ?_; clear hK K) | (refine wpPlanZ_quiet (by rfl) (by rfl) (fun W hW => by (obtain ⟨p0, p6, q34⟩ := hW; go_simp; try with_reducible rfl)) (fun K hK => ?_); go_simp; refine hK _ ?_; clear hK K))
  refine wpPlanZ_nil ?_
  have CM : Cp ((w.drewN (n1 + 1)).drewN n2) pb sb bb S 0 0 0 0 0 := (CH.out.drewN _).drewN _
  have hb1 : Below w.heap.size w ((w.drewN (n1 + 1)).drewN n2) := below_drewN (hbe _) _
  have TM : K.Tb pk pn ((w.drewN (n1 + 1)).drewN n2) := TH.out.stays hb1 (Nat.le_refl _)
  have FM : ∀ j, ((w.drewN (n1 + 1)).drewN n2).frozen? ⟨pb, j, none⟩ = false := hfz
  clear p0 p6 q34 CN hr hl hbe
  generalize (w.drewN (n1 + 1)).drewN n2 = w1 at *
  have p0 := CM.p.p0
  have p1 := CM.p.p1
  have hde := K.decode_ins pk pn v hv.1 hv.2 w1 TM
  go_wp2_with fail
  refine hde.mono ?_
  rintro e w2 ⟨k, si, ti, di, m, II, rfl, hb2⟩
  obtain ⟨hk, hk54, hs, ht, hd, hm, hs32, ht32, hd32, m0, m1⟩ := ins_nat hv.1 hv.2 II.out
  rw [← hk] at X
  rw [← hm] at X
  generalize (Tab.xs (Tab.sh k) v).toNat = s at *
  generalize (Tab.xt (Tab.sh k) v).toNat = t at *
  generalize (Tab.xd (Tab.sh k) v).toNat = d at *
  clear hk hm II hde
  subst hs ht hd
  have C2 := CM.kept (Kept.of_below (fun _ => False) hb2) (fun h => h) (fun h => h)
  have F2 : ∀ j, w2.frozen? ⟨pb, j, none⟩ = false := fun j => (World.frozen?_of_block (a := ⟨pb, j, none⟩) (hb2.block pb CM.p.lt)).trans (FM j)
  have hb12 : Below w.heap.size w w2 := hb1.trans (hb2.mono hb1.size)
  clear p0 p1
  have p0 := C2.p.p0
  have p1 := C2.p.p1
  have p2 := C2.p.p2
  have p3 := C2.p.p3
  have p4 := C2.p.p4
  have p5 := C2.p.p5
  have f1 := F2 1
  have f2 := F2 2
  have f3 := F2 3
  have f4 := F2 4
  have f5 := F2 5
  have P3 := C2.p.ins k s t d m
  have K3 : Kept w2 (((((w2.setCell ⟨pb, 1, none⟩ (.int .i64 k)).setCell ⟨pb, 2, none⟩ (.int .i64 s)).setCell ⟨pb, 3, none⟩ (.int .i64 t)).setCell ⟨pb, 4, none⟩ (.int .i64 d)).setCell ⟨pb, 5, none⟩ (.int .u32 m)) (· = pb) := (((((Kept.refl w2 _).put 1 _).put 2 _).put 3 _).put 4 _).put 5 _
  go_wp2_with fail
  generalize ((((w2.setCell ⟨pb, 1, none⟩ (.int .i64 k)).setCell ⟨pb, 2, none⟩ (.int .i64 s)).setCell ⟨pb, 3, none⟩ (.int .i64 t)).setCell ⟨pb, 4, none⟩ (.int .i64 d)).setCell ⟨pb, 5, none⟩ (.int .u32 m) = w3 at *
  have C3 : Cp w3 pb sb bb S k s t d m := ⟨P3, C2.a.kept K3 (Ne.symm C2.ne), C2.ok, C2.ne, hs32, ht32, hd32, m0, m1⟩
  have B3 : Hid (BusIs w3 base bb rb bp bw bh N b.m F0 F0 b.out b.lamp b.tr vo vt) := (BH.out.stays hb12).keptX K3 hpb
  have K03 : Kept w w3 (XD pb sb bb bp bh vo vt) := (Kept.of_below _ hb12).trans K3 (fun k _ h => Or.inl h)
  have E3 : Er ps pa pf w3 := by
    have E2 := EH.out.stays hb12
    have q := fun (a : Addr) (h : ¬ a.block = pb) {x : Value} (hx : w2.cell? a = some x) => K3.cell hx h
    have l1 := World.block_lt_of_cell? _ _ EH.out.s
    have l2 := World.block_lt_of_cell? _ _ EH.out.a
    have l3 := World.block_lt_of_cell? _ _ EH.out.f
    exact ⟨q _ (by have := hlo; simp only; omega) E2.s, q _ (by have := hlo; simp only; omega) E2.a, q _ (by have := hlo; simp only; omega) E2.f⟩
  clear P3 K3 p0 p1 p2 p3 p4 p5 f1 f2 f3 f4 f5 F2 C2 CM TM FM hb1 hb2 CH BH TH
  have mv : ∀ {x y : Value}, Moved w3 x y → Moved w x y := fun h k hk => (h k hk).imp id (fun h => Nat.le_trans K03.size h)
  have p1 := C3.p.p1
  rcases K.kind_lit k hk54 with hkd | hkd | hkd | hkd | hkd
  · have hX : insP S b k s t d m = ((branchP S k s t d m).1, (branchP S k s t d m).2, b) := by unfold insP; rw [if_pos hkd]
    rw [hX] at X
    refine (K.kind_nat k hk54 _ hkd w3).mono ?_
    rintro e wx ⟨rfl, rfl⟩
    have h := branch_any C3 (kind_branch k hk54 hkd)
    go_wp2_with fail
    refine h.mono ?_
    rintro e w4 ⟨rfl, A4, T4⟩
    go_wp2
    go_ret
    rw [X]
    exact ⟨rfl, ⟨_, _, _, _, _, N, vo, vt, by omega, C3.turn T4 A4 (branchP_ok C3.ok _ _ _ _ _), B3.out.st T4 ap.lt ap.s1 ap.s2 ap.s3 ap.s4 ap.s5, K03.trans T4 (fun k _ h => Or.inr (Or.inl h)), Moved.refl _ _, Moved.refl _ _⟩⟩
  · cases hbad : bad (adI S k s m) (szI k) with
    | true =>
      have hX : insP S b k s t d m = (4, { S with bd := adI S k s m }, b) := by unfold insP; rw [if_neg (by rw [hkd]; decide), if_pos hkd, if_pos hbad]
      rw [hX] at X
      refine (K.kind_nat k hk54 _ hkd w3).mono ?_
      rintro e wx ⟨rfl, rfl⟩
      have h := load_wrong ps pa pf E3 C3 B3.out ap hn (kind_load k hk54 hkd) hbad
      go_wp2_with fail
      refine h.mono ?_
      rintro e w4 ⟨rfl, vt', A4, B4, T4, M4⟩
      go_wp2
      go_ret
      rw [X]
      exact ⟨rfl, ⟨_, _, _, _, _, N, vo, vt', by omega, C3.mem T4 ap A4 (St.ok_bd C3.ok (lo_bd _)), B4, K03.trans T4 (fun k _ h => Or.inr h), Moved.refl _ _, mv M4⟩⟩
    | false =>
      have hX : insP S b k s t d m = (-1, (S.set t (b.val (adI S k s m) (szI k) (sgI k) S.ct)).on, b.got (adI S k s m) (szI k) S.ct) := by unfold insP; rw [if_neg (by rw [hkd]; decide), if_pos hkd, if_neg (by simp [hbad])]
      rw [hX] at X
      refine (K.kind_nat k hk54 _ hkd w3).mono ?_
      rintro e wx ⟨rfl, rfl⟩
      have h := load_right ps pa pf E3 C3 B3.out ap hlamp hn (kind_load k hk54 hkd) hbad
      have hvb : u32 (b.val (adI S k s m) (szI k) (sgI k) S.ct) := valI_bd B3.out.R.mb hlamp _ _ _ _
      go_wp2_with fail
      refine h.mono ?_
      rintro e w4 ⟨rfl, vt', A4, B4, T4, M4⟩
      go_wp2
      go_ret
      rw [X]
      exact ⟨rfl, ⟨_, _, _, _, _, N, vo, vt', by omega, C3.mem T4 ap A4 (St.on_ok (St.set_ok C3.ok t hvb)), B4, K03.trans T4 (fun k _ h => Or.inr h), Moved.refl _ _, mv M4⟩⟩
  · cases hbad : bad (adI S k s m) (szI k) with
    | true =>
      have hX : insP S b k s t d m = (5, { S with bd := adI S k s m }, b) := by unfold insP; rw [if_neg (by rw [hkd]; decide), if_neg (by rw [hkd]; decide), if_pos hkd, if_pos hbad]
      rw [hX] at X
      refine (K.kind_nat k hk54 _ hkd w3).mono ?_
      rintro e wx ⟨rfl, rfl⟩
      have h := store_wrong ps pa pf E3 C3 B3.out ap hn0 hn hN (kind_store k hk54 hkd) hbad
      go_wp2_with fail
      refine h.mono ?_
      rintro e w4 ⟨rfl, N', vo', vt', hN', A4, B4, T4, M3, M4⟩
      go_wp2
      go_ret
      rw [X]
      exact ⟨rfl, ⟨_, _, _, _, _, N', vo', vt', hN', C3.mem T4 ap A4 (St.ok_bd C3.ok (lo_bd _)), B4, K03.trans T4 (fun k _ h => Or.inr h), mv M3, mv M4⟩⟩
    | false =>
      have hX : insP S b k s t d m = (-1, S.on, b.put (adI S k s m) (szI k) (S.r t) S.ct) := by unfold insP; rw [if_neg (by rw [hkd]; decide), if_neg (by rw [hkd]; decide), if_pos hkd, if_neg (by simp [hbad])]
      rw [hX] at X
      refine (K.kind_nat k hk54 _ hkd w3).mono ?_
      rintro e wx ⟨rfl, rfl⟩
      have h := store_right ps pa pf E3 C3 B3.out ap hn0 hn hN (kind_store k hk54 hkd) hbad
      go_wp2_with fail
      refine h.mono ?_
      rintro e w4 ⟨rfl, N', vo', vt', hN', A4, B4, T4, M3, M4⟩
      go_wp2
      go_ret
      rw [X]
      exact ⟨rfl, ⟨_, _, _, _, _, N', vo', vt', hN', C3.mem T4 ap A4 (St.on_ok C3.ok), B4, K03.trans T4 (fun k _ h => Or.inr h), mv M3, mv M4⟩⟩
  · have hX : insP S b k s t d m = ((trapP S k t d).1, (trapP S k t d).2, b) := by unfold insP; rw [if_neg (by rw [hkd]; decide), if_neg (by rw [hkd]; decide), if_neg (by rw [hkd]; decide), if_pos hkd]
    rw [hX] at X
    refine (K.kind_nat k hk54 _ hkd w3).mono ?_
    rintro e wx ⟨rfl, rfl⟩
    have h := trap_any C3
    go_wp2_with fail
    refine h.mono ?_
    rintro e w4 ⟨rfl, A4, T4⟩
    go_wp2
    go_ret
    rw [X]
    exact ⟨rfl, ⟨_, _, _, _, _, N, vo, vt, by omega, C3.turn T4 A4 (trapP_ok C3.ok _ _ _), B3.out.st T4 ap.lt ap.s1 ap.s2 ap.s3 ap.s4 ap.s5, K03.trans T4 (fun k _ h => Or.inr (Or.inl h)), Moved.refl _ _, Moved.refl _ _⟩⟩
  · have hX : insP S b k s t d m = ((sumP S k s t d m).1, (sumP S k s t d m).2, b) := by unfold insP; rw [if_neg (by rw [hkd]; decide), if_neg (by rw [hkd]; decide), if_neg (by rw [hkd]; decide), if_neg (by rw [hkd]; decide)]
    rw [hX] at X
    refine (K.kind_nat k hk54 _ hkd w3).mono ?_
    rintro e wx ⟨rfl, rfl⟩
    have h := sum_any C3 (kind_sum k hk54 hkd)
    go_wp2_with fail
    refine h.mono ?_
    rintro e w4 ⟨rfl, A4, T4⟩
    go_wp2
    go_ret
    rw [X]
    exact ⟨rfl, ⟨_, _, _, _, _, N, vo, vt, by omega, C3.turn T4 A4 (sumP_ok C3.ok _ _ _ _ C3.m0 C3.m1), B3.out.st T4 ap.lt ap.s1 ap.s2 ap.s3 ap.s4 ap.s5, K03.trans T4 (fun k _ h => Or.inr (Or.inl h)), Moved.refl _ _, Moved.refl _ _⟩⟩
theorem doC_any (ps pa pf pk pn : Addr) (E : Er ps pa pf w) (T : K.Tb pk pn w) (c : Cp w pb sb bb S 0 0 0 0 0) (B : BusIs w base bb rb bp bw bh N b.m F0 F0 b.out b.lamp b.tr vo vt) (ap : Ap pb sb base bb rb bp bw bh vo vt) (hpb : ∀ k, (k = bb ∨ k = rb ∨ k = bp ∨ k = bw ∨ k = bh ∨ vo.ownBlock = some k ∨ vt.ownBlock = some k) → ¬ k = pb) (hlamp : u32 b.lamp) (hn0 : b.out.length ≤ 1000) (hn : b.tr.length ≤ 1000) (hN : N + 1 < maxLen) (hlo : 7 ≤ pb) (hfz : ∀ j, w.frozen? ⟨pb, j, none⟩ = false) :
    Calls Tryd.prog 43 #[.pointer (some ⟨pb, 0, none⟩)] w fun e w' => e = .returned (.int .i64 (doC S b).1) ∧ Bd w w' base pb sb bb rb bp bw bh N (doC S b).2.2 vo vt (doC S b).2.1 := by
  cases hint : intB S with
  | true => exact do_int ps pa pf pk pn E T c B ap hpb hlamp hn0 hn hN hlo hfz hint
  | false =>
    by_cases hc : chk S.pc 4 = 0
    · exact do_ins ps pa pf pk pn E T c B ap hpb hlamp hn0 hn hN hlo hfz hint hc
    · exact do_far ps pa pf pk pn E T c B ap hpb hlamp hn0 hn hN hlo hfz hint hc
end
end Go.Proofs.YtckcbnfobjmhpaaDoor
