/-
  CpuOne: any instruction in any state.
-/
import Derived.Test.YtflagpkmebdckaaGreatDoorQCSs
namespace Go.Proofs.YtflagpkmebdckaaGreatDoor
open Go.RowKit Go.Maps
open Num
set_option linter.unusedVariables false
/-- memory behind a store of a word, if it can be -/
def mS (m : Nat → Int) (a v : Int) : Nat → Int := if chk a 4 = 0 then upd m a 4 v else m
section
variable {w : World} {base bb rb bp bw bh N : Nat} {b : Bs} {vo vt : Value}
/-- a store into a bus's memory -/
theorem ramS_any (ps pa pf : Addr) (E : Er ps pa pf w) (B : BusIs w base bb rb bp bw bh N b.m F0 F0 b.out b.lamp b.tr vo vt) (a v : Int) (a0 : 0 ≤ a) (a1 : a < 4294967296) (v0 : 0 ≤ v) (v1 : v < 4294967296) (hN : N + 1 < maxLen) :
    Calls Tryz.prog 11 #[.pointer (some ⟨rb, 0, none⟩), .int .u32 a, .int .i64 4, .int .u32 v] w fun e w' => (∃ x, e = .returned x) ∧ ∃ N', N' ≤ N + 2 ∧ BusIs w' base bb rb bp bw bh N' (mS b.m a v) F0 F0 b.out b.lamp b.tr vo vt ∧ Kept w w' (fun k => k = bp ∨ k = bh) := by
  by_cases hc : chk a 4 = 0
  · have so := store_ok B.R a 4 v a0 a1 v0 v1 hN hc
    rw [F0_hit] at so
    refine so.mono ?_
    rintro e w' ⟨rfl, R, T⟩
    have e : mS b.m a v = upd b.m a 4 v := by unfold mS; rw [if_pos hc]
    rw [e]
    exact ⟨⟨_, rfl⟩, N + 2, Nat.le_refl _, B.own R T, ⟨T.os, T.tape, T.output, T.size, fun k hk hx => T.block k hk (fun h => hx (Or.inl h)) (fun h => hx (Or.inr h))⟩⟩
  · refine (store_no ps pa pf E _ a 4 v a0 a1 (by omega) (by omega) hc).mono ?_
    rintro e w' ⟨rfl, rfl⟩
    have e : mS b.m a v = b.m := by unfold mS; rw [if_neg hc]
    rw [e]
    exact ⟨⟨_, rfl⟩, N, by omega, B, Kept.refl _ _⟩
end
section
variable {w : World} {base db rb gb kb hb : Nat} {b : Bs} {vt : Value}
/-- .. and into the document's -/
theorem ramD_any (B : DBus w base db rb gb kb hb b F0 F0 vt) (a v : Int) (a0 : 0 ≤ a) (a1 : a < 4294967296) (v0 : 0 ≤ v) (v1 : v < 4294967296) :
    Calls Tryz.prog 12 #[.pointer (some ⟨rb, 0, none⟩), .int .u32 a, .int .i64 4, .int .u32 v] w fun e w' => (∃ x, e = .returned (.int .i64 x)) ∧ DBus w' base db rb gb kb hb { b with m := mS b.m a v } F0 F0 vt ∧ Kept w w' (fun k => k = gb ∨ k = hb) := by
  by_cases hc : chk a 4 = 0
  · have eh : hitN F0 F0 a = F0 := by funext p; simp [hitN, F0]
    have so := dstoreH_ok B.D a 4 v a0 a1 v0 v1 hc
    rw [eh] at so
    refine so.mono ?_
    rintro e w' ⟨rfl, R, T⟩
    have e : mS b.m a v = upd b.m a 4 v := by unfold mS; rw [if_pos hc]
    rw [e]
    exact ⟨⟨_, rfl⟩, B.own R T, T⟩
  · refine (dstore_no w _ a 4 v a0 a1 (by omega) (by omega) hc).mono ?_
    rintro e w' ⟨rfl, rfl⟩
    have e : mS b.m a v = b.m := by unfold mS; rw [if_neg hc]
    rw [e]
    exact ⟨⟨_, rfl⟩, B, Kept.refl _ _⟩
end
section
variable {w0 w w1 : World} {base sb bb rb bp bw bh N : Nat} {S S' : St} {b b' : Bs} {vo vt : Value} {base' sb' db rb' gb kb hb : Nat} {vt' : Value} {m' : Nat → Int} {N1 : Nat}
theorem Twn.memP (t : Twn w0 w base sb bb rb bp bw bh N S b vo vt base' sb' db rb' gb kb hb S' b' vt') (B : BusIs w1 base bb rb bp bw bh N1 m' F0 F0 b.out b.lamp b.tr vo vt) (K : Kept w w1 (fun k => k = bp ∨ k = bh)) : Twn w0 w1 base sb bb rb bp bw bh N1 S { b with m := m' } vo vt base' sb' db rb' gb kb hb S' b' vt' := by
  have hX : ∀ k, (k = bp ∨ k = bh) → PB sb bb rb bp bw bh vo vt k := fun k h => by unfold PB; rcases h with h | h <;> simp [h]
  have hL : ∀ k, k < w0.heap.size → ¬ (k = bp ∨ k = bh) := fun k hk h => by have := t.M.l2; have := t.M.l3; omega
  refine ⟨⟨t.M.a.kept K (fun h => ?_), t.M.ok, B, t.M.lamp, t.M.lt, t.M.s1, t.M.s2, t.M.s3, t.M.s4, t.M.s5, K.below t.M.be (Nat.le_refl _) hL, t.M.l0, t.M.l1, t.M.l2, t.M.l3⟩, t.D.kept K (fun h => t.ap _ (hX _ h) (Or.inl rfl)) (fun k hk h => t.ap _ (hX _ h) (Or.inr hk)) hL, t.ap⟩
  rcases h with h | h
  · exact t.M.s3 h
  · exact t.M.s5 h
theorem Twn.memD (t : Twn w0 w base sb bb rb bp bw bh N S b vo vt base' sb' db rb' gb kb hb S' b' vt') (B : DBus w1 base' db rb' gb kb hb { b' with m := m' } F0 F0 vt') (K : Kept w w1 (fun k => k = gb ∨ k = hb)) : Twn w0 w1 base sb bb rb bp bw bh N S b vo vt base' sb' db rb' gb kb hb S' { b' with m := m' } vt' := by
  have hX : ∀ k, (k = gb ∨ k = hb) → QB sb' db rb' gb kb hb vt' k := fun k h => by unfold QB; rcases h with h | h <;> simp [h]
  have hL : ∀ k, k < w0.heap.size → ¬ (k = gb ∨ k = hb) := fun k hk h => by have := t.D.l2; have := t.D.l3; omega
  refine ⟨t.M.kept K (fun h => t.ap _ (Or.inl rfl) (hX _ h)) (fun k hk h => t.ap _ (Or.inr hk) (hX _ h)) hL, ⟨t.D.a.kept K (fun h => ?_), t.D.ok, t.D.r0, B, t.D.lamp, t.D.ap, K.below t.D.be (Nat.le_refl _) hL, t.D.l0, t.D.l1, t.D.l2, t.D.l3⟩, t.ap⟩
  rcases h with h | h
  · exact t.D.ap.s3 h
  · exact t.D.ap.s5 h
end
theorem words_none (w : World) : WordsIn w (.slice none 0 0) [] := ⟨⟨none, 0, rfl, Nat.le_refl _, fun h => absurd h (by simp)⟩, mw_wf [] (by simp)⟩
set_option maxRecDepth 100000 in
set_option maxHeartbeats 16000000 in
theorem one_any (ps pa pf pk pn : Addr) {w : World} (E : Er ps pa pf w) (T : K.Tb pk pn w) (S : St) (ok : 0 ≤ S.ct → S.ct ≤ 1099511627776 → S.ok) (h0 : -9223372036854775808 ≤ S.ct) (h1 : S.ct ≤ 9223372036854775807) (wv : Int) (wv0 : 0 ≤ wv) (wv1 : wv < 4294967296) (th : Int) (th0 : 0 ≤ th) (th1 : th < 4294967296) (v : Int) (v0 : 0 ≤ v) (v1 : v < 4294967296) :
    Calls Tryz.prog 3 #[.agg (stA S), .int .u32 wv, .int .u32 th, .int .u32 v] w fun e w' => e = .returned (.bool true) ∧ Below w.heap.size w w' := by
  have A0 := st_allocX S w
  have hal := al_below w (.cells (stA S) 25)
  have hst := stepped_any ps pa pf pk pn (E.stays hal) (T.stays hal (Nat.le_refl _))
  have EH : Hid (Er ps pa pf w) := E
  have TH : Hid (K.Tb pk pn w) := T
  have hsb : w.heap.size < (w.alloc (.cells (stA S) 25)).heap.size := by simp
  clear E T
  generalize hSA : stA S = SA at *
  clear hSA
  go_enter Tryz.func3, Tryz.ntmps3
  go_wp2_with fail
  generalize w.alloc (.cells SA 25) = wz at *
  refine hst.mono ?_
  rintro e w1 ⟨rfl, b1⟩
  clear hst
  have A1 := A0.stays b1
  have hb1 : Below w.heap.size w w1 := hal.trans (b1.mono hal.size)
  have q42 := A1.told.2.2.2.2.2.2.2.2.2.2
  by_cases t1 : S.ct < 0
  · go_wp2
    go_ret
    exact ⟨rfl, hb1⟩
  by_cases t2 : 1099511627776 < S.ct
  · go_wp2
    go_ret
    exact ⟨rfl, hb1⟩
  have u1 : 0 ≤ S.ct := by omega
  have u2 : S.ct ≤ 1099511627776 := by omega
  have oS := putR0_ok (ok u1 u2)
  clear ok
  have q0 := A1.reg (i := 0) (by omega)
  have f0 := A1.fz 0
  have A2 : StAt (w1.setCell ⟨w.heap.size, 0, none⟩ (.int .u32 0)) w.heap.size (S.putR 0 0) := A1.putR 0 (by omega) 0
  have K2 : Kept w1 (w1.setCell ⟨w.heap.size, 0, none⟩ (.int .u32 0)) (· = w.heap.size) := (Kept.refl w1 _).put 0 _
  have r0 : (S.putR 0 0).r 0 = 0 := rfl
  have ec : (S.putR 0 0).ct = S.ct := rfl
  go_upto_region 5 with fail
  generalize w1.setCell ⟨w.heap.size, 0, none⟩ (.int .u32 0) = w2 at *
  have hb2 : Below w.heap.size w w2 := K2.below hb1 (Nat.le_refl _) (fun k hk e => by omega)
  rw [← ec] at u1 u2
  clear q0 q42 f0 A1 A0 K2 b1 hb1 hal hsb t1 t2 h0 h1 ec
  generalize S.putR 0 0 = S0 at *
  have l2 := load_st A2
  go_upto_region 6 with (first | (refine wpList_loadT 25 _ (by rfl) w.heap.size _ (by rfl) (by rfl) l2 ?_) | (refine wpList_allocSt rfl rfl ?_) | (refine wpList_storeSt rfl _ _ rfl (stA zS) (stA S0) rfl rfl (stA_size _) (stA_size _) (stA_one _) ?_))
  have c3 := al_below w2 (.cells (stA S0) 25)
  have X3 := st_allocX S0 w2
  have A3 := A2.stays c3
  have hb3 : Below w.heap.size w (w2.alloc (.cells (stA S0) 25)) := hb2.trans (c3.mono hb2.size)
  have q3 : w.heap.size < w2.heap.size := A2.lt
  clear A2 l2 hb2 c3
  generalize w2.alloc (.cells (stA S0) 25) = w3 at *
  generalize w2.heap.size = sx at *
  have l3 := load_st A3
  go_upto_region 7 with (first | (refine wpList_loadT 25 _ (by rfl) w.heap.size _ (by rfl) (by rfl) l3 ?_) | (refine wpList_allocSt rfl rfl ?_) | (refine wpList_storeSt rfl _ _ rfl (stA zS) (stA S0) rfl rfl (stA_size _) (stA_size _) (stA_one _) ?_))
  have c4 := al_below w3 (.cells (stA S0) 25)
  have Y4 := st_allocX S0 w3
  have X4 := X3.stays c4
  have A4 := A3.stays c4
  have hb4 : Below w.heap.size w (w3.alloc (.cells (stA S0) 25)) := hb3.trans (c4.mono hb3.size)
  have q4 : sx < w3.heap.size := X3.lt
  clear A3 X3 l3 hb3 c4
  generalize w3.alloc (.cells (stA S0) 25) = w4 at *
  generalize w3.heap.size = sy at *
  have q5 : sy < w4.heap.size := Y4.lt
  go_wp2_with fail
  refine (newBus_all (words_none w4) (by simp)).mono ?_
  rintro e w5 ⟨bb, rb, bp, bw, bh, rfl, NB, b5, lb⟩
  have A5 := A4.stays b5
  have X5 := X4.stays b5
  have Y5 := Y4.stays b5
  have hb5 : Below w.heap.size w w5 := hb4.trans (b5.mono hb4.size)
  have z5 := b5.size
  have B5 : BusIs w5 w5.heap.size bb rb bp bw bh 64 (mw []) F0 F0 [] 0 [] (.slice none 0 0) (.slice none 0 0) := NB.is
  have bl5 : bb < w5.heap.size ∧ rb < w5.heap.size ∧ bp < w5.heap.size ∧ bw < w5.heap.size ∧ bh < w5.heap.size := by have := B5.lb; have := B5.ls; have := B5.lp; have := B5.lw; have := B5.lh; have := B5.bs; omega
  have z0 := hb4.size
  have M5 : Hid (Mach w w5 w5.heap.size sx bb rb bp bw bh 64 S0 ⟨mw [], [], 0, []⟩ (.slice none 0 0) (.slice none 0 0)) :=
    ⟨X5, oS, B5, ⟨by show (0:Int) ≤ 0; omega, by show (0:Int) < _; omega⟩, by omega, by omega, by omega, by omega, by omega, by omega, hb5, by omega, by omega, by omega, by omega⟩
  clear NB B5 X5 X4 A4 Y4
  go_wp2_with fail
  refine (newDBus_any (words_none w5) (by simp)).mono ?_
  rintro e w6 ⟨db, rb', gb, kb, hb, rfl, D6, b6, k1, k2, k3, k4, k5⟩
  have A6 := A5.stays b6
  have Y6 := Y5.stays b6
  have hb6 : Below w.heap.size w w6 := hb5.trans (b6.mono hb5.size)
  have M6 := M5.out.stays b6
  have z6 := b6.size
  have TW : Hid (Twn w w6 w5.heap.size sx bb rb bp bw bh 64 S0 ⟨mw [], [], 0, []⟩ (.slice none 0 0) (.slice none 0 0) w6.heap.size sy db rb' gb kb hb S0 ⟨mw [], [], 0, []⟩ (.slice none 0 0)) := by
    refine ⟨M6, ⟨Y6, oS, r0, D6, ⟨by show (0:Int) ≤ 0; omega, by show (0:Int) < _; omega⟩, ⟨by omega, by omega, by omega, by omega, by omega, by omega⟩, hb6, by omega, by omega, by omega, by omega⟩, fun k hk hq => ?_⟩
    rcases hk with h | h | h | h | h | h | h | h
    · rcases hq with g | g | g | g | g | g | g
      all_goals first | omega | (simp [Value.ownBlock] at g)
    · rcases hq with g | g | g | g | g | g | g
      all_goals first | omega | (simp [Value.ownBlock] at g)
    · rcases hq with g | g | g | g | g | g | g
      all_goals first | omega | (simp [Value.ownBlock] at g)
    · rcases hq with g | g | g | g | g | g | g
      all_goals first | omega | (simp [Value.ownBlock] at g)
    · rcases hq with g | g | g | g | g | g | g
      all_goals first | omega | (simp [Value.ownBlock] at g)
    · rcases hq with g | g | g | g | g | g | g
      all_goals first | omega | (simp [Value.ownBlock] at g)
    · simp [Value.ownBlock] at h
    · simp [Value.ownBlock] at h
  have nA : ¬ (w.heap.size = bp ∨ w.heap.size = bh) := by omega
  have nD : ¬ (w.heap.size = gb ∨ w.heap.size = hb) := by omega
  clear M5 M6 D6 A5 Y5 Y6 hb5 b5 b6 hb4 hb6 lb bl5 k1 k2 k3 k4 k5 z5 z6 z0 q3 q4 q5
  generalize w5.heap.size = ba at *
  generalize w6.heap.size = bd at *
  generalize mw [] = m0 at *
  have ra := ramOf_any TW.out.M.B
  have so := ramS_any ps pa pf (EH.out.stays TW.out.M.be) TW.out.M.B th v th0 th1 v0 v1 (by unfold maxLen; omega)
  go_wp2_with fail
  refine ra.mono ?_
  rintro e wx ⟨rfl, hwx⟩
  rw [hwx]
  clear hwx wx ra
  go_wp2_with fail
  refine so.mono ?_
  rintro e w7 ⟨⟨x7, rfl⟩, N7, hN7, B7, K7⟩
  have T7 : Hid (Twn w w7 ba sx bb rb bp bw bh N7 S0 ⟨mS m0 th v, [], 0, []⟩ (.slice none 0 0) (.slice none 0 0) bd sy db rb' gb kb hb S0 ⟨m0, [], 0, []⟩ (.slice none 0 0)) := TW.out.memP B7 K7
  have A7 := A6.kept K7 nA
  clear so TW A6 B7 K7
  have so2 := ramD_any T7.out.D.B th v th0 th1 v0 v1
  have c7 := T7.out.D.B.c0
  go_wp2_with fail
  refine so2.mono ?_
  rintro e w8 ⟨⟨x8, rfl⟩, B8, K8⟩
  have T8 : Hid (Twn w w8 ba sx bb rb bp bw bh N7 S0 ⟨mS m0 th v, [], 0, []⟩ (.slice none 0 0) (.slice none 0 0) bd sy db rb' gb kb hb S0 ⟨mS m0 th v, [], 0, []⟩ (.slice none 0 0)) := T7.out.memD B8 K8
  have A8 := A7.kept K8 nD
  clear so2 T7 A7 B8 K8 c7
  generalize mS m0 th v = m1 at *
  have q34 := A8.told.2.2.1
  have pc := oS.pc
  have ra := ramOf_any (T8.out.M.B.stays (below_drew (Below.refl _ _)))
  have so := ramS_any ps pa pf (EH.out.stays (T8.out.stays (below_drew (Below.refl _ _))).M.be) (T8.out.M.B.stays (below_drew (Below.refl _ _))) S0.pc wv pc.1 pc.2 wv0 wv1 (by unfold maxLen; omega)
  go_upto_region 13 with fail
  refine wp_region_phase 6 [(0, 0), (2, 0), (3, 1), (4, 0), (1, 2), (5, 2)] (fun W => W.cell? ⟨w.heap.size, 34, none⟩ = some (.int .u32 S0.pc)) (by kernel_rfl) (by kernel_rfl) (fun _ _ _ d _ h => by cases d <;> exact h) q34 ?_
  repeat (first | (refine wpPlanZ_free (by rfl) (by rfl) (fun W => by (go_simp; try with_reducible rfl)) (fun K hK => ?_); go_simp; refine hK _ ?_; clear hK K) | (refine wpPlanZ_quiet (by rfl) (by rfl) (fun W hW => by (have q34 := hW; go_simp; try with_reducible rfl)) (fun K hK => ?_); go_simp; refine hK _ ?_; clear hK K))
  refine wpPlanZ_serial (by rfl) (by rfl) (fun K hK => ?_)
  go_simp
  refine ra.mono ?_
  rintro e_ w_ ⟨rfl, rfl⟩
  refine hK _ _ (fun _ => q34) ?_
  clear hK K
  refine wpPlanZ_serial (by rfl) (by rfl) (fun K hK => ?_)
  go_simp
  refine so.mono ?_
  rintro e_ w9 ⟨⟨x9, rfl⟩, N9, hN9, B9, K9⟩
  refine hK _ _ (fun h => ?_) ?_
  · exact (StAt.kept A8.drew K9 nA).told.2.2.1
  clear hK K
  refine wpPlanZ_nil ?_
  have T9 : Hid (Twn w w9 ba sx bb rb bp bw bh N9 S0 ⟨mS m1 S0.pc wv, [], 0, []⟩ (.slice none 0 0) (.slice none 0 0) bd sy db rb' gb kb hb S0 ⟨m1, [], 0, []⟩ (.slice none 0 0)) := (T8.out.stays (below_drew (Below.refl _ _))).memP B9 K9
  have A9 := StAt.kept A8.drew K9 nA
  clear ra so T8 A8 B9 K9 q34
  have q34 := A9.told.2.2.1
  have c9 := T9.out.D.B.c0
  have so := ramD_any (T9.out.stays (below_drew (Below.refl _ _))).D.B S0.pc wv pc.1 pc.2 wv0 wv1
  go_upto_region 14 with fail
  refine wp_region_phase 8 [(0, 0), (1, 0), (2, 0), (3, 1), (4, 0), (5, 1), (6, 0), (7, 2)] (fun W => W.cell? ⟨w.heap.size, 34, none⟩ = some (.int .u32 S0.pc) ∧ W.cell? ⟨db, 0, none⟩ = some (.pointer (some ⟨rb', 0, none⟩))) (by kernel_rfl) (by kernel_rfl) (fun _ _ _ d _ h => by cases d <;> exact h) ⟨q34, c9⟩ ?_
  repeat (first | (refine wpPlanZ_free (by rfl) (by rfl) (fun W => by (go_simp; try with_reducible rfl)) (fun K hK => ?_); go_simp; refine hK _ ?_; clear hK K) | (refine wpPlanZ_quiet (by rfl) (by rfl) (fun W hW => by (obtain ⟨q34, c9⟩ := hW; go_simp; try with_reducible rfl)) (fun K hK => ?_); go_simp; refine hK _ ?_; clear hK K))
  refine wpPlanZ_serial (by rfl) (by rfl) (fun K hK => ?_)
  go_simp
  refine so.mono ?_
  rintro e_ w10 ⟨⟨x10, rfl⟩, B10, K10⟩
  have T10 : Hid (Twn w w10 ba sx bb rb bp bw bh N9 S0 ⟨mS m1 S0.pc wv, [], 0, []⟩ (.slice none 0 0) (.slice none 0 0) bd sy db rb' gb kb hb S0 ⟨mS m1 S0.pc wv, [], 0, []⟩ (.slice none 0 0)) := (T9.out.stays (below_drew (Below.refl _ _))).memD B10 K10
  refine hK _ _ (fun h => ⟨(StAt.kept A9.drew K10 nD).told.2.2.1, T10.out.D.B.c0⟩) ?_
  clear hK K
  refine wpPlanZ_nil ?_
  clear so T9 A9 B10 K10 q34 c9 pc nA nD
  generalize mS m1 S0.pc wv = m2 at *
  have hs1 := step_any ps pa pf pk pn EH.out TH.out T10.out.M (by simp) (by simp) (by unfold maxLen; omega) (by omega)
  have hs2 := fun (W : World) (X : DMch w W bd sy db rb' gb kb hb S0 ⟨m2, [], 0, []⟩ (.slice none 0 0)) => stepD_any X (by simp) (by simp) (by omega)
  have e2 := stepP_out T10.out.M.ok ⟨m2, [], 0, []⟩
  generalize stepP S0 ⟨m2, [], 0, []⟩ = x at *
  obtain ⟨x1, x2, x3⟩ := x
  simp only at hs1 hs2 e2
  have htr : x3.tr.length ≤ 1 := e2.2
  clear e2
  have hx : (x1 == x1) = true := by simp
  go_wp2_with fail
  refine hs1.mono ?_
  rintro e w11 ⟨rfl, N11, vo11, vt11, hN11, M11, K11, mo, mt⟩
  have T11 : Hid (Twn w w11 ba sx bb rb bp bw bh N11 x2 x3 vo11 vt11 bd sy db rb' gb kb hb S0 ⟨m2, [], 0, []⟩ (.slice none 0 0)) := T10.out.first M11 K11 mo mt
  have hs3 := hs2 w11 T11.out.D
  clear hs1 hs2 M11 K11 mo mt T10
  go_wp2_with fail
  refine hs3.mono ?_
  rintro e w12 ⟨rfl, vd12, D12, K12, md⟩
  have T12 : Hid (Twn w w12 ba sx bb rb bp bw bh N11 x2 x3 vo11 vt11 bd sy db rb' gb kb hb x2 x3 vd12) := T11.out.second D12 K12 md
  have lx := load_st T12.out.M.a
  have ly := load_st T12.out.D.a
  have ha := asBus_any T12.out.M.B.seen T12.out.D.B (by omega)
  have hbr := T12.out.M.be
  clear hs3 D12 K12 md T11
  go_wp2_with (first | (refine wpList_loadT 25 _ (by rfl) sx _ (by rfl) (by rfl) lx ?_) | (refine wpList_loadT 25 _ (by rfl) sy _ (by rfl) (by rfl) ly ?_) | (refine wpList_execW (.bool true) (by rfl) (exec_eq rfl rfl rfl _ (eq_st x2 _)) ?_) | (go_at_call 15; refine ha.mono ?_; rintro e w13 ⟨rfl, b13⟩))
  go_ret
  exact ⟨rfl, hbr.trans (b13.mono hbr.size)⟩
end Go.Proofs.YtflagpkmebdckaaGreatDoor
