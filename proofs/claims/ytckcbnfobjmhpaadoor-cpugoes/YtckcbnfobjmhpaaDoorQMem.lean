/-
  Loads and stores.
-/
import Derived.Test.YtckcbnfobjmhpaaDoorQCpuN
import Derived.Test.YtckcbnfobjmhpaaDoorQCpu3
namespace Go.Proofs.YtckcbnfobjmhpaaDoor
open Go.RowKit Go.Maps
open Num
set_option linter.unusedVariables false
section
variable {w : World} {pb sb bb : Nat} {S : St} {k s t d : Nat} {m : Int} {base rb bp bw bh N : Nat} {b : Bs} {vo vt : Value}
/-- what a step may turn -/
def XM (sb bb bp bh : Nat) (vo vt : Value) (k : Nat) : Prop := k = sb ∨ k = bb ∨ k = bp ∨ k = bh ∨ vo.ownBlock = some k ∨ vt.ownBlock = some k
/-- a state's block, and an instruction's, are none of a bus -/
structure Ap (pb sb base bb rb bp bw bh : Nat) (vo vt : Value) : Prop where
  lt : sb < base
  s1 : sb ≠ bb
  s2 : sb ≠ rb
  s3 : sb ≠ bp
  s4 : sb ≠ bw
  s5 : sb ≠ bh
  p1 : pb ≠ bb
  p3 : pb ≠ bp
  p5 : pb ≠ bh
  p6 : vo.ownBlock ≠ some pb
  p7 : vt.ownBlock ≠ some pb
theorem kept_bus {w w' : World} {bb bp bh : Nat} {vo vt : Value} (sb : Nat) (t : BTurned w w' bb bp bh vo vt) : Kept w w' (fun k => k = bb ∨ k = bp ∨ k = bh ∨ vo.ownBlock = some k ∨ vt.ownBlock = some k) :=
  ⟨t.os, t.tape, t.output, t.size, fun k hk hx => t.block k hk (fun h => hx (Or.inl h)) (fun h => hx (Or.inr (Or.inl h))) (fun h => hx (Or.inr (Or.inr (Or.inl h)))) (fun h => hx (Or.inr (Or.inr (Or.inr (Or.inl h))))) (fun h => hx (Or.inr (Or.inr (Or.inr (Or.inr h)))))⟩
theorem Kept.xm_bus {w w' : World} {sb bb bp bh : Nat} {vo vt : Value} (h : Kept w w' (fun k => k = bb ∨ k = bp ∨ k = bh ∨ vo.ownBlock = some k ∨ vt.ownBlock = some k)) : Kept w w' (XM sb bb bp bh vo vt) := h.mono fun k hk => Or.inr hk
theorem Kept.xm_st {w w' : World} {sb bb bp bh : Nat} {vo vt : Value} (h : Kept w w' (· = sb)) : Kept w w' (XM sb bb bp bh vo vt) := h.mono fun k hk => Or.inl hk
theorem BusIs.st {w w' : World} {sb base bb rb bp bw bh N : Nat} {m : Nat → Int} {wt ht : Int → Bool} {out : List Int} {lamp : Int} {tr : List Acc} {vo vt : Value} (B : BusIs w base bb rb bp bw bh N m wt ht out lamp tr vo vt) (h : Kept w w' (· = sb)) (lt : sb < base) (s1 : sb ≠ bb) (s2 : sb ≠ rb) (s3 : sb ≠ bp) (s4 : sb ≠ bw) (s5 : sb ≠ bh) : BusIs w' base bb rb bp bw bh N m wt ht out lamp tr vo vt :=
  B.blocks h.size fun k hk => h.block k (B.lt hk) (fun e => by
    subst e
    rcases hk with h | h | h | h | h | h | h
    · exact s1 h
    · exact s2 h
    · exact s3 h
    · exact s4 h
    · exact s5 h
    · have := (B.ro.lt _ h).1; omega
    · have := (B.rt.lt _ h).1; omega)
theorem Ap.ne (ap : Ap pb sb base bb rb bp bw bh vo vt) (B : BusIs w base bb rb bp bw bh N b.m F0 F0 b.out b.lamp b.tr vo vt) : ¬ (sb = bb ∨ sb = bp ∨ sb = bh ∨ vo.ownBlock = some sb ∨ vt.ownBlock = some sb) := by
  rintro (h | h | h | h | h)
  · exact ap.s1 h
  · exact ap.s3 h
  · exact ap.s5 h
  · have := (B.ro.lt _ h).1; have := ap.lt; omega
  · have := (B.rt.lt _ h).1; have := ap.lt; omega
theorem Ap.pe (ap : Ap pb sb base bb rb bp bw bh vo vt) : ¬ (pb = bb ∨ pb = bp ∨ pb = bh ∨ vo.ownBlock = some pb ∨ vt.ownBlock = some pb) := by
  rintro (h | h | h | h | h)
  · exact ap.p1 h
  · exact ap.p3 h
  · exact ap.p5 h
  · exact ap.p6 h
  · exact ap.p7 h
theorem St.ok_bd {S : St} (o : S.ok) {y : Int} (hy : u32 y) : St.ok { S with bd := y } := ⟨o.r, o.hi, o.lo, o.pc, o.nx, o.st, o.ca, o.ep, hy, o.cm, o.c0, o.c1⟩
theorem szI_of (k : Nat) : szI k = 1 ∨ szI k = 2 ∨ szI k = 4 := by unfold szI; (repeat' split) <;> simp
theorem valI_bd {b : Bs} (mb : ∀ i, 0 ≤ b.m i ∧ b.m i < 4294967296) (lb : u32 b.lamp) (a s : Int) (sg : Bool) (c : Int) : u32 (b.val a s sg c) := by
  unfold Bs.val
  split
  · unfold devV
    split
    · exact ⟨by omega, by omega⟩
    split
    · exact lb
    · exact ⟨by omega, by omega⟩
  split
  · unfold ld
    have := mb (a / 4).toNat
    have h := ediv_bd (d := 2 ^ (bhd a s).toNat) this.1 (Int.pow_pos (by omega))
    exact wd_bd h.1 (by omega) _
  · exact ⟨by omega, by omega⟩
set_option maxHeartbeats 8000000 in
theorem load_wrong (ps pa pf : Addr) (E : Er ps pa pf w) (c : Cp w pb sb bb S k s t d m) (B : BusIs w base bb rb bp bw bh N b.m F0 F0 b.out b.lamp b.tr vo vt) (ap : Ap pb sb base bb rb bp bw bh vo vt) (hn : b.tr.length ≤ 1000) (hk' : 46 ≤ k ∧ k ≤ 53) (hbad : bad (adI S k s m) (szI k) = true) :
    Calls Tryd.prog 62 #[.pointer (some ⟨pb, 0, none⟩)] w fun e w' => e = .returned (.int .i64 4) ∧ ∃ vt', StAt w' sb { S with bd := adI S k s m } ∧ BusIs w' base bb rb bp bw bh N b.m F0 F0 b.out b.lamp b.tr vo vt' ∧ Kept w w' (XM sb bb bp bh vo vt) ∧ Moved w vt vt' := by
  have CH : Hid (Cp w pb sb bb S k s t d m) := c
  have BH : Hid (BusIs w base bb rb bp bw bh N b.m F0 F0 b.out b.lamp b.tr vo vt) := B
  have EH : Hid (Er ps pa pf w) := E
  have ha := address_any c
  have hb := fun W => Low.bytesC_any (w := W) k hk'
  have had : u32 (adI S k s m) := lo_bd _
  have hsz := szI_of k
  clear c B E
  have hbe : ∀ W, Below w.heap.size w W → Below w.heap.size w W.drew := fun W h => below_drew h
  have ok := CH.out.ok
  have hl := fun W (h : Below w.heap.size w W) => load_all ps pa pf (EH.out.stays (hbe W h)) (BH.out.stays (hbe W h)) (adI S k s m) (szI k) S.ct (sgI k) had.1 had.2 (by omega) (by omega) ok.c0 (by have := ok.c1; omega) hn
  have er : erB ps pa pf (adI S k s m) (szI k) = .iface 192 (.pointer (some (erA ps pa pf (chk (adI S k s m) (szI k))))) := by unfold erB; rw [hbad]; rfl
  simp only [er] at hl
  have eg : b.got (adI S k s m) (szI k) S.ct = b := by
    unfold Bs.got
    rw [if_neg (fun h => by simp [bad, h] at hbad)]
  simp only [eg] at hl
  generalize b.val (adI S k s m) (szI k) (sgI k) S.ct = v at *
  generalize erA ps pa pf (chk (adI S k s m) (szI k)) = er_ at *
  generalize adI S k s m = a at *
  generalize szI k = z at *
  generalize sgI k = g at *
  go_enter Tryd.func62, Tryd.ntmps62
  go_wp2_with fail
  refine ha.mono ?_
  rintro e wy ⟨rfl, hby⟩
  have hb1 := hb wy
  have p1y := (CH.out.stays hby).p.p1
  clear ha hb
  go_wp2_with fail
  refine hb1.mono ?_
  rintro e w1 ⟨rfl, hb2⟩
  have hbw : Below w.heap.size w w1 := hby.trans (hb2.mono hby.size)
  clear p1y
  have hbe := hbe w1 hbw
  have hl := hl w1 hbw
  have CN : Cp w1 pb sb bb S k s t d m := CH.out.stays hbw
  have BN : Hid (BusIs w1.drew base bb rb bp bw bh N b.m F0 F0 b.out b.lamp b.tr vo vt) := BH.out.stays hbe
  have EN : Hid (Er ps pa pf w1.drew) := EH.out.stays hbe
  have KN : Kept w w1.drew (XM sb bb bp bh vo vt) := Kept.of_below _ hbe
  have hsize : w.heap.size ≤ w1.heap.size := hbw.size
  clear hb1 CH BH EH hbe
  clear hbw hb2 hby
  have p0 := CN.p.p0
  have p3 := CN.p.p3
  have p6 := CN.p.p6
  have q42 := CN.a.told.2.2.2.2.2.2.2.2.2.2
  have qt := CN.a.reg CN.ht
  have ht' : (t : Int) < 32 := by have := CN.ht; omega
  go_upto_region 3 with fail
  refine wp_region_phase 20 [(0, 0), (1, 0), (2, 0), (3, 1), (4, 0), (5, 0), (6, 0), (7, 0), (8, 0), (9, 0), (10, 1), (11, 0), (12, 0), (13, 1), (14, 2), (15, 0), (16, 0), (17, 0), (18, 0), (19, 0)] (fun W => W.cell? ⟨pb, 0, none⟩ = some (.pointer (some ⟨sb, 0, none⟩)) ∧ W.cell? ⟨pb, 6, none⟩ = some (.pointer (some ⟨bb, 0, none⟩)) ∧ W.cell? ⟨sb, 42, none⟩ = some (.int .i64 S.ct)) (by kernel_rfl) (by kernel_rfl) (fun _ _ _ d _ h => by cases d <;> exact h) ⟨p0, p6, q42⟩ ?_
  repeat (first | (refine wpPlanZ_free (by rfl) (by rfl) (fun W => by (go_simp; try with_reducible rfl)) (fun K hK => ?_); go_simp; refine hK _ ?_; clear hK K) | (refine wpPlanZ_quiet (by rfl) (by rfl) (fun W hW => by (obtain ⟨p0, p6, q42⟩ := hW; go_simp; try with_reducible rfl)) (fun K hK => ?_); go_simp; refine hK _ ?_; clear hK K))
  refine wpPlanZ_serial (by rfl) (by rfl) (fun K hK => ?_)
  go_simp
  refine hl.mono ?_
  rintro e w2 ⟨rfl, vt', B2, T2, M2⟩
  have K2 := kept_bus sb T2
  have C2 := CN.drew.kept K2 ap.pe (ap.ne BN.out)
  refine hK _ _ (fun _ => ⟨C2.p.p0, C2.p.p6, C2.a.told.2.2.2.2.2.2.2.2.2.2⟩) ?_
  clear hK K
  repeat (first | (refine wpPlanZ_free (by rfl) (by rfl) (fun W => by (go_simp; try with_reducible rfl)) (fun K hK => ?_); go_simp; refine hK _ ?_; clear hK K) | (refine wpPlanZ_quiet (by rfl) (by rfl) (fun W hW => by (obtain ⟨p0, p6, q42⟩ := hW; go_simp; try with_reducible rfl)) (fun K hK => ?_); go_simp; refine hK _ ?_; clear hK K))
  refine wpPlanZ_nil ?_
  have M2' : Moved w vt vt' := fun k hk => (M2 k hk).imp id (fun h => by have : w1.drew.heap.size = w1.heap.size := rfl; omega)
  have hbd := bad_any C2 4 a
  go_wp2_with fail
  refine hbd.mono ?_
  rintro e w3 ⟨rfl, A3, T3⟩
  go_wp2
  go_ret
  exact ⟨rfl, vt', A3, B2.st T3 ap.lt ap.s1 ap.s2 ap.s3 ap.s4 ap.s5, (KN.trans K2.xm_bus (fun _ _ h => h)).trans T3.xm_st (fun _ _ h => h), M2'⟩
set_option maxHeartbeats 8000000 in
theorem load_right (ps pa pf : Addr) (E : Er ps pa pf w) (c : Cp w pb sb bb S k s t d m) (B : BusIs w base bb rb bp bw bh N b.m F0 F0 b.out b.lamp b.tr vo vt) (ap : Ap pb sb base bb rb bp bw bh vo vt) (hlamp : u32 b.lamp) (hn : b.tr.length ≤ 1000) (hk' : 46 ≤ k ∧ k ≤ 53) (hbad : bad (adI S k s m) (szI k) = false) :
    Calls Tryd.prog 62 #[.pointer (some ⟨pb, 0, none⟩)] w fun e w' => e = .returned (.int .i64 (-1)) ∧ ∃ vt', StAt w' sb (S.set t (b.val (adI S k s m) (szI k) (sgI k) S.ct)).on ∧ BusIs w' base bb rb bp bw bh N (b.got (adI S k s m) (szI k) S.ct).m F0 F0 (b.got (adI S k s m) (szI k) S.ct).out (b.got (adI S k s m) (szI k) S.ct).lamp (b.got (adI S k s m) (szI k) S.ct).tr vo vt' ∧ Kept w w' (XM sb bb bp bh vo vt) ∧ Moved w vt vt' := by
  have CH : Hid (Cp w pb sb bb S k s t d m) := c
  have BH : Hid (BusIs w base bb rb bp bw bh N b.m F0 F0 b.out b.lamp b.tr vo vt) := B
  have EH : Hid (Er ps pa pf w) := E
  have ha := address_any c
  have hb := fun W => Low.bytesC_any (w := W) k hk'
  have had : u32 (adI S k s m) := lo_bd _
  have hsz := szI_of k
  clear c B E
  have hbe : ∀ W, Below w.heap.size w W → Below w.heap.size w W.drew := fun W h => below_drew h
  have ok := CH.out.ok
  have hl := fun W (h : Below w.heap.size w W) => load_all ps pa pf (EH.out.stays (hbe W h)) (BH.out.stays (hbe W h)) (adI S k s m) (szI k) S.ct (sgI k) had.1 had.2 (by omega) (by omega) ok.c0 (by have := ok.c1; omega) hn
  have er : erB ps pa pf (adI S k s m) (szI k) = .nilIface := by unfold erB; rw [hbad]; rfl
  simp only [er] at hl
  have hv : u32 (b.val (adI S k s m) (szI k) (sgI k) S.ct) := valI_bd BH.out.R.mb hlamp _ _ _ _
  generalize b.got (adI S k s m) (szI k) S.ct = b' at *
  generalize b.val (adI S k s m) (szI k) (sgI k) S.ct = v at *
  generalize adI S k s m = a at *
  generalize szI k = z at *
  generalize sgI k = g at *
  go_enter Tryd.func62, Tryd.ntmps62
  go_wp2_with fail
  refine ha.mono ?_
  rintro e wy ⟨rfl, hby⟩
  have hb1 := hb wy
  have p1y := (CH.out.stays hby).p.p1
  clear ha hb
  go_wp2_with fail
  refine hb1.mono ?_
  rintro e w1 ⟨rfl, hb2⟩
  have hbw : Below w.heap.size w w1 := hby.trans (hb2.mono hby.size)
  clear p1y
  have hbe := hbe w1 hbw
  have hl := hl w1 hbw
  have CN : Cp w1 pb sb bb S k s t d m := CH.out.stays hbw
  have BN : Hid (BusIs w1.drew base bb rb bp bw bh N b.m F0 F0 b.out b.lamp b.tr vo vt) := BH.out.stays hbe
  have EN : Hid (Er ps pa pf w1.drew) := EH.out.stays hbe
  have KN : Kept w w1.drew (XM sb bb bp bh vo vt) := Kept.of_below _ hbe
  have hsize : w.heap.size ≤ w1.heap.size := hbw.size
  clear hb1 CH BH EH hbe
  clear hbw hb2 hby
  have p0 := CN.p.p0
  have p3 := CN.p.p3
  have p6 := CN.p.p6
  have q42 := CN.a.told.2.2.2.2.2.2.2.2.2.2
  have qt := CN.a.reg CN.ht
  have ht' : (t : Int) < 32 := by have := CN.ht; omega
  go_upto_region 3 with fail
  refine wp_region_phase 20 [(0, 0), (1, 0), (2, 0), (3, 1), (4, 0), (5, 0), (6, 0), (7, 0), (8, 0), (9, 0), (10, 1), (11, 0), (12, 0), (13, 1), (14, 2), (15, 0), (16, 0), (17, 0), (18, 0), (19, 0)] (fun W => W.cell? ⟨pb, 0, none⟩ = some (.pointer (some ⟨sb, 0, none⟩)) ∧ W.cell? ⟨pb, 6, none⟩ = some (.pointer (some ⟨bb, 0, none⟩)) ∧ W.cell? ⟨sb, 42, none⟩ = some (.int .i64 S.ct)) (by kernel_rfl) (by kernel_rfl) (fun _ _ _ d _ h => by cases d <;> exact h) ⟨p0, p6, q42⟩ ?_
  repeat (first | (refine wpPlanZ_free (by rfl) (by rfl) (fun W => by (go_simp; try with_reducible rfl)) (fun K hK => ?_); go_simp; refine hK _ ?_; clear hK K) | (refine wpPlanZ_quiet (by rfl) (by rfl) (fun W hW => by (obtain ⟨p0, p6, q42⟩ := hW; go_simp; try with_reducible rfl)) (fun K hK => ?_); go_simp; refine hK _ ?_; clear hK K))
  refine wpPlanZ_serial (by rfl) (by rfl) (fun K hK => ?_)
  go_simp
  refine hl.mono ?_
  rintro e w2 ⟨rfl, vt', B2, T2, M2⟩
  have K2 := kept_bus sb T2
  have C2 := CN.drew.kept K2 ap.pe (ap.ne BN.out)
  refine hK _ _ (fun _ => ⟨C2.p.p0, C2.p.p6, C2.a.told.2.2.2.2.2.2.2.2.2.2⟩) ?_
  clear hK K
  repeat (first | (refine wpPlanZ_free (by rfl) (by rfl) (fun W => by (go_simp; try with_reducible rfl)) (fun K hK => ?_); go_simp; refine hK _ ?_; clear hK K) | (refine wpPlanZ_quiet (by rfl) (by rfl) (fun W hW => by (obtain ⟨p0, p6, q42⟩ := hW; go_simp; try with_reducible rfl)) (fun K hK => ?_); go_simp; refine hK _ ?_; clear hK K))
  refine wpPlanZ_nil ?_
  have M2' : Moved w vt vt' := fun k hk => (M2 k hk).imp id (fun h => by have : w1.drew.heap.size = w1.heap.size := rfl; omega)
  have p3' := C2.p.p3
  have hset := set_any C2 t C2.ht v
  go_wp2_with fail
  refine hset.mono ?_
  rintro e w3 ⟨rfl, A3, T3⟩
  have c3 := C2.turn T3 A3 (St.set_ok C2.ok t hv)
  have hgo := goOn_any c3
  go_wp2_with fail
  refine hgo.mono ?_
  rintro e w4 ⟨rfl, A4, T4⟩
  go_wp2
  go_ret
  have T34 : Kept w2 w4 (· = sb) := T3.trans T4 (fun _ _ h => h)
  exact ⟨rfl, vt', A4, B2.st T34 ap.lt ap.s1 ap.s2 ap.s3 ap.s4 ap.s5, (KN.trans K2.xm_bus (fun _ _ h => h)).trans T34.xm_st (fun _ _ h => h), M2'⟩
set_option maxHeartbeats 8000000 in
theorem store_wrong (ps pa pf : Addr) (E : Er ps pa pf w) (c : Cp w pb sb bb S k s t d m) (B : BusIs w base bb rb bp bw bh N b.m F0 F0 b.out b.lamp b.tr vo vt) (ap : Ap pb sb base bb rb bp bw bh vo vt) (hn0 : b.out.length ≤ 1000) (hn : b.tr.length ≤ 1000) (hN : N + 1 < maxLen) (hk' : 46 ≤ k ∧ k ≤ 53) (hbad : bad (adI S k s m) (szI k) = true) :
    Calls Tryd.prog 63 #[.pointer (some ⟨pb, 0, none⟩)] w fun e w' => e = .returned (.int .i64 5) ∧ ∃ N' vo' vt', N' ≤ N + 2 ∧ StAt w' sb { S with bd := adI S k s m } ∧ BusIs w' base bb rb bp bw bh N' b.m F0 F0 b.out b.lamp b.tr vo' vt' ∧ Kept w w' (XM sb bb bp bh vo vt) ∧ Moved w vo vo' ∧ Moved w vt vt' := by
  have CH : Hid (Cp w pb sb bb S k s t d m) := c
  have BH : Hid (BusIs w base bb rb bp bw bh N b.m F0 F0 b.out b.lamp b.tr vo vt) := B
  have EH : Hid (Er ps pa pf w) := E
  have ha := address_any c
  have hb := fun W => Low.bytesC_any (w := W) k hk'
  have had : u32 (adI S k s m) := lo_bd _
  have hsz := szI_of k
  clear c B E
  have hbe : ∀ W, Below w.heap.size w W → Below w.heap.size w W.drew := fun W h => below_drew h
  have ok := CH.out.ok
  have hl := fun W (h : Below w.heap.size w W) => store_all ps pa pf (EH.out.stays (hbe W h)) (BH.out.stays (hbe W h)) (adI S k s m) (szI k) (S.r t) S.ct had.1 had.2 (by omega) (by omega) (ok.r t).1 (ok.r t).2 ok.c0 (by have := ok.c1; omega) hn0 hn hN
  have er : erB ps pa pf (adI S k s m) (szI k) = .iface 192 (.pointer (some (erA ps pa pf (chk (adI S k s m) (szI k))))) := by unfold erB; rw [hbad]; rfl
  simp only [er] at hl
  have eg : b.put (adI S k s m) (szI k) (S.r t) S.ct = b := by
    unfold Bs.put
    rw [if_neg (fun h => by simp [bad, h] at hbad), if_neg (fun h => by simp [bad, h] at hbad)]
  simp only [eg] at hl
  generalize erA ps pa pf (chk (adI S k s m) (szI k)) = er_ at *
  generalize adI S k s m = a at *
  generalize szI k = z at *
  go_enter Tryd.func63, Tryd.ntmps63
  go_wp2_with fail
  refine ha.mono ?_
  rintro e wy ⟨rfl, hby⟩
  have hb1 := hb wy
  have p1y := (CH.out.stays hby).p.p1
  clear ha hb
  go_wp2_with fail
  refine hb1.mono ?_
  rintro e w1 ⟨rfl, hb2⟩
  have hbw : Below w.heap.size w w1 := hby.trans (hb2.mono hby.size)
  clear p1y
  have hbe := hbe w1 hbw
  have hl := hl w1 hbw
  have CN : Cp w1 pb sb bb S k s t d m := CH.out.stays hbw
  have BN : Hid (BusIs w1.drew base bb rb bp bw bh N b.m F0 F0 b.out b.lamp b.tr vo vt) := BH.out.stays hbe
  have EN : Hid (Er ps pa pf w1.drew) := EH.out.stays hbe
  have KN : Kept w w1.drew (XM sb bb bp bh vo vt) := Kept.of_below _ hbe
  have hsize : w.heap.size ≤ w1.heap.size := hbw.size
  clear hb1 CH BH EH hbe
  clear hbw hb2 hby
  have p0 := CN.p.p0
  have p3 := CN.p.p3
  have p6 := CN.p.p6
  have q42 := CN.a.told.2.2.2.2.2.2.2.2.2.2
  have qt := CN.a.reg CN.ht
  have ht' : (t : Int) < 32 := by have := CN.ht; omega
  go_upto_region 3 with fail
  refine wp_region_phase 28 [(0, 0), (1, 0), (2, 0), (3, 1), (4, 0), (5, 0), (6, 0), (7, 0), (8, 0), (9, 1), (10, 0), (11, 0), (12, 0), (13, 0), (14, 1), (15, 0), (16, 0), (17, 0), (18, 1), (19, 0), (20, 0), (21, 0), (22, 1), (23, 0), (24, 0), (25, 1), (26, 2), (27, 0)] (fun W => W.cell? ⟨pb, 0, none⟩ = some (.pointer (some ⟨sb, 0, none⟩)) ∧ W.cell? ⟨pb, 6, none⟩ = some (.pointer (some ⟨bb, 0, none⟩)) ∧ W.cell? ⟨sb, 42, none⟩ = some (.int .i64 S.ct) ∧ W.cell? ⟨pb, 3, none⟩ = some (.int .i64 t) ∧ W.cell? ⟨sb, t, none⟩ = some (.int .u32 (S.r t))) (by kernel_rfl) (by kernel_rfl) (fun _ _ _ d _ h => by cases d <;> exact h) ⟨p0, p6, q42, p3, qt⟩ ?_
  repeat (first | (refine wpPlanZ_free (by rfl) (by rfl) (fun W => by (go_simp; try with_reducible rfl)) (fun K hK => ?_); go_simp; refine hK _ ?_; clear hK K) | (refine wpPlanZ_quiet (by rfl) (by rfl) (fun W hW => by (obtain ⟨p0, p6, q42, p3, qt⟩ := hW; go_simp; try with_reducible rfl)) (fun K hK => ?_); go_simp; refine hK _ ?_; clear hK K))
  refine wpPlanZ_serial (by rfl) (by rfl) (fun K hK => ?_)
  go_simp
  refine hl.mono ?_
  rintro e w2 ⟨rfl, N', vo', vt', hN', B2, T2, M1, M2⟩
  have K2 := kept_bus sb T2
  have C2 := CN.drew.kept K2 ap.pe (ap.ne BN.out)
  refine hK _ _ (fun _ => ⟨C2.p.p0, C2.p.p6, C2.a.told.2.2.2.2.2.2.2.2.2.2, C2.p.p3, C2.a.reg C2.ht⟩) ?_
  clear hK K
  repeat (first | (refine wpPlanZ_free (by rfl) (by rfl) (fun W => by (go_simp; try with_reducible rfl)) (fun K hK => ?_); go_simp; refine hK _ ?_; clear hK K) | (refine wpPlanZ_quiet (by rfl) (by rfl) (fun W hW => by (obtain ⟨p0, p6, q42, p3, qt⟩ := hW; go_simp; try with_reducible rfl)) (fun K hK => ?_); go_simp; refine hK _ ?_; clear hK K))
  refine wpPlanZ_nil ?_
  have M1' : Moved w vo vo' := fun k hk => (M1 k hk).imp id (fun h => by have : w1.drew.heap.size = w1.heap.size := rfl; omega)
  have M2' : Moved w vt vt' := fun k hk => (M2 k hk).imp id (fun h => by have : w1.drew.heap.size = w1.heap.size := rfl; omega)
  have hbd := bad_any C2 5 a
  go_wp2_with fail
  refine hbd.mono ?_
  rintro e w3 ⟨rfl, A3, T3⟩
  go_wp2
  go_ret
  exact ⟨rfl, N', vo', vt', hN', A3, B2.st T3 ap.lt ap.s1 ap.s2 ap.s3 ap.s4 ap.s5, (KN.trans K2.xm_bus (fun _ _ h => h)).trans T3.xm_st (fun _ _ h => h), M1', M2'⟩
set_option maxHeartbeats 8000000 in
theorem store_right (ps pa pf : Addr) (E : Er ps pa pf w) (c : Cp w pb sb bb S k s t d m) (B : BusIs w base bb rb bp bw bh N b.m F0 F0 b.out b.lamp b.tr vo vt) (ap : Ap pb sb base bb rb bp bw bh vo vt) (hn0 : b.out.length ≤ 1000) (hn : b.tr.length ≤ 1000) (hN : N + 1 < maxLen) (hk' : 46 ≤ k ∧ k ≤ 53) (hbad : bad (adI S k s m) (szI k) = false) :
    Calls Tryd.prog 63 #[.pointer (some ⟨pb, 0, none⟩)] w fun e w' => e = .returned (.int .i64 (-1)) ∧ ∃ N' vo' vt', N' ≤ N + 2 ∧ StAt w' sb S.on ∧ BusIs w' base bb rb bp bw bh N' (b.put (adI S k s m) (szI k) (S.r t) S.ct).m F0 F0 (b.put (adI S k s m) (szI k) (S.r t) S.ct).out (b.put (adI S k s m) (szI k) (S.r t) S.ct).lamp (b.put (adI S k s m) (szI k) (S.r t) S.ct).tr vo' vt' ∧ Kept w w' (XM sb bb bp bh vo vt) ∧ Moved w vo vo' ∧ Moved w vt vt' := by
  have CH : Hid (Cp w pb sb bb S k s t d m) := c
  have BH : Hid (BusIs w base bb rb bp bw bh N b.m F0 F0 b.out b.lamp b.tr vo vt) := B
  have EH : Hid (Er ps pa pf w) := E
  have ha := address_any c
  have hb := fun W => Low.bytesC_any (w := W) k hk'
  have had : u32 (adI S k s m) := lo_bd _
  have hsz := szI_of k
  clear c B E
  have hbe : ∀ W, Below w.heap.size w W → Below w.heap.size w W.drew := fun W h => below_drew h
  have ok := CH.out.ok
  have hl := fun W (h : Below w.heap.size w W) => store_all ps pa pf (EH.out.stays (hbe W h)) (BH.out.stays (hbe W h)) (adI S k s m) (szI k) (S.r t) S.ct had.1 had.2 (by omega) (by omega) (ok.r t).1 (ok.r t).2 ok.c0 (by have := ok.c1; omega) hn0 hn hN
  have er : erB ps pa pf (adI S k s m) (szI k) = .nilIface := by unfold erB; rw [hbad]; rfl
  simp only [er] at hl
  generalize b.put (adI S k s m) (szI k) (S.r t) S.ct = b' at *
  generalize adI S k s m = a at *
  generalize szI k = z at *
  go_enter Tryd.func63, Tryd.ntmps63
  go_wp2_with fail
  refine ha.mono ?_
  rintro e wy ⟨rfl, hby⟩
  have hb1 := hb wy
  have p1y := (CH.out.stays hby).p.p1
  clear ha hb
  go_wp2_with fail
  refine hb1.mono ?_
  rintro e w1 ⟨rfl, hb2⟩
  have hbw : Below w.heap.size w w1 := hby.trans (hb2.mono hby.size)
  clear p1y
  have hbe := hbe w1 hbw
  have hl := hl w1 hbw
  have CN : Cp w1 pb sb bb S k s t d m := CH.out.stays hbw
  have BN : Hid (BusIs w1.drew base bb rb bp bw bh N b.m F0 F0 b.out b.lamp b.tr vo vt) := BH.out.stays hbe
  have EN : Hid (Er ps pa pf w1.drew) := EH.out.stays hbe
  have KN : Kept w w1.drew (XM sb bb bp bh vo vt) := Kept.of_below _ hbe
  have hsize : w.heap.size ≤ w1.heap.size := hbw.size
  clear hb1 CH BH EH hbe
  clear hbw hb2 hby
  have p0 := CN.p.p0
  have p3 := CN.p.p3
  have p6 := CN.p.p6
  have q42 := CN.a.told.2.2.2.2.2.2.2.2.2.2
  have qt := CN.a.reg CN.ht
  have ht' : (t : Int) < 32 := by have := CN.ht; omega
  go_upto_region 3 with fail
  refine wp_region_phase 28 [(0, 0), (1, 0), (2, 0), (3, 1), (4, 0), (5, 0), (6, 0), (7, 0), (8, 0), (9, 1), (10, 0), (11, 0), (12, 0), (13, 0), (14, 1), (15, 0), (16, 0), (17, 0), (18, 1), (19, 0), (20, 0), (21, 0), (22, 1), (23, 0), (24, 0), (25, 1), (26, 2), (27, 0)] (fun W => W.cell? ⟨pb, 0, none⟩ = some (.pointer (some ⟨sb, 0, none⟩)) ∧ W.cell? ⟨pb, 6, none⟩ = some (.pointer (some ⟨bb, 0, none⟩)) ∧ W.cell? ⟨sb, 42, none⟩ = some (.int .i64 S.ct) ∧ W.cell? ⟨pb, 3, none⟩ = some (.int .i64 t) ∧ W.cell? ⟨sb, t, none⟩ = some (.int .u32 (S.r t))) (by kernel_rfl) (by kernel_rfl) (fun _ _ _ d _ h => by cases d <;> exact h) ⟨p0, p6, q42, p3, qt⟩ ?_
  repeat (first | (refine wpPlanZ_free (by rfl) (by rfl) (fun W => by (go_simp; try with_reducible rfl)) (fun K hK => ?_); go_simp; refine hK _ ?_; clear hK K) | (refine wpPlanZ_quiet (by rfl) (by rfl) (fun W hW => by (obtain ⟨p0, p6, q42, p3, qt⟩ := hW; go_simp; try with_reducible rfl)) (fun K hK => ?_); go_simp; refine hK _ ?_; clear hK K))
  refine wpPlanZ_serial (by rfl) (by rfl) (fun K hK => ?_)
  go_simp
  refine hl.mono ?_
  rintro e w2 ⟨rfl, N', vo', vt', hN', B2, T2, M1, M2⟩
  have K2 := kept_bus sb T2
  have C2 := CN.drew.kept K2 ap.pe (ap.ne BN.out)
  refine hK _ _ (fun _ => ⟨C2.p.p0, C2.p.p6, C2.a.told.2.2.2.2.2.2.2.2.2.2, C2.p.p3, C2.a.reg C2.ht⟩) ?_
  clear hK K
  repeat (first | (refine wpPlanZ_free (by rfl) (by rfl) (fun W => by (go_simp; try with_reducible rfl)) (fun K hK => ?_); go_simp; refine hK _ ?_; clear hK K) | (refine wpPlanZ_quiet (by rfl) (by rfl) (fun W hW => by (obtain ⟨p0, p6, q42, p3, qt⟩ := hW; go_simp; try with_reducible rfl)) (fun K hK => ?_); go_simp; refine hK _ ?_; clear hK K))
  refine wpPlanZ_nil ?_
  have M1' : Moved w vo vo' := fun k hk => (M1 k hk).imp id (fun h => by have : w1.drew.heap.size = w1.heap.size := rfl; omega)
  have M2' : Moved w vt vt' := fun k hk => (M2 k hk).imp id (fun h => by have : w1.drew.heap.size = w1.heap.size := rfl; omega)
  have hgo := goOn_any C2
  go_wp2_with fail
  refine hgo.mono ?_
  rintro e w4 ⟨rfl, A4, T4⟩
  go_wp2
  go_ret
  exact ⟨rfl, N', vo', vt', hN', A4, B2.st T4 ap.lt ap.s1 ap.s2 ap.s3 ap.s4 ap.s5, (KN.trans K2.xm_bus (fun _ _ h => h)).trans T4.xm_st (fun _ _ h => h), M1', M2'⟩
end
end Go.Proofs.YtckcbnfobjmhpaaDoor
