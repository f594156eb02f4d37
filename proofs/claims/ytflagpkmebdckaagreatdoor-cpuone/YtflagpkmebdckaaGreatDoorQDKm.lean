/-
  Loads and stores of the document's step.
-/
import Derived.Test.YtflagpkmebdckaaGreatDoorKDK0
import Derived.Test.YtflagpkmebdckaaGreatDoorKDKs3
namespace Go.Proofs.YtflagpkmebdckaaGreatDoor
open Go.RowKit Go.Maps
open Num
set_option linter.unusedVariables false
/-- a state's block is none of a bus -/
structure Dap (sb base db rb gb kb hb : Nat) : Prop where
  lt : sb < base
  s1 : sb ≠ db
  s2 : sb ≠ rb
  s3 : sb ≠ gb
  s4 : sb ≠ kb
  s5 : sb ≠ hb
/-- what a step may turn -/
def DM (sb db gb hb : Nat) (vt : Value) (k : Nat) : Prop := k = sb ∨ DX db gb hb vt k
theorem Kept.dmS {w w' : World} {sb db gb hb : Nat} {vt : Value} (h : Kept w w' (· = sb)) : Kept w w' (DM sb db gb hb vt) := h.mono fun _ e => Or.inl e
theorem Kept.dmX {w w' : World} {sb db gb hb : Nat} {vt : Value} (h : Kept w w' (DX db gb hb vt)) : Kept w w' (DM sb db gb hb vt) := h.mono fun _ e => Or.inr e
section
variable {w : World} {sb base db rb gb kb hb : Nat} {b : Bs} {wt ht : Int → Bool} {vt : Value} {S : St} {k s t d : Nat} {m : Int}
theorem DBus.st {w' : World} (B : DBus w base db rb gb kb hb b wt ht vt) (h : Kept w w' (· = sb)) (ap : Dap sb base db rb gb kb hb) : DBus w' base db rb gb kb hb b wt ht vt :=
  B.kept h fun k hk e => by
    subst e
    rcases hk with h | h | h | h | h | h
    · exact ap.s1 h
    · exact ap.s2 h
    · exact ap.s3 h
    · exact ap.s4 h
    · exact ap.s5 h
    · have := (B.rt.lt _ h).1; have := ap.lt; omega
theorem Dap.no (ap : Dap sb base db rb gb kb hb) (B : DBus w base db rb gb kb hb b wt ht vt) : ¬ DX db gb hb vt sb := by
  rintro (h | h | h | h)
  · exact ap.s1 h
  · exact ap.s3 h
  · exact ap.s5 h
  · have := (B.rt.lt _ h).1; have := ap.lt; omega
theorem DBus.far (B : DBus w base db rb gb kb hb b wt ht vt) {ib : Nat} (h : w.heap.size ≤ ib) : ¬ DX db gb hb vt ib := by
  intro e
  have := B.lt (k := ib) (by rcases e with h | h | h | h <;> simp [h])
  omega
theorem adI_eq (S : St) (k s : Nat) (m : Int) (hk : 46 ≤ k ∧ k ≤ 53) : adI S k s m = lo (S.r s + wd m 16 true) := by unfold adI immI; rw [if_neg (by omega)]
theorem szI_bd (k : Nat) : 1 ≤ szI k ∧ szI k ≤ 4 := by unfold szI; (repeat' split) <;> omega
set_option maxRecDepth 100000 in
set_option maxHeartbeats 8000000 in
theorem loadd_sw (A : StAt w sb S) (B : DBus w base db rb gb kb hb b wt ht vt) (ap : Dap sb base db rb gb kb hb) (ok : S.ok) (hs : s < 32) (ht' : t < 32) (hd : d < 32) (m0 : 0 ≤ m) (m1 : m < 4294967296) (hn : b.out.length ≤ 1000) (hn2 : b.tr.length ≤ 1000) (hk : 46 ≤ k ∧ k ≤ 53) (hg : sgI k = true) (hbad : bad (adI S k s m) (szI k) = true) : Calls Tryz.prog 192 #[.pointer (some ⟨sb, 0, none⟩), .pointer (some ⟨db, 0, none⟩), .agg #[.int .i64 k, .int .i64 s, .int .i64 t, .int .i64 d, .int .u32 m]] w fun e w' => e = .returned (.int .i64 4) ∧ ∃ vt', StAt w' sb { S with bd := adI S k s m } ∧ DBus w' base db rb gb kb hb (b.got (adI S k s m) (szI k) S.ct) wt ht vt' ∧ Kept w w' (DM sb db gb hb vt) ∧ Moved w vt vt' := by
  have had : u32 (adI S k s m) := lo_bd _
  have hsz := szI_bd k
  have hwb : u32 (wd m 16 true) := wd_bd m0 m1 _
  have hi := fun W => immOf_any k s t d m m0 m1 W
  have hpl := fun W => plus2_any (S.r s) (wd m 16 true) (ok.r s).1 (ok.r s).2 hwb.1 hwb.2 W
  have hso := fun W => sizeOf_any k hk W
  rw [← adI_eq S k s m hk] at hpl
  have c0 := ok.c0
  have c1 := ok.c1
  have hr := ok.r t
  have hbA : Below w.heap.size w (w.alloc (.cells #[.int .i64 k, .int .i64 s, .int .i64 t, .int .i64 d, .int .u32 m] 113)) := (Below.refl _ _).alloc (Nat.le_refl _) _
  have D0 : Hid (Dq (w.alloc (.cells #[.int .i64 k, .int .i64 s, .int .i64 t, .int .i64 d, .int .u32 m] 113)) w.heap.size sb S k s t d m) := Dq.start A ok k hs ht' hd m0 m1
  have B0 : Hid (DBus (w.alloc (.cells #[.int .i64 k, .int .i64 s, .int .i64 t, .int .i64 d, .int .u32 m] 113)) base db rb gb kb hb b wt ht vt) := B.stays hbA
  have K0 : Kept w (w.alloc (.cells #[.int .i64 k, .int .i64 s, .int .i64 t, .int .i64 d, .int .u32 m] 113)) (DM sb db gb hb vt) := Kept.of_below _ hbA
  have hfar : ¬ DX db gb hb vt w.heap.size := B.far (Nat.le_refl _)
  have hnos : ¬ DX db gb hb vt sb := ap.no B
  have hmv : ∀ {w1 : World} {x y : Value}, Kept w w1 (DM sb db gb hb vt) → Moved w1 x y → Moved w x y := fun h1 h k hk => (h k hk).imp id (fun e => Nat.le_trans h1.size e)
  have hmv := @hmv
  clear A B hbA
  have hl := fun (W : World) (X : DBus W base db rb gb kb hb b wt ht vt) => dbload_all X (adI S k s m) (szI k) S.ct (sgI k) had.1 had.2 (by omega) (by omega) c0 (by omega) hn2
  have her : 0 < erD (adI S k s m) (szI k) := erD_pos hbad
  rw [hg] at hso hl
  rw [if_pos rfl] at hso
  clear hg hbad
  generalize b.val (adI S k s m) (szI k) true S.ct = v at *
  generalize b.got (adI S k s m) (szI k) S.ct = bg at *
  generalize erD (adI S k s m) (szI k) = er at *
  generalize adI S k s m = a at *
  generalize szI k = z at *
  generalize wd m 16 true = wi at *
  obtain ⟨z0, z1⟩ := hsz
  obtain ⟨a0, a1⟩ := had
  have hzd : decide (-z < 0) = true := by simp; omega
  go_enter Tryz.func192, Tryz.ntmps192
  go_upto_region 1 with fail
  generalize w.alloc (.cells #[.int .i64 k, .int .i64 s, .int .i64 t, .int .i64 d, .int .u32 m] 113) = W at *
  generalize w.heap.size = ib at *
  have i0 := D0.out.i0
  have i1 := D0.out.i1
  have i2 := D0.out.i2
  have i3 := D0.out.i3
  have i4 := D0.out.i4
  have qs := D0.out.a.reg D0.out.hs
  have fs := D0.out.a.fz s
  have hs' : (s : Int) < 32 := by have := D0.out.hs; omega
  clear i0 i2 i3 i4 qs fs i1
  go_upto_region 1 with fail
  refine wp_region_phase 11 [(0, 0), (1, 0), (2, 1), (3, 0), (4, 0), (5, 0), (6, 1), (7, 1), (8, 2), (9, 2), (10, 0)] (fun W => Dq W ib sb S k s t d m) (by kernel_rfl) (by kernel_rfl) (fun _ _ _ d _ h => by cases d <;> first | exact h | exact Dq.drew h) D0.out.drew ?_
  repeat (first | (refine wpPlanZ_free (by rfl) (by rfl) (fun W => by (go_simp; try with_reducible rfl)) (fun K hK => ?_); go_simp; refine hK _ ?_; clear hK K) | (refine wpPlanZ_quiet (by rfl) (by rfl) (fun W hW => by (have i0 := hW.i0; have i1 := hW.i1; have i2 := hW.i2; have i3 := hW.i3; have i4 := hW.i4; have qs := hW.a.reg hW.hs; go_simp; try with_reducible rfl)) (fun K hK => ?_); go_simp; refine hK _ ?_; clear hK K))
  refine wpPlanZ_serial (by rfl) (by rfl) (fun K hK => ?_)
  go_simp
  refine (hi _).mono ?_
  rintro e_ w_ ⟨rfl, hbx⟩
  refine hK _ _ (fun _ => D0.out.drew.stays hbx) ?_
  clear hK K
  repeat (first | (refine wpPlanZ_free (by rfl) (by rfl) (fun W => by (go_simp; try with_reducible rfl)) (fun K hK => ?_); go_simp; refine hK _ ?_; clear hK K) | (refine wpPlanZ_quiet (by rfl) (by rfl) (fun W hW => by (have i0 := hW.i0; have i1 := hW.i1; have i2 := hW.i2; have i3 := hW.i3; have i4 := hW.i4; have qs := hW.a.reg hW.hs; go_simp; try with_reducible rfl)) (fun K hK => ?_); go_simp; refine hK _ ?_; clear hK K))
  refine wpPlanZ_serial (by rfl) (by rfl) (fun K hK => ?_)
  go_simp
  refine (hpl _).mono ?_
  rintro e_ w_ ⟨rfl, rfl⟩
  refine hK _ _ (fun _ => D0.out.drew.stays hbx) ?_
  clear hK K
  repeat (first | (refine wpPlanZ_free (by rfl) (by rfl) (fun W => by (go_simp; try with_reducible rfl)) (fun K hK => ?_); go_simp; refine hK _ ?_; clear hK K) | (refine wpPlanZ_quiet (by rfl) (by rfl) (fun W hW => by (have i0 := hW.i0; have i1 := hW.i1; have i2 := hW.i2; have i3 := hW.i3; have i4 := hW.i4; have qs := hW.a.reg hW.hs; go_simp; try with_reducible rfl)) (fun K hK => ?_); go_simp; refine hK _ ?_; clear hK K))
  refine wpPlanZ_nil ?_
  have D1 : Hid (Dq w_ ib sb S k s t d m) := D0.out.drew.stays hbx
  have B1 : Hid (DBus w_ base db rb gb kb hb b wt ht vt) := (B0.out.stays (below_drew (Below.refl _ _))).stays hbx
  have K1 : Kept w w_ (DM sb db gb hb vt) := (K0.trans (Kept.drew _ _) (fun _ _ h => h)).trans (Kept.of_below _ hbx) (fun _ _ h => h)
  clear hbx D0 B0 K0
  generalize w_ = W1 at *
  have i0 := D1.out.i0
  obtain ⟨-, -, -, -, -, -, -, -, -, -, q42⟩ := D1.out.a.told
  have hl1 := hl W1 B1.out
  go_wp2_with (go_at_call 232; refine (hso _).mono ?_; rintro e w2 ⟨rfl, rfl⟩)
  refine hl1.mono ?_
  rintro e w2 ⟨rfl, vt2, B2, T2, M2⟩
  have D2 : Hid (Dq w2 ib sb S k s t d m) := D1.out.kept T2 hfar hnos
  have B2H : Hid (DBus w2 base db rb gb kb hb bg wt ht vt2) := B2
  have K2 : Kept w w2 (DM sb db gb hb vt) := K1.trans T2.dmX (fun _ _ h => h)
  have MM : Hid (Moved w vt vt2) := hmv K1 M2
  clear B2 T2 M2 hl1 hl q42 i0 K1 B1 D1
  obtain ⟨-, -, -, -, -, -, -, -, q40, -⟩ := D2.out.a.told
  have f40 := D2.out.a.fz 40
  have A1 := D2.out.a.putBd a
  have KS : Kept w2 (w2.setCell ⟨sb, 40, none⟩ (.int .u32 a)) (· = sb) := Kept.setCell _ _ _ _ rfl
  go_wp2
  go_ret
  exact ⟨rfl, vt2, A1, B2H.out.st KS ap, K2.trans KS.dmS (fun _ _ h => h), MM.out⟩
set_option maxRecDepth 100000 in
set_option maxHeartbeats 8000000 in
theorem loadd_sr (A : StAt w sb S) (B : DBus w base db rb gb kb hb b wt ht vt) (ap : Dap sb base db rb gb kb hb) (ok : S.ok) (hs : s < 32) (ht' : t < 32) (hd : d < 32) (m0 : 0 ≤ m) (m1 : m < 4294967296) (hn : b.out.length ≤ 1000) (hn2 : b.tr.length ≤ 1000) (hk : 46 ≤ k ∧ k ≤ 53) (hg : sgI k = true) (hbad : bad (adI S k s m) (szI k) = false) : Calls Tryz.prog 192 #[.pointer (some ⟨sb, 0, none⟩), .pointer (some ⟨db, 0, none⟩), .agg #[.int .i64 k, .int .i64 s, .int .i64 t, .int .i64 d, .int .u32 m]] w fun e w' => e = .returned (.int .i64 (-1)) ∧ ∃ vt', StAt w' sb (S.putR t (b.val (adI S k s m) (szI k) (sgI k) S.ct)) ∧ DBus w' base db rb gb kb hb (b.got (adI S k s m) (szI k) S.ct) wt ht vt' ∧ Kept w w' (DM sb db gb hb vt) ∧ Moved w vt vt' := by
  have had : u32 (adI S k s m) := lo_bd _
  have hsz := szI_bd k
  have hwb : u32 (wd m 16 true) := wd_bd m0 m1 _
  have hi := fun W => immOf_any k s t d m m0 m1 W
  have hpl := fun W => plus2_any (S.r s) (wd m 16 true) (ok.r s).1 (ok.r s).2 hwb.1 hwb.2 W
  have hso := fun W => sizeOf_any k hk W
  rw [← adI_eq S k s m hk] at hpl
  have c0 := ok.c0
  have c1 := ok.c1
  have hr := ok.r t
  have hbA : Below w.heap.size w (w.alloc (.cells #[.int .i64 k, .int .i64 s, .int .i64 t, .int .i64 d, .int .u32 m] 113)) := (Below.refl _ _).alloc (Nat.le_refl _) _
  have D0 : Hid (Dq (w.alloc (.cells #[.int .i64 k, .int .i64 s, .int .i64 t, .int .i64 d, .int .u32 m] 113)) w.heap.size sb S k s t d m) := Dq.start A ok k hs ht' hd m0 m1
  have B0 : Hid (DBus (w.alloc (.cells #[.int .i64 k, .int .i64 s, .int .i64 t, .int .i64 d, .int .u32 m] 113)) base db rb gb kb hb b wt ht vt) := B.stays hbA
  have K0 : Kept w (w.alloc (.cells #[.int .i64 k, .int .i64 s, .int .i64 t, .int .i64 d, .int .u32 m] 113)) (DM sb db gb hb vt) := Kept.of_below _ hbA
  have hfar : ¬ DX db gb hb vt w.heap.size := B.far (Nat.le_refl _)
  have hnos : ¬ DX db gb hb vt sb := ap.no B
  have hmv : ∀ {w1 : World} {x y : Value}, Kept w w1 (DM sb db gb hb vt) → Moved w1 x y → Moved w x y := fun h1 h k hk => (h k hk).imp id (fun e => Nat.le_trans h1.size e)
  have hmv := @hmv
  clear A B hbA
  have hl := fun (W : World) (X : DBus W base db rb gb kb hb b wt ht vt) => dbload_all X (adI S k s m) (szI k) S.ct (sgI k) had.1 had.2 (by omega) (by omega) c0 (by omega) hn2
  have her : erD (adI S k s m) (szI k) = 0 := erD_zero hbad
  rw [her] at hl
  rw [hg] at hso hl ⊢
  rw [if_pos rfl] at hso
  clear hg hbad
  generalize b.val (adI S k s m) (szI k) true S.ct = v at *
  generalize b.got (adI S k s m) (szI k) S.ct = bg at *
  clear her
  generalize adI S k s m = a at *
  generalize szI k = z at *
  generalize wd m 16 true = wi at *
  obtain ⟨z0, z1⟩ := hsz
  obtain ⟨a0, a1⟩ := had
  have hzd : decide (-z < 0) = true := by simp; omega
  go_enter Tryz.func192, Tryz.ntmps192
  go_upto_region 1 with fail
  generalize w.alloc (.cells #[.int .i64 k, .int .i64 s, .int .i64 t, .int .i64 d, .int .u32 m] 113) = W at *
  generalize w.heap.size = ib at *
  have i0 := D0.out.i0
  have i1 := D0.out.i1
  have i2 := D0.out.i2
  have i3 := D0.out.i3
  have i4 := D0.out.i4
  have qs := D0.out.a.reg D0.out.hs
  have fs := D0.out.a.fz s
  have hs' : (s : Int) < 32 := by have := D0.out.hs; omega
  clear i0 i2 i3 i4 qs fs i1
  go_upto_region 1 with fail
  refine wp_region_phase 11 [(0, 0), (1, 0), (2, 1), (3, 0), (4, 0), (5, 0), (6, 1), (7, 1), (8, 2), (9, 2), (10, 0)] (fun W => Dq W ib sb S k s t d m) (by kernel_rfl) (by kernel_rfl) (fun _ _ _ d _ h => by cases d <;> first | exact h | exact Dq.drew h) D0.out.drew ?_
  repeat (first | (refine wpPlanZ_free (by rfl) (by rfl) (fun W => by (go_simp; try with_reducible rfl)) (fun K hK => ?_); go_simp; refine hK _ ?_; clear hK K) | (refine wpPlanZ_quiet (by rfl) (by rfl) (fun W hW => by (have i0 := hW.i0; have i1 := hW.i1; have i2 := hW.i2; have i3 := hW.i3; have i4 := hW.i4; have qs := hW.a.reg hW.hs; go_simp; try with_reducible rfl)) (fun K hK => ?_); go_simp; refine hK _ ?_; clear hK K))
  refine wpPlanZ_serial (by rfl) (by rfl) (fun K hK => ?_)
  go_simp
  refine (hi _).mono ?_
  rintro e_ w_ ⟨rfl, hbx⟩
  refine hK _ _ (fun _ => D0.out.drew.stays hbx) ?_
  clear hK K
  repeat (first | (refine wpPlanZ_free (by rfl) (by rfl) (fun W => by (go_simp; try with_reducible rfl)) (fun K hK => ?_); go_simp; refine hK _ ?_; clear hK K) | (refine wpPlanZ_quiet (by rfl) (by rfl) (fun W hW => by (have i0 := hW.i0; have i1 := hW.i1; have i2 := hW.i2; have i3 := hW.i3; have i4 := hW.i4; have qs := hW.a.reg hW.hs; go_simp; try with_reducible rfl)) (fun K hK => ?_); go_simp; refine hK _ ?_; clear hK K))
  refine wpPlanZ_serial (by rfl) (by rfl) (fun K hK => ?_)
  go_simp
  refine (hpl _).mono ?_
  rintro e_ w_ ⟨rfl, rfl⟩
  refine hK _ _ (fun _ => D0.out.drew.stays hbx) ?_
  clear hK K
  repeat (first | (refine wpPlanZ_free (by rfl) (by rfl) (fun W => by (go_simp; try with_reducible rfl)) (fun K hK => ?_); go_simp; refine hK _ ?_; clear hK K) | (refine wpPlanZ_quiet (by rfl) (by rfl) (fun W hW => by (have i0 := hW.i0; have i1 := hW.i1; have i2 := hW.i2; have i3 := hW.i3; have i4 := hW.i4; have qs := hW.a.reg hW.hs; go_simp; try with_reducible rfl)) (fun K hK => ?_); go_simp; refine hK _ ?_; clear hK K))
  refine wpPlanZ_nil ?_
  have D1 : Hid (Dq w_ ib sb S k s t d m) := D0.out.drew.stays hbx
  have B1 : Hid (DBus w_ base db rb gb kb hb b wt ht vt) := (B0.out.stays (below_drew (Below.refl _ _))).stays hbx
  have K1 : Kept w w_ (DM sb db gb hb vt) := (K0.trans (Kept.drew _ _) (fun _ _ h => h)).trans (Kept.of_below _ hbx) (fun _ _ h => h)
  clear hbx D0 B0 K0
  generalize w_ = W1 at *
  have i0 := D1.out.i0
  obtain ⟨-, -, -, -, -, -, -, -, -, -, q42⟩ := D1.out.a.told
  have hl1 := hl W1 B1.out
  go_wp2_with (go_at_call 232; refine (hso _).mono ?_; rintro e w2 ⟨rfl, rfl⟩)
  refine hl1.mono ?_
  rintro e w2 ⟨rfl, vt2, B2, T2, M2⟩
  have D2 : Hid (Dq w2 ib sb S k s t d m) := D1.out.kept T2 hfar hnos
  have B2H : Hid (DBus w2 base db rb gb kb hb bg wt ht vt2) := B2
  have K2 : Kept w w2 (DM sb db gb hb vt) := K1.trans T2.dmX (fun _ _ h => h)
  have MM : Hid (Moved w vt vt2) := hmv K1 M2
  clear B2 T2 M2 hl1 hl q42 i0 K1 B1 D1
  have qt := D2.out.a.reg D2.out.ht
  have ft := D2.out.a.fz t
  have ht' : (t : Int) < 32 := by have := D2.out.ht; omega
  go_upto_region 10 with fail
  obtain ⟨W, hWe⟩ : ∃ W, W = w2 := ⟨_, rfl⟩
  rw [← hWe] at D2 B2H K2 qt ft ⊢
  clear hWe
  refine wp_region_phase 7 [(0, 0), (1, 0), (2, 1), (3, 0), (4, 0), (5, 0), (6, 0), (7, 2)] (fun W => Dq W ib sb S k s t d m) (by kernel_rfl) (by kernel_rfl) (fun _ _ _ d _ h => by cases d <;> first | exact h | exact Dq.drew h) D2.out.drew ?_
  repeat (first | (refine wpPlanZ_free (by rfl) (by rfl) (fun W => by (go_simp; try with_reducible rfl)) (fun K hK => ?_); go_simp; refine hK _ ?_; clear hK K) | (refine wpPlanZ_quiet (by rfl) (by rfl) (fun W hW => by (have i2 := hW.i2; go_simp; try with_reducible rfl)) (fun K hK => ?_); go_simp; refine hK _ ?_; clear hK K))
  refine wpPlanZ_serial (by rfl) (by rfl) (fun K hK => ?_)
  go_simp
  refine hK _ _ (fun h => absurd h (by decide)) ?_
  clear hK K
  refine wpPlanZ_nil ?_
  have A1 := (D2.out.a.putR t D2.out.ht v).drew
  have KS : Kept W (W.setCell ⟨sb, t, none⟩ (.int .u32 v)).drew (· = sb) := ((Kept.refl W (· = sb)).put t (.int .u32 v)).trans (Kept.drew _ _) (fun _ _ h => h)
  clear qt ft
  generalize (W.setCell ⟨sb, t, none⟩ (.int .u32 v)).drew = W3 at *
  go_wp2
  go_ret
  exact ⟨rfl, vt2, A1, B2H.out.st KS ap, K2.trans KS.dmS (fun _ _ h => h), MM.out⟩
set_option maxRecDepth 100000 in
set_option maxHeartbeats 8000000 in
theorem loadd_uw (A : StAt w sb S) (B : DBus w base db rb gb kb hb b wt ht vt) (ap : Dap sb base db rb gb kb hb) (ok : S.ok) (hs : s < 32) (ht' : t < 32) (hd : d < 32) (m0 : 0 ≤ m) (m1 : m < 4294967296) (hn : b.out.length ≤ 1000) (hn2 : b.tr.length ≤ 1000) (hk : 46 ≤ k ∧ k ≤ 53) (hg : sgI k = false) (hbad : bad (adI S k s m) (szI k) = true) : Calls Tryz.prog 192 #[.pointer (some ⟨sb, 0, none⟩), .pointer (some ⟨db, 0, none⟩), .agg #[.int .i64 k, .int .i64 s, .int .i64 t, .int .i64 d, .int .u32 m]] w fun e w' => e = .returned (.int .i64 4) ∧ ∃ vt', StAt w' sb { S with bd := adI S k s m } ∧ DBus w' base db rb gb kb hb (b.got (adI S k s m) (szI k) S.ct) wt ht vt' ∧ Kept w w' (DM sb db gb hb vt) ∧ Moved w vt vt' := by
  have had : u32 (adI S k s m) := lo_bd _
  have hsz := szI_bd k
  have hwb : u32 (wd m 16 true) := wd_bd m0 m1 _
  have hi := fun W => immOf_any k s t d m m0 m1 W
  have hpl := fun W => plus2_any (S.r s) (wd m 16 true) (ok.r s).1 (ok.r s).2 hwb.1 hwb.2 W
  have hso := fun W => sizeOf_any k hk W
  rw [← adI_eq S k s m hk] at hpl
  have c0 := ok.c0
  have c1 := ok.c1
  have hr := ok.r t
  have hbA : Below w.heap.size w (w.alloc (.cells #[.int .i64 k, .int .i64 s, .int .i64 t, .int .i64 d, .int .u32 m] 113)) := (Below.refl _ _).alloc (Nat.le_refl _) _
  have D0 : Hid (Dq (w.alloc (.cells #[.int .i64 k, .int .i64 s, .int .i64 t, .int .i64 d, .int .u32 m] 113)) w.heap.size sb S k s t d m) := Dq.start A ok k hs ht' hd m0 m1
  have B0 : Hid (DBus (w.alloc (.cells #[.int .i64 k, .int .i64 s, .int .i64 t, .int .i64 d, .int .u32 m] 113)) base db rb gb kb hb b wt ht vt) := B.stays hbA
  have K0 : Kept w (w.alloc (.cells #[.int .i64 k, .int .i64 s, .int .i64 t, .int .i64 d, .int .u32 m] 113)) (DM sb db gb hb vt) := Kept.of_below _ hbA
  have hfar : ¬ DX db gb hb vt w.heap.size := B.far (Nat.le_refl _)
  have hnos : ¬ DX db gb hb vt sb := ap.no B
  have hmv : ∀ {w1 : World} {x y : Value}, Kept w w1 (DM sb db gb hb vt) → Moved w1 x y → Moved w x y := fun h1 h k hk => (h k hk).imp id (fun e => Nat.le_trans h1.size e)
  have hmv := @hmv
  clear A B hbA
  have hl := fun (W : World) (X : DBus W base db rb gb kb hb b wt ht vt) => dbload_all X (adI S k s m) (szI k) S.ct (sgI k) had.1 had.2 (by omega) (by omega) c0 (by omega) hn2
  have her : 0 < erD (adI S k s m) (szI k) := erD_pos hbad
  rw [hg] at hso hl
  rw [if_neg (by decide)] at hso
  clear hg hbad
  generalize b.val (adI S k s m) (szI k) false S.ct = v at *
  generalize b.got (adI S k s m) (szI k) S.ct = bg at *
  generalize erD (adI S k s m) (szI k) = er at *
  generalize adI S k s m = a at *
  generalize szI k = z at *
  generalize wd m 16 true = wi at *
  obtain ⟨z0, z1⟩ := hsz
  obtain ⟨a0, a1⟩ := had
  have hzd : decide (z < 0) = false := by simp; omega
  go_enter Tryz.func192, Tryz.ntmps192
  go_upto_region 1 with fail
  generalize w.alloc (.cells #[.int .i64 k, .int .i64 s, .int .i64 t, .int .i64 d, .int .u32 m] 113) = W at *
  generalize w.heap.size = ib at *
  have i0 := D0.out.i0
  have i1 := D0.out.i1
  have i2 := D0.out.i2
  have i3 := D0.out.i3
  have i4 := D0.out.i4
  have qs := D0.out.a.reg D0.out.hs
  have fs := D0.out.a.fz s
  have hs' : (s : Int) < 32 := by have := D0.out.hs; omega
  clear i0 i2 i3 i4 qs fs i1
  go_upto_region 1 with fail
  refine wp_region_phase 11 [(0, 0), (1, 0), (2, 1), (3, 0), (4, 0), (5, 0), (6, 1), (7, 1), (8, 2), (9, 2), (10, 0)] (fun W => Dq W ib sb S k s t d m) (by kernel_rfl) (by kernel_rfl) (fun _ _ _ d _ h => by cases d <;> first | exact h | exact Dq.drew h) D0.out.drew ?_
  repeat (first | (refine wpPlanZ_free (by rfl) (by rfl) (fun W => by (go_simp; try with_reducible rfl)) (fun K hK => ?_); go_simp; refine hK _ ?_; clear hK K) | (refine wpPlanZ_quiet (by rfl) (by rfl) (fun W hW => by (have i0 := hW.i0; have i1 := hW.i1; have i2 := hW.i2; have i3 := hW.i3; have i4 := hW.i4; have qs := hW.a.reg hW.hs; go_simp; try with_reducible rfl)) (fun K hK => ?_); go_simp; refine hK _ ?_; clear hK K))
  refine wpPlanZ_serial (by rfl) (by rfl) (fun K hK => ?_)
  go_simp
  refine (hi _).mono ?_
  rintro e_ w_ ⟨rfl, hbx⟩
  refine hK _ _ (fun _ => D0.out.drew.stays hbx) ?_
  clear hK K
  repeat (first | (refine wpPlanZ_free (by rfl) (by rfl) (fun W => by (go_simp; try with_reducible rfl)) (fun K hK => ?_); go_simp; refine hK _ ?_; clear hK K) | (refine wpPlanZ_quiet (by rfl) (by rfl) (fun W hW => by (have i0 := hW.i0; have i1 := hW.i1; have i2 := hW.i2; have i3 := hW.i3; have i4 := hW.i4; have qs := hW.a.reg hW.hs; go_simp; try with_reducible rfl)) (fun K hK => ?_); go_simp; refine hK _ ?_; clear hK K))
  refine wpPlanZ_serial (by rfl) (by rfl) (fun K hK => ?_)
  go_simp
  refine (hpl _).mono ?_
  rintro e_ w_ ⟨rfl, rfl⟩
  refine hK _ _ (fun _ => D0.out.drew.stays hbx) ?_
  clear hK K
  repeat (first | (refine wpPlanZ_free (by rfl) (by rfl) (fun W => by (go_simp; try with_reducible rfl)) (fun K hK => ?_); go_simp; refine hK _ ?_; clear hK K) | (refine wpPlanZ_quiet (by rfl) (by rfl) (fun W hW => by (have i0 := hW.i0; have i1 := hW.i1; have i2 := hW.i2; have i3 := hW.i3; have i4 := hW.i4; have qs := hW.a.reg hW.hs; go_simp; try with_reducible rfl)) (fun K hK => ?_); go_simp; refine hK _ ?_; clear hK K))
  refine wpPlanZ_nil ?_
  have D1 : Hid (Dq w_ ib sb S k s t d m) := D0.out.drew.stays hbx
  have B1 : Hid (DBus w_ base db rb gb kb hb b wt ht vt) := (B0.out.stays (below_drew (Below.refl _ _))).stays hbx
  have K1 : Kept w w_ (DM sb db gb hb vt) := (K0.trans (Kept.drew _ _) (fun _ _ h => h)).trans (Kept.of_below _ hbx) (fun _ _ h => h)
  clear hbx D0 B0 K0
  generalize w_ = W1 at *
  have i0 := D1.out.i0
  obtain ⟨-, -, -, -, -, -, -, -, -, -, q42⟩ := D1.out.a.told
  have hl1 := hl W1 B1.out
  go_wp2_with (go_at_call 232; refine (hso _).mono ?_; rintro e w2 ⟨rfl, rfl⟩)
  refine hl1.mono ?_
  rintro e w2 ⟨rfl, vt2, B2, T2, M2⟩
  have D2 : Hid (Dq w2 ib sb S k s t d m) := D1.out.kept T2 hfar hnos
  have B2H : Hid (DBus w2 base db rb gb kb hb bg wt ht vt2) := B2
  have K2 : Kept w w2 (DM sb db gb hb vt) := K1.trans T2.dmX (fun _ _ h => h)
  have MM : Hid (Moved w vt vt2) := hmv K1 M2
  clear B2 T2 M2 hl1 hl q42 i0 K1 B1 D1
  obtain ⟨-, -, -, -, -, -, -, -, q40, -⟩ := D2.out.a.told
  have f40 := D2.out.a.fz 40
  have A1 := D2.out.a.putBd a
  have KS : Kept w2 (w2.setCell ⟨sb, 40, none⟩ (.int .u32 a)) (· = sb) := Kept.setCell _ _ _ _ rfl
  go_wp2
  go_ret
  exact ⟨rfl, vt2, A1, B2H.out.st KS ap, K2.trans KS.dmS (fun _ _ h => h), MM.out⟩
set_option maxRecDepth 100000 in
set_option maxHeartbeats 8000000 in
theorem loadd_ur (A : StAt w sb S) (B : DBus w base db rb gb kb hb b wt ht vt) (ap : Dap sb base db rb gb kb hb) (ok : S.ok) (hs : s < 32) (ht' : t < 32) (hd : d < 32) (m0 : 0 ≤ m) (m1 : m < 4294967296) (hn : b.out.length ≤ 1000) (hn2 : b.tr.length ≤ 1000) (hk : 46 ≤ k ∧ k ≤ 53) (hg : sgI k = false) (hbad : bad (adI S k s m) (szI k) = false) : Calls Tryz.prog 192 #[.pointer (some ⟨sb, 0, none⟩), .pointer (some ⟨db, 0, none⟩), .agg #[.int .i64 k, .int .i64 s, .int .i64 t, .int .i64 d, .int .u32 m]] w fun e w' => e = .returned (.int .i64 (-1)) ∧ ∃ vt', StAt w' sb (S.putR t (b.val (adI S k s m) (szI k) (sgI k) S.ct)) ∧ DBus w' base db rb gb kb hb (b.got (adI S k s m) (szI k) S.ct) wt ht vt' ∧ Kept w w' (DM sb db gb hb vt) ∧ Moved w vt vt' := by
  have had : u32 (adI S k s m) := lo_bd _
  have hsz := szI_bd k
  have hwb : u32 (wd m 16 true) := wd_bd m0 m1 _
  have hi := fun W => immOf_any k s t d m m0 m1 W
  have hpl := fun W => plus2_any (S.r s) (wd m 16 true) (ok.r s).1 (ok.r s).2 hwb.1 hwb.2 W
  have hso := fun W => sizeOf_any k hk W
  rw [← adI_eq S k s m hk] at hpl
  have c0 := ok.c0
  have c1 := ok.c1
  have hr := ok.r t
  have hbA : Below w.heap.size w (w.alloc (.cells #[.int .i64 k, .int .i64 s, .int .i64 t, .int .i64 d, .int .u32 m] 113)) := (Below.refl _ _).alloc (Nat.le_refl _) _
  have D0 : Hid (Dq (w.alloc (.cells #[.int .i64 k, .int .i64 s, .int .i64 t, .int .i64 d, .int .u32 m] 113)) w.heap.size sb S k s t d m) := Dq.start A ok k hs ht' hd m0 m1
  have B0 : Hid (DBus (w.alloc (.cells #[.int .i64 k, .int .i64 s, .int .i64 t, .int .i64 d, .int .u32 m] 113)) base db rb gb kb hb b wt ht vt) := B.stays hbA
  have K0 : Kept w (w.alloc (.cells #[.int .i64 k, .int .i64 s, .int .i64 t, .int .i64 d, .int .u32 m] 113)) (DM sb db gb hb vt) := Kept.of_below _ hbA
  have hfar : ¬ DX db gb hb vt w.heap.size := B.far (Nat.le_refl _)
  have hnos : ¬ DX db gb hb vt sb := ap.no B
  have hmv : ∀ {w1 : World} {x y : Value}, Kept w w1 (DM sb db gb hb vt) → Moved w1 x y → Moved w x y := fun h1 h k hk => (h k hk).imp id (fun e => Nat.le_trans h1.size e)
  have hmv := @hmv
  clear A B hbA
  have hl := fun (W : World) (X : DBus W base db rb gb kb hb b wt ht vt) => dbload_all X (adI S k s m) (szI k) S.ct (sgI k) had.1 had.2 (by omega) (by omega) c0 (by omega) hn2
  have her : erD (adI S k s m) (szI k) = 0 := erD_zero hbad
  rw [her] at hl
  rw [hg] at hso hl ⊢
  rw [if_neg (by decide)] at hso
  clear hg hbad
  generalize b.val (adI S k s m) (szI k) false S.ct = v at *
  generalize b.got (adI S k s m) (szI k) S.ct = bg at *
  clear her
  generalize adI S k s m = a at *
  generalize szI k = z at *
  generalize wd m 16 true = wi at *
  obtain ⟨z0, z1⟩ := hsz
  obtain ⟨a0, a1⟩ := had
  have hzd : decide (z < 0) = false := by simp; omega
  go_enter Tryz.func192, Tryz.ntmps192
  go_upto_region 1 with fail
  generalize w.alloc (.cells #[.int .i64 k, .int .i64 s, .int .i64 t, .int .i64 d, .int .u32 m] 113) = W at *
  generalize w.heap.size = ib at *
  have i0 := D0.out.i0
  have i1 := D0.out.i1
  have i2 := D0.out.i2
  have i3 := D0.out.i3
  have i4 := D0.out.i4
  have qs := D0.out.a.reg D0.out.hs
  have fs := D0.out.a.fz s
  have hs' : (s : Int) < 32 := by have := D0.out.hs; omega
  clear i0 i2 i3 i4 qs fs i1
  go_upto_region 1 with fail
  refine wp_region_phase 11 [(0, 0), (1, 0), (2, 1), (3, 0), (4, 0), (5, 0), (6, 1), (7, 1), (8, 2), (9, 2), (10, 0)] (fun W => Dq W ib sb S k s t d m) (by kernel_rfl) (by kernel_rfl) (fun _ _ _ d _ h => by cases d <;> first | exact h | exact Dq.drew h) D0.out.drew ?_
  repeat (first | (refine wpPlanZ_free (by rfl) (by rfl) (fun W => by (go_simp; try with_reducible rfl)) (fun K hK => ?_); go_simp; refine hK _ ?_; clear hK K) | (refine wpPlanZ_quiet (by rfl) (by rfl) (fun W hW => by (have i0 := hW.i0; have i1 := hW.i1; have i2 := hW.i2; have i3 := hW.i3; have i4 := hW.i4; have qs := hW.a.reg hW.hs; go_simp; try with_reducible rfl)) (fun K hK => ?_); go_simp; refine hK _ ?_; clear hK K))
  refine wpPlanZ_serial (by rfl) (by rfl) (fun K hK => ?_)
  go_simp
  refine (hi _).mono ?_
  rintro e_ w_ ⟨rfl, hbx⟩
  refine hK _ _ (fun _ => D0.out.drew.stays hbx) ?_
  clear hK K
  repeat (first | (refine wpPlanZ_free (by rfl) (by rfl) (fun W => by (go_simp; try with_reducible rfl)) (fun K hK => ?_); go_simp; refine hK _ ?_; clear hK K) | (refine wpPlanZ_quiet (by rfl) (by rfl) (fun W hW => by (have i0 := hW.i0; have i1 := hW.i1; have i2 := hW.i2; have i3 := hW.i3; have i4 := hW.i4; have qs := hW.a.reg hW.hs; go_simp; try with_reducible rfl)) (fun K hK => ?_); go_simp; refine hK _ ?_; clear hK K))
  refine wpPlanZ_serial (by rfl) (by rfl) (fun K hK => ?_)
  go_simp
  refine (hpl _).mono ?_
  rintro e_ w_ ⟨rfl, rfl⟩
  refine hK _ _ (fun _ => D0.out.drew.stays hbx) ?_
  clear hK K
  repeat (first | (refine wpPlanZ_free (by rfl) (by rfl) (fun W => by (go_simp; try with_reducible rfl)) (fun K hK => ?_); go_simp; refine hK _ ?_; clear hK K) | (refine wpPlanZ_quiet (by rfl) (by rfl) (fun W hW => by (have i0 := hW.i0; have i1 := hW.i1; have i2 := hW.i2; have i3 := hW.i3; have i4 := hW.i4; have qs := hW.a.reg hW.hs; go_simp; try with_reducible rfl)) (fun K hK => ?_); go_simp; refine hK _ ?_; clear hK K))
  refine wpPlanZ_nil ?_
  have D1 : Hid (Dq w_ ib sb S k s t d m) := D0.out.drew.stays hbx
  have B1 : Hid (DBus w_ base db rb gb kb hb b wt ht vt) := (B0.out.stays (below_drew (Below.refl _ _))).stays hbx
  have K1 : Kept w w_ (DM sb db gb hb vt) := (K0.trans (Kept.drew _ _) (fun _ _ h => h)).trans (Kept.of_below _ hbx) (fun _ _ h => h)
  clear hbx D0 B0 K0
  generalize w_ = W1 at *
  have i0 := D1.out.i0
  obtain ⟨-, -, -, -, -, -, -, -, -, -, q42⟩ := D1.out.a.told
  have hl1 := hl W1 B1.out
  go_wp2_with (go_at_call 232; refine (hso _).mono ?_; rintro e w2 ⟨rfl, rfl⟩)
  refine hl1.mono ?_
  rintro e w2 ⟨rfl, vt2, B2, T2, M2⟩
  have D2 : Hid (Dq w2 ib sb S k s t d m) := D1.out.kept T2 hfar hnos
  have B2H : Hid (DBus w2 base db rb gb kb hb bg wt ht vt2) := B2
  have K2 : Kept w w2 (DM sb db gb hb vt) := K1.trans T2.dmX (fun _ _ h => h)
  have MM : Hid (Moved w vt vt2) := hmv K1 M2
  clear B2 T2 M2 hl1 hl q42 i0 K1 B1 D1
  have qt := D2.out.a.reg D2.out.ht
  have ft := D2.out.a.fz t
  have ht' : (t : Int) < 32 := by have := D2.out.ht; omega
  go_upto_region 10 with fail
  obtain ⟨W, hWe⟩ : ∃ W, W = w2 := ⟨_, rfl⟩
  rw [← hWe] at D2 B2H K2 qt ft ⊢
  clear hWe
  refine wp_region_phase 7 [(0, 0), (1, 0), (2, 1), (3, 0), (4, 0), (5, 0), (6, 0), (7, 2)] (fun W => Dq W ib sb S k s t d m) (by kernel_rfl) (by kernel_rfl) (fun _ _ _ d _ h => by cases d <;> first | exact h | exact Dq.drew h) D2.out.drew ?_
  repeat (first | (refine wpPlanZ_free (by rfl) (by rfl) (fun W => by (go_simp; try with_reducible rfl)) (fun K hK => ?_); go_simp; refine hK _ ?_; clear hK K) | (refine wpPlanZ_quiet (by rfl) (by rfl) (fun W hW => by (have i2 := hW.i2; go_simp; try with_reducible rfl)) (fun K hK => ?_); go_simp; refine hK _ ?_; clear hK K))
  refine wpPlanZ_serial (by rfl) (by rfl) (fun K hK => ?_)
  go_simp
  refine hK _ _ (fun h => absurd h (by decide)) ?_
  clear hK K
  refine wpPlanZ_nil ?_
  have A1 := (D2.out.a.putR t D2.out.ht v).drew
  have KS : Kept W (W.setCell ⟨sb, t, none⟩ (.int .u32 v)).drew (· = sb) := ((Kept.refl W (· = sb)).put t (.int .u32 v)).trans (Kept.drew _ _) (fun _ _ h => h)
  clear qt ft
  generalize (W.setCell ⟨sb, t, none⟩ (.int .u32 v)).drew = W3 at *
  go_wp2
  go_ret
  exact ⟨rfl, vt2, A1, B2H.out.st KS ap, K2.trans KS.dmS (fun _ _ h => h), MM.out⟩
set_option maxRecDepth 100000 in
set_option maxHeartbeats 8000000 in
theorem stored_w (A : StAt w sb S) (B : DBus w base db rb gb kb hb b wt ht vt) (ap : Dap sb base db rb gb kb hb) (ok : S.ok) (hs : s < 32) (ht' : t < 32) (hd : d < 32) (m0 : 0 ≤ m) (m1 : m < 4294967296) (hn : b.out.length ≤ 1000) (hn2 : b.tr.length ≤ 1000) (hk : 46 ≤ k ∧ k ≤ 53) (hg : sgI k = false) (hbad : bad (adI S k s m) (szI k) = true) : Calls Tryz.prog 193 #[.pointer (some ⟨sb, 0, none⟩), .pointer (some ⟨db, 0, none⟩), .agg #[.int .i64 k, .int .i64 s, .int .i64 t, .int .i64 d, .int .u32 m]] w fun e w' => e = .returned (.int .i64 5) ∧ ∃ vt', StAt w' sb { S with bd := adI S k s m } ∧ DBus w' base db rb gb kb hb (b.put (adI S k s m) (szI k) (S.r t) S.ct) wt (htD wt ht (adI S k s m) (szI k)) vt' ∧ Kept w w' (DM sb db gb hb vt) ∧ Moved w vt vt' := by
  have had : u32 (adI S k s m) := lo_bd _
  have hsz := szI_bd k
  have hwb : u32 (wd m 16 true) := wd_bd m0 m1 _
  have hi := fun W => immOf_any k s t d m m0 m1 W
  have hpl := fun W => plus2_any (S.r s) (wd m 16 true) (ok.r s).1 (ok.r s).2 hwb.1 hwb.2 W
  have hso := fun W => sizeOf_any k hk W
  rw [← adI_eq S k s m hk] at hpl
  have c0 := ok.c0
  have c1 := ok.c1
  have hr := ok.r t
  have hbA : Below w.heap.size w (w.alloc (.cells #[.int .i64 k, .int .i64 s, .int .i64 t, .int .i64 d, .int .u32 m] 113)) := (Below.refl _ _).alloc (Nat.le_refl _) _
  have D0 : Hid (Dq (w.alloc (.cells #[.int .i64 k, .int .i64 s, .int .i64 t, .int .i64 d, .int .u32 m] 113)) w.heap.size sb S k s t d m) := Dq.start A ok k hs ht' hd m0 m1
  have B0 : Hid (DBus (w.alloc (.cells #[.int .i64 k, .int .i64 s, .int .i64 t, .int .i64 d, .int .u32 m] 113)) base db rb gb kb hb b wt ht vt) := B.stays hbA
  have K0 : Kept w (w.alloc (.cells #[.int .i64 k, .int .i64 s, .int .i64 t, .int .i64 d, .int .u32 m] 113)) (DM sb db gb hb vt) := Kept.of_below _ hbA
  have hfar : ¬ DX db gb hb vt w.heap.size := B.far (Nat.le_refl _)
  have hnos : ¬ DX db gb hb vt sb := ap.no B
  have hmv : ∀ {w1 : World} {x y : Value}, Kept w w1 (DM sb db gb hb vt) → Moved w1 x y → Moved w x y := fun h1 h k hk => (h k hk).imp id (fun e => Nat.le_trans h1.size e)
  have hmv := @hmv
  clear A B hbA
  have hl := fun (W : World) (X : DBus W base db rb gb kb hb b wt ht vt) => dbstore_all X (adI S k s m) (szI k) (S.r t) S.ct had.1 had.2 (by omega) (by omega) hr.1 hr.2 hn hn2
  have her : 0 < erD (adI S k s m) (szI k) := erD_pos hbad
  rw [hg, if_neg (by decide)] at hso
  clear hg hbad
  generalize b.put (adI S k s m) (szI k) (S.r t) S.ct = bg at *
  generalize htD wt ht (adI S k s m) (szI k) = hg at *
  generalize erD (adI S k s m) (szI k) = er at *
  generalize adI S k s m = a at *
  generalize szI k = z at *
  generalize wd m 16 true = wi at *
  obtain ⟨z0, z1⟩ := hsz
  obtain ⟨a0, a1⟩ := had
  go_enter Tryz.func193, Tryz.ntmps193
  go_upto_region 1 with fail
  generalize w.alloc (.cells #[.int .i64 k, .int .i64 s, .int .i64 t, .int .i64 d, .int .u32 m] 113) = W at *
  generalize w.heap.size = ib at *
  have i0 := D0.out.i0
  have i1 := D0.out.i1
  have i2 := D0.out.i2
  have i3 := D0.out.i3
  have i4 := D0.out.i4
  have qs := D0.out.a.reg D0.out.hs
  have fs := D0.out.a.fz s
  have hs' : (s : Int) < 32 := by have := D0.out.hs; omega
  clear i0 i2 i3 i4 qs fs i1
  go_upto_region 1 with fail
  refine wp_region_phase 11 [(0, 0), (1, 0), (2, 1), (3, 0), (4, 0), (5, 0), (6, 1), (7, 1), (8, 2), (9, 2), (10, 0)] (fun W => Dq W ib sb S k s t d m) (by kernel_rfl) (by kernel_rfl) (fun _ _ _ d _ h => by cases d <;> first | exact h | exact Dq.drew h) D0.out.drew ?_
  repeat (first | (refine wpPlanZ_free (by rfl) (by rfl) (fun W => by (go_simp; try with_reducible rfl)) (fun K hK => ?_); go_simp; refine hK _ ?_; clear hK K) | (refine wpPlanZ_quiet (by rfl) (by rfl) (fun W hW => by (have i0 := hW.i0; have i1 := hW.i1; have i2 := hW.i2; have i3 := hW.i3; have i4 := hW.i4; have qs := hW.a.reg hW.hs; go_simp; try with_reducible rfl)) (fun K hK => ?_); go_simp; refine hK _ ?_; clear hK K))
  refine wpPlanZ_serial (by rfl) (by rfl) (fun K hK => ?_)
  go_simp
  refine (hi _).mono ?_
  rintro e_ w_ ⟨rfl, hbx⟩
  refine hK _ _ (fun _ => D0.out.drew.stays hbx) ?_
  clear hK K
  repeat (first | (refine wpPlanZ_free (by rfl) (by rfl) (fun W => by (go_simp; try with_reducible rfl)) (fun K hK => ?_); go_simp; refine hK _ ?_; clear hK K) | (refine wpPlanZ_quiet (by rfl) (by rfl) (fun W hW => by (have i0 := hW.i0; have i1 := hW.i1; have i2 := hW.i2; have i3 := hW.i3; have i4 := hW.i4; have qs := hW.a.reg hW.hs; go_simp; try with_reducible rfl)) (fun K hK => ?_); go_simp; refine hK _ ?_; clear hK K))
  refine wpPlanZ_serial (by rfl) (by rfl) (fun K hK => ?_)
  go_simp
  refine (hpl _).mono ?_
  rintro e_ w_ ⟨rfl, rfl⟩
  refine hK _ _ (fun _ => D0.out.drew.stays hbx) ?_
  clear hK K
  repeat (first | (refine wpPlanZ_free (by rfl) (by rfl) (fun W => by (go_simp; try with_reducible rfl)) (fun K hK => ?_); go_simp; refine hK _ ?_; clear hK K) | (refine wpPlanZ_quiet (by rfl) (by rfl) (fun W hW => by (have i0 := hW.i0; have i1 := hW.i1; have i2 := hW.i2; have i3 := hW.i3; have i4 := hW.i4; have qs := hW.a.reg hW.hs; go_simp; try with_reducible rfl)) (fun K hK => ?_); go_simp; refine hK _ ?_; clear hK K))
  refine wpPlanZ_nil ?_
  have D1 : Hid (Dq w_ ib sb S k s t d m) := D0.out.drew.stays hbx
  have B1 : Hid (DBus w_ base db rb gb kb hb b wt ht vt) := (B0.out.stays (below_drew (Below.refl _ _))).stays hbx
  have K1 : Kept w w_ (DM sb db gb hb vt) := (K0.trans (Kept.drew _ _) (fun _ _ h => h)).trans (Kept.of_below _ hbx) (fun _ _ h => h)
  clear hbx D0 B0 K0
  generalize w_ = W1 at *
  have hl1 := hl W1.drew (B1.out.stays (below_drew (Below.refl _ _)))
  have qt := D1.out.a.reg D1.out.ht
  have ft := D1.out.a.fz t
  have ht' : (t : Int) < 32 := by have := D1.out.ht; omega
  clear qt ft
  go_upto_region 2 with fail
  refine wp_region_phase 18 [(0, 0), (1, 0), (2, 0), (3, 1), (5, 0), (6, 0), (7, 1), (8, 0), (9, 0), (10, 0), (11, 1), (12, 0), (13, 0), (14, 0), (15, 1), (4, 2), (16, 2), (17, 0)] (fun W => Dq W ib sb S k s t d m) (by kernel_rfl) (by kernel_rfl) (fun _ _ _ d _ h => by cases d <;> first | exact h | exact Dq.drew h) D1.out.drew ?_
  repeat (first | (refine wpPlanZ_free (by rfl) (by rfl) (fun W => by (go_simp; try with_reducible rfl)) (fun K hK => ?_); go_simp; refine hK _ ?_; clear hK K) | (refine wpPlanZ_quiet (by rfl) (by rfl) (fun W hW => by (have i0 := hW.i0; have i2 := hW.i2; have qt := hW.a.reg hW.ht; have q42 := hW.a.told.2.2.2.2.2.2.2.2.2.2; go_simp; try with_reducible rfl)) (fun K hK => ?_); go_simp; refine hK _ ?_; clear hK K))
  refine wpPlanZ_serial (by rfl) (by rfl) (fun K hK => ?_)
  go_simp
  refine (hso _).mono ?_
  rintro e_ w_ ⟨rfl, rfl⟩
  refine hK _ _ (fun _ => D1.out.drew) ?_
  clear hK K
  repeat (first | (refine wpPlanZ_free (by rfl) (by rfl) (fun W => by (go_simp; try with_reducible rfl)) (fun K hK => ?_); go_simp; refine hK _ ?_; clear hK K) | (refine wpPlanZ_quiet (by rfl) (by rfl) (fun W hW => by (have i0 := hW.i0; have i2 := hW.i2; have qt := hW.a.reg hW.ht; have q42 := hW.a.told.2.2.2.2.2.2.2.2.2.2; go_simp; try with_reducible rfl)) (fun K hK => ?_); go_simp; refine hK _ ?_; clear hK K))
  refine wpPlanZ_serial (by rfl) (by rfl) (fun K hK => ?_)
  go_simp
  refine hl1.mono ?_
  rintro e_ w2 ⟨rfl, vt2, B2, T2, M2⟩
  refine hK _ _ (fun _ => D1.out.drew.kept T2 hfar hnos) ?_
  clear hK K
  repeat (first | (refine wpPlanZ_free (by rfl) (by rfl) (fun W => by (go_simp; try with_reducible rfl)) (fun K hK => ?_); go_simp; refine hK _ ?_; clear hK K) | (refine wpPlanZ_quiet (by rfl) (by rfl) (fun W hW => by (have i0 := hW.i0; have i2 := hW.i2; have qt := hW.a.reg hW.ht; have q42 := hW.a.told.2.2.2.2.2.2.2.2.2.2; go_simp; try with_reducible rfl)) (fun K hK => ?_); go_simp; refine hK _ ?_; clear hK K))
  refine wpPlanZ_nil ?_
  have D2 : Hid (Dq w2 ib sb S k s t d m) := D1.out.drew.kept T2 hfar hnos
  have B2H : Hid (DBus w2 base db rb gb kb hb bg wt hg vt2) := B2
  have KD : Kept w W1.drew (DM sb db gb hb vt) := K1.trans (Kept.drew _ _) (fun _ _ h => h)
  have K2 : Kept w w2 (DM sb db gb hb vt) := KD.trans T2.dmX (fun _ _ h => h)
  have MM : Hid (Moved w vt vt2) := hmv KD M2
  clear B2 T2 M2 hl1 hl K1 B1 D1 KD
  generalize w2 = W2 at *
  obtain ⟨-, -, -, -, -, -, -, -, q40, -⟩ := D2.out.a.told
  have f40 := D2.out.a.fz 40
  have A1 := D2.out.a.putBd a
  have KS : Kept W2 (W2.setCell ⟨sb, 40, none⟩ (.int .u32 a)) (· = sb) := Kept.setCell _ _ _ _ rfl
  go_wp2
  go_ret
  exact ⟨rfl, vt2, A1, B2H.out.st KS ap, K2.trans KS.dmS (fun _ _ h => h), MM.out⟩
set_option maxRecDepth 100000 in
set_option maxHeartbeats 8000000 in
theorem stored_r (A : StAt w sb S) (B : DBus w base db rb gb kb hb b wt ht vt) (ap : Dap sb base db rb gb kb hb) (ok : S.ok) (hs : s < 32) (ht' : t < 32) (hd : d < 32) (m0 : 0 ≤ m) (m1 : m < 4294967296) (hn : b.out.length ≤ 1000) (hn2 : b.tr.length ≤ 1000) (hk : 46 ≤ k ∧ k ≤ 53) (hg : sgI k = false) (hbad : bad (adI S k s m) (szI k) = false) : Calls Tryz.prog 193 #[.pointer (some ⟨sb, 0, none⟩), .pointer (some ⟨db, 0, none⟩), .agg #[.int .i64 k, .int .i64 s, .int .i64 t, .int .i64 d, .int .u32 m]] w fun e w' => e = .returned (.int .i64 (-1)) ∧ ∃ vt', StAt w' sb S ∧ DBus w' base db rb gb kb hb (b.put (adI S k s m) (szI k) (S.r t) S.ct) wt (htD wt ht (adI S k s m) (szI k)) vt' ∧ Kept w w' (DM sb db gb hb vt) ∧ Moved w vt vt' := by
  have had : u32 (adI S k s m) := lo_bd _
  have hsz := szI_bd k
  have hwb : u32 (wd m 16 true) := wd_bd m0 m1 _
  have hi := fun W => immOf_any k s t d m m0 m1 W
  have hpl := fun W => plus2_any (S.r s) (wd m 16 true) (ok.r s).1 (ok.r s).2 hwb.1 hwb.2 W
  have hso := fun W => sizeOf_any k hk W
  rw [← adI_eq S k s m hk] at hpl
  have c0 := ok.c0
  have c1 := ok.c1
  have hr := ok.r t
  have hbA : Below w.heap.size w (w.alloc (.cells #[.int .i64 k, .int .i64 s, .int .i64 t, .int .i64 d, .int .u32 m] 113)) := (Below.refl _ _).alloc (Nat.le_refl _) _
  have D0 : Hid (Dq (w.alloc (.cells #[.int .i64 k, .int .i64 s, .int .i64 t, .int .i64 d, .int .u32 m] 113)) w.heap.size sb S k s t d m) := Dq.start A ok k hs ht' hd m0 m1
  have B0 : Hid (DBus (w.alloc (.cells #[.int .i64 k, .int .i64 s, .int .i64 t, .int .i64 d, .int .u32 m] 113)) base db rb gb kb hb b wt ht vt) := B.stays hbA
  have K0 : Kept w (w.alloc (.cells #[.int .i64 k, .int .i64 s, .int .i64 t, .int .i64 d, .int .u32 m] 113)) (DM sb db gb hb vt) := Kept.of_below _ hbA
  have hfar : ¬ DX db gb hb vt w.heap.size := B.far (Nat.le_refl _)
  have hnos : ¬ DX db gb hb vt sb := ap.no B
  have hmv : ∀ {w1 : World} {x y : Value}, Kept w w1 (DM sb db gb hb vt) → Moved w1 x y → Moved w x y := fun h1 h k hk => (h k hk).imp id (fun e => Nat.le_trans h1.size e)
  have hmv := @hmv
  clear A B hbA
  have hl := fun (W : World) (X : DBus W base db rb gb kb hb b wt ht vt) => dbstore_all X (adI S k s m) (szI k) (S.r t) S.ct had.1 had.2 (by omega) (by omega) hr.1 hr.2 hn hn2
  have her : erD (adI S k s m) (szI k) = 0 := erD_zero hbad
  rw [her] at hl
  rw [hg, if_neg (by decide)] at hso
  clear hg hbad
  generalize b.put (adI S k s m) (szI k) (S.r t) S.ct = bg at *
  generalize htD wt ht (adI S k s m) (szI k) = hg at *
  clear her
  generalize adI S k s m = a at *
  generalize szI k = z at *
  generalize wd m 16 true = wi at *
  obtain ⟨z0, z1⟩ := hsz
  obtain ⟨a0, a1⟩ := had
  go_enter Tryz.func193, Tryz.ntmps193
  go_upto_region 1 with fail
  generalize w.alloc (.cells #[.int .i64 k, .int .i64 s, .int .i64 t, .int .i64 d, .int .u32 m] 113) = W at *
  generalize w.heap.size = ib at *
  have i0 := D0.out.i0
  have i1 := D0.out.i1
  have i2 := D0.out.i2
  have i3 := D0.out.i3
  have i4 := D0.out.i4
  have qs := D0.out.a.reg D0.out.hs
  have fs := D0.out.a.fz s
  have hs' : (s : Int) < 32 := by have := D0.out.hs; omega
  clear i0 i2 i3 i4 qs fs i1
  go_upto_region 1 with fail
  refine wp_region_phase 11 [(0, 0), (1, 0), (2, 1), (3, 0), (4, 0), (5, 0), (6, 1), (7, 1), (8, 2), (9, 2), (10, 0)] (fun W => Dq W ib sb S k s t d m) (by kernel_rfl) (by kernel_rfl) (fun _ _ _ d _ h => by cases d <;> first | exact h | exact Dq.drew h) D0.out.drew ?_
  repeat (first | (refine wpPlanZ_free (by rfl) (by rfl) (fun W => by (go_simp; try with_reducible rfl)) (fun K hK => ?_); go_simp; refine hK _ ?_; clear hK K) | (refine wpPlanZ_quiet (by rfl) (by rfl) (fun W hW => by (have i0 := hW.i0; have i1 := hW.i1; have i2 := hW.i2; have i3 := hW.i3; have i4 := hW.i4; have qs := hW.a.reg hW.hs; go_simp; try with_reducible rfl)) (fun K hK => ?_); go_simp; refine hK _ ?_; clear hK K))
  refine wpPlanZ_serial (by rfl) (by rfl) (fun K hK => ?_)
  go_simp
  refine (hi _).mono ?_
  rintro e_ w_ ⟨rfl, hbx⟩
  refine hK _ _ (fun _ => D0.out.drew.stays hbx) ?_
  clear hK K
  repeat (first | (refine wpPlanZ_free (by rfl) (by rfl) (fun W => by (go_simp; try with_reducible rfl)) (fun K hK => ?_); go_simp; refine hK _ ?_; clear hK K) | (refine wpPlanZ_quiet (by rfl) (by rfl) (fun W hW => by (have i0 := hW.i0; have i1 := hW.i1; have i2 := hW.i2; have i3 := hW.i3; have i4 := hW.i4; have qs := hW.a.reg hW.hs; go_simp; try with_reducible rfl)) (fun K hK => ?_); go_simp; refine hK _ ?_; clear hK K))
  refine wpPlanZ_serial (by rfl) (by rfl) (fun K hK => ?_)
  go_simp
  refine (hpl _).mono ?_
  rintro e_ w_ ⟨rfl, rfl⟩
  refine hK _ _ (fun _ => D0.out.drew.stays hbx) ?_
  clear hK K
  repeat (first | (refine wpPlanZ_free (by rfl) (by rfl) (fun W => by (go_simp; try with_reducible rfl)) (fun K hK => ?_); go_simp; refine hK _ ?_; clear hK K) | (refine wpPlanZ_quiet (by rfl) (by rfl) (fun W hW => by (have i0 := hW.i0; have i1 := hW.i1; have i2 := hW.i2; have i3 := hW.i3; have i4 := hW.i4; have qs := hW.a.reg hW.hs; go_simp; try with_reducible rfl)) (fun K hK => ?_); go_simp; refine hK _ ?_; clear hK K))
  refine wpPlanZ_nil ?_
  have D1 : Hid (Dq w_ ib sb S k s t d m) := D0.out.drew.stays hbx
  have B1 : Hid (DBus w_ base db rb gb kb hb b wt ht vt) := (B0.out.stays (below_drew (Below.refl _ _))).stays hbx
  have K1 : Kept w w_ (DM sb db gb hb vt) := (K0.trans (Kept.drew _ _) (fun _ _ h => h)).trans (Kept.of_below _ hbx) (fun _ _ h => h)
  clear hbx D0 B0 K0
  generalize w_ = W1 at *
  have hl1 := hl W1.drew (B1.out.stays (below_drew (Below.refl _ _)))
  have qt := D1.out.a.reg D1.out.ht
  have ft := D1.out.a.fz t
  have ht' : (t : Int) < 32 := by have := D1.out.ht; omega
  clear qt ft
  go_upto_region 2 with fail
  refine wp_region_phase 18 [(0, 0), (1, 0), (2, 0), (3, 1), (5, 0), (6, 0), (7, 1), (8, 0), (9, 0), (10, 0), (11, 1), (12, 0), (13, 0), (14, 0), (15, 1), (4, 2), (16, 2), (17, 0)] (fun W => Dq W ib sb S k s t d m) (by kernel_rfl) (by kernel_rfl) (fun _ _ _ d _ h => by cases d <;> first | exact h | exact Dq.drew h) D1.out.drew ?_
  repeat (first | (refine wpPlanZ_free (by rfl) (by rfl) (fun W => by (go_simp; try with_reducible rfl)) (fun K hK => ?_); go_simp; refine hK _ ?_; clear hK K) | (refine wpPlanZ_quiet (by rfl) (by rfl) (fun W hW => by (have i0 := hW.i0; have i2 := hW.i2; have qt := hW.a.reg hW.ht; have q42 := hW.a.told.2.2.2.2.2.2.2.2.2.2; go_simp; try with_reducible rfl)) (fun K hK => ?_); go_simp; refine hK _ ?_; clear hK K))
  refine wpPlanZ_serial (by rfl) (by rfl) (fun K hK => ?_)
  go_simp
  refine (hso _).mono ?_
  rintro e_ w_ ⟨rfl, rfl⟩
  refine hK _ _ (fun _ => D1.out.drew) ?_
  clear hK K
  repeat (first | (refine wpPlanZ_free (by rfl) (by rfl) (fun W => by (go_simp; try with_reducible rfl)) (fun K hK => ?_); go_simp; refine hK _ ?_; clear hK K) | (refine wpPlanZ_quiet (by rfl) (by rfl) (fun W hW => by (have i0 := hW.i0; have i2 := hW.i2; have qt := hW.a.reg hW.ht; have q42 := hW.a.told.2.2.2.2.2.2.2.2.2.2; go_simp; try with_reducible rfl)) (fun K hK => ?_); go_simp; refine hK _ ?_; clear hK K))
  refine wpPlanZ_serial (by rfl) (by rfl) (fun K hK => ?_)
  go_simp
  refine hl1.mono ?_
  rintro e_ w2 ⟨rfl, vt2, B2, T2, M2⟩
  refine hK _ _ (fun _ => D1.out.drew.kept T2 hfar hnos) ?_
  clear hK K
  repeat (first | (refine wpPlanZ_free (by rfl) (by rfl) (fun W => by (go_simp; try with_reducible rfl)) (fun K hK => ?_); go_simp; refine hK _ ?_; clear hK K) | (refine wpPlanZ_quiet (by rfl) (by rfl) (fun W hW => by (have i0 := hW.i0; have i2 := hW.i2; have qt := hW.a.reg hW.ht; have q42 := hW.a.told.2.2.2.2.2.2.2.2.2.2; go_simp; try with_reducible rfl)) (fun K hK => ?_); go_simp; refine hK _ ?_; clear hK K))
  refine wpPlanZ_nil ?_
  have D2 : Hid (Dq w2 ib sb S k s t d m) := D1.out.drew.kept T2 hfar hnos
  have B2H : Hid (DBus w2 base db rb gb kb hb bg wt hg vt2) := B2
  have KD : Kept w W1.drew (DM sb db gb hb vt) := K1.trans (Kept.drew _ _) (fun _ _ h => h)
  have K2 : Kept w w2 (DM sb db gb hb vt) := KD.trans T2.dmX (fun _ _ h => h)
  have MM : Hid (Moved w vt vt2) := hmv KD M2
  clear B2 T2 M2 hl1 hl K1 B1 D1 KD
  generalize w2 = W2 at *
  have A1 := D2.out.a
  go_wp2
  go_ret
  exact ⟨rfl, vt2, A1, B2H.out, K2, MM.out⟩
theorem loadD_any (A : StAt w sb S) (B : DBus w base db rb gb kb hb b wt ht vt) (ap : Dap sb base db rb gb kb hb) (ok : S.ok) (hs : s < 32) (ht' : t < 32) (hd : d < 32) (m0 : 0 ≤ m) (m1 : m < 4294967296) (hn : b.out.length ≤ 1000) (hn2 : b.tr.length ≤ 1000) (hk : 46 ≤ k ∧ k ≤ 53) : Calls Tryz.prog 192 #[.pointer (some ⟨sb, 0, none⟩), .pointer (some ⟨db, 0, none⟩), .agg #[.int .i64 k, .int .i64 s, .int .i64 t, .int .i64 d, .int .u32 m]] w fun e w' => e = .returned (.int .i64 (if bad (adI S k s m) (szI k) = true then 4 else -1)) ∧ ∃ vt', StAt w' sb (if bad (adI S k s m) (szI k) = true then { S with bd := adI S k s m } else S.putR t (b.val (adI S k s m) (szI k) (sgI k) S.ct)) ∧ DBus w' base db rb gb kb hb (b.got (adI S k s m) (szI k) S.ct) wt ht vt' ∧ Kept w w' (DM sb db gb hb vt) ∧ Moved w vt vt' := by
  cases hbad : bad (adI S k s m) (szI k) with
  | true =>
    rw [if_pos rfl, if_pos rfl]
    cases hg : sgI k with
    | true => exact loadd_sw A B ap ok hs ht' hd m0 m1 hn hn2 hk hg hbad
    | false => exact loadd_uw A B ap ok hs ht' hd m0 m1 hn hn2 hk hg hbad
  | false =>
    rw [if_neg (by decide), if_neg (by decide)]
    cases hg : sgI k with
    | true => have h := loadd_sr (d := d) A B ap ok hs ht' hd m0 m1 hn hn2 hk hg hbad; rw [hg] at h; exact h
    | false => have h := loadd_ur (d := d) A B ap ok hs ht' hd m0 m1 hn hn2 hk hg hbad; rw [hg] at h; exact h
theorem storeD_any (A : StAt w sb S) (B : DBus w base db rb gb kb hb b wt ht vt) (ap : Dap sb base db rb gb kb hb) (ok : S.ok) (hs : s < 32) (ht' : t < 32) (hd : d < 32) (m0 : 0 ≤ m) (m1 : m < 4294967296) (hn : b.out.length ≤ 1000) (hn2 : b.tr.length ≤ 1000) (hk : 51 ≤ k ∧ k ≤ 53) : Calls Tryz.prog 193 #[.pointer (some ⟨sb, 0, none⟩), .pointer (some ⟨db, 0, none⟩), .agg #[.int .i64 k, .int .i64 s, .int .i64 t, .int .i64 d, .int .u32 m]] w fun e w' => e = .returned (.int .i64 (if bad (adI S k s m) (szI k) = true then 5 else -1)) ∧ ∃ vt', StAt w' sb (if bad (adI S k s m) (szI k) = true then { S with bd := adI S k s m } else S) ∧ DBus w' base db rb gb kb hb (b.put (adI S k s m) (szI k) (S.r t) S.ct) wt (htD wt ht (adI S k s m) (szI k)) vt' ∧ Kept w w' (DM sb db gb hb vt) ∧ Moved w vt vt' := by
  have hg : sgI k = false := by unfold sgI; simp; omega
  cases hbad : bad (adI S k s m) (szI k) with
  | true => rw [if_pos rfl, if_pos rfl]; exact stored_w A B ap ok hs ht' hd m0 m1 hn hn2 (by omega) hg hbad
  | false => rw [if_neg (by decide), if_neg (by decide)]; exact stored_r A B ap ok hs ht' hd m0 m1 hn hn2 (by omega) hg hbad
end
end Go.Proofs.YtflagpkmebdckaaGreatDoor
