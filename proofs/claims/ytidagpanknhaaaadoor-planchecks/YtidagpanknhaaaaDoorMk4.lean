/-
  Package plan: place.
-/
import Derived.Test.YtidagpanknhaaaaDoorMk3
import Derived.Test.YtidagpanknhaaaaDoorEach0
namespace Go.Proofs.YtidagpanknhaaaaDoor
open Go.RowKit Go.Maps
open Num
set_option linter.unusedVariables false
theorem MkC.put0 {W : World} {mb : Nat} {M : Mk} {vr : Value} (C : MkC W mb M vr) (v : Value) : MkC (W.setCell ⟨mb, 0, none⟩ v) mb M v := by
  refine RowIs.put C 0 _ _ rfl (fun j hj hne => ?_)
  unfold mkF; rw [if_neg hne, if_neg hne]
structure CkR (W : World) (mb g n xb : Nat) (vr u : Value) (o : Opx) : Prop where
  a : W.cell? ⟨mb, 0, none⟩ = some vr
  b : W.cell? ⟨g, n, none⟩ = some u
  x : BoxP W xb o
theorem modify_last (rs : List (List Opx)) (o : Opx) : (rs ++ [[]]).modify rs.length (· ++ [o]) = rs ++ [[o]] := by
  induction rs with
  | nil => rfl
  | cons r rs ih => simp [ih]
theorem op_news (w : World) (o : Opx) : ∀ j u, (opC o)[j]? = some u → (w.alloc (.cells #[.string o.s, .int .i64 o.d, .int .i64 o.a, .int .i64 o.b, .int .u32 o.i, .int .i64 o.t] 42)).drew.cell? ((⟨w.heap.size, 0, none⟩ : Addr).add j) = some u := by
  intro j u h
  rw [add_lit]
  have : (w.alloc (.cells #[.string o.s, .int .i64 o.d, .int .i64 o.a, .int .i64 o.b, .int .u32 o.i, .int .i64 o.t] 42)).cell? ⟨w.heap.size, j, none⟩ = (#[.string o.s, .int .i64 o.d, .int .i64 o.a, .int .i64 o.b, .int .u32 o.i, .int .i64 o.t] : Array Value)[j]? := cell_of_row _ _ _ _ _ _ (heap_alloc_new w _)
  show (w.alloc (.cells #[.string o.s, .int .i64 o.d, .int .i64 o.a, .int .i64 o.b, .int .u32 o.i, .int .i64 o.t] 42)).cell? ⟨w.heap.size, j, none⟩ = _
  rw [this, List.getElem?_toArray]; exact h
theorem opC_one (o : Opx) : ∀ u ∈ opC o, u.oneCell' = true := by
  intro u h; simp [opC] at h; rcases h with rfl | rfl | rfl | rfl | rfl | rfl <;> rfl
set_option maxRecDepth 100000 in
set_option maxHeartbeats 8000000 in
theorem place_any {w : World} {base mb : Nat} {M : Mk} {vr : Value} {us : List Value} (hst : Mst w) (C : MkC w mb M vr) (R : RwAt w base vr us M.rows) (hb : mb < base) (hbase : base ≤ w.heap.size) (hmg : 11 < mb) (H : MkOk M) (F : Few M.rows) (hF9 : M.rows.length < 1000) (hF8 : ∀ r ∈ M.rows, r.length < 1000) (o : Opx) (ok : o.ok) {many : Int} (ho : opE o many = 0) :
    Calls Tryd.prog 22 #[.pointer (some ⟨mb, 0, none⟩), opV o] w fun e w' => e = .returned (.tuple #[]) ∧ (∃ vr' us', MkC w' mb (place M o) vr' ∧ RwAt w' base vr' us' (place M o).rows) ∧ Below mb w w' := by
  have hmb := C.lt
  have B0 : Below w.heap.size w (w.alloc (.cells #[.string o.s, .int .i64 o.d, .int .i64 o.a, .int .i64 o.b, .int .u32 o.i, .int .i64 o.t] 42)) := (Below.refl _ _).alloc (Nat.le_refl _) _
  have bx := BoxP.new w o
  have C1 := C.stays B0
  have R1 := R.stays B0
  have S1 := hst.stays B0
  obtain ⟨ar, cr, hvr, _, _⟩ := R.rows
  have hfi := first_any (by rw [hvr] at C1; exact C1) H (by have := F.1; omega) o ho
  have HVR : Hid (vr = .slice ar M.rows.length cr) := hvr
  clear hvr
  have hfr := frR_le H o
  have HRN : Hid (rowN M o = frR M o + (M.rows.drop (frR M o)).findIdx (roomB o)) := rfl
  have hrl : Hid (rowN M o ≤ M.rows.length) := rowN_le H o
  have HNT : Hid (∀ W vr', MkC W mb M vr' → ∀ n : Nat, n ≤ 1000 → Calls Tryd.prog 41 #[.pointer (some ⟨mb, 0, none⟩), opV o, .int .i64 (n : Int)] W fun e w' => e = .returned (.tuple #[]) ∧ MkC w' mb (note { M with rows := putR M.rows (rowN M o) o } o n) vr' ∧ W.grownBy w' (some mb)) := fun W vr' hC n hn => note_any (M := { M with rows := putR M.rows (rowN M o) o }) hC (fun r => by have := H.ask r; have := F.1; show M.ask r ≤ 100000; omega) (by have := H.bM; have := F.1; show M.bM ≤ 100000; omega) o ho n (by omega)
  have OKH : Hid o.ok := ok
  have FH : Hid (Few M.rows) := F
  have H8 : Hid (∀ r ∈ M.rows, r.length < 1000) := hF8
  have hmf : ∀ (fn : Fn) (first cap : Array Value) (w : World), (Instr.makeFunc fn first cap).run Tryd.prog w = .ok (.func fn first cap) w := fun _ _ _ _ => rfl
  have VLT : Hid (∀ k, vr.ownBlock = some k → base ≤ k ∧ k < w.heap.size) := R.vlt
  have ULT : Hid (∀ (k : Nat) (u : Value), us[k]? = some u → ∀ g, u.ownBlock = some g → base ≤ g ∧ g < w.heap.size) := fun k u hu => R.ult hu
  obtain ⟨i0, hi, hz0, hz1, hz2⟩ := info_parts infoOp
  obtain ⟨i1, hj, hy0, hy1, hy2⟩ := info_parts infoOpsP
  obtain ⟨PM, hPM⟩ : ∃ PM, place M o = PM := ⟨_, rfl⟩
  have HPM : Hid (place M o = PM) := hPM
  rw [hPM]
  clear C R hst hPM ok H F hF8
  unfold opV at hfi ⊢
  generalize hf : frR M o = f at *
  clear hf
  go_enter Tryd.func22, Tryd.ntmps22
  go_upto_region 1 with fail
  generalize w.alloc (.cells #[.string o.s, .int .i64 o.d, .int .i64 o.a, .int .i64 o.b, .int .u32 o.i, .int .i64 o.t] 42) = V at *
  have HC : Hid (MkC V mb M vr) := C1
  have HR : Hid (RwAt V base vr us M.rows) := R1
  have HS : Hid (Mst V) := S1
  have HX : Hid (BoxP V w.heap.size o) := bx
  have HB : Hid (Below w.heap.size w V) := B0
  have zx := bx.lt
  obtain ⟨c0, c1, c2, c3, c4, c5⟩ := bx
  clear C1 R1 S1 B0
  go_wp2_with fail
  refine hfi.mono ?_
  rintro e w2 ⟨rfl, hb2⟩
  have HB2 : Hid (Below w.heap.size w w2) := HB.out.trans (hb2.mono HB.out.size)
  have HC2 : Hid (MkC w2 mb M vr) := HC.out.stays hb2
  have HR2 : Hid (RwAt w2 base vr us M.rows) := HR.out.stays hb2
  have HX2 : Hid (BoxP w2 w.heap.size o) := HX.out.stays hb2
  obtain ⟨X, hsl, hXI⟩ := HR2.out.drop f hfr (by have := FH.out.1; omega)
  have hix := idxRows_any (HS.out.stays hb2) hXI ⟨by have := FH.out.1; rw [List.length_drop]; omega, fun r hr => FH.out.2 r (List.mem_of_mem_drop hr)⟩ o w.heap.size HX2.out
  have d0 := HC2.out.c0
  have zm2 := HC2.out.lt
  obtain ⟨aX, kX, rfl, _, _⟩ := hXI
  have HDL : Hid ((M.rows.drop f).length = M.rows.length - f) := List.length_drop
  rw [List.length_drop] at hix hsl
  clear hfi hb2 HB HC HR HS HX c0 c1 c2 c3 c4 c5 zx
  go_wp2_with fail
  refine hix.mono ?_
  rintro e w3 ⟨⟨r, rfl, hr⟩, hb3⟩
  have HB3 : Hid (Below w.heap.size w w3) := HB2.out.trans (hb3.mono HB2.out.size)
  have HC3 : Hid (MkC w3 mb M vr) := HC2.out.stays hb3
  have HR3 : Hid (RwAt w3 base vr us M.rows) := HR2.out.stays hb3
  have HX3 : Hid (BoxP w3 w.heap.size o) := HX2.out.stays hb3
  have hf3 : f ≤ 100000 := by have := FH.out.1; omega
  clear hix hb3 HB2 HC2 HR2 HX2 d0 zm2 hsl
  have hdl := HDL.out
  clear HDL
  rcases hr with ⟨rfl, hrlt⟩ | ⟨rfl, hreq⟩
  · obtain ⟨n, hn⟩ : ∃ n, rowN M o = n := ⟨_, rfl⟩
    have hni : (f : Int) + ((M.rows.drop f).findIdx (roomB o) : Int) = (n : Int) := by have := HRN.out; omega
    have hnl : n < M.rows.length := by have := HRN.out; omega
    have HN : Hid (rowN M o = n) := hn
    have HPR : Hid (putR M.rows n o = M.rows.modify n (· ++ [o])) := by show _ = _; unfold putR; rw [if_pos hnl]
    clear hn HRN hrl hdl
    generalize ((M.rows.drop f).findIdx (roomB o) : Nat) = j at *
    have hnl2 := hF9
    obtain ⟨g, cap, hvg, hcap, hgb, hgc⟩ := HR3.out.form (by omega)
    subst hvg
    have HW : Hid (Below w.heap.size w w3) := HB3.out
    have WL : Hid (∀ k, k < w.heap.size → k ≠ g → w3.heap[k]? = w.heap[k]?) := fun k hk _ => HB3.out.block k hk
    have hgw : g < w.heap.size := (VLT.out g rfl).2
    have hgx : g ≠ w.heap.size := by omega
    have hws := HB3.out.size
    generalize hL : M.rows.length = L at *
    obtain ⟨u, hu⟩ : ∃ u, us[n]? = some u := ⟨_, List.getElem?_eq_getElem (by rw [HR3.out.len, hL]; exact hnl)⟩
    obtain ⟨row, hrow⟩ : ∃ r, M.rows[n]? = some r := ⟨_, List.getElem?_eq_getElem (by rw [hL]; exact hnl)⟩
    have hrw8 : row.length < 1000 := H8.out row (List.mem_of_getElem? hrow)
    have hub : ∀ k, u.ownBlock = some k → base ≤ k ∧ k ≠ w.heap.size := fun k e => by have := ULT.out n u hu k e; omega
    have HPM2 : Hid (PM = note { M with rows := M.rows.modify n (· ++ [o]) } o n) := by show _ = _; rw [← HPM.out]; unfold place; rw [HN.out, HPR.out]
    have HB4 : Hid (Below mb w w3) := HB3.out.mono (by omega)
    have S4 : w.heap.size ≤ w3.heap.size := hws
    have hgc' := hgc
    clear HB3 HW WL hgc' VLT
    have HB3 : Hid (Below mb w w3) := HB4.out
    clear HB4
    generalize hRS : M.rows = RS at *
    generalize hUS : us = US at *
    generalize w3 = w5 at *
    have hgn : w5.cell? ⟨g, n, none⟩ = some u := by
      obtain ⟨g', c', e, _, _, hc⟩ := HR3.out.form (by omega)
      injection e with e1 e2 e3
      injection e1 with e1
      injection e1 with e1
      subst e1
      exact hc n u hu
    have d0 := HC3.out.c0
    have zm := HC3.out.lt
    have zg := World.block_lt_of_cell? _ _ hgn
    have zx := HX3.out.lt
    have ck : CkR w5 mb g n w.heap.size (.slice (some ⟨g, 0, none⟩) L cap) u o := ⟨d0, hgn, HX3.out⟩
    have hmg2 : mb ≠ g := by omega
    have hnl' : (n : Int) < (L : Int) := by omega
    have BA : Below w5.heap.size w5 (w5.alloc (.cells #[.string o.s, .int .i64 o.d, .int .i64 o.a, .int .i64 o.b, .int .u32 o.i, .int .i64 o.t] 42)).drew := ((Below.refl _ _).alloc (Nat.le_refl _) _).drew
    have RA := HR3.out.stays BA
    have hne6 := op_news w5 o
    have CKA : CkR (w5.alloc (.cells #[.string o.s, .int .i64 o.d, .int .i64 o.a, .int .i64 o.b, .int .u32 o.i, .int .i64 o.t] 42)).drew mb g n w.heap.size (.slice (some ⟨g, 0, none⟩) L cap) u o := ⟨(BA.cell (p := ⟨mb, 0, none⟩) zm).trans d0, (BA.cell (p := ⟨g, n, none⟩) zg).trans hgn, HX3.out.stays BA⟩
    have CA := HC3.out.stays BA
    have sA : w5.heap.size < (w5.alloc (.cells #[.string o.s, .int .i64 o.d, .int .i64 o.a, .int .i64 o.b, .int .u32 o.i, .int .i64 o.t] 42)).drew.heap.size := by show _ < (w5.alloc _).heap.size; rw [World.size_alloc]; omega
    have FA : Hid (∀ v' w4, w4.ownsRow base 42 6 v' (row.length + 1) (opL row ++ opC o) → (w5.alloc (.cells #[.string o.s, .int .i64 o.d, .int .i64 o.a, .int .i64 o.b, .int .u32 o.i, .int .i64 o.t] 42)).drew.grownBy w4 u.ownBlock → Moved (w5.alloc (.cells #[.string o.s, .int .i64 o.d, .int .i64 o.a, .int .i64 o.b, .int .u32 o.i, .int .i64 o.t] 42)).drew u v' → RwAt (w4.setCell ⟨g, n, none⟩ v') base (.slice (some ⟨g, 0, none⟩) L cap) (US.set n v') (RS.modify n (· ++ [o])) ∧ CkR w4 mb g n w.heap.size (.slice (some ⟨g, 0, none⟩) L cap) u o ∧ w4.frozen? ⟨g, n, none⟩ = false ∧ MkC (w4.setCell ⟨g, n, none⟩ v') mb M (.slice (some ⟨g, 0, none⟩) L cap) ∧ BoxP (w4.setCell ⟨g, n, none⟩ v') w.heap.size o ∧ Below mb w (w4.setCell ⟨g, n, none⟩ v')) := by
      intro v' w4 ho4 hg4 hm4
      have RA' := RA
      rw [← hL] at RA'
      have hug : ∀ k, u.ownBlock = some k → k ≠ g := fun k e he => (RA.each n u row hu hrow).2 k e (by rw [he]; rfl)
      have bk : ∀ k, k < w5.heap.size → u.ownBlock ≠ some k → w4.heap[k]? = w5.heap[k]? := fun k hk hne => (hg4.block k (by omega) (Ne.symm hne)).trans (BA.block k hk)
      have b1 := bk mb zm (fun e => by have := (hub mb e).1; omega)
      have b2 := bk g zg (fun e => hug g e rfl)
      have b3 := bk w.heap.size zx (fun e => (hub _ e).2 rfl)
      have own4 : w4.ownsRow base 26 1 (.slice (some ⟨g, 0, none⟩) L cap) RS.length US := owns_blocks HR3.out.own fun k e => by
        have : k = g := by simpa [Value.ownBlock] using e.symm
        subst this; exact b2
      have hp := RA'.push hu hrow OKH.out ho4 hg4 hm4
      rw [hL] at hp
      refine ⟨hp, ⟨(World.cell?_of_block (a := ⟨mb, 0, none⟩) b1).trans d0, (World.cell?_of_block (a := ⟨g, n, none⟩) b2).trans hgn, HX3.out.block b3⟩, ?_, ?_, ?_, ?_⟩
      · rw [hL] at own4; exact own4.frozenAt n
      · exact RowIs.block HC3.out ((Below.heap_setCell _ _ _ _ (fun e => hmg2 e)).trans b1)
      · exact (HX3.out.block b3).put (Ne.symm hgx)
      · refine ⟨hg4.os.trans (BA.os.trans HB3.out.os), hg4.tape.trans (BA.tape.trans HB3.out.tape), hg4.output.trans (BA.output.trans HB3.out.output), ?_, fun k hk => ?_⟩
        · rw [World.size_setCell]; have := hg4.size; omega
        · rw [Below.heap_setCell _ _ _ _ (by intro e; have e' : k = g := e; omega)]
          exact (bk k (by omega) (fun e => by have := (hub k e).1; omega)).trans (HB3.out.block k hk)
    have hbA : base ≤ (w5.alloc (.cells #[.string o.s, .int .i64 o.d, .int .i64 o.a, .int .i64 o.b, .int .u32 o.i, .int .i64 o.t] 42)).drew.heap.size := by omega
    have RAO := (RA.each n u row hu hrow).1
    have HRAO : Hid ((w5.alloc (.cells #[.string o.s, .int .i64 o.d, .int .i64 o.a, .int .i64 o.b, .int .u32 o.i, .int .i64 o.t] 42)).drew.ownsRow base 42 6 u row.length (opL row)) := RAO
    have HCKA : Hid (CkR (w5.alloc (.cells #[.string o.s, .int .i64 o.d, .int .i64 o.a, .int .i64 o.b, .int .u32 o.i, .int .i64 o.t] 42)).drew mb g n w.heap.size (.slice (some ⟨g, 0, none⟩) L cap) u o) := CKA
    obtain ⟨au, cu, hue2⟩ : ∃ a c, u = .slice a row.length c := by obtain ⟨a, c, e, _⟩ := (ops_of_row (n := 0) RAO (HR3.out.ok row (List.mem_of_getElem? hrow))).sh; exact ⟨a, c, e⟩
    subst hue2
    have hone := opC_one o
    have hlen6 : (opC o).length = 1 * 6 := rfl
    unfold opC at hne6 hone hlen6
    clear RA CA BA CKA RAO hu hrow hub
    go_wp2
    refine wp_region_phase 16 [(0, 0), (1, 0), (2, 0), (3, 1), (4, 0), (5, 0), (6, 0), (7, 0), (8, 1), (9, 0), (10, 0), (11, 1), (12, 1), (13, 2), (14, 2), (15, 0), (16, 2)] (fun W => CkR W mb g n w.heap.size (.slice (some ⟨g, 0, none⟩) L cap) (.slice au row.length cu) o) (by kernel_rfl) (by kernel_rfl) (fun _ _ _ d _ h => by cases d <;> exact h) ⟨by simpa using ck.a, by simpa using ck.b, ⟨by simpa using ck.x.c0, by simpa using ck.x.c1, by simpa using ck.x.c2, by simpa using ck.x.c3, by simpa using ck.x.c4, by simpa using ck.x.c5⟩⟩ ?_
    repeat (first | (refine wpPlanZ_free (by rfl) (by rfl) (fun W => by (go_simp; try with_reducible rfl)) (fun K hK => ?_); go_simp; refine hK _ ?_; clear hK K) | (refine wpPlanZ_quiet (by rfl) (by rfl) (fun W hW => by (obtain ⟨s0, s1, ⟨t0, t1, t2, t3, t4, t5⟩⟩ := hW; go_simp; try with_reducible rfl)) (fun K hK => ?_); go_simp; refine hK _ ?_; clear hK K))
    refine wpPlanZ_serial (by rfl) (by rfl) (fun K hK => ?_)
    go_simp
    refine hK _ _ (fun _ => HCKA.out) ?_
    clear hK K ck HCKA d0 zm zg zx hgn
    generalize (w5.alloc (.cells #[.string o.s, .int .i64 o.d, .int .i64 o.a, .int .i64 o.b, .int .u32 o.i, .int .i64 o.t] 42)).drew = wA at *
    refine wpPlanZ_serial (by rfl) (by rfl) (fun K hK => ?_)
    refine oper_append_movedP _ _ 26 rfl base 42 i0 _ 6 56 Tryd.underlying26 hi hz0 hz1 hz2 rfl (by decide) (.slice au row.length cu) row.length (opL row) rfl HRAO.out ⟨w5.heap.size, 0, none⟩ 1 1 [.string o.s, .int .i64 o.d, .int .i64 o.a, .int .i64 o.b, .int .u32 o.i, .int .i64 o.t] rfl hlen6 hne6 hone (by unfold maxLen; omega) (by omega) hbA ?_
    intro v' w4 ho4 hg4 hm4
    have FF := FA.out v' w4 ho4 hg4 hm4
    obtain ⟨g', cap', hv'⟩ := own_pos ho4
    subst hv'
    have HFF : Hid _ := FF
    refine hK _ _ (fun _ => FF.2.1) ?_
    have q1 := FF.2.1.b
    have q2 := FF.2.2.1
    have q3 := World.block_lt_of_cell? _ _ q1
    clear hK K FA ho4 hg4 hm4 FF HRAO
    repeat (refine wpPlanZ_free (by rfl) (by rfl) (fun W => by (go_simp; try with_reducible rfl)) (fun K hK => ?_); go_simp; refine hK _ ?_; clear hK K)
    refine wpPlanZ_serial (by rfl) (by rfl) (fun K hK => ?_)
    go_simp
    refine hK _ _ (fun h => absurd h (by decide)) ?_
    clear hK K
    refine wpPlanZ_nil ?_
    have F1 := HFF.out.1
    have F2 := HFF.out.2.2.2.1
    have F3 := HFF.out.2.2.2.2.1
    have F4 := HFF.out.2.2.2.2.2
    clear HFF q1 q2 q3
    generalize w4.setCell ⟨g, n, none⟩ (.slice (some ⟨g', 0, none⟩) (row.length + 1) cap') = w6 at *
    have HF1 : Hid _ := F1
    have HF2 : Hid (MkC w6 mb M (.slice (some ⟨g, 0, none⟩) L cap)) := F2
    have HF4 : Hid (Below mb w w6) := F4
    have hnt := HNT.out w6 _ F2 n (by omega)
    unfold opV at hnt
    have zx6 := F3.lt
    obtain ⟨c0, c1, c2, c3, c4, c5⟩ := F3
    clear F1 F2 F4 HNT
    go_wp2_with fail
    refine hnt.mono ?_
    rintro e w7 ⟨rfl, hC7, hg7⟩
    have R7 : Hid (RwAt w7 base (.slice (some ⟨g, 0, none⟩) L cap) (US.set n (.slice (some ⟨g', 0, none⟩) (row.length + 1) cap')) (RS.modify n (· ++ [o]))) := HF1.out.note hb hg7
    have C7 : Hid (MkC w7 mb PM (.slice (some ⟨g, 0, none⟩) L cap)) := by
      rw [HPM2.out]
      have := hC7
      rw [HN.out, HPR.out] at this
      exact this
    have B7 : Hid (Below mb w w7) := ⟨hg7.os.trans HF4.out.os, hg7.tape.trans HF4.out.tape, hg7.output.trans HF4.out.output, Nat.le_trans HF4.out.size hg7.size, fun k hk => (hg7.block k (by have := HF4.out.size; omega) (by intro e; have := Option.some.inj e; omega)).trans (HF4.out.block k hk)⟩
    have HRW : Hid (PM.rows = RS.modify n (· ++ [o])) := by show _ = _; rw [HPM2.out]; rfl
    clear hnt hC7 hg7 c0 c1 c2 c3 c4 c5 zx6 HF1 HF2 HF4
    go_wp2
    go_end0
    exact ⟨rfl, ⟨_, _, C7.out, by rw [HRW.out]; exact R7.out⟩, B7.out⟩
  · have HN : Hid (rowN M o = M.rows.length) := by show _ = _; have := HRN.out; omega
    have HPR : Hid (putR M.rows M.rows.length o = (M.rows ++ [[]]).modify M.rows.length (· ++ [o])) := by show _ = _; rw [modify_last]; unfold putR; rw [if_neg (by omega)]
    clear HRN hrl hdl hreq
    have d0 := HC3.out.c0
    have df := HC3.out.fz 0
    have zm3 := HC3.out.lt
    have hL9 := hF9
    have hvn : ∀ k, vr.ownBlock = some k → k ≠ mb := fun k e => by have := (VLT.out k e).1; omega
    have hvx : ∀ k, vr.ownBlock = some k → k ≠ w.heap.size := fun k e => by have := (VLT.out k e).2; omega
    have hbz : base ≤ w3.heap.size := by have := HB3.out.size; omega
    have HOW : Hid ((w3.alloc (.cells #[.slice none 0 0] 26)).ownsRow base 26 1 vr M.rows.length us) := HR3.out.own.alloc _
    have hn1 : ∀ (k : Nat) (u : Value), [Value.slice none 0 0][k]? = some u → (w3.alloc (.cells #[.slice none 0 0] 26)).cell? ((⟨w3.heap.size, 0, none⟩ : Addr).add k) = some u := by
      intro k u hk
      rw [add_lit, World.cell?_alloc_at _ _ _ _ rfl]
      simpa using hk
    have hszA : (w3.alloc (.cells #[.slice none 0 0] 26)).heap.size = w3.heap.size + 1 := World.size_alloc _ _
    have BA : Below w3.heap.size w3 (w3.alloc (.cells #[.slice none 0 0] 26)) := (Below.refl _ _).alloc (Nat.le_refl _) _
    have HA : Hid (∀ v1 w1, (w3.alloc (.cells #[.slice none 0 0] 26)).grownBy w1 vr.ownBlock → Moved (w3.alloc (.cells #[.slice none 0 0] 26)) vr v1 → w1.ownsRow base 26 1 v1 (M.rows.length + 1) (us ++ [.slice none 0 0]) → (RwAt w1 base v1 (us ++ [.slice none 0 0]) (M.rows ++ [[]]) ∧ MkC w1 mb M vr ∧ BoxP w1 w.heap.size o ∧ Below mb w w1 ∧ w.heap.size ≤ w1.heap.size ∧ (∀ k, v1.ownBlock = some k → base ≤ k ∧ k ≠ w.heap.size))) := by
      intro v1 w1 hg1 hm1 ho1
      have bk : ∀ k, k < w3.heap.size → vr.ownBlock ≠ some k → w1.heap[k]? = w3.heap[k]? := fun k hk hne => (hg1.block k (by rw [hszA]; omega) (Ne.symm hne)).trans (BA.block k hk)
      have z3 := HX3.out.lt
      refine ⟨(HR3.out.stays BA).snoc ho1 hg1 hm1, RowIs.block HC3.out (bk mb HC3.out.lt (fun e => hvn mb e rfl)), HX3.out.block (bk _ z3 (fun e => hvx _ e rfl)), ?_, ?_, fun k e => ⟨(ho1.lt k e).1, fun he => by
        rcases hm1 k e with h | h
        · exact hvx k h he
        · rw [hszA] at h; omega⟩⟩
      · refine ⟨hg1.os.trans (BA.os.trans HB3.out.os), hg1.tape.trans (BA.tape.trans HB3.out.tape), hg1.output.trans (BA.output.trans HB3.out.output), ?_, fun k hk => ?_⟩
        · have h1 := hg1.size; have h2 := HB3.out.size; rw [hszA] at h1; omega
        · have h3 := HB3.out.size
          exact (bk k (by omega) (fun e => by have := (VLT.out k e).1; omega)).trans (HB3.out.block k (by omega))
      · have h1 := hg1.size; have h2 := HB3.out.size; rw [hszA] at h1; omega
    obtain ⟨ar, cr, rfl⟩ : ∃ a c, vr = .slice a M.rows.length c := ⟨ar, cr, HVR.out⟩
    clear HR3 HVR BA hszA
    go_wp2_with (at_builtin; refine wpList_append_moved rfl _ _ 23 rfl base 26 i1 (.slice none 0 0) 1 24 Tryd.underlying23 hj hy0 hy1 hy2 rfl (by decide) (.slice ar M.rows.length cr) M.rows.length us rfl HOW.out ⟨w3.heap.size, 0, none⟩ 1 1 [.slice none 0 0] rfl rfl hn1 (by simp [Value.oneCell']) (by unfold maxLen; omega) (by omega) (by simp; omega) ?_; intro v1 w1 ho1 hg1 hm1; have KA := HA.out v1 w1 hg1 hm1 ho1; have HKA : Hid _ := KA; obtain ⟨g, cap, hv1⟩ := own_pos ho1; have k0 := KA.2.1.c0; have kf := RowIs.fz KA.2.1 0; have kz := RowIs.lt KA.2.1; subst hv1; clear ho1 hg1 hm1 KA HA HOW hn1 d0 df zm3)
    have R4 : RwAt (w1.setCell ⟨mb, 0, none⟩ (.slice (some ⟨g, 0, none⟩) (M.rows.length + 1) cap)) base (.slice (some ⟨g, 0, none⟩) (M.rows.length + 1) cap) (us ++ [.slice none 0 0]) (M.rows ++ [[]]) := HKA.out.1.note hb (grown_setP _ _)
    have C4 : MkC (w1.setCell ⟨mb, 0, none⟩ (.slice (some ⟨g, 0, none⟩) (M.rows.length + 1) cap)) mb M (.slice (some ⟨g, 0, none⟩) (M.rows.length + 1) cap) := HKA.out.2.1.put0 _
    have X4 : BoxP (w1.setCell ⟨mb, 0, none⟩ (.slice (some ⟨g, 0, none⟩) (M.rows.length + 1) cap)) w.heap.size o := HKA.out.2.2.1.put (by omega)
    have B4 : Below mb w (w1.setCell ⟨mb, 0, none⟩ (.slice (some ⟨g, 0, none⟩) (M.rows.length + 1) cap)) := HKA.out.2.2.2.1.setCell (Nat.le_refl _) _
    have S4 : w.heap.size ≤ (w1.setCell ⟨mb, 0, none⟩ (.slice (some ⟨g, 0, none⟩) (M.rows.length + 1) cap)).heap.size := by rw [World.size_setCell]; exact HKA.out.2.2.2.2.1
    have hgb : base ≤ g := (HKA.out.2.2.2.2.2 g rfl).1
    have hgx : g ≠ w.heap.size := (HKA.out.2.2.2.2.2 g rfl).2
    clear HKA k0 kf kz HC3 HX3 HB3
    generalize w1.setCell ⟨mb, 0, none⟩ (.slice (some ⟨g, 0, none⟩) (M.rows.length + 1) cap) = w5 at *
    have HC3 : Hid (MkC w5 mb M (.slice (some ⟨g, 0, none⟩) (M.rows.length + 1) cap)) := C4
    have HR3 : Hid (RwAt w5 base (.slice (some ⟨g, 0, none⟩) (M.rows.length + 1) cap) (us ++ [.slice none 0 0]) (M.rows ++ [[]])) := R4
    have HX3 : Hid (BoxP w5 w.heap.size o) := X4
    have HB3 : Hid (Below mb w w5) := B4
    clear C4 R4 X4 B4
    obtain ⟨n, hnE⟩ : ∃ n, M.rows.length = n := ⟨_, rfl⟩
    have hlenB : (M.rows ++ [[]]).length = n + 1 := by rw [List.length_append, hnE]; rfl
    have husl : us.length = n := by have := HR3.out.len; rw [List.length_append, hlenB] at this; simpa using this
    have hu : (us ++ [Value.slice none 0 0])[n]? = some (.slice none 0 0) := by rw [List.getElem?_append_right (by omega), husl]; simp
    have hrow : (M.rows ++ [[]])[n]? = some ([] : List Opx) := by rw [List.getElem?_append_right (by omega), hnE]; simp
    rw [hnE] at HN HPR HR3 HC3 hF9 ⊢
    have HPM2 : Hid (PM = note { M with rows := (M.rows ++ [[]]).modify n (· ++ [o]) } o n) := by show _ = _; rw [← HPM.out]; unfold place; rw [HN.out, HPR.out]
    generalize hRS : M.rows ++ [[]] = RS at *
    generalize hUS : us ++ [Value.slice none 0 0] = US at *
    obtain ⟨u, hue⟩ : ∃ u, u = Value.slice none 0 0 := ⟨_, rfl⟩
    obtain ⟨row, hre⟩ : ∃ r : List Opx, r = [] := ⟨_, rfl⟩
    rw [← hue] at hu
    rw [← hre] at hrow
    have hrw8 : row.length < 1000 := by rw [hre]; show 0 < 1000; omega
    have hub : ∀ k, u.ownBlock = some k → base ≤ k ∧ k ≠ w.heap.size := fun k e => by rw [hue] at e; cases e
    have hnl : n < n + 1 := by omega
    clear hue hre
    have hL : RS.length = n + 1 := hlenB
    generalize hLL : n + 1 = L at *
    have hgn : w5.cell? ⟨g, n, none⟩ = some u := by
      obtain ⟨g', c', e, _, _, hc⟩ := HR3.out.form (by omega)
      injection e with e1 e2 e3
      injection e1 with e1
      injection e1 with e1
      subst e1
      exact hc n u hu
    have d0 := HC3.out.c0
    have zm := HC3.out.lt
    have zg := World.block_lt_of_cell? _ _ hgn
    have zx := HX3.out.lt
    have ck : CkR w5 mb g n w.heap.size (.slice (some ⟨g, 0, none⟩) L cap) u o := ⟨d0, hgn, HX3.out⟩
    have hmg2 : mb ≠ g := by omega
    have hnl' : (n : Int) < (L : Int) := by omega
    have BA : Below w5.heap.size w5 (w5.alloc (.cells #[.string o.s, .int .i64 o.d, .int .i64 o.a, .int .i64 o.b, .int .u32 o.i, .int .i64 o.t] 42)).drew := ((Below.refl _ _).alloc (Nat.le_refl _) _).drew
    have RA := HR3.out.stays BA
    have hne6 := op_news w5 o
    have CKA : CkR (w5.alloc (.cells #[.string o.s, .int .i64 o.d, .int .i64 o.a, .int .i64 o.b, .int .u32 o.i, .int .i64 o.t] 42)).drew mb g n w.heap.size (.slice (some ⟨g, 0, none⟩) L cap) u o := ⟨(BA.cell (p := ⟨mb, 0, none⟩) zm).trans d0, (BA.cell (p := ⟨g, n, none⟩) zg).trans hgn, HX3.out.stays BA⟩
    have CA := HC3.out.stays BA
    have sA : w5.heap.size < (w5.alloc (.cells #[.string o.s, .int .i64 o.d, .int .i64 o.a, .int .i64 o.b, .int .u32 o.i, .int .i64 o.t] 42)).drew.heap.size := by show _ < (w5.alloc _).heap.size; rw [World.size_alloc]; omega
    have FA : Hid (∀ v' w4, w4.ownsRow base 42 6 v' (row.length + 1) (opL row ++ opC o) → (w5.alloc (.cells #[.string o.s, .int .i64 o.d, .int .i64 o.a, .int .i64 o.b, .int .u32 o.i, .int .i64 o.t] 42)).drew.grownBy w4 u.ownBlock → Moved (w5.alloc (.cells #[.string o.s, .int .i64 o.d, .int .i64 o.a, .int .i64 o.b, .int .u32 o.i, .int .i64 o.t] 42)).drew u v' → RwAt (w4.setCell ⟨g, n, none⟩ v') base (.slice (some ⟨g, 0, none⟩) L cap) (US.set n v') (RS.modify n (· ++ [o])) ∧ CkR w4 mb g n w.heap.size (.slice (some ⟨g, 0, none⟩) L cap) u o ∧ w4.frozen? ⟨g, n, none⟩ = false ∧ MkC (w4.setCell ⟨g, n, none⟩ v') mb M (.slice (some ⟨g, 0, none⟩) L cap) ∧ BoxP (w4.setCell ⟨g, n, none⟩ v') w.heap.size o ∧ Below mb w (w4.setCell ⟨g, n, none⟩ v')) := by
      intro v' w4 ho4 hg4 hm4
      have RA' := RA
      rw [← hL] at RA'
      have hug : ∀ k, u.ownBlock = some k → k ≠ g := fun k e he => (RA.each n u row hu hrow).2 k e (by rw [he]; rfl)
      have bk : ∀ k, k < w5.heap.size → u.ownBlock ≠ some k → w4.heap[k]? = w5.heap[k]? := fun k hk hne => (hg4.block k (by omega) (Ne.symm hne)).trans (BA.block k hk)
      have b1 := bk mb zm (fun e => by have := (hub mb e).1; omega)
      have b2 := bk g zg (fun e => hug g e rfl)
      have b3 := bk w.heap.size zx (fun e => (hub _ e).2 rfl)
      have own4 : w4.ownsRow base 26 1 (.slice (some ⟨g, 0, none⟩) L cap) RS.length US := owns_blocks HR3.out.own fun k e => by
        have : k = g := by simpa [Value.ownBlock] using e.symm
        subst this; exact b2
      have hp := RA'.push hu hrow OKH.out ho4 hg4 hm4
      rw [hL] at hp
      refine ⟨hp, ⟨(World.cell?_of_block (a := ⟨mb, 0, none⟩) b1).trans d0, (World.cell?_of_block (a := ⟨g, n, none⟩) b2).trans hgn, HX3.out.block b3⟩, ?_, ?_, ?_, ?_⟩
      · rw [hL] at own4; exact own4.frozenAt n
      · exact RowIs.block HC3.out ((Below.heap_setCell _ _ _ _ (fun e => hmg2 e)).trans b1)
      · exact (HX3.out.block b3).put (Ne.symm hgx)
      · refine ⟨hg4.os.trans (BA.os.trans HB3.out.os), hg4.tape.trans (BA.tape.trans HB3.out.tape), hg4.output.trans (BA.output.trans HB3.out.output), ?_, fun k hk => ?_⟩
        · rw [World.size_setCell]; have := hg4.size; omega
        · rw [Below.heap_setCell _ _ _ _ (by intro e; have e' : k = g := e; omega)]
          exact (bk k (by omega) (fun e => by have := (hub k e).1; omega)).trans (HB3.out.block k hk)
    have hbA : base ≤ (w5.alloc (.cells #[.string o.s, .int .i64 o.d, .int .i64 o.a, .int .i64 o.b, .int .u32 o.i, .int .i64 o.t] 42)).drew.heap.size := by omega
    have RAO := (RA.each n u row hu hrow).1
    have HRAO : Hid ((w5.alloc (.cells #[.string o.s, .int .i64 o.d, .int .i64 o.a, .int .i64 o.b, .int .u32 o.i, .int .i64 o.t] 42)).drew.ownsRow base 42 6 u row.length (opL row)) := RAO
    have HCKA : Hid (CkR (w5.alloc (.cells #[.string o.s, .int .i64 o.d, .int .i64 o.a, .int .i64 o.b, .int .u32 o.i, .int .i64 o.t] 42)).drew mb g n w.heap.size (.slice (some ⟨g, 0, none⟩) L cap) u o) := CKA
    obtain ⟨au, cu, hue2⟩ : ∃ a c, u = .slice a row.length c := by obtain ⟨a, c, e, _⟩ := (ops_of_row (n := 0) RAO (HR3.out.ok row (List.mem_of_getElem? hrow))).sh; exact ⟨a, c, e⟩
    subst hue2
    have hone := opC_one o
    have hlen6 : (opC o).length = 1 * 6 := rfl
    unfold opC at hne6 hone hlen6
    clear RA CA BA CKA RAO hu hrow hub
    go_wp2
    refine wp_region_phase 16 [(0, 0), (1, 0), (2, 0), (3, 1), (4, 0), (5, 0), (6, 0), (7, 0), (8, 1), (9, 0), (10, 0), (11, 1), (12, 1), (13, 2), (14, 2), (15, 0), (16, 2)] (fun W => CkR W mb g n w.heap.size (.slice (some ⟨g, 0, none⟩) L cap) (.slice au row.length cu) o) (by kernel_rfl) (by kernel_rfl) (fun _ _ _ d _ h => by cases d <;> exact h) ⟨by simpa using ck.a, by simpa using ck.b, ⟨by simpa using ck.x.c0, by simpa using ck.x.c1, by simpa using ck.x.c2, by simpa using ck.x.c3, by simpa using ck.x.c4, by simpa using ck.x.c5⟩⟩ ?_
    repeat (first | (refine wpPlanZ_free (by rfl) (by rfl) (fun W => by (go_simp; try with_reducible rfl)) (fun K hK => ?_); go_simp; refine hK _ ?_; clear hK K) | (refine wpPlanZ_quiet (by rfl) (by rfl) (fun W hW => by (obtain ⟨s0, s1, ⟨t0, t1, t2, t3, t4, t5⟩⟩ := hW; go_simp; try with_reducible rfl)) (fun K hK => ?_); go_simp; refine hK _ ?_; clear hK K))
    refine wpPlanZ_serial (by rfl) (by rfl) (fun K hK => ?_)
    go_simp
    refine hK _ _ (fun _ => HCKA.out) ?_
    clear hK K ck HCKA d0 zm zg zx hgn
    generalize (w5.alloc (.cells #[.string o.s, .int .i64 o.d, .int .i64 o.a, .int .i64 o.b, .int .u32 o.i, .int .i64 o.t] 42)).drew = wA at *
    refine wpPlanZ_serial (by rfl) (by rfl) (fun K hK => ?_)
    refine oper_append_movedP _ _ 26 rfl base 42 i0 _ 6 56 Tryd.underlying26 hi hz0 hz1 hz2 rfl (by decide) (.slice au row.length cu) row.length (opL row) rfl HRAO.out ⟨w5.heap.size, 0, none⟩ 1 1 [.string o.s, .int .i64 o.d, .int .i64 o.a, .int .i64 o.b, .int .u32 o.i, .int .i64 o.t] rfl hlen6 hne6 hone (by unfold maxLen; omega) (by omega) hbA ?_
    intro v' w4 ho4 hg4 hm4
    have FF := FA.out v' w4 ho4 hg4 hm4
    obtain ⟨g', cap', hv'⟩ := own_pos ho4
    subst hv'
    have HFF : Hid _ := FF
    refine hK _ _ (fun _ => FF.2.1) ?_
    have q1 := FF.2.1.b
    have q2 := FF.2.2.1
    have q3 := World.block_lt_of_cell? _ _ q1
    clear hK K FA ho4 hg4 hm4 FF HRAO
    repeat (refine wpPlanZ_free (by rfl) (by rfl) (fun W => by (go_simp; try with_reducible rfl)) (fun K hK => ?_); go_simp; refine hK _ ?_; clear hK K)
    refine wpPlanZ_serial (by rfl) (by rfl) (fun K hK => ?_)
    go_simp
    refine hK _ _ (fun h => absurd h (by decide)) ?_
    clear hK K
    refine wpPlanZ_nil ?_
    have F1 := HFF.out.1
    have F2 := HFF.out.2.2.2.1
    have F3 := HFF.out.2.2.2.2.1
    have F4 := HFF.out.2.2.2.2.2
    clear HFF q1 q2 q3
    generalize w4.setCell ⟨g, n, none⟩ (.slice (some ⟨g', 0, none⟩) (row.length + 1) cap') = w6 at *
    have HF1 : Hid _ := F1
    have HF2 : Hid (MkC w6 mb M (.slice (some ⟨g, 0, none⟩) L cap)) := F2
    have HF4 : Hid (Below mb w w6) := F4
    have hnt := HNT.out w6 _ F2 n (by omega)
    unfold opV at hnt
    have zx6 := F3.lt
    obtain ⟨c0, c1, c2, c3, c4, c5⟩ := F3
    clear F1 F2 F4 HNT
    go_wp2_with fail
    refine hnt.mono ?_
    rintro e w7 ⟨rfl, hC7, hg7⟩
    have R7 : Hid (RwAt w7 base (.slice (some ⟨g, 0, none⟩) L cap) (US.set n (.slice (some ⟨g', 0, none⟩) (row.length + 1) cap')) (RS.modify n (· ++ [o]))) := HF1.out.note hb hg7
    have C7 : Hid (MkC w7 mb PM (.slice (some ⟨g, 0, none⟩) L cap)) := by
      rw [HPM2.out]
      have := hC7
      rw [HN.out, HPR.out] at this
      exact this
    have B7 : Hid (Below mb w w7) := ⟨hg7.os.trans HF4.out.os, hg7.tape.trans HF4.out.tape, hg7.output.trans HF4.out.output, Nat.le_trans HF4.out.size hg7.size, fun k hk => (hg7.block k (by have := HF4.out.size; omega) (by intro e; have := Option.some.inj e; omega)).trans (HF4.out.block k hk)⟩
    have HRW : Hid (PM.rows = RS.modify n (· ++ [o])) := by show _ = _; rw [HPM2.out]; rfl
    clear hnt hC7 hg7 c0 c1 c2 c3 c4 c5 zx6 HF1 HF2 HF4
    go_wp2
    go_end0
    exact ⟨rfl, ⟨_, _, C7.out, by rw [HRW.out]; exact R7.out⟩, B7.out⟩
end Go.Proofs.YtidagpanknhaaaaDoor
