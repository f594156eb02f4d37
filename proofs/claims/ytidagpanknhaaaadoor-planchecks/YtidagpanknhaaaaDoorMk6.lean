/-
  Package plan: Make of a code that is well.
-/
import Derived.Test.YtidagpanknhaaaaDoorMk5
namespace Go.Proofs.YtidagpanknhaaaaDoor
open Go.RowKit Go.Maps
open Num
set_option linter.unusedVariables false
theorem makeP_snoc (l : List Opx) (o : Opx) : makeP (l ++ [o]) = place (makeP l) o := by simp [makeP]
theorem putR_row {rs : List (List Opx)} {n : Nat} {o : Opx} {L : Nat} (h : ∀ r ∈ rs, r.length ≤ L) : ∀ r ∈ putR rs n o, r.length ≤ L + 1 := by
  intro r hr
  unfold putR at hr
  split at hr
  · obtain ⟨k, hk⟩ := List.getElem?_of_mem hr
    rw [List.getElem?_modify] at hk
    cases hz : rs[k]? with
    | none => rw [hz] at hk; simp at hk
    | some z =>
      rw [hz] at hk
      have := h z (List.mem_of_getElem? hz)
      by_cases e : n = k
      · simp [e] at hk; subst hk; rw [List.length_append]; simpa using this
      · simp [e] at hk; subst hk; omega
  · rcases List.mem_append.1 hr with h' | h'
    · have := h r h'; omega
    · simp at h'; subst h'; simp
/-- a plan on its way is well, and not greater than the code so far -/
theorem makeP_ok (l : List Opx) : MkOk (makeP l) ∧ (makeP l).rows.length ≤ l.length ∧ ∀ r ∈ (makeP l).rows, r.length ≤ l.length := by
  have key : ∀ (l : List Opx) (M : Mk) (L : Nat), MkOk M → M.rows.length ≤ L → (∀ r ∈ M.rows, r.length ≤ L) → MkOk (l.foldl place M) ∧ (l.foldl place M).rows.length ≤ L + l.length ∧ ∀ r ∈ (l.foldl place M).rows, r.length ≤ L + l.length := by
    intro l
    induction l with
    | nil => intro M L h1 h2 h3; exact ⟨h1, h2, h3⟩
    | cons o l ih =>
      intro M L h1 h2 h3
      have hp : (place M o).rows.length ≤ L + 1 := by
        show (putR M.rows (rowN M o) o).length ≤ _
        rw [putR_len]; split <;> omega
      have := ih (place M o) (L + 1) (place_ok h1 o) hp (putR_row h3)
      simp only [List.foldl_cons, List.length_cons]
      rw [show L + (l.length + 1) = L + 1 + l.length by omega]
      exact this
  have := key l mk0 0 mk0_ok (Nat.le_refl _) (fun r hr => by simp [mk0] at hr)
  rwa [Nat.zero_add] at this
theorem maker_lit : Tryd.zeroCells61 = (Array.replicate 132 (Value.int .i64 0)).setIfInBounds 0 (.slice none 0 0) := by kernel_rfl
theorem MkC.new (w : World) : MkC (w.alloc (.cells Tryd.zeroCells61 61)) w.heap.size mk0 (.slice none 0 0) := by
  refine ⟨Tryd.zeroCells61, heap_alloc_new w _, by rw [maker_lit]; simp, fun j hj => ?_⟩
  rw [maker_lit]
  by_cases h0 : j = 0
  · subst h0; rw [Array.getElem?_setIfInBounds_self, if_pos (by simp)]; rfl
  · rw [Array.getElem?_setIfInBounds_ne (by omega)]
    have : (Array.replicate 132 (Value.int .i64 0))[j]? = some (.int .i64 0) := by simp [hj]
    rw [this]
    have hc : (1 ≤ j ∧ j < 65) ∨ (65 ≤ j ∧ j < 129) ∨ j = 129 ∨ j = 130 ∨ j = 131 := by omega
    rcases hc with hc | hc | hc | hc | hc
    · rw [mkF_r hc.1 hc.2]; rfl
    · rw [mkF_a hc.1 hc.2]; rfl
    · subst hc; rfl
    · subst hc; rfl
    · subst hc; rfl
structure CkM (W : World) (cb mb : Nat) (pc many : Int) (vr : Value) : Prop where
  a : W.cell? ⟨cb, 0, none⟩ = some (.int .u32 pc)
  b : W.cell? ⟨cb, 1, none⟩ = some (.int .i64 many)
  c : W.cell? ⟨mb, 0, none⟩ = some vr
set_option maxRecDepth 100000 in
set_option maxHeartbeats 4000000 in
theorem make_ok (pe : Nat → Addr) {w : World} (E : Eg pe w) (hS : Mst w) {v : Value} {l : List Opx} (A : OpsIn w v l) (hl : l.length ≤ 900) (pc many : Int) (m0 : -9223372036854775808 ≤ many) (m1 : many ≤ 9223372036854775807) (hf : codeF many l = (0, -1)) :
    Calls Tryd.prog 12 #[.agg #[.int .u32 pc, .int .i64 many, v]] w fun e w' => (∃ vr, e = .returned (.tuple #[.agg #[.int .u32 pc, .int .i64 many, vr], .nilIface]) ∧ RowsI w' vr (makeP l).rows) ∧ Below w.heap.size w w' := by
  have B0 : Below w.heap.size w ((w.alloc (.cells #[.int .u32 pc, .int .i64 many, v] 44)).alloc (.cells #[.int .u32 0, .int .i64 0, .slice none 0 0] 29)) := ((Below.refl _ _).alloc (Nat.le_refl _) _).alloc (by simp) _
  have P0 := PBox.new w pc many v
  have hck := check_any pe (E.stays B0) (A.stays B0) (by omega) pc many m0 m1
  have HW : Hid (∀ o ∈ l, opE o many = 0) := wellL_mem (codeF_well.1 hf).ops
  have AH : Hid (OpsIn w v l) := A
  have SH : Hid (Mst w) := hS
  have OK : Hid (∀ o ∈ l, o.ok) := A.ok
  obtain ⟨ao, cap, rfl, hc, hh⟩ := A.sh
  have HH : Hid (0 < l.length → ∃ b off : Nat, ao = some ⟨b, off, none⟩ ∧ ∀ (i : Nat) (o : Opx), l[i]? = some o → ∀ (j : Nat) (u : Value), (opC o)[j]? = some u → w.cell? ⟨b, off + i * 6 + j, none⟩ = some u) := hh
  rw [hf] at hck
  have hmg := hS.lt
  clear E A hf hS hh
  go_enter Tryd.func12, Tryd.ntmps12
  go_upto_region 1 with fail
  generalize (w.alloc (.cells #[.int .u32 pc, .int .i64 many, .slice ao l.length cap] 44)).alloc (.cells #[.int .u32 0, .int .i64 0, .slice none 0 0] 29) = V at *
  have HB : Hid (Below w.heap.size w V) := B0
  have HP : Hid (PBox V w.heap.size (w.heap.size + 1) pc many (.slice ao l.length cap)) := P0
  have zl := P0.lt
  obtain ⟨zl1, zl2⟩ := zl
  obtain ⟨k0, k1, k2, z0, z1, z2, zf⟩ := P0
  clear B0
  go_wp2_with fail
  refine hck.mono ?_
  rintro e w2 ⟨⟨x, rfl, hx⟩, hb2⟩
  have hx0 : x = .nilIface := by
    rcases hx with ⟨_, h⟩ | ⟨h, _⟩
    · exact h
    · exact absurd h (by decide)
  subst hx0
  have HB2 : Hid (Below w.heap.size w w2) := HB.out.trans (hb2.mono HB.out.size)
  have HP2 : Hid (PBox w2 w.heap.size (w.heap.size + 1) pc many (.slice ao l.length cap)) := HP.out.stays hb2
  have C0 := MkC.new w2
  have BM : Below w2.heap.size w2 (w2.alloc (.cells Tryd.zeroCells61 61)) := (Below.refl _ _).alloc (Nat.le_refl _) _
  have hs2 := HB2.out.size
  have sM : (w2.alloc (.cells Tryd.zeroCells61 61)).heap.size = w2.heap.size + 1 := World.size_alloc _ _
  clear hck hb2 hx HB HP k0 k1 k2 z0 z1 z2 zf zl1 zl2
  go_upto_region 5 with fail
  generalize w2.alloc (.cells Tryd.zeroCells61 61) = W3 at *
  generalize hmb : w2.heap.size = mb at *
  have HC0 : Hid (MkC W3 mb mk0 (.slice none 0 0)) := C0
  have hcb : w.heap.size + 1 < mb := by rw [← hmb]; exact HP2.out.lt.2
  have HB3 : Hid (Below w.heap.size w W3) := HB2.out.trans (BM.mono hs2)
  have HP3 : Hid (PBox W3 w.heap.size (w.heap.size + 1) pc many (.slice ao l.length cap)) := by
    have := HP2.out.lt
    exact HP2.out.block (BM.block _ (by omega)) (BM.block _ (by omega))
  obtain ⟨y1, y2⟩ := HP3.out.lt
  have k2 := HP3.out.k2
  have hmg2 : 11 < mb := by omega
  clear C0 BM HB2 HP2
  go_wp2
  go_loopw [19] (fun i wr => ∃ (j : Nat) (vr : Value) (us : List Value), j ≤ l.length ∧ i = .int .i64 j ∧ MkC wr mb (makeP (l.take j)) vr ∧ RwAt wr (mb + 1) vr us (makeP (l.take j)).rows ∧ Below mb W3 wr) (fun i _ => l.length - (intOf i).toNat)
  case atStart => exact ⟨0, .slice none 0 0, [], Nat.zero_le _, rfl, HC0.out, ⟨World.ownsRow_nil _ _ _ _, fun k u row h => by simp at h, fun k k' u u' g h => by simp at h, fun row h => by simp [makeP, mk0] at h⟩, Below.refl _ _⟩
  case round =>
    obtain ⟨j, vr, us, hj, rfl, hC, hR, hB⟩ := hrel
    have HC : Hid (MkC wr mb (makeP (l.take j)) vr) := hC
    have HR : Hid (RwAt wr (mb + 1) vr us (makeP (l.take j)).rows) := hR
    have HBR : Hid (Below mb W3 wr) := hB
    have HBW : Hid (Below w.heap.size w wr) := HB3.out.trans (hB.mono (by omega))
    have hP : PBox wr w.heap.size (w.heap.size + 1) pc many (.slice ao l.length cap) := HP3.out.block (hB.block _ (by omega)) (hB.block _ (by omega))
    have HPR : Hid (PBox wr w.heap.size (w.heap.size + 1) pc many (.slice ao l.length cap)) := hP
    have hzr := hC.lt
    clear HC0 hC hR hP k2
    by_cases hlt : j < l.length
    · obtain ⟨o, ho⟩ : ∃ o, l[j]? = some o := ⟨_, List.getElem?_eq_getElem hlt⟩
      obtain ⟨bo, off, rfl, hcell⟩ := HH.out (by omega)
      obtain ⟨x0, x1, x2, x3, x4, x5⟩ := op_cells (w := wr) (fun k u hk => by rw [HBW.out.cell (World.block_lt_of_cell? _ _ (hcell j _ ho k u hk))]; exact hcell j _ ho k u hk)
      have zb : bo < wr.heap.size := World.block_lt_of_cell? _ _ x0
      have hlt' : (j : Int) < l.length := by omega
      have B1 : Below wr.heap.size wr (wr.alloc (.cells #[.string o.s, .int .i64 o.d, .int .i64 o.a, .int .i64 o.b, .int .u32 o.i, .int .i64 o.t] 42)) := (Below.refl _ _).alloc (Nat.le_refl _) _
      obtain ⟨hK, hK1, hK2⟩ := makeP_ok (l.take j)
      have hlj : (l.take j).length ≤ j := List.length_take_le _ _
      have hpl := place_any (SH.out.stays (HBW.out.trans (B1.mono HBW.out.size))) (HC.out.stays B1) (HR.out.stays B1) (by omega) (by have := B1.size; omega) hmg2 hK ⟨by omega, fun r hr => by have := hK2 r hr; omega⟩ (by omega) (fun r hr => by have := hK2 r hr; omega) o (OK.out o (List.mem_of_getElem? ho)) (HW.out o (List.mem_of_getElem? ho))
      have HS : Hid (makeP (l.take (j + 1)) = place (makeP (l.take j)) o) := by show _ = _; rw [take_snoc' ho, makeP_snoc]
      have HB1 : Hid (Below mb W3 (wr.alloc (.cells #[.string o.s, .int .i64 o.d, .int .i64 o.a, .int .i64 o.b, .int .u32 o.i, .int .i64 o.t] 42))) := HBR.out.trans (B1.mono (by omega))
      unfold opV at hpl
      clear ho hcell HH hK hK1 hK2 hlj B1 HC HR hB HPR
      go_wp2_with fail
      refine hpl.mono ?_
      rintro e w5 ⟨rfl, ⟨vr', us', hC5, hR5⟩, hb5⟩
      have C5 : Hid (MkC w5 mb (makeP (l.take (j + 1))) vr') := by rw [HS.out]; exact hC5
      have R5 : Hid (RwAt w5 (mb + 1) vr' us' (makeP (l.take (j + 1))).rows) := by rw [HS.out]; exact hR5
      have B5 : Hid (Below mb W3 w5) := HB1.out.trans hb5
      clear hpl hC5 hR5 hb5 HB1 x0 x1 x2 x3 x4 x5 zb
      go_wp2
      go_roundw
      case rel => exact ⟨j + 1, vr', us', by omega, by go_num, C5.out, R5.out, B5.out⟩
      case measure => simp [intOf]; omega
    · obtain rfl : j = l.length := by omega
      rw [List.take_length] at HC HR
      have c0 := HC.out.c0
      obtain ⟨p1, p2⟩ := HPR.out.lt
      have ck : CkM wr w.heap.size mb pc many vr := ⟨HPR.out.k0, HPR.out.k1, c0⟩
      have g0 := HPR.out.z0
      have g1 := HPR.out.z1
      have g2 := HPR.out.z2
      have f0 := HPR.out.f 0
      have f1 := HPR.out.f 1
      have f2 := HPR.out.f 2
      have HPU : Hid _ := put3P (v0 := .int .u32 pc) (v1 := .int .i64 many) (v2 := vr) g0 g1 g2
      have HRF : Hid (RowsI (((wr.setCell ⟨w.heap.size + 1, 0, none⟩ (.int .u32 pc)).setCell ⟨w.heap.size + 1, 1, none⟩ (.int .i64 many)).setCell ⟨w.heap.size + 1, 2, none⟩ vr) vr (makeP l).rows) := by
        refine (HR.out.blocks fun k hk1 hk2 => ?_).rows
        have hne : k ≠ w.heap.size + 1 := by omega
        rw [Below.heap_setCell _ _ _ _ hne, Below.heap_setCell _ _ _ _ hne, Below.heap_setCell _ _ _ _ hne]
      have HBF : Hid (Below w.heap.size w (((wr.setCell ⟨w.heap.size + 1, 0, none⟩ (.int .u32 pc)).setCell ⟨w.heap.size + 1, 1, none⟩ (.int .i64 many)).setCell ⟨w.heap.size + 1, 2, none⟩ vr)) := ((HBW.out.setCell (by show w.heap.size ≤ w.heap.size + 1; omega) _).setCell (by show w.heap.size ≤ w.heap.size + 1; omega) _).setCell (by show w.heap.size ≤ w.heap.size + 1; omega) _
      obtain ⟨av, cv, hvr, _, _⟩ := HR.out.rows
      subst hvr
      clear HH HC HR hB HBR HPR HBW
      go_wp2
      refine wp_region_phase 9 [(0, 0), (1, 1), (2, 0), (3, 1), (4, 0), (5, 0), (6, 0), (7, 1), (8, 2), (9, 2), (10, 0)] (fun W => CkM W w.heap.size mb pc many (.slice av (makeP l).rows.length cv)) (by kernel_rfl) (by kernel_rfl) (fun _ _ _ d _ h => by cases d <;> exact h) ⟨by simpa using ck.a, by simpa using ck.b, by simpa using ck.c⟩ ?_
      repeat (first | (refine wpPlanZ_free (by rfl) (by rfl) (fun W => by (go_simp; try with_reducible rfl)) (fun K hK => ?_); go_simp; refine hK _ ?_; clear hK K) | (refine wpPlanZ_quiet (by rfl) (by rfl) (fun W hW => by (obtain ⟨s0, s1, s2⟩ := hW; go_simp; try with_reducible rfl)) (fun K hK => ?_); go_simp; refine hK _ ?_; clear hK K))
      refine wpPlanZ_serial (by rfl) (by rfl) (fun K hK => ?_)
      go_simp
      refine hK _ _ (fun _ => ⟨by simpa using ck.a, by simpa using ck.b, by simpa using ck.c⟩) ?_
      clear hK K
      refine wpPlanZ_serial (by rfl) (by rfl) (fun K hK => ?_)
      go_simp
      refine hK _ _ (fun h => absurd h (by decide)) ?_
      clear hK K
      repeat (refine wpPlanZ_free (by rfl) (by rfl) (fun W => by (go_simp; try with_reducible rfl)) (fun K hK => ?_); go_simp; refine hK _ ?_; clear hK K)
      refine wpPlanZ_nil ?_
      go_wp2
      refine bodyPost_ret (results_cell1P (A := ⟨w.heap.size + 1, 0, none⟩) rfl _ _ _ rfl (plan_load HPU.out.1 HPU.out.2.1 HPU.out.2.2)) rfl ?_
      exact ⟨⟨_, rfl, HRF.out.stays (Below.refl _ _).drew⟩, HBF.out.drew⟩
end Go.Proofs.YtidagpanknhaaaaDoor
