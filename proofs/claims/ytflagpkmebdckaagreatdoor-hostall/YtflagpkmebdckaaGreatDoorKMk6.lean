/-
  Package plan: Make of a code that is well.
-/
import Derived.Lib.LaidU8
import Derived.Deep.Slices
import Derived.Deep.MidRow
import Derived.Laws.CopyOwn
import Derived.Test.YtflagpkmebdckaaGreatDoorQCode
import Derived.Test.YtflagpkmebdckaaGreatDoorQLaid
import Derived.Test.YtflagpkmebdckaaGreatDoorJDoc6
import Derived.Test.YtflagpkmebdckaaGreatDoorKRowsI
import Derived.Test.YtflagpkmebdckaaGreatDoorJMk3
import Derived.Test.YtflagpkmebdckaaGreatDoorQLw8
import Derived.Test.YtflagpkmebdckaaGreatDoorKModel
namespace Go.Proofs.YtflagpkmebdckaaGreatDoor
open Go.RowKit Go.Maps
open Num
set_option linter.unusedVariables false
theorem makeP_snoc (l : List Opx) (o : Opx) : makeP (l ++ [o]) = place (makeP l) o := by simp [makeP]
theorem putR_row {rs : List (List Opx)} {n : Nat} {o : Opx} {L : Nat} (h : ∀ r ∈ rs, r.length ≤ L) : ∀ r ∈ putR rs n o, r.length ≤ L + 1 := by
  intro r hr
  unfold putR at hr
  split at hr
  · obtain ⟨k, hk⟩ := List.getElem?_of_mem hr
    rw [List.getElem?_modify] at hk
    cases hz : rs[k]? with
    | none => rw [hz] at hk; simp at hk
    | some z =>
      rw [hz] at hk
      have := h z (List.mem_of_getElem? hz)
      by_cases e : n = k
      · simp [e] at hk; subst hk; rw [List.length_append]; simpa using this
      · simp [e] at hk; subst hk; omega
  · rcases List.mem_append.1 hr with h' | h'
    · have := h r h'; omega
    · simp at h'; subst h'; simp
/-- a plan on its way is well, and not greater than the code so far -/
theorem makeP_ok (l : List Opx) : MkOk (makeP l) ∧ (makeP l).rows.length ≤ l.length ∧ ∀ r ∈ (makeP l).rows, r.length ≤ l.length := by
  have key : ∀ (l : List Opx) (M : Mk) (L : Nat), MkOk M → M.rows.length ≤ L → (∀ r ∈ M.rows, r.length ≤ L) → MkOk (l.foldl place M) ∧ (l.foldl place M).rows.length ≤ L + l.length ∧ ∀ r ∈ (l.foldl place M).rows, r.length ≤ L + l.length := by
    intro l
    induction l with
    | nil => intro M L h1 h2 h3; exact ⟨h1, h2, h3⟩
    | cons o l ih =>
      intro M L h1 h2 h3
      have hp : (place M o).rows.length ≤ L + 1 := by
        show (putR M.rows (rowN M o) o).length ≤ _
        rw [putR_len]; split <;> omega
      have := ih (place M o) (L + 1) (place_ok h1 o) hp (putR_row h3)
      simp only [List.foldl_cons, List.length_cons]
      rw [show L + (l.length + 1) = L + 1 + l.length by omega]
      exact this
  have := key l mk0 0 mk0_ok (Nat.le_refl _) (fun r hr => by simp [mk0] at hr)
  rwa [Nat.zero_add] at this
theorem maker_lit : Tryz.zeroCells151 = (Array.replicate 132 (Value.int .i64 0)).setIfInBounds 0 (.slice none 0 0) := by kernel_rfl
theorem MkC.new (w : World) : MkC (w.alloc (.cells Tryz.zeroCells151 151)) w.heap.size mk0 (.slice none 0 0) := by
  refine ⟨Tryz.zeroCells151, heap_alloc_new w _, by rw [maker_lit]; simp, fun j hj => ?_⟩
  rw [maker_lit]
  by_cases h0 : j = 0
  · subst h0; rw [Array.getElem?_setIfInBounds_self, if_pos (by simp)]; rfl
  · rw [Array.getElem?_setIfInBounds_ne (by omega)]
    have : (Array.replicate 132 (Value.int .i64 0))[j]? = some (.int .i64 0) := by simp [hj]
    rw [this]
    have hc : (1 ≤ j ∧ j < 65) ∨ (65 ≤ j ∧ j < 129) ∨ j = 129 ∨ j = 130 ∨ j = 131 := by omega
    rcases hc with hc | hc | hc | hc | hc
    · rw [mkF_r hc.1 hc.2]; rfl
    · rw [mkF_a hc.1 hc.2]; rfl
    · subst hc; rfl
    · subst hc; rfl
    · subst hc; rfl
structure CkM (W : World) (cb mb : Nat) (pc many : Int) (vr : Value) : Prop where
  a : W.cell? ⟨cb, 0, none⟩ = some (.int .u32 pc)
  b : W.cell? ⟨cb, 1, none⟩ = some (.int .i64 many)
  c : W.cell? ⟨mb, 0, none⟩ = some vr
set_option maxRecDepth 100000 in
set_option maxHeartbeats 4000000 in
theorem make_ok (pe : Nat → Addr) {w : World} (E : Eg pe w) (hS : Mst w) {v : Value} {l : List Opx} (A : OpsIn w v l) (hl : l.length ≤ 900) (pc many : Int) (m0 : -9223372036854775808 ≤ many) (m1 : many ≤ 9223372036854775807) (hf : codeF many l = (0, -1)) :
    Calls Tryz.prog 29 #[.agg #[.int .u32 pc, .int .i64 many, v]] w fun e w' => (∃ vr, e = .returned (.tuple #[.agg #[.int .u32 pc, .int .i64 many, vr], .nilIface]) ∧ RowsI w' vr (makeP l).rows) ∧ Below w.heap.size w w' := by
  have B0 : Below w.heap.size w ((w.alloc (.cells #[.int .u32 pc, .int .i64 many, v] 54)).alloc (.cells #[.int .u32 0, .int .i64 0, .slice none 0 0] 79)) := ((Below.refl _ _).alloc (Nat.le_refl _) _).alloc (by simp) _
  have P0 := PBox.new w pc many v
  have hck := check_any pe (E.stays B0) (A.stays B0) (by omega) pc many m0 m1
  have HW : Hid (∀ o ∈ l, opE o many = 0) := wellL_mem (codeF_well.1 hf).ops
  have AH : Hid (OpsIn w v l) := A
  have SH : Hid (Mst w) := hS
  have OK : Hid (∀ o ∈ l, o.ok) := A.ok
  obtain ⟨ao, cap, rfl, hc, hh⟩ := A.sh
  have HH : Hid (0 < l.length → ∃ b off : Nat, ao = some ⟨b, off, none⟩ ∧ ∀ (i : Nat) (o : Opx), l[i]? = some o → ∀ (j : Nat) (u : Value), (opC o)[j]? = some u → w.cell? ⟨b, off + i * 6 + j, none⟩ = some u) := hh
  rw [hf] at hck
  have hmg := hS.lt
  clear E A hf hS hh
  go_enter Tryz.func29, Tryz.ntmps29
  go_upto_region 1 with fail
  generalize (w.alloc (.cells #[.int .u32 pc, .int .i64 many, .slice ao l.length cap] 54)).alloc (.cells #[.int .u32 0, .int .i64 0, .slice none 0 0] 79) = V at *
  have HB : Hid (Below w.heap.size w V) := B0
  have HP : Hid (PBox V w.heap.size (w.heap.size + 1) pc many (.slice ao l.length cap)) := P0
  have zl := P0.lt
  obtain ⟨zl1, zl2⟩ := zl
  obtain ⟨k0, k1, k2, z0, z1, z2, zf⟩ := P0
  clear B0
  go_wp2_with fail
  refine hck.mono ?_
  rintro e w2 ⟨⟨x, rfl, hx⟩, hb2⟩
  have hx0 : x = .nilIface := by
    rcases hx with ⟨_, h⟩ | ⟨h, _⟩
    · exact h
    · exact absurd h (by decide)
  subst hx0
  have HB2 : Hid (Below w.heap.size w w2) := HB.out.trans (hb2.mono HB.out.size)
  have HP2 : Hid (PBox w2 w.heap.size (w.heap.size + 1) pc many (.slice ao l.length cap)) := HP.out.stays hb2
  have C0 := MkC.new w2
  have BM : Below w2.heap.size w2 (w2.alloc (.cells Tryz.zeroCells151 151)) := (Below.refl _ _).alloc (Nat.le_refl _) _
  have hs2 := HB2.out.size
  have sM : (w2.alloc (.cells Tryz.zeroCells151 151)).heap.size = w2.heap.size + 1 := World.size_alloc _ _
  clear hck hb2 hx HB HP k0 k1 k2 z0 z1 z2 zf zl1 zl2
  go_upto_region 5 with fail
  generalize w2.alloc (.cells Tryz.zeroCells151 151) = W3 at *
  generalize hmb : w2.heap.size = mb at *
  have HC0 : Hid (MkC W3 mb mk0 (.slice none 0 0)) := C0
  have hcb : w.heap.size + 1 < mb := by rw [← hmb]; exact HP2.out.lt.2
  have HB3 : Hid (Below w.heap.size w W3) := HB2.out.trans (BM.mono hs2)
  have HP3 : Hid (PBox W3 w.heap.size (w.heap.size + 1) pc many (.slice ao l.length cap)) := by
    have := HP2.out.lt
    exact HP2.out.block (BM.block _ (by omega)) (BM.block _ (by omega))
  obtain ⟨y1, y2⟩ := HP3.out.lt
  have k2 := HP3.out.k2
  have hmg2 : 12 < mb := by omega
  clear C0 BM HB2 HP2
  go_wp2
  go_loopw [19] (fun i wr => ∃ (j : Nat) (vr : Value) (us : List Value), j ≤ l.length ∧ i = .int .i64 j ∧ MkC wr mb (makeP (l.take j)) vr ∧ RwAt wr (mb + 1) vr us (makeP (l.take j)).rows ∧ Below mb W3 wr) (fun i _ => l.length - (intOf i).toNat)
  case atStart => exact ⟨0, .slice none 0 0, [], Nat.zero_le _, rfl, HC0.out, ⟨World.ownsRow_nil _ _ _ _, fun k u row h => by simp at h, fun k k' u u' g h => by simp at h, fun row h => by simp [makeP, mk0] at h⟩, Below.refl _ _⟩
  case round =>
    obtain ⟨j, vr, us, hj, rfl, hC, hR, hB⟩ := hrel
    have HC : Hid (MkC wr mb (makeP (l.take j)) vr) := hC
    have HR : Hid (RwAt wr (mb + 1) vr us (makeP (l.take j)).rows) := hR
    have HBR : Hid (Below mb W3 wr) := hB
    have HBW : Hid (Below w.heap.size w wr) := HB3.out.trans (hB.mono (by omega))
    have hP : PBox wr w.heap.size (w.heap.size + 1) pc many (.slice ao l.length cap) := HP3.out.block (hB.block _ (by omega)) (hB.block _ (by omega))
    have HPR : Hid (PBox wr w.heap.size (w.heap.size + 1) pc many (.slice ao l.length cap)) := hP
    have hzr := hC.lt
    clear HC0 hC hR hP k2
    by_cases hlt : j < l.length
    · obtain ⟨o, ho⟩ : ∃ o, l[j]? = some o := ⟨_, List.getElem?_eq_getElem hlt⟩
      obtain ⟨bo, off, rfl, hcell⟩ := HH.out (by omega)
      obtain ⟨x0, x1, x2, x3, x4, x5⟩ := op_cells (w := wr) (fun k u hk => by rw [HBW.out.cell (World.block_lt_of_cell? _ _ (hcell j _ ho k u hk))]; exact hcell j _ ho k u hk)
      have zb : bo < wr.heap.size := World.block_lt_of_cell? _ _ x0
      have hlt' : (j : Int) < l.length := by omega
      have B1 : Below wr.heap.size wr (wr.alloc (.cells #[.string o.s, .int .i64 o.d, .int .i64 o.a, .int .i64 o.b, .int .u32 o.i, .int .i64 o.t] 139)) := (Below.refl _ _).alloc (Nat.le_refl _) _
      obtain ⟨hK, hK1, hK2⟩ := makeP_ok (l.take j)
      have hlj : (l.take j).length ≤ j := List.length_take_le _ _
      have hpl := place_any (SH.out.stays (HBW.out.trans (B1.mono HBW.out.size))) (HC.out.stays B1) (HR.out.stays B1) (by omega) (by have := B1.size; omega) hmg2 hK ⟨by omega, fun r hr => by have := hK2 r hr; omega⟩ (by omega) (fun r hr => by have := hK2 r hr; omega) o (OK.out o (List.mem_of_getElem? ho)) (HW.out o (List.mem_of_getElem? ho))
      have HS : Hid (makeP (l.take (j + 1)) = place (makeP (l.take j)) o) := by show _ = _; rw [take_snoc' ho, makeP_snoc]
      have HB1 : Hid (Below mb W3 (wr.alloc (.cells #[.string o.s, .int .i64 o.d, .int .i64 o.a, .int .i64 o.b, .int .u32 o.i, .int .i64 o.t] 139))) := HBR.out.trans (B1.mono (by omega))
      unfold opV at hpl
      clear ho hcell HH hK hK1 hK2 hlj B1 HC HR hB HPR
      go_wp2_with fail
      refine hpl.mono ?_
      rintro e w5 ⟨rfl, ⟨vr', us', hC5, hR5⟩, hb5⟩
      have C5 : Hid (MkC w5 mb (makeP (l.take (j + 1))) vr') := by rw [HS.out]; exact hC5
      have R5 : Hid (RwAt w5 (mb + 1) vr' us' (makeP (l.take (j + 1))).rows) := by rw [HS.out]; exact hR5
      have B5 : Hid (Below mb W3 w5) := HB1.out.trans hb5
      clear hpl hC5 hR5 hb5 HB1 x0 x1 x2 x3 x4 x5 zb
      go_wp2
      go_roundw
      case rel => exact ⟨j + 1, vr', us', by omega, by go_num, C5.out, R5.out, B5.out⟩
      case measure => simp [intOf]; omega
    · obtain rfl : j = l.length := by omega
      rw [List.take_length] at HC HR
      have c0 := HC.out.c0
      obtain ⟨p1, p2⟩ := HPR.out.lt
      have ck : CkM wr w.heap.size mb pc many vr := ⟨HPR.out.k0, HPR.out.k1, c0⟩
      have g0 := HPR.out.z0
      have g1 := HPR.out.z1
      have g2 := HPR.out.z2
      have f0 := HPR.out.f 0
      have f1 := HPR.out.f 1
      have f2 := HPR.out.f 2
      have HPU : Hid _ := put3P (v0 := .int .u32 pc) (v1 := .int .i64 many) (v2 := vr) g0 g1 g2
      have HRF : Hid (RowsI (((wr.setCell ⟨w.heap.size + 1, 0, none⟩ (.int .u32 pc)).setCell ⟨w.heap.size + 1, 1, none⟩ (.int .i64 many)).setCell ⟨w.heap.size + 1, 2, none⟩ vr) vr (makeP l).rows) := by
        refine (HR.out.blocks fun k hk1 hk2 => ?_).rows
        have hne : k ≠ w.heap.size + 1 := by omega
        rw [Below.heap_setCell _ _ _ _ hne, Below.heap_setCell _ _ _ _ hne, Below.heap_setCell _ _ _ _ hne]
      have HBF : Hid (Below w.heap.size w (((wr.setCell ⟨w.heap.size + 1, 0, none⟩ (.int .u32 pc)).setCell ⟨w.heap.size + 1, 1, none⟩ (.int .i64 many)).setCell ⟨w.heap.size + 1, 2, none⟩ vr)) := ((HBW.out.setCell (by show w.heap.size ≤ w.heap.size + 1; omega) _).setCell (by show w.heap.size ≤ w.heap.size + 1; omega) _).setCell (by show w.heap.size ≤ w.heap.size + 1; omega) _
      obtain ⟨av, cv, hvr, _, _⟩ := HR.out.rows
      subst hvr
      clear HH HC HR hB HBR HPR HBW
      go_wp2
      refine wp_region_phase 9 [(0, 0), (1, 1), (2, 0), (3, 1), (4, 0), (5, 0), (6, 0), (7, 1), (8, 2), (9, 2), (10, 0)] (fun W => CkM W w.heap.size mb pc many (.slice av (makeP l).rows.length cv)) (by kernel_rfl) (by kernel_rfl) (fun _ _ _ d _ h => by cases d <;> exact h) ⟨by simpa using ck.a, by simpa using ck.b, by simpa using ck.c⟩ ?_
      repeat (first | (refine wpPlanZ_free (by rfl) (by rfl) (fun W => by (go_simp; try with_reducible rfl)) (fun K hK => ?_); go_simp; refine hK _ ?_; clear hK K) | (refine wpPlanZ_quiet (by rfl) (by rfl) (fun W hW => by (obtain ⟨s0, s1, s2⟩ := hW; go_simp; try with_reducible rfl)) (fun K hK => ?_); go_simp; refine hK _ ?_; clear hK K))
      refine wpPlanZ_serial (by rfl) (by rfl) (fun K hK => ?_)
      go_simp
      refine hK _ _ (fun _ => ⟨by simpa using ck.a, by simpa using ck.b, by simpa using ck.c⟩) ?_
      clear hK K
      refine wpPlanZ_serial (by rfl) (by rfl) (fun K hK => ?_)
      go_simp
      refine hK _ _ (fun h => absurd h (by decide)) ?_
      clear hK K
      repeat (refine wpPlanZ_free (by rfl) (by rfl) (fun W => by (go_simp; try with_reducible rfl)) (fun K hK => ?_); go_simp; refine hK _ ?_; clear hK K)
      refine wpPlanZ_nil ?_
      go_wp2
      refine bodyPost_ret (results_cell1P (A := ⟨w.heap.size + 1, 0, none⟩) rfl _ _ _ rfl (plan_load HPU.out.1 HPU.out.2.1 HPU.out.2.2)) rfl ?_
      exact ⟨⟨_, rfl, HRF.out.stays (Below.refl _ _).drew⟩, HBF.out.drew⟩
end Go.Proofs.YtflagpkmebdckaaGreatDoor
/-
  The closed fact of chapter 10.
-/
namespace Go.Proofs.YtflagpkmebdckaaGreatDoor
open Go.RowKit Go.Maps
open Num
set_option linter.unusedVariables false
end Go.Proofs.YtflagpkmebdckaaGreatDoor
/-
  faulted; OwnRows.
-/
namespace Go.Proofs.YtflagpkmebdckaaGreatDoor
open Go.RowKit Go.Maps
open Num
set_option linter.unusedVariables false
/-- the errors as the program's variables have them, by their numbers -/
def peS (S : Nat → Addr) (n : Nat) : Addr := S (n - 1)
end Go.Proofs.YtflagpkmebdckaaGreatDoor
/-
  From what the program's own text lays (eight errors of package api, the first words of operations, how many ops each part of a row may have) to what the walk asks.
-/
namespace Go.Proofs.YtflagpkmebdckaaGreatDoor
open Go.ChangeShapes Go.WideShapes Go.ChangeAt Go.RowKit Go.Lib Low
set_option linter.unusedVariables false
theorem laidVars_split {P : Program} {W : World} : ∀ (l1 : List (String × DataW Unit)) {l2 : List (String × DataW Unit)} {ps : List MemPlace}, DataW.LaidVars P W (l1 ++ l2) ps → ∃ p1 p2, ps = p1 ++ p2 ∧ DataW.LaidVars P W l1 p1 ∧ DataW.LaidVars P W l2 p2
  | [], l2, ps, h => ⟨[], ps, rfl, rfl, h⟩
  | x :: l1, l2, ps, h => by
    obtain ⟨g, t, cs, f, p, q, hg, ht, hv, hd, hq, e⟩ := h
    obtain ⟨p1, p2, rfl, h1, h2⟩ := laidVars_split l1 hq
    exact ⟨_, p2, by rw [e, ← List.append_assoc], ⟨g, t, cs, f, p, p1, hg, ht, hv, hd, h1, rfl⟩, h2⟩
theorem laidMet_left {P : Program} {W : World} (l1 l2 : List (String × DataW Unit)) (h : laidMet P (l1 ++ l2) W) : laidMet P l1 W := by
  obtain ⟨ps, hl, hn, hr⟩ := h
  obtain ⟨p1, p2, rfl, h1, h2⟩ := laidVars_split l1 hl
  exact ⟨p1, h1, (List.nodup_append.1 hn).1, fun b off hm => hr b off (List.mem_append_left _ hm)⟩
theorem Tryz.laidOut : laidOutB Tryz.prog = true := by kernel_rfl
theorem Tryz.cInt : Tryz.prog.cellsOf 3 = 1 := by kernel_rfl
theorem Tryz.cU32 : Tryz.prog.cellsOf 22 = 1 := by kernel_rfl
theorem Tryz.gMost : Tryz.prog.globalNamed "changeling/plan.most" = some 12 := by kernel_rfl
theorem Tryz.tMost : (Tryz.prog.globals[12]?).map (·.type) = some 293 := by kernel_rfl
theorem Tryz.cMost : Tryz.prog.cellsOf 293 = 3 := by kernel_rfl
theorem Tryz.gFst : Tryz.prog.globalNamed "changeling/code.firsts" = some 10 := by kernel_rfl
theorem Tryz.tFst : (Tryz.prog.globals[10]?).map (·.type) = some 262 := by kernel_rfl
theorem Tryz.cFst : Tryz.prog.cellsOf 262 = 54 := by kernel_rfl
theorem mst_of_reads {W : World} (h : VarReads Tryz.prog W "changeling/plan.most" (tabData .i64 [3, 1, 1])) : Mst W := by
  obtain ⟨g, t, cs, fuel, p, hg, hty, hvar, hd⟩ := h
  obtain rfl := Option.some.inj (Tryz.gMost.symm.trans hg)
  obtain rfl := Option.some.inj (Tryz.tMost.symm.trans hty)
  have hcs := cells_of_tab Tryz.underlying293 Tryz.underlying3 Tryz.cInt Tryz.cMost hd
  have at_ : ∀ i, W.cell? ⟨12, i, none⟩ = ([3, 1, 1].map (Value.int .i64))[i]? := fun i => by
    have := World.var?_cell hg hvar i
    rw [this, ← Array.getElem?_toList, hcs]
  exact ⟨at_ 0, at_ 1, at_ 2⟩
theorem ft_of_reads {W : World} (h : VarReads Tryz.prog W "changeling/code.firsts" (tabData .u32 Tab.fstL)) : K.FT W := by
  obtain ⟨g, t, cs, fuel, p, hg, hty, hvar, hd⟩ := h
  obtain rfl := Option.some.inj (Tryz.gFst.symm.trans hg)
  obtain rfl := Option.some.inj (Tryz.tFst.symm.trans hty)
  have hcs := cells_of_tab Tryz.underlying262 Tryz.underlying22 Tryz.cU32 Tryz.cFst hd
  intro i hi
  have := World.var?_cell hg hvar i
  rw [this, ← Array.getElem?_toList, hcs, List.getElem?_map]
  have hl : i < Tab.fstL.length := hi
  rw [List.getElem?_eq_getElem hl]
  show some (Value.int .u32 Tab.fstL[i]) = some (Value.int .u32 (Tab.fstL.getD i 0))
  rw [List.getD_eq_getElem?_getD, List.getElem?_eq_getElem hl]; rfl
/-- the errors that are named, by name and text -/
def eightH : List (String × List UInt8) := [("changeling/api.ErrBound", [99, 104, 97, 110, 103, 101, 108, 105, 110, 103, 58, 32, 98, 111, 117, 110, 100]), ("changeling/api.ErrShape", [99, 104, 97, 110, 103, 101, 108, 105, 110, 103, 58, 32, 115, 104, 97, 112, 101]), ("changeling/api.ErrKind", [99, 104, 97, 110, 103, 101, 108, 105, 110, 103, 58, 32, 107, 105, 110, 100]), ("changeling/api.ErrNone", [99, 104, 97, 110, 103, 101, 108, 105, 110, 103, 58, 32, 110, 111, 110, 101]), ("changeling/api.ErrExist", [99, 104, 97, 110, 103, 101, 108, 105, 110, 103, 58, 32, 101, 120, 105, 115, 116]), ("changeling/api.ErrFull", [99, 104, 97, 110, 103, 101, 108, 105, 110, 103, 58, 32, 102, 117, 108, 108]), ("changeling/api.ErrAlign", [99, 104, 97, 110, 103, 101, 108, 105, 110, 103, 58, 32, 97, 108, 105, 103, 110]), ("changeling/api.ErrFar", [99, 104, 97, 110, 103, 101, 108, 105, 110, 103, 58, 32, 102, 97, 114])]
theorem eightH_named : ∀ x ∈ eightH, ∃ g, Tryz.prog.globalNamed x.1 = some g ∧ (Tryz.prog.globals[g]?).map (·.type) = some 32 := by
  have h : (eightH.all fun x => match Tryz.prog.globalNamed x.1 with | some g => decide ((Tryz.prog.globals[g]?).map (·.type) = some 32) | none => false) = true := by kernel_rfl
  intro x hx
  have := List.all_eq_true.1 h x hx
  cases hg : Tryz.prog.globalNamed x.1 with
  | none => rw [hg] at this; cases this
  | some g => rw [hg] at this; exact ⟨g, rfl, of_decide_eq_true this⟩
theorem ep_of_laid {W : World} (h0 : laidMet Tryz.prog ((eightH.map fun x => (x.1, sentinel "*errors.errorString" x.2)) ++ [("changeling/code.firsts", tabData .u32 Tab.fstL), ("changeling/plan.most", tabData .i64 [3, 1, 1])]) W) : ∃ S : Nat → Addr, Ep (peS S) W ∧ Lv (peS S) W := by
  have hM := mst_of_reads (laidMet.reads h0 (List.mem_append_right _ (by simp)))
  have hF := ft_of_reads (laidMet.reads h0 (List.mem_append_right _ (by simp)))
  obtain ⟨ps, hl, hnd, hrows⟩ := laidMet_left _ _ h0
  obtain ⟨ads, hlen, hvar, hmem, hn⟩ := laid_all Tryz.underlying32 Tryz.rowS Tryz.underlying332 Tryz.underlying351 rfl rfl Tryz.underlying9 Tryz.cellsES Tryz.cellsStr eightH eightH_named ps hl hrows
  have h8 : ads.length = 8 := hlen
  have e1 := World.var?_cell Tryz.gS1 (hvar 0 (by decide) (by omega)) 0
  have e2 := World.var?_cell Tryz.gS2 (hvar 1 (by decide) (by omega)) 0
  have e3 := World.var?_cell Tryz.gS3 (hvar 2 (by decide) (by omega)) 0
  have e5 := World.var?_cell Tryz.gS5 (hvar 3 (by decide) (by omega)) 0
  have e6 := World.var?_cell Tryz.gS6 (hvar 4 (by decide) (by omega)) 0
  have e7 := World.var?_cell Tryz.gS7 (hvar 5 (by decide) (by omega)) 0
  have e8 := World.var?_cell Tryz.gS8 (hvar 6 (by decide) (by omega)) 0
  have e9 := World.var?_cell Tryz.gS9 (hvar 7 (by decide) (by omega)) 0
  have g : Eg (peS fun n => if n = 1 then ads[0] else if n = 2 then ads[1] else if n = 3 then ads[2] else if n = 5 then ads[3] else if n = 6 then ads[4] else if n = 7 then ads[5] else if n = 8 then ads[6] else ads[7]) W :=
    ⟨by simpa [peS] using e1, by simpa [peS] using e2, by simpa [peS] using e3, by simpa [peS] using e7, by simpa [peS] using e8, by simpa [peS] using e9⟩
  exact ⟨_, ⟨g, by simpa [peS] using e6, hM⟩, ⟨g, by simpa [peS] using e5, ⟨g.e4, g.e2, hF⟩⟩⟩
theorem bd_i64 {n : Int} (h : (Lit.int .i64 n).wf = true) : -9223372036854775808 ≤ n ∧ n ≤ 9223372036854775807 := by
  simp [Lit.wf, IntKind.min, IntKind.max, IntKind.signed, IntKind.bits] at h; omega
theorem bd_u32 {n : Int} (h : (Lit.int .u32 n).wf = true) : 0 ≤ n ∧ n < 4294967296 := by
  simp [Lit.wf, IntKind.min, IntKind.max, IntKind.signed, IntKind.bits] at h; omega
end Go.Proofs.YtflagpkmebdckaaGreatDoor
/-
  A slice of instructions that came in.
-/
namespace Go.Proofs.YtflagpkmebdckaaGreatDoor
open Go.ChangeShapes Go.WideShapes Go.ChangeAt Go.RowKit Low
set_option linter.unusedVariables false
theorem cIns5 : Tryz.prog.cellsOf 113 = 5 := by kernel_rfl
theorem cI3 : Tryz.prog.cellsOf 3 = 1 := by kernel_rfl
theorem cU23 : Tryz.prog.cellsOf 22 = 1 := by kernel_rfl
theorem add_plainI (b o i : Nat) : (⟨b, o, none⟩ : Addr).add i = ⟨b, o + i, none⟩ := by unfold Addr.add; split <;> simp_all
set_option maxRecDepth 100000 in
theorem inss_of {H : Type} {enc : TypeId × Value → H} {W : World} {base : Nat} {v : Value} {d : DataW H} {p : List MemPlace} (hv : Value.okWide Tryz.prog W .any base 48 v) (h : DataW.Trod enc Tryz.prog W 0 (fun _ => true) true 48 v d p) :
    ∃ l : List Ix, InsIn W v l ∧ (l.length : Int) ≤ 9223372036854775807 := by
  obtain ⟨a0, len, cap, rfl⟩ := okWide_slice Tryz.underlying48 hv
  obtain ⟨fuel, hf⟩ := h
  rcases Go.Deep.open_slice Tryz.underlying48 hf with ⟨hcs, hx⟩ | ⟨a, len', cap', m, n, D, Pl, hcs, _, hl, hm, hmm, _, hx⟩
  · simp [Value.cells] at hcs
    obtain ⟨rfl, rfl, rfl⟩ := hcs
    exact ⟨[], ⟨⟨none, 0, rfl, Nat.le_refl _, fun h => absurd h (by simp)⟩, fun o ho => by cases ho⟩, by simp⟩
  · simp [Value.cells] at hcs
    obtain ⟨rfl, rfl, rfl⟩ := hcs
    simp only [if_true] at hmm
    subst hmm
    have each : ∀ i, ∃ x : Ix, i < len → x.bd ∧ ∀ (j : Nat) (u : Value), (ixC x)[j]? = some u → W.cell? ((a.add (i * 5)).add j) = some u := by
      intro i
      by_cases hi : i < len
      · obtain ⟨cs', h1, h2⟩ := hx i (by omega)
        rw [cIns5] at h1
        obtain ⟨_, hlen, hcell⟩ := World.cells?_some h1
        obtain ⟨xs, k, hk, hxy, _, hxl, hg⟩ := DataW.trod_struct Tryz.underlying113 h2
        match xs, hxl, cs', hlen with
        | [y0, y1, y2, y3, y4], _, [c0, c1, c2, c3, c4], _ =>
          have g0 := hg 0 _ rfl
          have g1 := hg 1 _ rfl
          have g2 := hg 2 _ rfl
          have g3 := hg 3 _ rfl
          have g4 := hg 4 _ rfl
          simp [cI3, cU23] at g0 g1 g2 g3 g4
          obtain ⟨a0, e0, rfl, w0⟩ := DataW.trod_int Tryz.underlying3 g0
          obtain ⟨a1, e1, rfl, w1⟩ := DataW.trod_int Tryz.underlying3 g1
          obtain ⟨a2, e2, rfl, w2⟩ := DataW.trod_int Tryz.underlying3 g2
          obtain ⟨a3, e3, rfl, w3⟩ := DataW.trod_int Tryz.underlying3 g3
          obtain ⟨a4, e4, rfl, w4⟩ := DataW.trod_int Tryz.underlying22 g4
          simp at e0 e1 e2 e3 e4
          subst e0 e1 e2 e3 e4
          refine ⟨⟨a0, a1, a2, a3, a4⟩, fun _ => ⟨⟨(bd_i64 w0).1, (bd_i64 w0).2, (bd_i64 w1).1, (bd_i64 w1).2, (bd_i64 w2).1, (bd_i64 w2).2, (bd_i64 w3).1, (bd_i64 w3).2, (bd_u32 w4).1, (bd_u32 w4).2⟩, fun j u hj => ?_⟩⟩
          have hj5 : j < 5 := by
            rcases Nat.lt_or_ge j 5 with h | h
            · exact h
            · rw [List.getElem?_eq_none (by simpa [ixC] using h)] at hj; cases hj
          rw [hcell j hj5]
          exact hj
      · exact ⟨⟨0, 0, 0, 0, 0⟩, fun h => absurd h hi⟩
    have hch := Classical.axiomOfChoice each
    obtain ⟨x, hxx⟩ := hch
    have hll : ((List.range len).map x).length = len := by simp
    have hget : ∀ (i : Nat) (o : Ix), ((List.range len).map x)[i]? = some o → i < len ∧ o = x i := by
      intro i o ho
      have hi : i < len := by have := (List.getElem?_eq_some_iff.1 ho).1; simpa using this
      rw [List.getElem?_map, List.getElem?_range hi] at ho
      exact ⟨hi, (Option.some.inj ho).symm⟩
    refine ⟨(List.range len).map x, ⟨⟨some a, _, by rw [hll], by rw [hll]; exact hl, fun hp => ?_⟩, fun o ho => ?_⟩, by rw [hll]; unfold maxLen at hm; omega⟩
    · obtain ⟨b, off, spot⟩ := a
      have hp' : 0 < len := by omega
      have hspot : spot = none := by
        have := (hxx 0 hp').2 0 _ rfl
        simpa [Addr.add] using World.cell?_spot this
      subst hspot
      refine ⟨b, off, rfl, fun i o ho j u hj => ?_⟩
      obtain ⟨hi, rfl⟩ := hget i o ho
      have := (hxx i hi).2 j u hj
      rwa [add_plainI, add_plainI] at this
    · obtain ⟨i, hi, rfl⟩ := List.mem_map.1 ho
      exact (hxx i (List.mem_range.1 hi)).1
end Go.Proofs.YtflagpkmebdckaaGreatDoor
/-
  placed.
-/
namespace Go.Proofs.YtflagpkmebdckaaGreatDoor
open Go.RowKit Go.Maps
open Num
set_option linter.unusedVariables false
/-- what the cells of a place hold -/
def plV (S : St) (v : Value) (wc : Int) (j : Nat) : Value := if j < 43 then stV S j else if j = 43 then v else .int .i64 wc
def plA (S : St) (v : Value) (wc : Int) : Array Value := ((List.range 45).map (plV S v wc)).toArray
theorem plA_size (S : St) (v : Value) (wc : Int) : (plA S v wc).size = 45 := by simp [plA]
theorem plA_get (S : St) (v : Value) (wc : Int) (j : Nat) (h : j < 45) : (plA S v wc)[j]? = some (plV S v wc j) := by
  unfold plA; rw [List.getElem?_toArray, List.getElem?_map, List.getElem?_range h]; rfl
theorem pl_row (w : World) (S : St) (v : Value) (wc : Int) : RowIs (w.alloc (.cells (plA S v wc) 50)) w.heap.size 50 45 (plV S v wc) :=
  ⟨_, heap_alloc_new w _, plA_size _ _ _, fun j hj => plA_get _ _ _ j hj⟩
def plS (S : St) (pc : Int) : St := { S with r := fun j => if j = 0 then 0 else S.r j, pc := pc, nx := lo (pc + 4), sl := false }
theorem plS_ok {S : St} (ok : S.ok) {pc : Int} (hp : u32 pc) : (plS S pc).ok :=
  ⟨fun j => by show u32 (if j = 0 then 0 else S.r j); split; exact ⟨by omega, by omega⟩; exact ok.r j, ok.hi, ok.lo, hp, lo_bd _, ok.st, ok.ca, ok.ep, ok.bd, ok.cm, ok.c0, ok.c1⟩
theorem st_row (w : World) (S : St) : StRow (w.alloc (.cells (stA S) 25)) w.heap.size S :=
  ⟨_, heap_alloc_new w _, stA_size S, fun j hj => stA_get S hj⟩
theorem row_st {w : World} {b : Nat} {S : St} (old : Array Value) (h : w.heap[b]? = some (.cells old 25 (0, 0))) : StRow (w.setRow b (stA S)) b S :=
  ⟨_, setRow_heap w b _ _ _ _ h, stA_size S, fun j hj => stA_get S hj⟩
theorem load_pl {w : World} {b : Nat} {S : St} {v : Value} {wc : Int} (R : RowIs w b 50 45 (plV S v wc)) : (loadVar 25 ⟨b, 0, none⟩).run Tryz.prog w = .ok (.agg (stA S)) w :=
  run_loadVar_mid w b 0 25 (stL S) _ (fun j u hu => by
    have hj : j < 43 := by have := (List.getElem?_eq_some_iff.1 hu).1; simpa [stL] using this
    have : (stL S)[j]? = some (stV S j) := by have := stA_get S hj; simpa [stA] using this
    rw [this] at hu
    rw [Nat.zero_add, R.cell (by omega)]
    unfold plV; rw [if_pos hj]; exact hu) Tryz.underlying25 rfl (by show _ = some 43; kernel_rfl)
set_option maxRecDepth 100000 in
set_option maxHeartbeats 4000000 in
theorem placed_any (w : World) (S : St) (v : Value) (wc : Int) (pc : Int) (p0 : 0 ≤ pc) (p1 : pc < 4294967296) :
    Calls Tryz.prog 22 #[.agg (plA S v wc), .int .u32 pc] w fun e w' => e = .returned (.agg (stA (plS S pc))) ∧ Below w.heap.size w w' := by
  have hrow := pl_row w S v wc
  have hB : Hid (Below w.heap.size w (w.alloc (.cells (plA S v wc) 50))) := (Below.refl _ _).alloc (Nat.le_refl _) _
  have hz : (w.alloc (.cells (plA S v wc) 50)).heap.size = w.heap.size + 1 := by simp
  generalize plA S v wc = PA at *
  go_enter Tryz.func22, Tryz.ntmps22
  have hload : (loadVar 25 ⟨w.heap.size, 0, none⟩).run Tryz.prog ((w.alloc (.cells PA 50)).alloc (.cells (stA zS) 25)) = .ok (.agg (stA S)) _ := load_pl (hrow.stays ((Below.refl _ _).alloc (Nat.le_refl _) _))
  have hz2 : ((w.alloc (.cells PA 50)).alloc (.cells (stA zS) 25)).heap.size = w.heap.size + 2 := by simp
  go_upto_region 2 with (first | (refine wpList_allocSt rfl rfl ?_) | (refine wpList_loadSt rfl _ rfl w.heap.size (stA S) rfl hload ?_) | (refine wpList_storeSt rfl _ _ rfl (stA zS) (stA S) rfl rfl (stA_size _) (stA_size _) (stA_one _) ?_))
  have r1 : StRow (((w.alloc (.cells PA 50)).alloc (.cells (stA zS) 25)).alloc (.cells (stA S) 25)) (w.heap.size + 1) zS := by
    have := st_row (w.alloc (.cells PA 50)) zS
    rw [hz] at this
    exact this.stays ((Below.refl _ _).alloc (Nat.le_refl _) _)
  have r2 : StRow (((w.alloc (.cells PA 50)).alloc (.cells (stA zS) 25)).alloc (.cells (stA S) 25)) (w.heap.size + 2) S := by
    have := st_row ((w.alloc (.cells PA 50)).alloc (.cells (stA zS) 25)) S
    rw [hz2] at this
    exact this
  have B2 : Hid (Below w.heap.size w (((w.alloc (.cells PA 50)).alloc (.cells (stA zS) 25)).alloc (.cells (stA S) 25))) := (hB.out.alloc (by omega) _).alloc (by omega) _
  generalize ((w.alloc (.cells PA 50)).alloc (.cells (stA zS) 25)).alloc (.cells (stA S) 25) = V at *
  have q0 := r2.at.reg (i := 0) (by omega)
  obtain ⟨_, _, q34, q35, q36, _⟩ := r2.at.told
  have f0 := r2.fz 0
  have f34 := r2.fz 34
  have f35 := r2.fz 35
  have f36 := r2.fz 36
  clear hload hrow
  go_upto_region 6 with fail
  have r3 : StRow ((((V.setCell ⟨w.heap.size + 2, 0, none⟩ (.int .u32 0)).setCell ⟨w.heap.size + 2, 34, none⟩ (.int .u32 pc)).setCell ⟨w.heap.size + 2, 35, none⟩ (.int .u32 ((pc + 4) % 4294967296))).setCell ⟨w.heap.size + 2, 36, none⟩ (.bool false)) (w.heap.size + 2) (plS S pc) := by
    have a1 := r2.put 0 (.int .u32 0) (stV { S with r := fun j => if j = 0 then 0 else S.r j }) rfl (fun j hj hn => by unfold stV; simp [hn])
    have a2 := a1.put 34 (.int .u32 pc) (stV { S with r := fun j => if j = 0 then 0 else S.r j, pc := pc }) rfl (fun j hj hn => by unfold stV; simp [hn])
    have a3 := a2.put 35 (.int .u32 ((pc + 4) % 4294967296)) (stV { S with r := fun j => if j = 0 then 0 else S.r j, pc := pc, nx := lo (pc + 4) }) rfl (fun j hj hn => by unfold stV; simp [hn])
    exact a3.put 36 (.bool false) (stV (plS S pc)) rfl (fun j hj hn => by unfold stV plS; simp [hn])
  have o3 : ∀ k, k ≠ w.heap.size + 2 → ((((V.setCell ⟨w.heap.size + 2, 0, none⟩ (.int .u32 0)).setCell ⟨w.heap.size + 2, 34, none⟩ (.int .u32 pc)).setCell ⟨w.heap.size + 2, 35, none⟩ (.int .u32 ((pc + 4) % 4294967296))).setCell ⟨w.heap.size + 2, 36, none⟩ (.bool false)).heap[k]? = V.heap[k]? := fun k hk => (((Below.heap_setCell _ ⟨w.heap.size + 2, 36, none⟩ _ k hk).trans (Below.heap_setCell _ ⟨w.heap.size + 2, 35, none⟩ _ k hk)).trans (Below.heap_setCell _ ⟨w.heap.size + 2, 34, none⟩ _ k hk)).trans (Below.heap_setCell _ ⟨w.heap.size + 2, 0, none⟩ _ k hk)
  have B3 : Hid (Below w.heap.size w ((((V.setCell ⟨w.heap.size + 2, 0, none⟩ (.int .u32 0)).setCell ⟨w.heap.size + 2, 34, none⟩ (.int .u32 pc)).setCell ⟨w.heap.size + 2, 35, none⟩ (.int .u32 ((pc + 4) % 4294967296))).setCell ⟨w.heap.size + 2, 36, none⟩ (.bool false))) := (((B2.out.setCell (p := ⟨w.heap.size + 2, 0, none⟩) (by show _ ≤ w.heap.size + 2; omega) _).setCell (p := ⟨w.heap.size + 2, 34, none⟩) (by show _ ≤ w.heap.size + 2; omega) _).setCell (p := ⟨w.heap.size + 2, 35, none⟩) (by show _ ≤ w.heap.size + 2; omega) _).setCell (p := ⟨w.heap.size + 2, 36, none⟩) (by show _ ≤ w.heap.size + 2; omega) _
  have r4 := r1.block (o3 (w.heap.size + 1) (by omega))
  generalize (((V.setCell ⟨w.heap.size + 2, 0, none⟩ (.int .u32 0)).setCell ⟨w.heap.size + 2, 34, none⟩ (.int .u32 pc)).setCell ⟨w.heap.size + 2, 35, none⟩ (.int .u32 ((pc + 4) % 4294967296))).setCell ⟨w.heap.size + 2, 36, none⟩ (.bool false) = U at *
  obtain ⟨old, o1, o2, _⟩ := r4
  have hl3 := load_st r3.at
  clear q0 q34 q35 q36 f0 f34 f35 f36 r1 r2 o3
  go_wp2_with (first | (refine wpList_loadSt rfl _ rfl (w.heap.size + 2) (stA (plS S pc)) rfl hl3 ?_) | (refine wpList_storeRow rfl _ _ rfl (w.heap.size + 1) old (stA (plS S pc)) rfl rfl o1 o2 (stA_size _) (stA_one _) ?_))
  have r5 : StRow (U.setRow (w.heap.size + 1) (stA (plS S pc))) (w.heap.size + 1) (plS S pc) := row_st old o1
  refine bodyPost_ret (results_one_cell (A := ⟨w.heap.size + 1, 0, none⟩) rfl _ _ _ rfl (load_st r5.at)) rfl ?_
  exact ⟨rfl, below_setRow B3.out (by omega) _⟩
end Go.Proofs.YtflagpkmebdckaaGreatDoor
/-
  A place that came in.
-/
namespace Go.Proofs.YtflagpkmebdckaaGreatDoor
open Go.ChangeShapes Go.WideShapes Go.ChangeAt Go.RowKit
set_option linter.unusedVariables false
theorem addr_plainZ (b o i : Nat) : (⟨b, o, none⟩ : Addr).add i = ⟨b, o + i, none⟩ := by unfold Addr.add; split <;> simp_all
theorem c30 : Tryz.prog.cellsOf 23 = 32 := by kernel_rfl
theorem c23' : Tryz.prog.cellsOf 22 = 1 := by kernel_rfl
theorem take_one {l : List Value} {k : Nat} {x : Value} (h : (l.drop k).take 1 = [x]) : l[k]? = some x := by
  have h2 : ((l.drop k).take 1)[0]? = some x := by rw [h]; rfl
  rw [List.getElem?_take_of_lt (by omega), List.getElem?_drop] at h2
  simpa using h2
def iv (v : Option Value) : Int := match v with | some (.int _ n) => n | _ => 0
def bv (v : Option Value) : Bool := match v with | some (.bool x) => x | _ => false
def stOf (cs : Array Value) : St := ⟨fun i => if i < 32 then iv cs[i]? else 0, iv cs[32]?, iv cs[33]?, iv cs[34]?, iv cs[35]?, bv cs[36]?, iv cs[37]?, iv cs[38]?, iv cs[39]?, iv cs[40]?, iv cs[41]?, iv cs[42]?⟩
set_option maxRecDepth 100000 in
theorem open_st {H : Type} {enc : TypeId × Value → H} {W : World} {base : Nat} {sp : Nat → Bool} {held : Bool} {fuel : Nat} {cs : Array Value} {y : DataW H × List MemPlace} (hsz : cs.size = 43) (hf : DataW.trod enc Tryz.prog W base sp held fuel 25 cs.toList = some y) :
    ∃ S : St, cs = stA S ∧ (0 ≤ S.ct → S.ct ≤ 1099511627776 → S.ok) ∧ -9223372036854775808 ≤ S.ct ∧ S.ct ≤ 9223372036854775807 := by
  obtain ⟨xs, n, _, hx, hl, hlen, hg⟩ := DataW.trod_struct Tryz.underlying25 hf
  have hget : ∀ i (hi : i < 12), ∃ y, xs[i]? = some y := fun i hi => by
    have : i < xs.length := by rw [hlen]; exact hi
    exact ⟨_, List.getElem?_eq_getElem this⟩
  have word : ∀ (i o : Nat), (∃ y, DataW.trod enc Tryz.prog W base sp held n 22 ((cs.toList.drop o).take 1) = some y) → ∃ z : Int, cs[o]? = some (.int .u32 z) ∧ u32 z := by
    intro i o ⟨y, hy⟩
    obtain ⟨z, e, _, w⟩ := DataW.trod_int Tryz.underlying22 hy
    have := take_one e
    rw [Array.getElem?_toList] at this
    exact ⟨z, this, bd_u32 w⟩
  have hr : ∀ i, i < 32 → ∃ z : Int, cs[i]? = some (.int .u32 z) ∧ u32 z := by
    obtain ⟨y, hy⟩ := hget 0 (by omega)
    have g := hg 0 _ rfl
    rw [hy] at g
    obtain ⟨ys, m, _, _, _, hl2, hg2⟩ := DataW.trod_array Tryz.underlying23 g
    intro i hi
    have g2 := hg2 i hi
    have : i < ys.length := by rw [hl2]; exact hi
    rw [List.getElem?_eq_getElem this, c23', Nat.mul_one] at g2
    obtain ⟨z, e, _, w⟩ := DataW.trod_int Tryz.underlying22 g2
    have h1 := take_one e
    rw [List.getElem?_take_of_lt (by show i < Tryz.prog.cellsOf 23; rw [c30]; exact hi)] at h1
    rw [List.getElem?_drop] at h1
    exact ⟨z, by simpa using h1, bd_u32 w⟩
  obtain ⟨z32, e32, b32⟩ : ∃ z : Int, cs[32]? = some (.int .u32 z) ∧ u32 z := by
    obtain ⟨y, hy⟩ := hget 1 (by omega)
    exact word 1 32 ⟨y, by have g := hg 1 _ rfl; rw [hy] at g; exact g⟩
  obtain ⟨z33, e33, b33⟩ : ∃ z : Int, cs[33]? = some (.int .u32 z) ∧ u32 z := by
    obtain ⟨y, hy⟩ := hget 2 (by omega)
    exact word 2 33 ⟨y, by have g := hg 2 _ rfl; rw [hy] at g; exact g⟩
  obtain ⟨z34, e34, b34⟩ : ∃ z : Int, cs[34]? = some (.int .u32 z) ∧ u32 z := by
    obtain ⟨y, hy⟩ := hget 3 (by omega)
    exact word 3 34 ⟨y, by have g := hg 3 _ rfl; rw [hy] at g; exact g⟩
  obtain ⟨z35, e35, b35⟩ : ∃ z : Int, cs[35]? = some (.int .u32 z) ∧ u32 z := by
    obtain ⟨y, hy⟩ := hget 4 (by omega)
    exact word 4 35 ⟨y, by have g := hg 4 _ rfl; rw [hy] at g; exact g⟩
  obtain ⟨z36, e36⟩ : ∃ z : Bool, cs[36]? = some (.bool z) := by
    obtain ⟨y, hy⟩ := hget 5 (by omega)
    have g := hg 5 _ rfl
    rw [hy] at g
    obtain ⟨z, e, _⟩ := DataW.trod_bool Tryz.underlying4 g
    have := take_one (l := cs.toList) (k := 36) e
    rw [Array.getElem?_toList] at this
    exact ⟨z, this⟩
  obtain ⟨z37, e37, b37⟩ : ∃ z : Int, cs[37]? = some (.int .u32 z) ∧ u32 z := by
    obtain ⟨y, hy⟩ := hget 6 (by omega)
    exact word 6 37 ⟨y, by have g := hg 6 _ rfl; rw [hy] at g; exact g⟩
  obtain ⟨z38, e38, b38⟩ : ∃ z : Int, cs[38]? = some (.int .u32 z) ∧ u32 z := by
    obtain ⟨y, hy⟩ := hget 7 (by omega)
    exact word 7 38 ⟨y, by have g := hg 7 _ rfl; rw [hy] at g; exact g⟩
  obtain ⟨z39, e39, b39⟩ : ∃ z : Int, cs[39]? = some (.int .u32 z) ∧ u32 z := by
    obtain ⟨y, hy⟩ := hget 8 (by omega)
    exact word 8 39 ⟨y, by have g := hg 8 _ rfl; rw [hy] at g; exact g⟩
  obtain ⟨z40, e40, b40⟩ : ∃ z : Int, cs[40]? = some (.int .u32 z) ∧ u32 z := by
    obtain ⟨y, hy⟩ := hget 9 (by omega)
    exact word 9 40 ⟨y, by have g := hg 9 _ rfl; rw [hy] at g; exact g⟩
  obtain ⟨z41, e41, b41⟩ : ∃ z : Int, cs[41]? = some (.int .u32 z) ∧ u32 z := by
    obtain ⟨y, hy⟩ := hget 10 (by omega)
    exact word 10 41 ⟨y, by have g := hg 10 _ rfl; rw [hy] at g; exact g⟩
  obtain ⟨z42, e42, b42⟩ : ∃ z : Int, cs[42]? = some (.int .i64 z) ∧ (-9223372036854775808 ≤ z ∧ z ≤ 9223372036854775807) := by
    obtain ⟨y, hy⟩ := hget 11 (by omega)
    have g := hg 11 _ rfl
    rw [hy] at g
    obtain ⟨z, e, _, w⟩ := DataW.trod_int Tryz.underlying3 g
    have := take_one (l := cs.toList) (k := 42) e
    rw [Array.getElem?_toList] at this
    exact ⟨z, this, bd_i64 w⟩
  refine ⟨stOf cs, ?_, fun h0 h1 => ?_, ?_, ?_⟩
  · apply Array.ext_getElem?
    intro j
    by_cases hj : j < 43
    · rw [stA_get _ hj]
      unfold stV
      by_cases h32 : j < 32
      · rw [if_pos h32]
        obtain ⟨z, e, _⟩ := hr j h32
        show cs[j]? = some (Value.int .u32 (if j < 32 then iv cs[j]? else 0))
        rw [if_pos h32, e]; rfl
      · rw [if_neg h32]
        have hj' : j = 32 ∨ j = 33 ∨ j = 34 ∨ j = 35 ∨ j = 36 ∨ j = 37 ∨ j = 38 ∨ j = 39 ∨ j = 40 ∨ j = 41 ∨ j = 42 := by omega
        rcases hj' with rfl | rfl | rfl | rfl | rfl | rfl | rfl | rfl | rfl | rfl | rfl <;> simp [stOf, e32, e33, e34, e35, e36, e37, e38, e39, e40, e41, e42, iv, bv]
    · rw [Array.getElem?_eq_none (by omega), Array.getElem?_eq_none (by rw [show (stA (stOf cs)).size = 43 by simp [stA, stL]]; omega)]
  · have h0' : 0 ≤ z42 := by simpa [stOf, e42, iv] using h0
    have h1' : z42 ≤ 1099511627776 := by simpa [stOf, e42, iv] using h1
    refine ⟨fun i => ?_, ?_, ?_, ?_, ?_, ?_, ?_, ?_, ?_, ?_, ?_, ?_⟩
    · show u32 (if i < 32 then iv cs[i]? else 0)
      split
      · rename_i hi
        obtain ⟨z, e, b⟩ := hr i hi
        rw [e]; exact b
      · exact ⟨by omega, by omega⟩
    · show u32 (iv cs[32]?); rw [e32]; exact b32
    · show u32 (iv cs[33]?); rw [e33]; exact b33
    · show u32 (iv cs[34]?); rw [e34]; exact b34
    · show u32 (iv cs[35]?); rw [e35]; exact b35
    · show u32 (iv cs[37]?); rw [e37]; exact b37
    · show u32 (iv cs[38]?); rw [e38]; exact b38
    · show u32 (iv cs[39]?); rw [e39]; exact b39
    · show u32 (iv cs[40]?); rw [e40]; exact b40
    · show u32 (iv cs[41]?); rw [e41]; exact b41
    · show _ ≤ iv cs[42]?; rw [e42]; show _ ≤ z42; omega
    · show iv cs[42]? < _; rw [e42]; show z42 < _; omega
  · show _ ≤ iv cs[42]?; rw [e42]; exact b42.1
  · show iv cs[42]? ≤ _; rw [e42]; exact b42.2
set_option maxRecDepth 100000 in
/-- the cell of a slice of words that came in -/
theorem words_raw {H : Type} {enc : TypeId × Value → H} {W : World} {fuel : Nat} {L : List Value} {y : DataW H × List MemPlace} (hf : DataW.trod enc Tryz.prog W 0 (fun _ => true) true fuel 46 L = some y) :
    ∃ (v : Value) (xs : List Int), L = [v] ∧ WordsIn W v xs ∧ (xs.length : Int) ≤ 9223372036854775807 := by
  rcases open_ints Tryz.underlying46 Tryz.underlying22 c23' hf with ⟨hcs, hx⟩ | ⟨a, len, cap, zs, hcs, _, hl, hm, hz, hx, hcell, hwz⟩
  · exact ⟨.slice none 0 0, [], hcs, ⟨⟨none, 0, rfl, Nat.le_refl _, fun h => absurd h (by simp)⟩, mw_wf [] (by simp)⟩, by simp⟩
  · simp only [if_true] at hz
    have hlen : (zs.take len).length = len := by simp; omega
    refine ⟨.slice (some a) len cap, zs.take len, hcs, ⟨⟨some a, cap, by rw [hlen], by omega, fun hp => ?_⟩, mw_wf _ (fun x hx => bd_u32 (hwz x (List.mem_of_mem_take hx)))⟩, ?_⟩
    · obtain ⟨b, off, spot⟩ := a
      have hspot : spot = none := by simpa [Addr.add] using World.cell?_spot (hcell 0 (by omega))
      subst hspot
      refine ⟨b, off, rfl, fun i hi => ?_⟩
      have := hcell i (by omega)
      rw [addr_plainZ] at this
      rw [this, List.getD_eq_getElem?_getD, List.getD_eq_getElem?_getD, List.getElem?_take_of_lt (by omega)]
    · unfold maxLen at hm; omega
theorem c29' : Tryz.prog.cellsOf 50 = 45 := by kernel_rfl
set_option maxRecDepth 100000 in
theorem open_place {H : Type} {enc : TypeId × Value → H} {W : World} {r : Reach} {b0 : Nat} {v : Value} {d : DataW H} {p : List MemPlace} (hv : Value.okWide Tryz.prog W r b0 50 v) (h : DataW.Trod enc Tryz.prog W 0 (fun _ => true) true 50 v d p) :
    ∃ (S : St) (vx : Value) (xs : List Int) (wc : Int), v = .agg (plA S vx wc) ∧ (0 ≤ S.ct → S.ct ≤ 1099511627776 → S.ok) ∧ WordsIn W vx xs := by
  obtain ⟨cs, rfl, hsz⟩ := okWide_struct Tryz.underlying50 hv
  rw [c29'] at hsz
  obtain ⟨fuel, hf⟩ := h
  obtain ⟨ys, n, _, hx, hl, hlen, hg⟩ := DataW.trod_struct Tryz.underlying50 hf
  have hget : ∀ i (hi : i < 3), ∃ y, ys[i]? = some y := fun i hi => by
    have : i < ys.length := by rw [hlen]; exact hi
    exact ⟨_, List.getElem?_eq_getElem this⟩
  obtain ⟨y0, q0⟩ := hget 0 (by omega)
  obtain ⟨y1, q1⟩ := hget 1 (by omega)
  obtain ⟨y2, q2⟩ := hget 2 (by omega)
  have g0 : DataW.trod enc Tryz.prog W 0 (fun _ => true) true n 25 ((cs.toList.drop 0).take 43) = some y0 := by have g := hg 0 _ rfl; rw [q0] at g; exact g
  have g1 : DataW.trod enc Tryz.prog W 0 (fun _ => true) true n 46 ((cs.toList.drop 43).take 1) = some y1 := by have g := hg 1 _ rfl; rw [q1] at g; exact g
  have g2 : DataW.trod enc Tryz.prog W 0 (fun _ => true) true n 3 ((cs.toList.drop 44).take 1) = some y2 := by have g := hg 2 _ rfl; rw [q2] at g; exact g
  have hc : (cs.toList.take 43).toArray.size = 43 := by simp; omega
  obtain ⟨S, eS, hok, _, _⟩ := open_st hc (by rw [List.toList_toArray]; exact g0)
  obtain ⟨vx, xs, ex, X, _⟩ := words_raw g1
  obtain ⟨wc, ew, _, _⟩ := DataW.trod_int Tryz.underlying3 g2
  have k43 := take_one ex
  have k44 := take_one ew
  refine ⟨S, vx, xs, wc, ?_, hok, X⟩
  congr 1
  apply Array.ext_getElem?
  intro j
  by_cases hj : j < 45
  · rw [plA_get _ _ _ _ hj]
    unfold plV
    by_cases h43 : j < 43
    · rw [if_pos h43, ← stA_get S h43, ← eS]
      simp [h43]
    · rw [if_neg h43]
      by_cases e : j = 43
      · subst e; rw [if_pos rfl, ← Array.getElem?_toList]; exact k43
      · obtain rfl : j = 44 := by omega
        rw [if_neg (by decide), ← Array.getElem?_toList]; exact k44
  · rw [Array.getElem?_eq_none (by omega), Array.getElem?_eq_none (by rw [plA_size]; omega)]
end Go.Proofs.YtflagpkmebdckaaGreatDoor
