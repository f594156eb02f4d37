/-
  The document's isDead and DeadOf.
-/
import Derived.Test.YtcccaejjhodnkaaDoorDoc3
namespace Go.Proofs.YtcccaejjhodnkaaDoor
open Go.RowKit Go.Maps
open Num
set_option linter.unusedVariables false
theorem BoxO.drewN {W : World} {x : Nat} {o : Opx} (B : BoxO W x o) (n : Nat) : BoxO (W.drewN n) x o := ⟨B.c0, B.c1, B.c2, B.c3, B.c4, B.c5⟩
theorem BoxO.stays {W W' : World} {x : Nat} {o : Opx} (B : BoxO W x o) (h : Below W.heap.size W W') : BoxO W' x o := B.block (h.block _ B.lt)
/-- what a slice's whole numbers are -/
def IntsC (W : World) (ao : Option Addr) (l : List Int) : Prop := 0 < l.length → ∃ g, ao = some ⟨g, 0, none⟩ ∧ ∀ (i : Nat) (x : Int), l[i]? = some x → W.cell? ⟨g, i, none⟩ = some (.int .i64 x)
theorem IntsC.drewN {W : World} {ao : Option Addr} {l : List Int} (C : IntsC W ao l) (n : Nat) : IntsC (W.drewN n) ao l := fun h => let ⟨g, e, c⟩ := C h; ⟨g, e, fun i x hx => c i x hx⟩
theorem scanD_cons (d : Int) (f : Bool) (x : Opx) (l : List Opx) : scanD d f (x :: l) = if d ∈ rdX x then false else if wrX x = d then decide (33 < d) || !f else scanD d (f || decide (x.k = 25)) l := rfl
/-- the six cells of each op of a slice -/
def OpsCx (W : World) (b off : Nat) (l : List Opx) : Prop := ∀ (i : Nat) (o : Opx), l[i]? = some o → ∀ (j : Nat) (u : Value), (opC o)[j]? = some u → W.cell? ⟨b, off + i * 6 + j, none⟩ = some u
/-- two ops, one in its box -/
structure Two1 (W : World) (b a bx : Nat) (x : Opx) (d : Int) : Prop where
  x0 : W.cell? ⟨b, a, none⟩ = some (.string x.s)
  x1 : W.cell? ⟨b, a + 1, none⟩ = some (.int .i64 x.d)
  x2 : W.cell? ⟨b, a + 2, none⟩ = some (.int .i64 x.a)
  x3 : W.cell? ⟨b, a + 3, none⟩ = some (.int .i64 x.b)
  x4 : W.cell? ⟨b, a + 4, none⟩ = some (.int .u32 x.i)
  x5 : W.cell? ⟨b, a + 5, none⟩ = some (.int .i64 x.t)
  d1 : W.cell? ⟨bx, 1, none⟩ = some (.int .i64 d)
set_option maxRecDepth 100000 in
set_option maxHeartbeats 4000000 in
theorem isDead_no {w : World} {b off cap : Nat} {l : List Opx} (C : ∀ (i : Nat) (o : Opx), l[i]? = some o → ∀ (j : Nat) (u : Value), (opC o)[j]? = some u → w.cell? ⟨b, off + i * 6 + j, none⟩ = some u) (hl : (l.length : Int) ≤ 1000000) (j : Nat) (o : Opx) (ho : l[j]? = some o) (hk : ¬ (1 ≤ o.k ∧ o.k ≤ 20)) :
    Calls Tryd.prog 53 #[.slice (some ⟨b, off, none⟩) l.length cap, .int .i64 j] w fun e w' => e = .returned (.bool false) ∧ Below w.heap.size w w' := by
  obtain ⟨x0, x1, x2, x3, x4, x5⟩ := op_cells (C j o ho)
  have hb := World.block_lt_of_cell? _ _ x0
  have hlt : j < l.length := (List.getElem?_eq_some_iff.1 ho).1
  have hlt' : (j : Int) < l.length := by omega
  have hsm := fun W => isSum_any o.s W
  have e1 : (o.s.toList == [115, 101, 116]) = false := by rw [show (o.s.toList == [115, 101, 116]) = _ from kn_eq o.s 1 (by omega) (by omega)]; simp; unfold Opx.k at hk; omega
  have e2 : (o.s.toList == [99, 111, 112, 121]) = false := by rw [show (o.s.toList == [99, 111, 112, 121]) = _ from kn_eq o.s 2 (by omega) (by omega)]; simp; unfold Opx.k at hk; omega
  rw [show decide (3 ≤ kn o.s ∧ kn o.s ≤ 20) = false by simp; unfold Opx.k at hk; omega] at hsm
  have hB : Hid (Below w.heap.size w (w.alloc (.cells #[.string o.s, .int .i64 o.d, .int .i64 o.a, .int .i64 o.b, .int .u32 o.i, .int .i64 o.t] 60))) := (Below.refl _ _).alloc (Nat.le_refl _) _
  clear C ho hk
  go_enter Tryd.func53, Tryd.ntmps53
  go_wp2_with fail
  refine (hsm _).mono ?_
  rintro e w1 ⟨rfl, hw⟩
  rw [hw]
  clear hw w1
  go_wp2
  go_ret
  exact ⟨rfl, hB.out⟩
set_option maxRecDepth 100000 in
set_option maxHeartbeats 8000000 in
theorem isDead_do {w : World} {b off cap : Nat} {l : List Opx} (C : ∀ (i : Nat) (o : Opx), l[i]? = some o → ∀ (j : Nat) (u : Value), (opC o)[j]? = some u → w.cell? ⟨b, off + i * 6 + j, none⟩ = some u) (hl : (l.length : Int) ≤ 1000000) (j : Nat) (o : Opx) (ho : l[j]? = some o) (hk : 1 ≤ o.k ∧ o.k ≤ 20) :
    Calls Tryd.prog 53 #[.slice (some ⟨b, off, none⟩) l.length cap, .int .i64 j] w fun e w' => e = .returned (.bool (scanD o.d false (l.drop (j + 1)))) ∧ Below w.heap.size w w' := by
  obtain ⟨x0, x1, x2, x3, x4, x5⟩ := op_cells (C j o ho)
  have hb := World.block_lt_of_cell? _ _ x0
  have hlt : j < l.length := (List.getElem?_eq_some_iff.1 ho).1
  have hlt' : (j : Int) < l.length := by omega
  have hsm := fun W => isSum_any o.s W
  have e1 : (o.s.toList == [115, 101, 116]) = decide (kn o.s = 1) := kn_eq o.s 1 (by omega) (by omega)
  have e2 : (o.s.toList == [99, 111, 112, 121]) = decide (kn o.s = 2) := kn_eq o.s 2 (by omega) (by omega)
  have B0 : Below w.heap.size w (w.alloc (.cells #[.string o.s, .int .i64 o.d, .int .i64 o.a, .int .i64 o.b, .int .u32 o.i, .int .i64 o.t] 60)) := (Below.refl _ _).alloc (Nat.le_refl _) _
  have bx := BoxO.new w o
  have hcs : (o.s.toList == [115, 101, 116]) = true ∨ ((o.s.toList == [115, 101, 116]) = false ∧ (o.s.toList == [99, 111, 112, 121]) = true) ∨ ((o.s.toList == [115, 101, 116]) = false ∧ (o.s.toList == [99, 111, 112, 121]) = false ∧ decide (3 ≤ kn o.s ∧ kn o.s ≤ 20) = true) := by
    rw [e1, e2]; unfold Opx.k at hk; simp; omega
  have HC : Hid (OpsCx w b off l) := C
  clear e1 e2 ho hk C
  generalize decide (3 ≤ kn o.s ∧ kn o.s ≤ 20) = sm at *
  obtain ⟨RES, hRES⟩ : ∃ R, scanD o.d false (l.drop (j + 1)) = R := ⟨_, rfl⟩
  rw [hRES]
  have HRES : Hid (scanD o.d false (l.drop (j + 1)) = RES) := hRES
  clear hRES
  go_enter Tryd.func53, Tryd.ntmps53
  go_upto_region 2 with fail
  generalize w.alloc (.cells #[.string o.s, .int .i64 o.d, .int .i64 o.a, .int .i64 o.b, .int .u32 o.i, .int .i64 o.t] 60) = V at *
  have BX : Hid (BoxO V w.heap.size o) := bx
  obtain ⟨c0, c1, c2, c3, c4, c5⟩ := bx
  clear x0 x1 x2 x3 x4 x5
  go_wp2_with fail
  refine (hsm _).mono ?_
  rintro e w1 ⟨rfl, hw⟩
  rw [hw]
  clear hw w1 hsm
  have HB0 : Hid (Below w.heap.size w V) := B0
  clear B0
  rcases hcs with h1 | ⟨h1, h2⟩ | ⟨h1, h2, rfl⟩
  all_goals
    go_wp2
    clear c0 c1 c2 c3 c4 c5
    go_loopw [7, 8] (fun f k wr => ∃ (ifs kk : Nat), kk ≤ l.length ∧ j + 1 ≤ kk ∧ ifs ≤ kk ∧ f = .int .i64 ifs ∧ k = .int .i64 kk ∧ RES = scanD o.d (decide (ifs ≠ 0)) (l.drop kk) ∧ Below w.heap.size w wr ∧ BoxO wr w.heap.size o) (fun _ k _ => l.length - (intOf k).toNat)
    case atStart => exact ⟨0, j + 1, by omega, Nat.le_refl _, by omega, rfl, by go_num, HRES.out.symm, HB0.out, BX.out⟩
    case round =>
      obtain ⟨ifs, kk, hkl, hjk, hif, rfl, rfl, hsc, hB, hX⟩ := hrel
      have HS : Hid (RES = scanD o.d (decide (ifs ≠ 0)) (l.drop kk)) := hsc
      have HB : Hid (Below w.heap.size w wr) := hB
      have HX : Hid (BoxO wr w.heap.size o) := hX
      clear hsc hX HB0 BX HRES
      by_cases hlk : kk < l.length
      · obtain ⟨x, hx, hdx⟩ : ∃ x, l[kk]? = some x ∧ l.drop kk = x :: l.drop (kk + 1) := ⟨_, List.getElem?_eq_getElem hlk, List.drop_eq_getElem_cons hlk⟩
        have HS2 : Hid (RES = if o.d ∈ rdX x then false else if wrX x = o.d then decide (33 < o.d) || !(decide (ifs ≠ 0)) else scanD o.d (decide (ifs ≠ 0) || decide (x.k = 25)) (l.drop (kk + 1))) := by show _ = _; rw [HS.out, hdx, scanD_cons]
        have HCL : Hid (∀ W, Below w.heap.size w W → W.cell? ⟨b, off + kk * 6, none⟩ = some (.string x.s) ∧ W.cell? ⟨b, off + kk * 6 + 1, none⟩ = some (.int .i64 x.d) ∧ W.cell? ⟨b, off + kk * 6 + 2, none⟩ = some (.int .i64 x.a) ∧ W.cell? ⟨b, off + kk * 6 + 3, none⟩ = some (.int .i64 x.b) ∧ W.cell? ⟨b, off + kk * 6 + 4, none⟩ = some (.int .u32 x.i) ∧ W.cell? ⟨b, off + kk * 6 + 5, none⟩ = some (.int .i64 x.t)) := fun W hW => op_cells fun k u hk => (hW.cell (p := ⟨b, off + kk * 6 + k, none⟩) hb).trans (HC.out kk x hx k u hk)
        have hlk' : (kk : Int) < l.length := by omega
        obtain ⟨x0, x1, x2, x3, x4, x5⟩ := HCL.out wr hB
        have hbr : b < wr.heap.size := World.block_lt_of_cell? _ _ x0
        have hrd := readsOf_any x wr
        have hwr := fun W => writeOf_any x W
        unfold opV at hrd hwr
        have h25 := kn_eq x.s 25 (by omega) (by omega)
        have H25 : Hid ((x.s.toList == [105, 102]) = decide (x.k = 25)) := h25
        clear hx hdx HS hB h25
        generalize hL : rdX x = L at *
        have hl3 : (L.length : Int) ≤ 3 := by rw [← hL]; rcases rd_ways x with ⟨_, _, _, h⟩ | ⟨_, _, _, h⟩ | ⟨_, _, _, h⟩ | ⟨_, _, _, h⟩ <;> rw [h] <;> simp
        clear hL
        go_wp2_with fail
        refine hrd.mono ?_
        rintro e w2 ⟨v, rfl, hown, hb2⟩
        obtain ⟨ao, cp, rfl, hcp, hcl⟩ := ints_cell hown
        have HI : Hid (IntsC w2 ao L) := fun h => let ⟨g, e, _, c⟩ := hcl h; ⟨g, e, c⟩
        have B2 : Hid (Below w.heap.size w w2) := HB.out.trans (hb2.mono HB.out.size)
        have X2 : Hid (BoxO w2 w.heap.size o) := HX.out.stays hb2
        clear hrd hown hcl hb2 HB HX x0 x1 x2 x3 x4 x5 hbr
        go_wp2
        go_loopw [10] (fun q wr => ∃ qq : Nat, qq ≤ L.length ∧ q = .int .i64 qq ∧ (∀ y ∈ L.take qq, y ≠ o.d) ∧ Below w.heap.size w wr ∧ BoxO wr w.heap.size o ∧ IntsC wr ao L) (fun q _ => L.length - (intOf q).toNat)
        case atStart => exact ⟨0, Nat.zero_le _, rfl, by simp, B2.out, X2.out, HI.out⟩
        case round =>
          obtain ⟨qq, hqq, rfl, hne, hB, hX, hI⟩ := hrel
          have HNE : Hid (∀ y ∈ L.take qq, y ≠ o.d) := hne
          have HB3 : Hid (Below w.heap.size w wr) := hB
          have HX3 : Hid (BoxO wr w.heap.size o) := hX
          have HI3 : Hid (IntsC wr ao L) := hI
          have d1 := hX.c1
          have hzx : w.heap.size < wr.heap.size := hX.lt
          clear hne hI hX HI B2 X2
          by_cases hql : qq < L.length
          · obtain ⟨y, hy⟩ : ∃ y, L[qq]? = some y := ⟨_, List.getElem?_eq_getElem hql⟩
            obtain ⟨g, rfl, hgc⟩ := HI3.out (by omega)
            have hyc := hgc qq y hy
            have hgz := World.block_lt_of_cell? _ _ hyc
            have hql' : (qq : Int) < L.length := by omega
            have HY : Hid (L[qq]? = some y) := hy
            clear hgc hy hB
            go_wp2
            go_quiet (fail)
            by_cases hyd : y = o.d
            · have hyd' : (y == o.d) = true := by simpa using hyd
              have HR : Hid (RES = false) := by show _ = _; rw [HS2.out, if_pos (by rw [← hyd]; exact List.mem_of_getElem? HY.out)]
              go_wp2
              go_ret
              exact ⟨by rw [HR.out]; rfl, below_drewN HB3.out nq⟩
            · have hyd' : (y == o.d) = false := by simpa using hyd
              have HYD : Hid (y ≠ o.d) := hyd
              clear hyd
              go_wp2
              go_roundw
              case rel =>
                refine ⟨qq + 1, by omega, by go_num, fun z hz => ?_, below_drewN HB3.out nq, HX3.out.drewN nq, HI3.out.drewN nq⟩
                rw [List.take_add_one, HY.out] at hz
                rcases List.mem_append.1 hz with hz | hz
                · exact HNE.out z hz
                · simp at hz; rw [hz]; exact HYD.out
              case measure => simp [intOf]; omega
          · obtain rfl : qq = L.length := by omega
            have HNM : Hid (o.d ∉ L) := fun hm => HNE.out _ (by rw [List.take_length]; exact hm) rfl
            obtain ⟨x0, x1, x2, x3, x4, x5⟩ := HCL.out wr hB
            have hbr : b < wr.heap.size := World.block_lt_of_cell? _ _ x0
            clear hB
            go_wp2
            refine wp_region_phase 8 [(0, 0), (1, 0), (2, 0), (3, 1), (5, 0), (6, 1), (4, 2), (7, 0)] (fun W => Two1 W b (off + kk * 6) w.heap.size x o.d) (by kernel_rfl) (by kernel_rfl) (fun _ _ _ d _ h => by cases d <;> exact h) ⟨by simpa using x0, by simpa using x1, by simpa using x2, by simpa using x3, by simpa using x4, by simpa using x5, by simpa using d1⟩ ?_
            repeat (first | (refine wpPlanZ_free (by rfl) (by rfl) (fun W => by (go_simp; try with_reducible rfl)) (fun K hK => ?_); go_simp; refine hK _ ?_; clear hK K) | (refine wpPlanZ_quiet (by rfl) (by rfl) (fun W hW => by (obtain ⟨z0, z1, z2, z3, z4, z5, z6⟩ := hW; go_simp; try with_reducible rfl)) (fun K hK => ?_); go_simp; refine hK _ ?_; clear hK K))
            refine wpPlanZ_serial (by rfl) (by rfl) (fun K hK => ?_)
            go_simp
            refine (hwr _).mono ?_
            rintro e w5 ⟨rfl, hb5⟩
            have B5 : Hid (Below w.heap.size w w5) := HB3.out.drew.trans (hb5.mono HB3.out.size)
            have X5 : Hid (BoxO w5 w.heap.size o) := (HX3.out.drewN 1).stays hb5
            obtain ⟨y0, y1, y2, y3, y4, y5⟩ := HCL.out w5 B5.out
            have e1 := X5.out.c1
            refine hK _ _ (fun _ => ⟨y0, y1, y2, y3, y4, y5, e1⟩) ?_
            have hb5' : b < w5.heap.size := World.block_lt_of_cell? _ _ y0
            have hx5 : w.heap.size < w5.heap.size := X5.out.lt
            clear hK K hb5 x0 x1 x2 x3 x4 x5 d1
            repeat (refine wpPlanZ_free (by rfl) (by rfl) (fun W => by (go_simp; try with_reducible rfl)) (fun K hK => ?_); go_simp; refine hK _ ?_; clear hK K)
            refine wpPlanZ_nil ?_
            generalize wrX x = wx at *
            by_cases hwx : wx = o.d
            · have hwx' : (wx == o.d) = true := by simpa using hwx
              have HR : Hid (RES = (decide (33 < o.d) || !(decide (ifs ≠ 0)))) := by show _ = _; rw [HS2.out, if_neg HNM.out, if_pos hwx]
              clear hwx
              by_cases h33 : 33 < o.d
              · have HR2 : Hid (RES = true) := by show _ = _; rw [HR.out]; simp [h33]
                go_wp2
                go_ret
                exact ⟨by rw [HR2.out]; rfl, B5.out⟩
              · have HR2 : Hid (RES = ((ifs : Int) == 0)) := by
                  show _ = _; rw [HR.out, Bool.eq_iff_iff]; simp [h33]
                go_wp2
                go_ret
                exact ⟨by rw [HR2.out]; rfl, B5.out⟩
            · have hwx' : (wx == o.d) = false := by simpa using hwx
              have HR : Hid (RES = scanD o.d (decide (ifs ≠ 0) || decide (x.k = 25)) (l.drop (kk + 1))) := by show _ = _; rw [HS2.out, if_neg HNM.out, if_neg hwx]
              clear hwx
              cases hif25 : (x.s.toList == [105, 102]) with
              | false =>
                have HF : Hid (decide (x.k = 25) = false) := by show _ = _; rw [← H25.out]; exact hif25
                go_wp2
                go_roundw
                case rel => exact ⟨ifs, kk + 1, by omega, by omega, by omega, rfl, by go_num, by rw [HR.out, HF.out]; simp, B5.out, X5.out⟩
                case measure => simp [intOf]; omega
              | true =>
                have HF : Hid (decide (x.k = 25) = true) := by show _ = _; rw [← H25.out]; exact hif25
                go_wp2
                go_roundw
                case rel => exact ⟨ifs + 1, kk + 1, by omega, by omega, by omega, by go_num, by go_num, by rw [HR.out, HF.out]; simp, B5.out, X5.out⟩
                case measure => simp [intOf]; omega
      · obtain rfl : kk = l.length := by omega
        have HR : Hid (RES = decide (33 < o.d)) := by show _ = _; rw [HS.out, List.drop_length]; rfl
        have d1 := HX.out.c1
        have hzx : w.heap.size < wr.heap.size := HX.out.lt
        go_wp2
        go_ret
        exact ⟨by rw [HR.out]; rfl, HB.out⟩
theorem isDead_any {w : World} {b off cap : Nat} {l : List Opx} (C : ∀ (i : Nat) (o : Opx), l[i]? = some o → ∀ (j : Nat) (u : Value), (opC o)[j]? = some u → w.cell? ⟨b, off + i * 6 + j, none⟩ = some u) (hl : (l.length : Int) ≤ 1000000) (j : Nat) (o : Opx) (ho : l[j]? = some o) :
    Calls Tryd.prog 53 #[.slice (some ⟨b, off, none⟩) l.length cap, .int .i64 j] w fun e w' => e = .returned (.bool (deadD o (l.drop (j + 1)))) ∧ Below w.heap.size w w' := by
  by_cases hk : 1 ≤ o.k ∧ o.k ≤ 20
  · have : deadD o (l.drop (j + 1)) = scanD o.d false (l.drop (j + 1)) := by unfold deadD; simp [hk]
    rw [this]; exact isDead_do C hl j o ho hk
  · have : deadD o (l.drop (j + 1)) = false := by unfold deadD; simp [hk]
    rw [this]; exact isDead_no C hl j o ho hk
set_option maxRecDepth 100000 in
set_option maxHeartbeats 4000000 in
theorem deadOf_any {w : World} {v : Value} {l : List Opx} (A : OpsIn w v l) (hl : (l.length : Int) ≤ 1000000) :
    Calls Tryd.prog 21 #[v] w fun e w' => e = .returned (.int .i64 (deadN l)) ∧ Below w.heap.size w w' := by
  obtain ⟨ao, cap, rfl, hc, hh⟩ := A.sh
  have HH : Hid (0 < l.length → ∃ b off : Nat, ao = some ⟨b, off, none⟩ ∧ ∀ (i : Nat) (o : Opx), l[i]? = some o → ∀ (j : Nat) (u : Value), (opC o)[j]? = some u → w.cell? ⟨b, off + i * 6 + j, none⟩ = some u) := hh
  have hdl : (deadN l : Int) ≤ 1000000 := by have := deadN_le l; omega
  obtain ⟨R, hR⟩ : ∃ R, deadN l = R := ⟨_, rfl⟩
  rw [hR] at hdl ⊢
  have HR : Hid (deadN l = R) := hR
  clear A hh hR
  go_enter Tryd.func21, Tryd.ntmps21
  go_wp2
  go_loopw [3, 4] (fun n i wr => ∃ (j m : Nat), j ≤ l.length ∧ i = .int .i64 j ∧ n = .int .i64 m ∧ R = m + deadN (l.drop j) ∧ Below w.heap.size w wr) (fun _ i _ => l.length - (intOf i).toNat)
  case atStart => exact ⟨0, 0, Nat.zero_le _, rfl, rfl, by rw [List.drop_zero, Nat.zero_add]; exact HR.out.symm, Below.refl _ _⟩
  case round =>
    obtain ⟨j, m, hj, rfl, rfl, hm, hB⟩ := hrel
    have HM : Hid (R = m + deadN (l.drop j)) := hm
    have hmb : (m : Int) ≤ 1000000 := by omega
    clear hm HR
    by_cases hlt : j < l.length
    · obtain ⟨o, ho, hd⟩ : ∃ o, l[j]? = some o ∧ l.drop j = o :: l.drop (j + 1) := ⟨_, List.getElem?_eq_getElem hlt, List.drop_eq_getElem_cons hlt⟩
      obtain ⟨b, off, rfl, hcell⟩ := HH.out (by omega)
      have hbl : b < w.heap.size := World.block_lt_of_cell? _ _ (hcell j o ho 0 _ rfl)
      have hcall := isDead_any (w := wr) (cap := cap) (fun i o hi k u hk => (hB.cell (p := ⟨b, off + i * 6 + k, none⟩) hbl).trans (hcell i o hi k u hk)) hl j o ho
      have HM2 : Hid (R = m + ((if deadD o (l.drop (j + 1)) = true then 1 else 0) + deadN (l.drop (j + 1)))) := by show _ = _; rw [HM.out, hd]; rfl
      have hlt' : (j : Int) < l.length := by omega
      have HB : Hid (Below w.heap.size w wr) := hB
      clear HM hd ho hcell hB
      generalize deadD o (l.drop (j + 1)) = db at *
      go_wp2_with fail
      refine hcall.mono ?_
      rintro e w1 ⟨rfl, hb1⟩
      have B1 : Hid (Below w.heap.size w w1) := HB.out.trans (hb1.mono HB.out.size)
      clear hcall hb1
      cases db with
      | false =>
        go_wp2
        go_roundw
        case rel => exact ⟨j + 1, m, by omega, by go_num, rfl, by rw [HM2.out]; simp, B1.out⟩
        case measure => simp [intOf]; omega
      | true =>
        go_wp2
        go_roundw
        case rel => exact ⟨j + 1, m + 1, by omega, by go_num, by go_num, by rw [HM2.out]; simp; omega, B1.out⟩
        case measure => simp [intOf]; omega
    · obtain rfl : j = l.length := by omega
      have HE : Hid (R = m) := by show _ = _; rw [HM.out, List.drop_length]; rfl
      go_wp2
      go_ret
      exact ⟨by rw [HE.out]; rfl, hB⟩
end Go.Proofs.YtcccaejjhodnkaaDoor
