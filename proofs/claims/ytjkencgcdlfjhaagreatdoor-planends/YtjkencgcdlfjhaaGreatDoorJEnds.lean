/-
  What OptEnds's walk wants of the pure side.
-/
import Derived.Test.YtjkencgcdlfjhaaGreatDoorJPlP
import Derived.Test.YtjkencgcdlfjhaaGreatDoorJModel
import Derived.Test.YtjkencgcdlfjhaaGreatDoorJDoc6
import Derived.Test.YtjkencgcdlfjhaaGreatDoorJMk6
import Derived.Test.YtjkencgcdlfjhaaGreatDoorJSame
import Derived.Test.YtjkencgcdlfjhaaGreatDoorJEach
import Derived.Test.YtjkencgcdlfjhaaGreatDoorJMkW
import Derived.Test.YtjkencgcdlfjhaaGreatDoorJDead
import Derived.Test.YtjkencgcdlfjhaaGreatDoorJPl7
import Derived.Test.YtjkencgcdlfjhaaGreatDoorJLo
namespace Go.Proofs.YtjkencgcdlfjhaaGreatDoor
open Go.RowKit Go.Maps
open Num
set_option linter.unusedVariables false
theorem RowsIn.rowsI {w : World} {v : Value} {ll : List (List Opx)} (R : RowsIn w v ll) : RowsI w v ll := by
  obtain ⟨ao, cap, e, hc, hh⟩ := R.sh
  exact ⟨ao, cap, e, hc, fun hp => let ⟨b, eb, hcl⟩ := hh hp; ⟨b, 0, eb, fun i row hi => let ⟨u, hu, hO⟩ := hcl i row hi; ⟨u, by rw [Nat.zero_add]; exact hu, hO⟩⟩⟩
theorem few_each {l : List Opx} (h : l.length ≤ 1000) : Few (eachL l) := by
  refine ⟨by unfold eachL; rw [List.length_map]; exact h, fun r hr => ?_⟩
  unfold eachL at hr
  obtain ⟨o, _, rfl⟩ := List.mem_map.1 hr
  simp
theorem each_well {many : Int} {l : List Opx} (W : Well many l) : ∀ row ∈ eachL l, ∀ o ∈ row, opE o many = 0 := by
  intro row hr o ho
  unfold eachL at hr
  obtain ⟨p, hp, rfl⟩ := List.mem_map.1 hr
  rw [List.mem_singleton.1 ho]
  exact wellL_mem W.ops p hp
theorem OzAlike.same {a b : Oz} (h : OzAlike a b) : OzSame b a := by
  cases a <;> cases b <;> simp only [OzAlike, OzSame] at h ⊢
  obtain ⟨h1, h2, h3⟩ := h
  exact ⟨h1.symm, fun i _ => by rw [h2], fun r r1 r2 => (h3 r r1 r2).symm⟩
theorem ends_same {many lev : Int} {l : List Opx} (W : Well many l) (wt : Int → Bool) (r : Nat → Int) (m : Nat → Int) : OzSame (runZ wt (eachL l) (nwX r 34) m) (runZ wt (eachL (optL lev l)) (nwX r 34) m) :=
  (run_opt (lev := lev) W wt (nwX r 34) m (by unfold nwX; rw [if_neg (by omega)])).same
theorem opsF_v (many : Int) : ∀ (l : List Opx) (ah : Int) (n : Nat), opsF many ah n l = (0, -1) ∨ (1 ≤ (opsF many ah n l).1 ∧ (opsF many ah n l).1 ≤ 10)
  | [], _, _ => .inl rfl
  | o :: l, ah, n => by
    rw [opsF_cons]
    by_cases h0 : opF o many ah l.isEmpty ≠ 0
    · rw [if_pos h0]
      refine .inr ?_
      show 1 ≤ opF o many ah l.isEmpty ∧ opF o many ah l.isEmpty ≤ 10
      have hc := opE_cases o many
      unfold opF at h0 ⊢
      split at h0 <;> rename_i h1
      · rw [if_pos h1]; omega
      · rw [if_neg h1]
        split at h0 <;> rename_i h2
        · rw [if_pos h2]; omega
        · exact absurd rfl h0
    · rw [if_neg h0]; exact opsF_v many l _ _
theorem codeF_v (many : Int) (l : List Opx) : codeF many l = (0, -1) ∨ (1 ≤ (codeF many l).1 ∧ (codeF many l).1 ≤ 10) := by
  unfold codeF
  split
  · right; simp
  · split
    · right; simp
    · split
      · right; simp
      · exact opsF_v _ _ _ _
theorem codeF_pos {many : Int} {l : List Opx} (h : codeF many l ≠ (0, -1)) : 1 ≤ (codeF many l).1 := ((codeF_v many l).resolve_left h).1
set_option maxRecDepth 100000 in
theorem fault_field (a b : Value) (W : World) : (Instr.field 37 (.agg #[a, b]) 0).run Tryz.prog W = .ok a W := rfl
/-- a code's three cells -/
structure CBox (W : World) (b : Nat) (pc many : Int) (v : Value) : Prop where
  k0 : W.cell? ⟨b, 0, none⟩ = some (.int .u32 pc)
  k1 : W.cell? ⟨b, 1, none⟩ = some (.int .i64 many)
  k2 : W.cell? ⟨b, 2, none⟩ = some v
theorem CBox.lt {W : World} {b : Nat} {pc many : Int} {v : Value} (C : CBox W b pc many v) : b < W.heap.size := World.block_lt_of_cell? _ _ C.k0
theorem CBox.stays {W W' : World} {b : Nat} {pc many : Int} {v : Value} (C : CBox W b pc many v) (h : Below W.heap.size W W') : CBox W' b pc many v :=
  ⟨(h.cell (p := ⟨b, 0, none⟩) C.lt).trans C.k0, (h.cell (p := ⟨b, 1, none⟩) C.lt).trans C.k1, (h.cell (p := ⟨b, 2, none⟩) C.lt).trans C.k2⟩
theorem CBox.new (w : World) (pc many : Int) (v : Value) : CBox (w.alloc (.cells #[.int .u32 pc, .int .i64 many, v] 35)) w.heap.size pc many v := by
  refine ⟨by simp, by simp, by simp⟩
/-- a fault's two cells -/
structure FBx (W : World) (b : Nat) (x y : Int) : Prop where
  k0 : W.cell? ⟨b, 0, none⟩ = some (.int .i64 x)
  k1 : W.cell? ⟨b, 1, none⟩ = some (.int .i64 y)
  fz : ∀ j, W.frozen? ⟨b, j, none⟩ = false
theorem FBx.lt {W : World} {b : Nat} {x y : Int} (C : FBx W b x y) : b < W.heap.size := World.block_lt_of_cell? _ _ C.k0
theorem FBx.stays {W W' : World} {b : Nat} {x y : Int} (C : FBx W b x y) (h : Below W.heap.size W W') : FBx W' b x y :=
  ⟨(h.cell (p := ⟨b, 0, none⟩) C.lt).trans C.k0, (h.cell (p := ⟨b, 1, none⟩) C.lt).trans C.k1, fun j => (World.frozen?_of_block (a := ⟨b, j, none⟩) (h.block _ C.lt)).trans (C.fz j)⟩
theorem FBx.new (w : World) (x y : Int) : FBx (w.alloc (.cells #[.int .i64 x, .int .i64 y] 37)) w.heap.size x y := by
  refine ⟨by simp, by simp, fun j => by simp⟩
theorem FBx.put {W : World} {b : Nat} {x y : Int} (C : FBx W b x y) (x' y' : Int) : FBx ((W.setCell ⟨b, 0, none⟩ (.int .i64 x')).setCell ⟨b, 1, none⟩ (.int .i64 y')) b x' y' := by
  refine ⟨by rw [set_other (by omega)]; exact set_same (by rw [C.k0]; rfl), set_same (by rw [set_other (by omega), C.k1]; rfl), fun j => by simp only [World.frozen?_setCell]; exact C.fz j⟩
end Go.Proofs.YtjkencgcdlfjhaaGreatDoor
/-
  What PlanEnds's walk wants of the pure side.
-/
namespace Go.Proofs.YtjkencgcdlfjhaaGreatDoor
open Go.RowKit Go.Maps
open Num
set_option linter.unusedVariables false
theorem plan_same {many : Int} {l : List Opx} (W : Well many l) (wt : Int → Bool) (x m : Nat → Int) : OzSame (runZ wt (eachL l) x m) (runZ wt (makeP l).rows x m) := by
  have h : goZ wt (makeP l).rows x m = goZ wt (eachL l) x m := congrFun (congrFun (make_go wt (outL_well W.ops)) x) m
  have a := runZ_goZ wt (eachL l) x m
  have b := runZ_goZ wt (makeP l).rows x m
  rw [h] at b
  cases hg : goZ wt (eachL l) x m with
  | trap =>
    obtain ⟨t, e⟩ := a.1 hg
    obtain ⟨u, e'⟩ := b.1 hg
    rw [e, e']; trivial
  | leave M => rw [a.2.1 M hg, b.2.1 M hg]; exact ⟨rfl, fun _ _ => rfl, fun _ _ _ => rfl⟩
  | on y n => rw [a.2.2 y n hg, b.2.2 y n hg]; trivial
theorem make_noloose {many : Int} {l : List Opx} (W : Well many l) (hok : ∀ o ∈ l, o.ok) (j : Nat) (r s : List Opx) (hr : (makeP l).rows[j]? = some r) (hs : (makeP l).rows[j + 1]? = some s) (pr : r.all plB = true) (ps : s.all plB = true) (hl : r.length + s.length ≤ 3) : tchB r s = true ∨ tchB s r = true := by
  have hin : ∀ (q : List Opx) (k : Nat), (makeP l).rows[k]? = some q → ∀ p ∈ q, p.okW := fun q k hq p hp => by
    have hm : p ∈ l := (make_perm l).mem_iff.1 (List.mem_flatten.2 ⟨q, List.mem_of_getElem? hq, hp⟩)
    exact okW_of (wellL_mem W.ops p hm) (hok p hm)
  obtain ⟨o, t, rfl, hT⟩ := make_tight l j r s hr hs
  rcases hT with ⟨p, hp, h⟩ | h | h | ⟨p, hp, h0, h⟩
  · rw [List.all_eq_true.1 pr p hp] at h; cases h
  · rw [List.all_eq_true.1 ps o (by simp)] at h; cases h
  · simp only [List.length_cons] at hl; omega
  · left
    have kp := hin r j hr p hp
    have ko := hin (o :: t) (j + 1) hs o (by simp)
    refine List.any_eq_true.2 ⟨p, hp, List.any_eq_true.2 ⟨o, by simp, ?_⟩⟩
    unfold tch1
    rcases h with ⟨h1, h2⟩ | ⟨q, hq, h2⟩
    · have e : wrX o = wrX p := by have := kp.w0; have := ko.w0; omega
      simp [e]
    · have e : q = wrX p := by have := kp.w0; have := ko.r q hq; omega
      rw [Bool.or_eq_true]
      right
      exact List.any_eq_true.2 ⟨q, hq, by simpa using e⟩
end Go.Proofs.YtjkencgcdlfjhaaGreatDoor
/-
  PlanEnds: the walk.
-/
namespace Go.Proofs.YtjkencgcdlfjhaaGreatDoor
open Go.RowKit Go.Maps
open Num
set_option linter.unusedVariables false
theorem CErr.stays {pe : Nat → Addr} {w w' : World} {f : Int × Int} {v : Value} (C : CErr pe w f v) (h : Below w.heap.size w w') : CErr pe w' f v := by
  rcases C with h1 | ⟨h1, h2, fb, h3, h4, h5⟩
  · exact .inl h1
  · exact .inr ⟨h1, h2, fb, h3, (h.cell (World.block_lt_of_cell? _ _ h4)).trans h4, (h.cell (World.block_lt_of_cell? _ _ h5)).trans h5⟩
theorem alloc_below (w : World) (b : Obj) : Below w.heap.size w (w.alloc b) := (Below.refl _ _).alloc (Nat.le_refl _) _
theorem plan_few {many : Int} {l : List Opx} (W : Well many l) : Few (makeP l).rows := by
  have hp := (make_perm l).length_eq
  have h2 := W.len
  refine ⟨by have := make_len l; omega, fun r hr => ?_⟩
  obtain ⟨i, hi, e⟩ := List.mem_iff_getElem.1 hr
  have := flat_le (makeP l).rows (i + 1)
  rw [flat_snoc (j := i) (row := r) (by rw [List.getElem?_eq_getElem hi, e]), List.length_append] at this
  omega
theorem plan_ne {many : Int} {l : List Opx} (W : Well many l) : ∀ r ∈ (makeP l).rows, 0 < r.length := by
  intro r hr
  have := (make_fit W).ne r hr
  exact List.length_pos_iff.2 this
theorem plan_wellE {many : Int} {l : List Opx} (W : Well many l) : ∀ row ∈ (makeP l).rows, ∀ o ∈ row, opE o many = 0 := fun row hr o ho => wellL_mem W.ops o ((make_perm l).mem_iff.1 (List.mem_flatten.2 ⟨row, hr, ho⟩))
/-- the box that Make's answer lies in, and the Place -/
structure ZBox (W : World) (cb pb : Nat) (pc many : Int) (v : Value) (f : Nat → Value) : Prop where
  c : CBox W cb pc many v
  p : RowIs W pb 29 45 f
set_option maxRecDepth 100000 in
set_option maxHeartbeats 16000000 in
theorem planEnds_any (S : Nat → Addr) {w : World} (EE : Errs S w) (E : Eg (peS S) w) (MS : Mst w) (T : St) (ok : 0 ≤ T.ct → T.ct ≤ 1099511627776 → T.ok) {v : Value} {l : List Opx} (A : OpsIn w v l) (hl : (l.length : Int) ≤ 9223372036854775807) (hs : ∀ o ∈ l, (o.s.size : Int) ≤ 9223372036854775807) {vw : Value} {xs : List Int} (X : WordsIn w vw xs) (wa pc : Int) (p0 : 0 ≤ pc) (p1 : pc < 4294967296) (many : Int) (m0 : -9223372036854775808 ≤ many) (m1 : many ≤ 9223372036854775807) :
    Calls Tryz.prog 5 #[.int .u32 pc, .int .i64 many, v, .agg (plA T vw wa)] w fun e w' => e = .returned (.bool true) ∧ Below w.heap.size w w' := by
  have P0 := pl_row w T vw wa
  have B0 : Below w.heap.size w (w.alloc (.cells (plA T vw wa) 29)) := (Below.refl _ _).alloc (Nat.le_refl _) _
  have HEE : Hid (∀ W, Below w.heap.size w W → Errs S W) := fun W hW => EE.stays hW
  have HE : Hid (∀ W, Below w.heap.size w W → Eg (peS S) W) := fun W hW => E.stays hW
  have HA : Hid (∀ W, Below w.heap.size w W → OpsIn W v l) := fun W hW => A.stays hW
  have SZ : Hid (∀ o ∈ l, (o.s.size : Int) ≤ 9223372036854775807) := hs
  have HM : Hid (∀ W, Below w.heap.size w W → Mst W) := fun W hW => MS.stays hW
  have hbt := planned_any (peS S) (E.stays B0) (MS.stays B0)
  have h44 : (plA T vw wa)[43]? = some vw := by rw [plA_get _ _ _ 43 (by omega)]; rfl
  have h42 : (plA T vw wa)[42]? = some (.int .i64 T.ct) := by rw [plA_get _ _ _ 42 (by omega)]; rfl
  have hse : ∀ (W : World) (va vb : Value), Below w.heap.size w W → RowsI W va (eachL l) → RowsI W vb (makeP l).rows → Well many l → 0 ≤ T.ct → T.ct ≤ 1099511627776 → xs.length ≤ 200 → Calls Tryz.prog 34 #[va, vb, .int .i64 many, .agg (plA T vw wa), .int .u32 pc] W (fun e w' => e = .returned (.bool true) ∧ Below W.heap.size W w') :=
    fun W va vb hW RA RB WL c0 c1 hx => sameEnd_any T (ok c0 c1) c0 c1 (X.stays hW) hx wa pc p0 p1 RA RB (few_each (by have := WL.len; omega)) (plan_few WL) many WL.m0 WL.m1 (each_well WL) (plan_wellE WL) (plan_same WL _ _ _)
  have HSE : Hid (∀ (W : World) (va vb : Value), Below w.heap.size w W → RowsI W va (eachL l) → RowsI W vb (makeP l).rows → Well many l → 0 ≤ T.ct → T.ct ≤ 1099511627776 → xs.length ≤ 200 → Calls Tryz.prog 34 #[va, vb, .int .i64 many, .agg (plA T vw wa), .int .u32 pc] W (fun e w' => e = .returned (.bool true) ∧ Below W.heap.size W w')) := hse
  have hlp : ∀ W : World, ∃ R : Bool, Calls Tryz.prog 10 #[.agg (plA T vw wa)] W (fun e w' => e = .returned (.bool R) ∧ Below W.heap.size W w') ∧ (R = false → 0 ≤ T.ct ∧ T.ct ≤ 1099511627776 ∧ xs.length ≤ 200) := fun W => by
    obtain ⟨aw, cw, e, _⟩ := X.sh
    have h44 := h44.trans (congrArg some e)
    refine ⟨_, longPl_any h44 h42, fun h => ?_⟩
    simp only [Bool.or_eq_false_iff, decide_eq_false_iff_not] at h
    omega
  have hldp : ∀ (W : World), RowIs W w.heap.size 29 45 (plV T vw wa) → (loadVar 29 ⟨w.heap.size, 0, none⟩).run Tryz.prog W = .ok (.agg (plA T vw wa)) W := fun (W : World) h => load_place h
  obtain ⟨ao, cap, rfl, _, _⟩ := A.sh
  obtain ⟨PA, hPA⟩ : ∃ PA, PA = plA T vw wa := ⟨_, rfl⟩
  rw [← hPA] at P0 B0 hlp hldp HSE hbt ⊢
  obtain ⟨fP, hfP⟩ : ∃ fP, fP = plV T vw wa := ⟨_, rfl⟩
  rw [← hfP] at P0 hldp
  clear hPA hfP hse h44 h42 EE E MS A hs X ok
  go_enter Tryz.func5, Tryz.ntmps5
  go_upto_region 1 with fail
  generalize w.alloc (.cells PA 29) = V at *
  have HP0 : Hid (RowIs V w.heap.size 29 45 fP) := P0
  have HB0 : Hid (Below w.heap.size w V) := B0
  clear P0 B0
  go_wp2_with fail
  refine hbt.mono ?_
  rintro e w1 ⟨rfl, hb1⟩
  have B1 : Hid (Below w.heap.size w w1) := HB0.out.trans (hb1.mono HB0.out.size)
  have P1 : Hid (RowIs w1 w.heap.size 29 45 fP) := HP0.out.stays hb1
  have hl1 := hldp w1 P1.out
  have cL := longOps_any (HA.out w1 B1.out) hl SZ.out 40
  clear hbt hb1 HB0 HP0
  by_cases hLO : longO l 40 = true
  · rw [if_pos hLO] at cL
    go_wp2_with fail
    refine cL.mono ?_
    rintro e w2 ⟨rfl, hw⟩
    rw [hw]
    clear hw w2
    go_wp2
    go_ret
    exact ⟨rfl, B1.out⟩
  rw [if_neg hLO] at cL
  have hl201 : l.length ≤ 201 := by
    unfold longO at hLO
    simp only [Bool.or_eq_true, Bool.and_eq_true, decide_eq_true_eq, not_or, not_and] at hLO
    have := hLO.1
    omega
  have hl201' : (l.length : Int) ≤ 201 := by omega
  obtain ⟨R, hR, hRf⟩ := hlp w1
  clear hLO hlp
  cases R with
  | true =>
    go_wp2_with fail
    refine cL.mono ?_
    rintro e w2 ⟨rfl, hw⟩
    rw [hw]
    clear hw w2 cL
    go_upto_region 3 with (first | (refine wpList_loadT 29 _ (by rfl) w.heap.size _ (by rfl) (by rfl) hl1 ?_) | (go_at_call 10; refine hR.mono ?_; rintro e w2 ⟨rfl, hb2⟩; clear hl1))
    have B2 : Hid (Below w.heap.size w w2) := B1.out.trans (hb2.mono B1.out.size)
    clear hb2 hR
    go_wp2
    go_ret
    exact ⟨rfl, B2.out⟩
  | false =>
  obtain ⟨ct0, ct1, hx⟩ := hRf rfl
  go_wp2_with fail
  refine cL.mono ?_
  rintro e w2 ⟨rfl, hw⟩
  rw [hw]
  clear hw w2 cL hRf
  go_upto_region 4 with (first | (refine wpList_loadT 29 _ (by rfl) w.heap.size _ (by rfl) (by rfl) hl1 ?_) | (go_at_call 10; refine hR.mono ?_; rintro e w2 ⟨rfl, hb2⟩; clear hl1))
  have B2 : Hid (Below w.heap.size w w2) := B1.out.trans (hb2.mono B1.out.size)
  have P2 : Hid (RowIs w2 w.heap.size 29 45 fP) := P1.out.stays hb2
  have hoo := ownOps_any (HA.out w2 B2.out) (by omega)
  clear hb2 hR B1 P1
  go_wp2_with fail
  refine hoo.mono ?_
  rintro e w3 ⟨v3, rfl, hA3, hb3⟩
  obtain ⟨a3, c3, rfl, _⟩ := hA3.sh
  have B3 : Hid (Below w.heap.size w w3) := B2.out.trans (hb3.mono B2.out.size)
  have P3 : Hid (RowIs w3 w.heap.size 29 45 fP) := P2.out.stays hb3
  have A3 : Hid (OpsIn w3 (.slice a3 l.length c3) l) := hA3
  clear hoo hb3 hA3 B2 P2
  by_cases hcf : codeF many l ≠ (0, -1)
  · have hmk := make_bad (peS S) (HE.out w3 B3.out) A3.out (by omega) pc many m0 m1 hcf
    have HV : Hid (codeF many l = (0, -1) ∨ (1 ≤ (codeF many l).1 ∧ (codeF many l).1 ≤ 10)) := codeF_v many l
    have hpos := codeF_pos hcf
    generalize hcF : codeF many l = cF at *
    obtain ⟨f1, f2⟩ := cF
    have hpos' : 1 ≤ f1 := hpos
    have HCF : Hid (codeF many l = (f1, f2)) := hcF
    clear hcf hpos hcF
    go_wp2_with fail
    refine hmk.mono ?_
    rintro e w4 ⟨⟨x, rfl, hC⟩, hb4⟩
    have B4 : Hid (Below w.heap.size w w4) := B3.out.trans (hb4.mono B3.out.size)
    have C4 : Hid (CErr (peS S) (w4.alloc (.cells #[.int .u32 0, .int .i64 0, .slice none 0 0] 75)) (f1, f2) x) := CErr.stays hC (alloc_below _ _)
    have B5 : Hid (Below w.heap.size w (w4.alloc (.cells #[.int .u32 0, .int .i64 0, .slice none 0 0] 75))) := B4.out.trans ((alloc_below _ _).mono B4.out.size)
    have X5 : Hid (CBox (w4.alloc (.cells #[.int .u32 0, .int .i64 0, .slice none 0 0] 75)) w4.heap.size 0 0 (.slice none 0 0)) := ⟨by simp, by simp, by simp⟩
    clear hmk hb4 B3 P3 A3 B4 hC
    go_upto_region 5 with fail
    generalize w4.alloc (.cells #[.int .u32 0, .int .i64 0, .slice none 0 0] 75) = W5 at *
    generalize w4.heap.size = cb at *
    have hcf0 := codeFault_any (HA.out W5 B5.out) (by omega) many m0 m1
    rw [HCF.out] at hcf0
    go_wp2_with fail
    refine hcf0.mono ?_
    rintro e w6 ⟨rfl, hb6⟩
    have B7 : Hid (Below w.heap.size w (w6.alloc (.cells #[.int .i64 f1, .int .i64 f2] 37))) := (B5.out.trans (hb6.mono B5.out.size)).trans ((alloc_below _ _).mono (by have := B5.out.size; have := hb6.size; omega))
    have C7 : Hid (CErr (peS S) (w6.alloc (.cells #[.int .i64 f1, .int .i64 f2] 37)) (f1, f2) x) := (C4.out.stays hb6).stays (alloc_below _ _)
    have X7 : Hid (CBox (w6.alloc (.cells #[.int .i64 f1, .int .i64 f2] 37)) cb 0 0 (.slice none 0 0)) := (X5.out.stays hb6).stays (alloc_below _ _)
    have F7 : Hid (FBx (w6.alloc (.cells #[.int .i64 f1, .int .i64 f2] 37)) w6.heap.size f1 f2) := FBx.new _ _ _
    have q6 : cb < w6.heap.size := by have := X5.out.lt; have := hb6.size; omega
    clear hcf0 hb6 X5 B5 C4
    go_upto_region 6 with fail
    generalize w6.alloc (.cells #[.int .i64 f1, .int .i64 f2] 37) = W7 at *
    generalize w6.heap.size = fb at *
    obtain ⟨x0, x1, x2⟩ := X7.out
    obtain ⟨y0, y1, fz⟩ := F7.out
    have hx7 := X7.out.lt
    have hf7 := F7.out.lt
    have hflt := faulted_any S (HEE.out W7 B7.out) (f1, f2) _ C7.out HV.out
    go_wp2_with fail
    refine hflt.mono ?_
    rintro e w8 ⟨rfl, hb8⟩
    have B8 : Hid (Below w.heap.size w w8) := B7.out.trans (hb8.mono B7.out.size)
    have X8 := X7.out.stays hb8
    clear x0 x1 x2 y0 y1 fz hx7 hf7 hflt hb8 X7 F7 C7 B7
    obtain ⟨x0, x1, x2⟩ := X8
    have hx8 := World.block_lt_of_cell? _ _ x0
    go_wp2
    go_ret
    exact ⟨rfl, B8.out⟩
  have hcf : codeF many l = (0, -1) := Decidable.not_not.1 hcf
  have WL : Hid (Well many l) := codeF_well.1 hcf
  have HCF : Hid (codeF many l = (0, -1)) := hcf
  have hmk := make_ok (peS S) (HE.out w3 B3.out) (HM.out w3 B3.out) A3.out (by omega) pc many m0 m1 hcf
  have HPF : Hid (planF many (makeP l).rows = (0, -1)) := make_well WL.out
  have HFW : Hid (Few (makeP l).rows) := plan_few WL.out
  have HPM : Hid ((makeP l).rows.flatten.Perm l) := make_perm l
  have HNL : Hid (∀ (W : World) (v : Value), RowsI W v (makeP l).rows → Calls Tryz.prog 33 #[v] W (fun e w' => e = .returned (.int .i64 0) ∧ Below W.heap.size W w')) := fun W v R => looseOf_any R (plan_few WL.out) (make_noloose WL.out (HA.out w3 B3.out).ok)
  have HNE : Hid (∀ r ∈ (makeP l).rows, 0 < r.length) := plan_ne WL.out
  have hLn : ((makeP l).rows.length : Int) ≤ l.length := by have := make_len l; omega
  clear hcf
  generalize (makeP l).rows = rs at *
  go_wp2_with fail
  refine hmk.mono ?_
  rintro e w4 ⟨⟨vr, rfl, hR4⟩, hb4⟩
  have B4 : Hid (Below w.heap.size w w4) := B3.out.trans (hb4.mono B3.out.size)
  obtain ⟨ra, rc, rfl, _⟩ := id hR4
  have B5 : Hid (Below w.heap.size w (w4.alloc (.cells #[.int .u32 pc, .int .i64 many, .slice ra rs.length rc] 75))) := B4.out.trans ((alloc_below _ _).mono B4.out.size)
  have X5 : Hid (ZBox (w4.alloc (.cells #[.int .u32 pc, .int .i64 many, .slice ra rs.length rc] 75)) w4.heap.size w.heap.size pc many (.slice ra rs.length rc) fP) := ⟨⟨by simp, by simp, by simp⟩, (P3.out.stays hb4).stays (alloc_below _ _)⟩
  have R5 : Hid (RowsI (w4.alloc (.cells #[.int .u32 pc, .int .i64 many, .slice ra rs.length rc] 75)) (.slice ra rs.length rc) rs) := hR4.stays (alloc_below _ _)
  clear hmk hb4 B3 P3 A3 B4 hR4
  go_upto_region 5 with fail
  generalize w4.alloc (.cells #[.int .u32 pc, .int .i64 many, .slice ra rs.length rc] 75) = W5 at *
  generalize w4.heap.size = cb at *
  have hcf0 := codeFault_any (HA.out W5 B5.out) (by omega) many m0 m1
  rw [HCF.out] at hcf0
  go_wp2_with fail
  refine hcf0.mono ?_
  rintro e w6 ⟨rfl, hb6⟩
  have S6 : Hid (Below W5.heap.size W5 (w6.alloc (.cells #[.int .i64 0, .int .i64 (-1)] 37))) := hb6.trans ((alloc_below _ _).mono hb6.size)
  have F7 : Hid (FBx (w6.alloc (.cells #[.int .i64 0, .int .i64 (-1)] 37)) w6.heap.size 0 (-1)) := FBx.new _ _ _
  clear hcf0 hb6
  go_upto_region 6 with fail
  generalize w6.alloc (.cells #[.int .i64 0, .int .i64 (-1)] 37) = W7 at *
  generalize w6.heap.size = fb at *
  have B7 : Hid (Below w.heap.size w W7) := B5.out.trans (S6.out.mono B5.out.size)
  have X7 : Hid (ZBox W7 cb w.heap.size pc many (.slice ra rs.length rc) fP) := ⟨X5.out.c.stays S6.out, X5.out.p.stays S6.out⟩
  have R7 : Hid (RowsI W7 (.slice ra rs.length rc) rs) := R5.out.stays S6.out
  have hpf := planFault_any R7.out HFW.out many m0 m1
  rw [HPF.out] at hpf
  obtain ⟨x0, x1, x2⟩ := X7.out.c
  obtain ⟨y0, y1, fz⟩ := F7.out
  have hx7 := X7.out.c.lt
  have hf7 := F7.out.lt
  have hgt : ¬ (l.length : Int) < rs.length := by omega
  clear S6 B5 X5 R5
  go_upto_region 8 with fail
  go_wp2_with fail
  refine hpf.mono ?_
  rintro e w8 ⟨rfl, hb8⟩
  have B8 : Hid (Below w.heap.size w w8) := B7.out.trans (hb8.mono B7.out.size)
  have X8 : Hid (ZBox w8 cb w.heap.size pc many (.slice ra rs.length rc) fP) := ⟨X7.out.c.stays hb8, X7.out.p.stays hb8⟩
  have R8 : Hid (RowsI w8 (.slice ra rs.length rc) rs) := R7.out.stays hb8
  clear x0 x1 x2 y0 y1 fz hx7 hf7 hpf hb8 B7 X7 R7 F7
  go_wp2_with fail
  rw [fault_field]
  go_upto_region 10 with fail
  obtain ⟨x0, x1, x2⟩ := X8.out.c
  have hx8 := X8.out.c.lt
  have hpl := HPM.out.length_eq
  have hfl := flat_any R8.out HFW.out.1 (by omega) HNE.out
  clear hpl
  go_wp2_with fail
  refine hfl.mono ?_
  rintro e w9 ⟨vf, rfl, hA9, hb9⟩
  generalize rs.flatten = fl at *
  obtain ⟨fa, fc, rfl, _⟩ := hA9.sh
  have B9 : Hid (Below w.heap.size w w9) := B8.out.trans (hb9.mono B8.out.size)
  have X9 : Hid (ZBox w9 cb w.heap.size pc many (.slice ra rs.length rc) fP) := ⟨X8.out.c.stays hb9, X8.out.p.stays hb9⟩
  have R9 : Hid (RowsI w9 (.slice ra rs.length rc) rs) := R8.out.stays hb9
  have A9 : Hid (OpsIn w9 (.slice fa fl.length fc) fl) := hA9
  clear x0 x1 x2 hx8 hfl hb9 hA9 B8 X8 R8
  have hpl := HPM.out.length_eq
  have hfw := fewOps_any A9.out (HA.out w9 B9.out) (by omega) HPM.out
  clear hpl
  go_wp2_with fail
  refine hfw.mono ?_
  rintro e wa1 ⟨rfl, hba⟩
  have Ba : Hid (Below w.heap.size w wa1) := B9.out.trans (hba.mono B9.out.size)
  have Xa : Hid (ZBox wa1 cb w.heap.size pc many (.slice ra rs.length rc) fP) := ⟨X9.out.c.stays hba, X9.out.p.stays hba⟩
  have Ra : Hid (RowsI wa1 (.slice ra rs.length rc) rs) := R9.out.stays hba
  clear hfw hba B9 X9 R9 A9
  obtain ⟨x0, x1, x2⟩ := Xa.out.c
  have hxa := Xa.out.c.lt
  have hlo := HNL.out wa1 _ Ra.out
  go_wp2_with fail
  refine hlo.mono ?_
  rintro e w9 ⟨rfl, hb9⟩
  have B9 : Hid (Below w.heap.size w w9) := Ba.out.trans (hb9.mono Ba.out.size)
  have X9 : Hid (ZBox w9 cb w.heap.size pc many (.slice ra rs.length rc) fP) := ⟨Xa.out.c.stays hb9, Xa.out.p.stays hb9⟩
  have R9 : Hid (RowsI w9 (.slice ra rs.length rc) rs) := Ra.out.stays hb9
  clear hlo hb9 Ba Xa Ra x0 x1 x2 hxa
  go_upto_region 13 with fail
  have X9p : ZBox w9.drew cb w.heap.size pc many (.slice ra rs.length rc) fP := ⟨X9.out.c.stays (Below.refl _ _).drew, X9.out.p.stays (Below.refl _ _).drew⟩
  refine wp_region_phase 9 [(0, 0), (2, 0), (3, 1), (4, 0), (5, 1), (6, 0), (1, 2), (7, 2), (8, 0)] (fun W => ZBox W cb w.heap.size pc many (.slice ra rs.length rc) fP) (by kernel_rfl) (by kernel_rfl) (fun _ _ _ d _ h => by cases d <;> exact h) X9p ?_
  refine wpPlanZ_free (by rfl) (by rfl) (fun W => by (go_simp; try with_reducible rfl)) (fun K hK => ?_); go_simp; refine hK _ ?_; clear hK K
  refine wpPlanZ_free (by rfl) (by rfl) (fun W => by (go_simp; try with_reducible rfl)) (fun K hK => ?_); go_simp; refine hK _ ?_; clear hK K
  refine wpPlanZ_quiet (by rfl) (by rfl) (fun W hW => by (obtain ⟨⟨z0, z1, z2⟩, _⟩ := hW; go_simp; try with_reducible rfl)) (fun K hK => ?_); go_simp; refine hK _ ?_; clear hK K
  refine wpPlanZ_free (by rfl) (by rfl) (fun W => by (go_simp; try with_reducible rfl)) (fun K hK => ?_); go_simp; refine hK _ ?_; clear hK K
  refine wpPlanZ_quiet (v := .agg PA) (by rfl) (by rfl) (fun W hW => exec_loadT rfl rfl W (hldp W hW.p)) (fun K hK => ?_); go_simp; refine hK _ ?_; clear hK K
  refine wpPlanZ_free (by rfl) (by rfl) (fun W => by (go_simp; try with_reducible rfl)) (fun K hK => ?_); go_simp; refine hK _ ?_; clear hK K
  refine wpPlanZ_serial (by rfl) (by rfl) (fun K hK => ?_)
  go_simp
  refine (each_any (HA.out _ B9.out.drew) (by omega)).mono ?_
  rintro e u1 ⟨v1, rfl, hR1, hd1⟩
  have D1 : Hid (Below w9.heap.size w9 u1) := (Below.refl _ _).drew.trans (hd1.mono (Nat.le_refl _))
  have R1 : Hid (RowsI u1 v1 (eachL l)) := hR1.rowsI
  have hse := HSE.out u1 v1 _ (B9.out.trans (D1.out.mono B9.out.size)) R1.out (R9.out.stays D1.out) WL.out ct0 ct1 hx
  refine hK _ _ (fun _ => ⟨X9.out.c.stays D1.out, X9.out.p.stays D1.out⟩) ?_
  clear hK K hd1 hR1 R1
  refine wpPlanZ_serial (by rfl) (by rfl) (fun K hK => ?_)
  go_simp
  refine hse.mono ?_
  rintro e u3 ⟨rfl, hd3⟩
  have D3 : Hid (Below w9.heap.size w9 u3) := D1.out.trans (hd3.mono D1.out.size)
  refine hK _ _ (fun _ => ⟨X9.out.c.stays D3.out, X9.out.p.stays D3.out⟩) ?_
  clear hK K hd3 hse
  refine wpPlanZ_free (by rfl) (by rfl) (fun W => by (go_simp; try with_reducible rfl)) (fun K hK => ?_); go_simp; refine hK _ ?_; clear hK K
  refine wpPlanZ_nil ?_
  go_wp2
  go_ret
  exact ⟨rfl, B9.out.trans (D3.out.mono B9.out.size)⟩
end Go.Proofs.YtjkencgcdlfjhaaGreatDoor
