/-
  What OptEnds's walk wants of the pure side.
-/
import Derived.Test.YtphdginikmmnmaaGreatDoorJFlt
import Derived.Test.YtphdginikmmnmaaGreatDoorJModel
import Derived.Test.YtphdginikmmnmaaGreatDoorJDoc6
import Derived.Test.YtphdginikmmnmaaGreatDoorQRunPure
import Derived.Test.YtphdginikmmnmaaGreatDoorJSame
import Derived.Test.YtphdginikmmnmaaGreatDoorJEach
import Derived.Test.YtphdginikmmnmaaGreatDoorJOpt
import Derived.Test.YtphdginikmmnmaaGreatDoorQBett
import Derived.Test.YtphdginikmmnmaaGreatDoorJDoc3
namespace Go.Proofs.YtphdginikmmnmaaGreatDoor
open Go.RowKit Go.Maps
open Num
set_option linter.unusedVariables false
theorem RowsIn.rowsI {w : World} {v : Value} {ll : List (List Opx)} (R : RowsIn w v ll) : RowsI w v ll := by
  obtain ⟨ao, cap, e, hc, hh⟩ := R.sh
  exact ⟨ao, cap, e, hc, fun hp => let ⟨b, eb, hcl⟩ := hh hp; ⟨b, 0, eb, fun i row hi => let ⟨u, hu, hO⟩ := hcl i row hi; ⟨u, by rw [Nat.zero_add]; exact hu, hO⟩⟩⟩
theorem few_each {l : List Opx} (h : l.length ≤ 1000) : Few (eachL l) := by
  refine ⟨by unfold eachL; rw [List.length_map]; exact h, fun r hr => ?_⟩
  unfold eachL at hr
  obtain ⟨o, _, rfl⟩ := List.mem_map.1 hr
  simp
theorem each_well {many : Int} {l : List Opx} (W : Well many l) : ∀ row ∈ eachL l, ∀ o ∈ row, opE o many = 0 := by
  intro row hr o ho
  unfold eachL at hr
  obtain ⟨p, hp, rfl⟩ := List.mem_map.1 hr
  rw [List.mem_singleton.1 ho]
  exact wellL_mem W.ops p hp
theorem OzAlike.same {a b : Oz} (h : OzAlike a b) : OzSame b a := by
  cases a <;> cases b <;> simp only [OzAlike, OzSame] at h ⊢
  obtain ⟨h1, h2, h3⟩ := h
  exact ⟨h1.symm, fun i _ => by rw [h2], fun r r1 r2 => (h3 r r1 r2).symm⟩
theorem ends_same {many lev : Int} {l : List Opx} (W : Well many l) (wt : Int → Bool) (r : Nat → Int) (m : Nat → Int) : OzSame (runZ wt (eachL l) (nwX r 34) m) (runZ wt (eachL (optL lev l)) (nwX r 34) m) :=
  (run_opt (lev := lev) W wt (nwX r 34) m (by unfold nwX; rw [if_neg (by omega)])).same
theorem opsF_v (many : Int) : ∀ (l : List Opx) (ah : Int) (n : Nat), opsF many ah n l = (0, -1) ∨ (1 ≤ (opsF many ah n l).1 ∧ (opsF many ah n l).1 ≤ 10)
  | [], _, _ => .inl rfl
  | o :: l, ah, n => by
    rw [opsF_cons]
    by_cases h0 : opF o many ah l.isEmpty ≠ 0
    · rw [if_pos h0]
      refine .inr ?_
      show 1 ≤ opF o many ah l.isEmpty ∧ opF o many ah l.isEmpty ≤ 10
      have hc := opE_cases o many
      unfold opF at h0 ⊢
      split at h0 <;> rename_i h1
      · rw [if_pos h1]; omega
      · rw [if_neg h1]
        split at h0 <;> rename_i h2
        · rw [if_pos h2]; omega
        · exact absurd rfl h0
    · rw [if_neg h0]; exact opsF_v many l _ _
theorem codeF_v (many : Int) (l : List Opx) : codeF many l = (0, -1) ∨ (1 ≤ (codeF many l).1 ∧ (codeF many l).1 ≤ 10) := by
  unfold codeF
  split
  · right; simp
  · split
    · right; simp
    · split
      · right; simp
      · exact opsF_v _ _ _ _
theorem codeF_pos {many : Int} {l : List Opx} (h : codeF many l ≠ (0, -1)) : 1 ≤ (codeF many l).1 := ((codeF_v many l).resolve_left h).1
set_option maxRecDepth 100000 in
theorem fault_field (a b : Value) (W : World) : (Instr.field 41 (.agg #[a, b]) 0).run Tryz.prog W = .ok a W := rfl
/-- a code's three cells -/
structure CBox (W : World) (b : Nat) (pc many : Int) (v : Value) : Prop where
  k0 : W.cell? ⟨b, 0, none⟩ = some (.int .u32 pc)
  k1 : W.cell? ⟨b, 1, none⟩ = some (.int .i64 many)
  k2 : W.cell? ⟨b, 2, none⟩ = some v
theorem CBox.lt {W : World} {b : Nat} {pc many : Int} {v : Value} (C : CBox W b pc many v) : b < W.heap.size := World.block_lt_of_cell? _ _ C.k0
theorem CBox.stays {W W' : World} {b : Nat} {pc many : Int} {v : Value} (C : CBox W b pc many v) (h : Below W.heap.size W W') : CBox W' b pc many v :=
  ⟨(h.cell (p := ⟨b, 0, none⟩) C.lt).trans C.k0, (h.cell (p := ⟨b, 1, none⟩) C.lt).trans C.k1, (h.cell (p := ⟨b, 2, none⟩) C.lt).trans C.k2⟩
theorem CBox.new (w : World) (pc many : Int) (v : Value) : CBox (w.alloc (.cells #[.int .u32 pc, .int .i64 many, v] 34)) w.heap.size pc many v := by
  refine ⟨by simp, by simp, by simp⟩
/-- a fault's two cells -/
structure FBx (W : World) (b : Nat) (x y : Int) : Prop where
  k0 : W.cell? ⟨b, 0, none⟩ = some (.int .i64 x)
  k1 : W.cell? ⟨b, 1, none⟩ = some (.int .i64 y)
  fz : ∀ j, W.frozen? ⟨b, j, none⟩ = false
theorem FBx.lt {W : World} {b : Nat} {x y : Int} (C : FBx W b x y) : b < W.heap.size := World.block_lt_of_cell? _ _ C.k0
theorem FBx.stays {W W' : World} {b : Nat} {x y : Int} (C : FBx W b x y) (h : Below W.heap.size W W') : FBx W' b x y :=
  ⟨(h.cell (p := ⟨b, 0, none⟩) C.lt).trans C.k0, (h.cell (p := ⟨b, 1, none⟩) C.lt).trans C.k1, fun j => (World.frozen?_of_block (a := ⟨b, j, none⟩) (h.block _ C.lt)).trans (C.fz j)⟩
theorem FBx.new (w : World) (x y : Int) : FBx (w.alloc (.cells #[.int .i64 x, .int .i64 y] 41)) w.heap.size x y := by
  refine ⟨by simp, by simp, fun j => by simp⟩
theorem FBx.put {W : World} {b : Nat} {x y : Int} (C : FBx W b x y) (x' y' : Int) : FBx ((W.setCell ⟨b, 0, none⟩ (.int .i64 x')).setCell ⟨b, 1, none⟩ (.int .i64 y')) b x' y' := by
  refine ⟨by rw [set_other (by omega)]; exact set_same (by rw [C.k0]; rfl), set_same (by rw [set_other (by omega), C.k1]; rfl), fun j => by simp only [World.frozen?_setCell]; exact C.fz j⟩
end Go.Proofs.YtphdginikmmnmaaGreatDoor
/-
  OptEnds: the walk.
-/
namespace Go.Proofs.YtphdginikmmnmaaGreatDoor
open Go.RowKit Go.Maps
open Num
set_option linter.unusedVariables false
theorem CErr.stays {pe : Nat → Addr} {w w' : World} {f : Int × Int} {v : Value} (C : CErr pe w f v) (h : Below w.heap.size w w') : CErr pe w' f v := by
  rcases C with h1 | ⟨h1, h2, fb, h3, h4, h5⟩
  · exact .inl h1
  · exact .inr ⟨h1, h2, fb, h3, (h.cell (World.block_lt_of_cell? _ _ h4)).trans h4, (h.cell (World.block_lt_of_cell? _ _ h5)).trans h5⟩
theorem alloc_below (w : World) (b : Obj) : Below w.heap.size w (w.alloc b) := (Below.refl _ _).alloc (Nat.le_refl _) _
/-- Opt of a code that is well, at a level that there is -/
theorem opt_any (pe : Nat → Addr) {w : World} (E : Eg pe w) {v : Value} {l : List Opx} (A : OpsIn w v l) (hl : l.length ≤ 1000000) (pc many lev : Int) (m0 : -9223372036854775808 ≤ many) (m1 : many ≤ 9223372036854775807) (hf : codeF many l = (0, -1)) (h0 : 0 ≤ lev) (h2 : lev ≤ 2) :
    Calls Tryz.prog 8 #[.agg #[.int .u32 pc, .int .i64 many, v], .int .i64 lev] w fun e w' => OptPost w pc many (optL lev l) e w' := by
  have : lev = 0 ∨ lev = 1 ∨ lev = 2 := by omega
  rcases this with rfl | rfl | rfl
  · exact opt_0 pe E A hl pc many m0 m1 hf
  · exact opt_1 pe E A hl pc many m0 m1 hf
  · exact opt_2 pe E A hl pc many m0 m1 hf
/-- the box that Opt's answer lies in, and the Place -/
structure ZBox (W : World) (cb pb : Nat) (pc many : Int) (v : Value) (f : Nat → Value) : Prop where
  c : CBox W cb pc many v
  p : RowIs W pb 29 45 f
set_option maxRecDepth 100000 in
set_option maxHeartbeats 16000000 in
theorem optEnds_any (S : Nat → Addr) {w : World} (EE : Errs S w) (E : Eg (peS S) w) (T : St) (ok : 0 ≤ T.ct → T.ct ≤ 1099511627776 → T.ok) {v : Value} {l : List Opx} (A : OpsIn w v l) (hl : (l.length : Int) ≤ 9223372036854775807) (hs : ∀ o ∈ l, (o.s.size : Int) ≤ 9223372036854775807) {vw : Value} {xs : List Int} (X : WordsIn w vw xs) (wa pc : Int) (p0 : 0 ≤ pc) (p1 : pc < 4294967296) (many lev : Int) (m0 : -9223372036854775808 ≤ many) (m1 : many ≤ 9223372036854775807) :
    Calls Tryz.prog 3 #[.int .u32 pc, .int .i64 many, v, .int .i64 lev, .agg (plA T vw wa)] w fun e w' => e = .returned (.bool true) ∧ Below w.heap.size w w' := by
  have P0 := pl_row w T vw wa
  have B0 : Below w.heap.size w (w.alloc (.cells (plA T vw wa) 29)) := (Below.refl _ _).alloc (Nat.le_refl _) _
  have HEE : Hid (∀ W, Below w.heap.size w W → Errs S W) := fun W hW => EE.stays hW
  have HE : Hid (∀ W, Below w.heap.size w W → Eg (peS S) W) := fun W hW => E.stays hW
  have HA : Hid (∀ W, Below w.heap.size w W → OpsIn W v l) := fun W hW => A.stays hW
  have SZ : Hid (∀ o ∈ l, (o.s.size : Int) ≤ 9223372036854775807) := hs
  have hbt := bettered_any (peS S) (E.stays B0)
  have h44 : (plA T vw wa)[43]? = some vw := by rw [plA_get _ _ _ 43 (by omega)]; rfl
  have h42 : (plA T vw wa)[42]? = some (.int .i64 T.ct) := by rw [plA_get _ _ _ 42 (by omega)]; rfl
  have hse : ∀ (W : World) (va vb : Value), Below w.heap.size w W → RowsI W va (eachL l) → RowsI W vb (eachL (optL lev l)) → Well many l → 0 ≤ T.ct → T.ct ≤ 1099511627776 → xs.length ≤ 200 → Calls Tryz.prog 16 #[va, vb, .int .i64 many, .agg (plA T vw wa), .int .u32 pc] W (fun e w' => e = .returned (.bool true) ∧ Below W.heap.size W w') :=
    fun W va vb hW RA RB WL c0 c1 hx => sameEnd_any T (ok c0 c1) c0 c1 (X.stays hW) hx wa pc p0 p1 RA RB (few_each (by have := WL.len; omega)) (few_each (by have := WL.len; have := optL_len lev l; omega)) many WL.m0 WL.m1 (each_well WL) (each_well (WL.opt lev)) (ends_same WL _ _ _)
  have HSE : Hid (∀ (W : World) (va vb : Value), Below w.heap.size w W → RowsI W va (eachL l) → RowsI W vb (eachL (optL lev l)) → Well many l → 0 ≤ T.ct → T.ct ≤ 1099511627776 → xs.length ≤ 200 → Calls Tryz.prog 16 #[va, vb, .int .i64 many, .agg (plA T vw wa), .int .u32 pc] W (fun e w' => e = .returned (.bool true) ∧ Below W.heap.size W w')) := hse
  have hlp : ∀ W : World, ∃ R : Bool, Calls Tryz.prog 7 #[.agg (plA T vw wa)] W (fun e w' => e = .returned (.bool R) ∧ Below W.heap.size W w') ∧ (R = false → 0 ≤ T.ct ∧ T.ct ≤ 1099511627776 ∧ xs.length ≤ 200) := fun W => by
    obtain ⟨aw, cw, e, _⟩ := X.sh
    have h44 := h44.trans (congrArg some e)
    refine ⟨_, longPl_any h44 h42, fun h => ?_⟩
    simp only [Bool.or_eq_false_iff, decide_eq_false_iff_not] at h
    omega
  have hldp : ∀ (W : World), RowIs W w.heap.size 29 45 (plV T vw wa) → (loadVar 29 ⟨w.heap.size, 0, none⟩).run Tryz.prog W = .ok (.agg (plA T vw wa)) W := fun (W : World) h => load_place h
  obtain ⟨ao, cap, rfl, _, _⟩ := A.sh
  obtain ⟨PA, hPA⟩ : ∃ PA, PA = plA T vw wa := ⟨_, rfl⟩
  rw [← hPA] at P0 B0 hlp hldp HSE hbt ⊢
  obtain ⟨fP, hfP⟩ : ∃ fP, fP = plV T vw wa := ⟨_, rfl⟩
  rw [← hfP] at P0 hldp
  clear hPA hfP hse h44 h42 EE E A hs X ok
  go_enter Tryz.func3, Tryz.ntmps3
  go_upto_region 1 with fail
  generalize w.alloc (.cells PA 29) = V at *
  have HP0 : Hid (RowIs V w.heap.size 29 45 fP) := P0
  have HB0 : Hid (Below w.heap.size w V) := B0
  clear P0 B0
  go_wp2_with fail
  refine hbt.mono ?_
  rintro e w1 ⟨rfl, hb1⟩
  have B1 : Hid (Below w.heap.size w w1) := HB0.out.trans (hb1.mono HB0.out.size)
  have P1 : Hid (RowIs w1 w.heap.size 29 45 fP) := HP0.out.stays hb1
  have hl1 := hldp w1 P1.out
  have cL := longOps_any (HA.out w1 B1.out) hl SZ.out 40
  clear hbt hb1 HB0 HP0
  by_cases hLO : longO l 40 = true
  · rw [if_pos hLO] at cL
    go_wp2_with fail
    refine cL.mono ?_
    rintro e w2 ⟨rfl, hw⟩
    rw [hw]
    clear hw w2
    go_wp2
    go_ret
    exact ⟨rfl, B1.out⟩
  rw [if_neg hLO] at cL
  have hl201 : l.length ≤ 201 := by
    unfold longO at hLO
    simp only [Bool.or_eq_true, Bool.and_eq_true, decide_eq_true_eq, not_or, not_and] at hLO
    have := hLO.1
    omega
  have hl201' : (l.length : Int) ≤ 201 := by omega
  obtain ⟨R, hR, hRf⟩ := hlp w1
  clear hLO hlp
  cases R with
  | true =>
    go_wp2_with fail
    refine cL.mono ?_
    rintro e w2 ⟨rfl, hw⟩
    rw [hw]
    clear hw w2 cL
    go_upto_region 3 with (first | (refine wpList_loadT 29 _ (by rfl) w.heap.size _ (by rfl) (by rfl) hl1 ?_) | (go_at_call 7; refine hR.mono ?_; rintro e w2 ⟨rfl, hb2⟩; clear hl1))
    have B2 : Hid (Below w.heap.size w w2) := B1.out.trans (hb2.mono B1.out.size)
    clear hb2 hR
    go_wp2
    go_ret
    exact ⟨rfl, B2.out⟩
  | false =>
  obtain ⟨ct0, ct1, hx⟩ := hRf rfl
  go_wp2_with fail
  refine cL.mono ?_
  rintro e w2 ⟨rfl, hw⟩
  rw [hw]
  clear hw w2 cL hRf
  go_upto_region 4 with (first | (refine wpList_loadT 29 _ (by rfl) w.heap.size _ (by rfl) (by rfl) hl1 ?_) | (go_at_call 7; refine hR.mono ?_; rintro e w2 ⟨rfl, hb2⟩; clear hl1))
  have B2 : Hid (Below w.heap.size w w2) := B1.out.trans (hb2.mono B1.out.size)
  have P2 : Hid (RowIs w2 w.heap.size 29 45 fP) := P1.out.stays hb2
  have hoo := ownOps_any (HA.out w2 B2.out) (by omega)
  clear hb2 hR B1 P1
  go_wp2_with fail
  refine hoo.mono ?_
  rintro e w3 ⟨v3, rfl, hA3, hb3⟩
  obtain ⟨a3, c3, rfl, _⟩ := hA3.sh
  have B3 : Hid (Below w.heap.size w w3) := B2.out.trans (hb3.mono B2.out.size)
  have P3 : Hid (RowIs w3 w.heap.size 29 45 fP) := P2.out.stays hb3
  have A3 : Hid (OpsIn w3 (.slice a3 l.length c3) l) := hA3
  clear hoo hb3 hA3 B2 P2
  by_cases hcf : codeF many l ≠ (0, -1)
  · have hopt := opt_bad (peS S) (HE.out w3 B3.out) A3.out (by omega) pc many lev m0 m1 hcf
    have HV : Hid (codeF many l = (0, -1) ∨ (1 ≤ (codeF many l).1 ∧ (codeF many l).1 ≤ 10)) := codeF_v many l
    have hpos := codeF_pos hcf
    generalize hcF : codeF many l = cF at *
    obtain ⟨f1, f2⟩ := cF
    have hpos' : 1 ≤ f1 := hpos
    have hn0 : (f1 == 0) = false := by simp; omega
    have HCF : Hid (codeF many l = (f1, f2)) := hcF
    clear hcf hpos hcF
    go_wp2_with fail
    refine hopt.mono ?_
    rintro e w4 ⟨⟨t, p, rfl, hC⟩, hb4⟩
    have B4 : Hid (Below w.heap.size w w4) := B3.out.trans (hb4.mono B3.out.size)
    have C4 : Hid (CErr (peS S) (w4.alloc (.cells #[.int .u32 0, .int .i64 0, .slice none 0 0] 34)) (f1, f2) (.iface t (.pointer p))) := CErr.stays (hC) (alloc_below _ _)
    have B5 : Hid (Below w.heap.size w (w4.alloc (.cells #[.int .u32 0, .int .i64 0, .slice none 0 0] 34))) := B4.out.trans ((alloc_below _ _).mono B4.out.size)
    have X5 : Hid (CBox (w4.alloc (.cells #[.int .u32 0, .int .i64 0, .slice none 0 0] 34)) w4.heap.size 0 0 (.slice none 0 0)) := CBox.new _ _ _ _
    clear hopt hb4 B3 P3 A3 B4
    go_upto_region 5 with fail
    generalize w4.alloc (.cells #[.int .u32 0, .int .i64 0, .slice none 0 0] 34) = W5 at *
    generalize w4.heap.size = cb at *
    have hcf0 := codeFault_any (HA.out W5 B5.out) (by omega) many m0 m1
    rw [HCF.out] at hcf0
    clear hC
    go_wp2_with fail
    refine hcf0.mono ?_
    rintro e w6 ⟨rfl, hb6⟩
    have B7 : Hid (Below w.heap.size w (w6.alloc (.cells #[.int .i64 f1, .int .i64 f2] 41))) := (B5.out.trans (hb6.mono B5.out.size)).trans ((alloc_below _ _).mono (by have := B5.out.size; have := hb6.size; omega))
    have C7 : Hid (CErr (peS S) (w6.alloc (.cells #[.int .i64 f1, .int .i64 f2] 41)) (f1, f2) (.iface t (.pointer p))) := (C4.out.stays hb6).stays (alloc_below _ _)
    have X7 : Hid (CBox (w6.alloc (.cells #[.int .i64 f1, .int .i64 f2] 41)) cb 0 0 (.slice none 0 0)) := (X5.out.stays hb6).stays (alloc_below _ _)
    have F7 : Hid (FBx (w6.alloc (.cells #[.int .i64 f1, .int .i64 f2] 41)) w6.heap.size f1 f2) := FBx.new _ _ _
    have q6 : cb < w6.heap.size := by have := X5.out.lt; have := hb6.size; omega
    clear hcf0 hb6 X5 B5 C4
    go_upto_region 6 with fail
    generalize w6.alloc (.cells #[.int .i64 f1, .int .i64 f2] 41) = W7 at *
    generalize w6.heap.size = fb at *
    obtain ⟨x0, x1, x2⟩ := X7.out
    obtain ⟨y0, y1, fz⟩ := F7.out
    have hx7 := X7.out.lt
    have hf7 := F7.out.lt
    have hflt := faulted_any S (HEE.out W7 B7.out) (f1, f2) _ C7.out HV.out
    go_wp2_with fail
    refine hflt.mono ?_
    rintro e w8 ⟨rfl, hb8⟩
    have B8 : Hid (Below w.heap.size w w8) := B7.out.trans (hb8.mono B7.out.size)
    have X8 := X7.out.stays hb8
    clear x0 x1 x2 y0 y1 fz hx7 hf7 hflt hb8 X7 F7 C7 B7
    obtain ⟨x0, x1, x2⟩ := X8
    have hx8 := World.block_lt_of_cell? _ _ x0
    go_wp2
    go_ret
    exact ⟨rfl, B8.out⟩
  have hcf : codeF many l = (0, -1) := Decidable.not_not.1 hcf
  have WL : Hid (Well many l) := codeF_well.1 hcf
  have HCF : Hid (codeF many l = (0, -1)) := hcf
  by_cases hlv : lev < 0 ∨ 2 < lev
  · have hopt := opt_lev (peS S) (HE.out w3 B3.out) A3.out (by omega) pc many lev m0 m1 hcf hlv
    clear hcf
    have B3S : Hid (w.heap.size ≤ w3.heap.size) := B3.out.size
    go_wp2_with fail
    refine hopt.mono ?_
    rintro e w4 ⟨rfl, hb4⟩
    have hwc : w.heap.size ≤ w4.heap.size := by have := B3S.out; have := hb4.size; omega
    have B4 : Hid (Below w.heap.size w w4) := B3.out.trans (hb4.mono B3.out.size)
    have C4 : Hid (CErr (peS S) (w4.alloc (.cells #[.int .u32 0, .int .i64 0, .slice none 0 0] 34)) (2, -1) (.iface 193 (.pointer (some (peS S 2))))) := CErr.stays (.inl ⟨rfl, rfl⟩) (alloc_below _ _)
    have B5 : Hid (Below w.heap.size w (w4.alloc (.cells #[.int .u32 0, .int .i64 0, .slice none 0 0] 34))) := B4.out.trans ((alloc_below _ _).mono B4.out.size)
    have X5 : Hid (CBox (w4.alloc (.cells #[.int .u32 0, .int .i64 0, .slice none 0 0] 34)) w4.heap.size 0 0 (.slice none 0 0)) := CBox.new _ _ _ _
    clear hopt hb4 B3 P3 A3 B4
    go_upto_region 5 with fail
    generalize w4.alloc (.cells #[.int .u32 0, .int .i64 0, .slice none 0 0] 34) = W5 at *
    generalize w4.heap.size = cb at *
    have hcf0 := codeFault_any (HA.out W5 B5.out) (by omega) many m0 m1
    rw [HCF.out] at hcf0
    go_wp2_with fail
    refine hcf0.mono ?_
    rintro e w6 ⟨rfl, hb6⟩
    have B7 : Hid (Below w.heap.size w (w6.alloc (.cells #[.int .i64 0, .int .i64 (-1)] 41))) := (B5.out.trans (hb6.mono B5.out.size)).trans ((alloc_below _ _).mono (by have := B5.out.size; have := hb6.size; omega))
    have C7 : Hid (CErr (peS S) (w6.alloc (.cells #[.int .i64 0, .int .i64 (-1)] 41)) (2, -1) (.iface 193 (.pointer (some (peS S 2))))) := (C4.out.stays hb6).stays (alloc_below _ _)
    have X7 : Hid (CBox (w6.alloc (.cells #[.int .i64 0, .int .i64 (-1)] 41)) cb 0 0 (.slice none 0 0)) := (X5.out.stays hb6).stays (alloc_below _ _)
    have F7 : Hid (FBx (w6.alloc (.cells #[.int .i64 0, .int .i64 (-1)] 41)) w6.heap.size 0 (-1)) := FBx.new _ _ _
    have q6 : cb < w6.heap.size := by have := X5.out.lt; have := hb6.size; omega
    clear hcf0 hb6 X5 B5 C4
    go_upto_region 6 with fail
    generalize w6.alloc (.cells #[.int .i64 0, .int .i64 (-1)] 41) = W7 at *
    generalize w6.heap.size = fb at *
    obtain ⟨x0, x1, x2⟩ := X7.out
    obtain ⟨y0, y1, fz⟩ := F7.out
    have hx7 := X7.out.lt
    have hf7 := F7.out.lt
    have hba := fun W => bare_any 2 W
    have hlo : lev < 0 ∨ (¬ lev < 0 ∧ 2 < lev) := by omega
    rcases hlo with hlo | ⟨hlo1, hlo⟩
    · go_upto_region 7 with fail
      go_wp2_with fail
      refine (hba _).mono ?_
      rintro e w8 ⟨rfl, hb8⟩
      have X8 := X7.out.stays hb8
      have F8 := F7.out.stays hb8
      have C8 := C7.out.stays hb8
      have B8 : Hid (Below w.heap.size w w8) := B7.out.trans (hb8.mono B7.out.size)
      have hne : fb ≠ cb := by omega
      have hb0 : w.heap.size ≤ fb := by omega
      have F9 : Hid (FBx ((w8.setCell ⟨fb, 0, none⟩ (.int .i64 2)).setCell ⟨fb, 1, none⟩ (.int .i64 (-1))) fb 2 (-1)) := F8.put 2 (-1)
      have B9 : Hid (Below w.heap.size w ((w8.setCell ⟨fb, 0, none⟩ (.int .i64 2)).setCell ⟨fb, 1, none⟩ (.int .i64 (-1)))) := (B8.out.setCell (p := ⟨fb, 0, none⟩) hb0 _).setCell (p := ⟨fb, 1, none⟩) hb0 _
      have hcbk : ((w8.setCell ⟨fb, 0, none⟩ (.int .i64 2)).setCell ⟨fb, 1, none⟩ (.int .i64 (-1))).heap[cb]? = w8.heap[cb]? := (Below.heap_setCell _ ⟨fb, 1, none⟩ _ cb (by show cb ≠ fb; omega)).trans (Below.heap_setCell _ ⟨fb, 0, none⟩ _ cb (by show cb ≠ fb; omega))
      have X9 : Hid (CBox ((w8.setCell ⟨fb, 0, none⟩ (.int .i64 2)).setCell ⟨fb, 1, none⟩ (.int .i64 (-1))) cb 0 0 (.slice none 0 0)) := ⟨(World.cell?_of_block (a := ⟨cb, 0, none⟩) hcbk).trans X8.k0, (World.cell?_of_block (a := ⟨cb, 1, none⟩) hcbk).trans X8.k1, (World.cell?_of_block (a := ⟨cb, 2, none⟩) hcbk).trans X8.k2⟩
      have C9 : Hid (CErr (peS S) ((w8.setCell ⟨fb, 0, none⟩ (.int .i64 2)).setCell ⟨fb, 1, none⟩ (.int .i64 (-1))) (2, -1) (.iface 193 (.pointer (some (peS S 2))))) := .inl ⟨rfl, rfl⟩
      obtain ⟨t0, t1, tz⟩ := F8
      have hf8 := World.block_lt_of_cell? _ _ t0
      clear x0 x1 x2 y0 y1 fz hx7 hf7 hba hb8 X7 F7 C7 B7 X8 C8 B8 hcbk
      go_upto_region 8 with fail
      generalize (w8.setCell ⟨fb, 0, none⟩ (.int .i64 2)).setCell ⟨fb, 1, none⟩ (.int .i64 (-1)) = W7 at *
      clear t0 t1 tz hf8
      have X7 := X9
      have F7 := F9
      have C7 := C9
      have B7 := B9
      clear X9 F9 C9 B9
      obtain ⟨x0, x1, x2⟩ := X7.out
      obtain ⟨y0, y1, fz⟩ := F7.out
      have hx7 := X7.out.lt
      have hf7 := F7.out.lt
      have hflt := faulted_any S (HEE.out W7 B7.out) (2, -1) _ C7.out (.inr ⟨by decide, by decide⟩)
      go_wp2_with fail
      refine hflt.mono ?_
      rintro e w8 ⟨rfl, hb8⟩
      have B8 : Hid (Below w.heap.size w w8) := B7.out.trans (hb8.mono B7.out.size)
      have X8 := X7.out.stays hb8
      clear x0 x1 x2 y0 y1 fz hx7 hf7 hflt hb8 X7 F7 C7 B7
      obtain ⟨x0, x1, x2⟩ := X8
      have hx8 := World.block_lt_of_cell? _ _ x0
      go_wp2
      go_ret
      exact ⟨rfl, B8.out⟩
    · go_upto_region 7 with fail
      go_wp2_with fail
      refine (hba _).mono ?_
      rintro e w8 ⟨rfl, hb8⟩
      have X8 := X7.out.stays hb8
      have F8 := F7.out.stays hb8
      have C8 := C7.out.stays hb8
      have B8 : Hid (Below w.heap.size w w8) := B7.out.trans (hb8.mono B7.out.size)
      have hne : fb ≠ cb := by omega
      have hb0 : w.heap.size ≤ fb := by omega
      have F9 : Hid (FBx ((w8.setCell ⟨fb, 0, none⟩ (.int .i64 2)).setCell ⟨fb, 1, none⟩ (.int .i64 (-1))) fb 2 (-1)) := F8.put 2 (-1)
      have B9 : Hid (Below w.heap.size w ((w8.setCell ⟨fb, 0, none⟩ (.int .i64 2)).setCell ⟨fb, 1, none⟩ (.int .i64 (-1)))) := (B8.out.setCell (p := ⟨fb, 0, none⟩) hb0 _).setCell (p := ⟨fb, 1, none⟩) hb0 _
      have hcbk : ((w8.setCell ⟨fb, 0, none⟩ (.int .i64 2)).setCell ⟨fb, 1, none⟩ (.int .i64 (-1))).heap[cb]? = w8.heap[cb]? := (Below.heap_setCell _ ⟨fb, 1, none⟩ _ cb (by show cb ≠ fb; omega)).trans (Below.heap_setCell _ ⟨fb, 0, none⟩ _ cb (by show cb ≠ fb; omega))
      have X9 : Hid (CBox ((w8.setCell ⟨fb, 0, none⟩ (.int .i64 2)).setCell ⟨fb, 1, none⟩ (.int .i64 (-1))) cb 0 0 (.slice none 0 0)) := ⟨(World.cell?_of_block (a := ⟨cb, 0, none⟩) hcbk).trans X8.k0, (World.cell?_of_block (a := ⟨cb, 1, none⟩) hcbk).trans X8.k1, (World.cell?_of_block (a := ⟨cb, 2, none⟩) hcbk).trans X8.k2⟩
      have C9 : Hid (CErr (peS S) ((w8.setCell ⟨fb, 0, none⟩ (.int .i64 2)).setCell ⟨fb, 1, none⟩ (.int .i64 (-1))) (2, -1) (.iface 193 (.pointer (some (peS S 2))))) := .inl ⟨rfl, rfl⟩
      obtain ⟨t0, t1, tz⟩ := F8
      have hf8 := World.block_lt_of_cell? _ _ t0
      clear x0 x1 x2 y0 y1 fz hx7 hf7 hba hb8 X7 F7 C7 B7 X8 C8 B8 hcbk
      go_upto_region 8 with fail
      generalize (w8.setCell ⟨fb, 0, none⟩ (.int .i64 2)).setCell ⟨fb, 1, none⟩ (.int .i64 (-1)) = W7 at *
      clear t0 t1 tz hf8
      have X7 := X9
      have F7 := F9
      have C7 := C9
      have B7 := B9
      clear X9 F9 C9 B9
      obtain ⟨x0, x1, x2⟩ := X7.out
      obtain ⟨y0, y1, fz⟩ := F7.out
      have hx7 := X7.out.lt
      have hf7 := F7.out.lt
      have hflt := faulted_any S (HEE.out W7 B7.out) (2, -1) _ C7.out (.inr ⟨by decide, by decide⟩)
      go_wp2_with fail
      refine hflt.mono ?_
      rintro e w8 ⟨rfl, hb8⟩
      have B8 : Hid (Below w.heap.size w w8) := B7.out.trans (hb8.mono B7.out.size)
      have X8 := X7.out.stays hb8
      clear x0 x1 x2 y0 y1 fz hx7 hf7 hflt hb8 X7 F7 C7 B7
      obtain ⟨x0, x1, x2⟩ := X8
      have hx8 := World.block_lt_of_cell? _ _ x0
      go_wp2
      go_ret
      exact ⟨rfl, B8.out⟩
  have h0 : 0 ≤ lev := by omega
  have h2 : lev ≤ 2 := by omega
  have hopt := opt_any (peS S) (HE.out w3 B3.out) A3.out (by omega) pc many lev m0 m1 hcf h0 h2
  have HW2 : Hid (codeF many (optL lev l) = (0, -1)) := codeF_well.2 (WL.out.opt lev)
  have HKN : Hid (0 < lev → knownC fx0 (optL lev l) = 0) := fun h => known_opt h l
  have HDE : Hid (1 < lev → deadN (optL lev l) = 0) := fun h => dead_opt WL.out h
  have HZE : Hid (lev = 0 → optL lev l = l) := fun h => by rw [h]; rfl
  have hLn : ((optL lev l).length : Int) ≤ l.length := by have := optL_len lev l; omega
  clear hcf hlv
  generalize optL lev l = L at *
  go_wp2_with fail
  refine hopt.mono ?_
  rintro e w4 ⟨g, cp, rfl, hcp, hRw, hge, hb4, hok⟩
  have B4 : Hid (Below w.heap.size w w4) := B3.out.trans (hb4.mono B3.out.size)
  have B5 : Hid (Below w.heap.size w (w4.alloc (.cells #[.int .u32 pc, .int .i64 many, .slice (some ⟨g, 0, none⟩) L.length cp] 34))) := B4.out.trans ((alloc_below _ _).mono B4.out.size)
  have X5 : Hid (ZBox (w4.alloc (.cells #[.int .u32 pc, .int .i64 many, .slice (some ⟨g, 0, none⟩) L.length cp] 34)) w4.heap.size w.heap.size pc many (.slice (some ⟨g, 0, none⟩) L.length cp) fP) := ⟨CBox.new _ _ _ _, (P3.out.stays hb4).stays (alloc_below _ _)⟩
  have A5 : Hid (OpsIn (w4.alloc (.cells #[.int .u32 pc, .int .i64 many, .slice (some ⟨g, 0, none⟩) L.length cp] 34)) (.slice (some ⟨g, 0, none⟩) L.length cp) L) := (hRw.in hcp hok).stays (alloc_below _ _)
  clear hopt hb4 B3 P3 A3 B4 hRw hok
  go_upto_region 5 with fail
  generalize w4.alloc (.cells #[.int .u32 pc, .int .i64 many, .slice (some ⟨g, 0, none⟩) L.length cp] 34) = W5 at *
  generalize w4.heap.size = cb at *
  have hcf0 := codeFault_any (HA.out W5 B5.out) (by omega) many m0 m1
  rw [HCF.out] at hcf0
  go_wp2_with fail
  refine hcf0.mono ?_
  rintro e w6 ⟨rfl, hb6⟩
  have S6 : Hid (Below W5.heap.size W5 (w6.alloc (.cells #[.int .i64 0, .int .i64 (-1)] 41))) := hb6.trans ((alloc_below _ _).mono hb6.size)
  have F7 : Hid (FBx (w6.alloc (.cells #[.int .i64 0, .int .i64 (-1)] 41)) w6.heap.size 0 (-1)) := FBx.new _ _ _
  clear hcf0 hb6
  go_upto_region 6 with fail
  generalize w6.alloc (.cells #[.int .i64 0, .int .i64 (-1)] 41) = W7 at *
  generalize w6.heap.size = fb at *
  have B7 : Hid (Below w.heap.size w W7) := B5.out.trans (S6.out.mono B5.out.size)
  have X7 : Hid (ZBox W7 cb w.heap.size pc many (.slice (some ⟨g, 0, none⟩) L.length cp) fP) := ⟨X5.out.c.stays S6.out, X5.out.p.stays S6.out⟩
  have A7 : Hid (OpsIn W7 (.slice (some ⟨g, 0, none⟩) L.length cp) L) := A5.out.stays S6.out
  have hcf2 := codeFault_any A7.out (by omega) many m0 m1
  rw [HW2.out] at hcf2
  obtain ⟨x0, x1, x2⟩ := X7.out.c
  obtain ⟨y0, y1, fz⟩ := F7.out
  have hx7 := X7.out.c.lt
  have hf7 := F7.out.lt
  clear S6 B5 X5 A5
  have hnl : ¬ lev < 0 := by omega
  have hnl2 : ¬ 2 < lev := by omega
  go_upto_region 10 with fail
  go_wp2_with fail
  refine hcf2.mono ?_
  rintro e w8 ⟨rfl, hb8⟩
  have B8 : Hid (Below w.heap.size w w8) := B7.out.trans (hb8.mono B7.out.size)
  have X8 : Hid (ZBox w8 cb w.heap.size pc many (.slice (some ⟨g, 0, none⟩) L.length cp) fP) := ⟨X7.out.c.stays hb8, X7.out.p.stays hb8⟩
  have A8 : Hid (OpsIn w8 (.slice (some ⟨g, 0, none⟩) L.length cp) L) := A7.out.stays hb8
  clear x0 x1 x2 y0 y1 fz hx7 hf7 hcf2 hb8 B7 X7 A7 F7
  go_wp2_with fail
  rw [fault_field]
  go_upto_region 12 with fail
  obtain ⟨x0, x1, x2⟩ := X8.out.c
  have hx8 := X8.out.c.lt
  have hl12 : lev = 0 ∨ lev = 1 ∨ lev = 2 := by omega
  rcases hl12 with hlv | hlv | hlv
  · have hLl := HZE.out hlv
    have hso : Calls Tryz.prog 13 #[.slice (some ⟨g, 0, none⟩) L.length cp, .slice ao l.length cap] w8 (fun e w' => e = .returned (.bool true) ∧ Below w8.heap.size w8 w') := sameOps_any A8.out (by have := HA.out w8 B8.out; rw [hLl]; exact this) (by omega)
    have hlv1 : ¬ 0 < lev := by omega
    have hlv2 : ¬ 1 < lev := by omega
    clear hLl
    go_wp2_with fail
    refine hso.mono ?_
    rintro e w9 ⟨rfl, hb9⟩
    have B9 : Hid (Below w.heap.size w w9) := B8.out.trans (hb9.mono B8.out.size)
    have X9 : Hid (ZBox w9 cb w.heap.size pc many (.slice (some ⟨g, 0, none⟩) L.length cp) fP) := ⟨X8.out.c.stays hb9, X8.out.p.stays hb9⟩
    have A9 : Hid (OpsIn w9 (.slice (some ⟨g, 0, none⟩) L.length cp) L) := A8.out.stays hb9
    clear hso hb9 x0 x1 x2 hx8 B8 X8 A8
    go_upto_region 14 with fail
    have X9p : ZBox w9.drew cb w.heap.size pc many (.slice (some ⟨g, 0, none⟩) L.length cp) fP := ⟨X9.out.c.stays (Below.refl _ _).drew, X9.out.p.stays (Below.refl _ _).drew⟩
    refine wp_region_phase 10 [(0, 0), (2, 0), (3, 1), (5, 0), (6, 1), (7, 0), (1, 2), (4, 2), (8, 2), (9, 0)] (fun W => ZBox W cb w.heap.size pc many (.slice (some ⟨g, 0, none⟩) L.length cp) fP) (by kernel_rfl) (by kernel_rfl) (fun _ _ _ d _ h => by cases d <;> exact h) X9p ?_
    refine wpPlanZ_free (by rfl) (by rfl) (fun W => by (go_simp; try with_reducible rfl)) (fun K hK => ?_); go_simp; refine hK _ ?_; clear hK K
    refine wpPlanZ_free (by rfl) (by rfl) (fun W => by (go_simp; try with_reducible rfl)) (fun K hK => ?_); go_simp; refine hK _ ?_; clear hK K
    refine wpPlanZ_quiet (by rfl) (by rfl) (fun W hW => by (obtain ⟨⟨z0, z1, z2⟩, _⟩ := hW; go_simp; try with_reducible rfl)) (fun K hK => ?_); go_simp; refine hK _ ?_; clear hK K
    refine wpPlanZ_free (by rfl) (by rfl) (fun W => by (go_simp; try with_reducible rfl)) (fun K hK => ?_); go_simp; refine hK _ ?_; clear hK K
    refine wpPlanZ_quiet (v := .agg PA) (by rfl) (by rfl) (fun W hW => exec_loadT rfl rfl W (hldp W hW.p)) (fun K hK => ?_); go_simp; refine hK _ ?_; clear hK K
    refine wpPlanZ_free (by rfl) (by rfl) (fun W => by (go_simp; try with_reducible rfl)) (fun K hK => ?_); go_simp; refine hK _ ?_; clear hK K
    refine wpPlanZ_serial (by rfl) (by rfl) (fun K hK => ?_)
    go_simp
    refine (each_any (HA.out _ B9.out.drew) (by omega)).mono ?_
    rintro e u1 ⟨v1, rfl, hR1, hd1⟩
    have D1 : Hid (Below w9.heap.size w9 u1) := (Below.refl _ _).drew.trans (hd1.mono (Nat.le_refl _))
    have R1 : Hid (RowsI u1 v1 (eachL l)) := hR1.rowsI
    refine hK _ _ (fun _ => ⟨X9.out.c.stays D1.out, X9.out.p.stays D1.out⟩) ?_
    clear hK K hd1 hR1
    refine wpPlanZ_serial (by rfl) (by rfl) (fun K hK => ?_)
    go_simp
    refine (each_any (A9.out.stays D1.out) (by omega)).mono ?_
    rintro e u2 ⟨v2, rfl, hR2, hd2⟩
    have D2 : Hid (Below w9.heap.size w9 u2) := D1.out.trans (hd2.mono D1.out.size)
    have hse := HSE.out u2 v1 v2 (B9.out.trans (D2.out.mono B9.out.size)) (R1.out.stays hd2) hR2.rowsI WL.out ct0 ct1 hx
    refine hK _ _ (fun _ => ⟨X9.out.c.stays D2.out, X9.out.p.stays D2.out⟩) ?_
    clear hK K hd2 hR2 R1
    refine wpPlanZ_serial (by rfl) (by rfl) (fun K hK => ?_)
    go_simp
    refine hse.mono ?_
    rintro e u3 ⟨rfl, hd3⟩
    have D3 : Hid (Below w9.heap.size w9 u3) := D2.out.trans (hd3.mono D2.out.size)
    refine hK _ _ (fun _ => ⟨X9.out.c.stays D3.out, X9.out.p.stays D3.out⟩) ?_
    clear hK K hd3 hse
    refine wpPlanZ_free (by rfl) (by rfl) (fun W => by (go_simp; try with_reducible rfl)) (fun K hK => ?_); go_simp; refine hK _ ?_; clear hK K
    refine wpPlanZ_nil ?_
    go_wp2
    go_ret
    exact ⟨rfl, B9.out.trans (D3.out.mono B9.out.size)⟩
  · have hkn := knownOf_any A8.out (by omega)
    have hk0 := HKN.out (by omega)
    rw [hk0] at hkn
    have hlv1 : 0 < lev := by omega
    have hlv2 : ¬ 1 < lev := by omega
    have hlv3 : (lev == 0) = false := by simp; omega
    go_wp2_with fail
    refine hkn.mono ?_
    rintro e w9 ⟨rfl, hb9⟩
    have B9 : Hid (Below w.heap.size w w9) := B8.out.trans (hb9.mono B8.out.size)
    have X9 : Hid (ZBox w9 cb w.heap.size pc many (.slice (some ⟨g, 0, none⟩) L.length cp) fP) := ⟨X8.out.c.stays hb9, X8.out.p.stays hb9⟩
    have A9 : Hid (OpsIn w9 (.slice (some ⟨g, 0, none⟩) L.length cp) L) := A8.out.stays hb9
    clear hkn hk0 hb9 x0 x1 x2 hx8 B8 X8 A8
    go_upto_region 14 with fail
    have X9p : ZBox w9.drew cb w.heap.size pc many (.slice (some ⟨g, 0, none⟩) L.length cp) fP := ⟨X9.out.c.stays (Below.refl _ _).drew, X9.out.p.stays (Below.refl _ _).drew⟩
    refine wp_region_phase 10 [(0, 0), (2, 0), (3, 1), (5, 0), (6, 1), (7, 0), (1, 2), (4, 2), (8, 2), (9, 0)] (fun W => ZBox W cb w.heap.size pc many (.slice (some ⟨g, 0, none⟩) L.length cp) fP) (by kernel_rfl) (by kernel_rfl) (fun _ _ _ d _ h => by cases d <;> exact h) X9p ?_
    refine wpPlanZ_free (by rfl) (by rfl) (fun W => by (go_simp; try with_reducible rfl)) (fun K hK => ?_); go_simp; refine hK _ ?_; clear hK K
    refine wpPlanZ_free (by rfl) (by rfl) (fun W => by (go_simp; try with_reducible rfl)) (fun K hK => ?_); go_simp; refine hK _ ?_; clear hK K
    refine wpPlanZ_quiet (by rfl) (by rfl) (fun W hW => by (obtain ⟨⟨z0, z1, z2⟩, _⟩ := hW; go_simp; try with_reducible rfl)) (fun K hK => ?_); go_simp; refine hK _ ?_; clear hK K
    refine wpPlanZ_free (by rfl) (by rfl) (fun W => by (go_simp; try with_reducible rfl)) (fun K hK => ?_); go_simp; refine hK _ ?_; clear hK K
    refine wpPlanZ_quiet (v := .agg PA) (by rfl) (by rfl) (fun W hW => exec_loadT rfl rfl W (hldp W hW.p)) (fun K hK => ?_); go_simp; refine hK _ ?_; clear hK K
    refine wpPlanZ_free (by rfl) (by rfl) (fun W => by (go_simp; try with_reducible rfl)) (fun K hK => ?_); go_simp; refine hK _ ?_; clear hK K
    refine wpPlanZ_serial (by rfl) (by rfl) (fun K hK => ?_)
    go_simp
    refine (each_any (HA.out _ B9.out.drew) (by omega)).mono ?_
    rintro e u1 ⟨v1, rfl, hR1, hd1⟩
    have D1 : Hid (Below w9.heap.size w9 u1) := (Below.refl _ _).drew.trans (hd1.mono (Nat.le_refl _))
    have R1 : Hid (RowsI u1 v1 (eachL l)) := hR1.rowsI
    refine hK _ _ (fun _ => ⟨X9.out.c.stays D1.out, X9.out.p.stays D1.out⟩) ?_
    clear hK K hd1 hR1
    refine wpPlanZ_serial (by rfl) (by rfl) (fun K hK => ?_)
    go_simp
    refine (each_any (A9.out.stays D1.out) (by omega)).mono ?_
    rintro e u2 ⟨v2, rfl, hR2, hd2⟩
    have D2 : Hid (Below w9.heap.size w9 u2) := D1.out.trans (hd2.mono D1.out.size)
    have hse := HSE.out u2 v1 v2 (B9.out.trans (D2.out.mono B9.out.size)) (R1.out.stays hd2) hR2.rowsI WL.out ct0 ct1 hx
    refine hK _ _ (fun _ => ⟨X9.out.c.stays D2.out, X9.out.p.stays D2.out⟩) ?_
    clear hK K hd2 hR2 R1
    refine wpPlanZ_serial (by rfl) (by rfl) (fun K hK => ?_)
    go_simp
    refine hse.mono ?_
    rintro e u3 ⟨rfl, hd3⟩
    have D3 : Hid (Below w9.heap.size w9 u3) := D2.out.trans (hd3.mono D2.out.size)
    refine hK _ _ (fun _ => ⟨X9.out.c.stays D3.out, X9.out.p.stays D3.out⟩) ?_
    clear hK K hd3 hse
    refine wpPlanZ_free (by rfl) (by rfl) (fun W => by (go_simp; try with_reducible rfl)) (fun K hK => ?_); go_simp; refine hK _ ?_; clear hK K
    refine wpPlanZ_nil ?_
    go_wp2
    go_ret
    exact ⟨rfl, B9.out.trans (D3.out.mono B9.out.size)⟩
  · have hkn := knownOf_any A8.out (by omega)
    have hk0 := HKN.out (by omega)
    rw [hk0] at hkn
    have hlv1 : 0 < lev := by omega
    have hlv2 : 1 < lev := by omega
    have hlv3 : (lev == 0) = false := by simp; omega
    go_wp2_with fail
    refine hkn.mono ?_
    rintro e wk ⟨rfl, hbk⟩
    have Bk : Hid (Below w.heap.size w wk) := B8.out.trans (hbk.mono B8.out.size)
    have Xk : Hid (ZBox wk cb w.heap.size pc many (.slice (some ⟨g, 0, none⟩) L.length cp) fP) := ⟨X8.out.c.stays hbk, X8.out.p.stays hbk⟩
    have Ak : Hid (OpsIn wk (.slice (some ⟨g, 0, none⟩) L.length cp) L) := A8.out.stays hbk
    clear hkn hk0 hbk x0 x1 x2 hx8 B8 X8 A8
    have B8 := Bk
    have X8 := Xk
    have A8 := Ak
    clear Bk Xk Ak
    have hdd := deadOf_any A8.out (by omega)
    have hd0 := HDE.out (by omega)
    rw [hd0] at hdd
    obtain ⟨x0, x1, x2⟩ := X8.out.c
    have hx8 := X8.out.c.lt
    go_wp2_with fail
    refine hdd.mono ?_
    rintro e w9 ⟨rfl, hb9⟩
    have B9 : Hid (Below w.heap.size w w9) := B8.out.trans (hb9.mono B8.out.size)
    have X9 : Hid (ZBox w9 cb w.heap.size pc many (.slice (some ⟨g, 0, none⟩) L.length cp) fP) := ⟨X8.out.c.stays hb9, X8.out.p.stays hb9⟩
    have A9 : Hid (OpsIn w9 (.slice (some ⟨g, 0, none⟩) L.length cp) L) := A8.out.stays hb9
    clear hdd hd0 hb9 x0 x1 x2 hx8 B8 X8 A8
    go_upto_region 14 with fail
    have X9p : ZBox w9.drew cb w.heap.size pc many (.slice (some ⟨g, 0, none⟩) L.length cp) fP := ⟨X9.out.c.stays (Below.refl _ _).drew, X9.out.p.stays (Below.refl _ _).drew⟩
    refine wp_region_phase 10 [(0, 0), (2, 0), (3, 1), (5, 0), (6, 1), (7, 0), (1, 2), (4, 2), (8, 2), (9, 0)] (fun W => ZBox W cb w.heap.size pc many (.slice (some ⟨g, 0, none⟩) L.length cp) fP) (by kernel_rfl) (by kernel_rfl) (fun _ _ _ d _ h => by cases d <;> exact h) X9p ?_
    refine wpPlanZ_free (by rfl) (by rfl) (fun W => by (go_simp; try with_reducible rfl)) (fun K hK => ?_); go_simp; refine hK _ ?_; clear hK K
    refine wpPlanZ_free (by rfl) (by rfl) (fun W => by (go_simp; try with_reducible rfl)) (fun K hK => ?_); go_simp; refine hK _ ?_; clear hK K
    refine wpPlanZ_quiet (by rfl) (by rfl) (fun W hW => by (obtain ⟨⟨z0, z1, z2⟩, _⟩ := hW; go_simp; try with_reducible rfl)) (fun K hK => ?_); go_simp; refine hK _ ?_; clear hK K
    refine wpPlanZ_free (by rfl) (by rfl) (fun W => by (go_simp; try with_reducible rfl)) (fun K hK => ?_); go_simp; refine hK _ ?_; clear hK K
    refine wpPlanZ_quiet (v := .agg PA) (by rfl) (by rfl) (fun W hW => exec_loadT rfl rfl W (hldp W hW.p)) (fun K hK => ?_); go_simp; refine hK _ ?_; clear hK K
    refine wpPlanZ_free (by rfl) (by rfl) (fun W => by (go_simp; try with_reducible rfl)) (fun K hK => ?_); go_simp; refine hK _ ?_; clear hK K
    refine wpPlanZ_serial (by rfl) (by rfl) (fun K hK => ?_)
    go_simp
    refine (each_any (HA.out _ B9.out.drew) (by omega)).mono ?_
    rintro e u1 ⟨v1, rfl, hR1, hd1⟩
    have D1 : Hid (Below w9.heap.size w9 u1) := (Below.refl _ _).drew.trans (hd1.mono (Nat.le_refl _))
    have R1 : Hid (RowsI u1 v1 (eachL l)) := hR1.rowsI
    refine hK _ _ (fun _ => ⟨X9.out.c.stays D1.out, X9.out.p.stays D1.out⟩) ?_
    clear hK K hd1 hR1
    refine wpPlanZ_serial (by rfl) (by rfl) (fun K hK => ?_)
    go_simp
    refine (each_any (A9.out.stays D1.out) (by omega)).mono ?_
    rintro e u2 ⟨v2, rfl, hR2, hd2⟩
    have D2 : Hid (Below w9.heap.size w9 u2) := D1.out.trans (hd2.mono D1.out.size)
    have hse := HSE.out u2 v1 v2 (B9.out.trans (D2.out.mono B9.out.size)) (R1.out.stays hd2) hR2.rowsI WL.out ct0 ct1 hx
    refine hK _ _ (fun _ => ⟨X9.out.c.stays D2.out, X9.out.p.stays D2.out⟩) ?_
    clear hK K hd2 hR2 R1
    refine wpPlanZ_serial (by rfl) (by rfl) (fun K hK => ?_)
    go_simp
    refine hse.mono ?_
    rintro e u3 ⟨rfl, hd3⟩
    have D3 : Hid (Below w9.heap.size w9 u3) := D2.out.trans (hd3.mono D2.out.size)
    refine hK _ _ (fun _ => ⟨X9.out.c.stays D3.out, X9.out.p.stays D3.out⟩) ?_
    clear hK K hd3 hse
    refine wpPlanZ_free (by rfl) (by rfl) (fun W => by (go_simp; try with_reducible rfl)) (fun K hK => ?_); go_simp; refine hK _ ?_; clear hK K
    refine wpPlanZ_nil ?_
    go_wp2
    go_ret
    exact ⟨rfl, B9.out.trans (D3.out.mono B9.out.size)⟩
end Go.Proofs.YtphdginikmmnmaaGreatDoor
