/-
  Rows of ops over registers and memory, as the document runs them, in whole numbers; better codes end alike.
-/
import Derived.Test.YtphdginikmmnmaaGreatDoorJOptP
namespace Go.Proofs.YtphdginikmmnmaaGreatDoor
open Num
set_option linter.unusedVariables false
/-- what an op comes to: what it writes, an address, whether it traps, whether it leaves -/
structure Ro where
  v : Int
  a : Int
  trap : Bool
  leave : Bool
def resZ (wt : Int → Bool) (x m : Nat → Int) (o : Opx) : Ro :=
  if o.k = 21 then ⟨0, 0, ov (sg (x o.a.toNat) + sg (x o.b.toNat)), false⟩
  else if o.k = 22 then ⟨0, 0, ov (sg (x o.a.toNat) - sg (x o.b.toNat)), false⟩
  else if o.k = 23 then (if chk (lo (x o.a.toNat + o.i)) (if o.b < 0 then -o.b else o.b) = 0 then ⟨ld m (lo (x o.a.toNat + o.i)) (if o.b < 0 then -o.b else o.b) (decide (o.b < 0)), 0, false, false⟩ else ⟨0, 0, true, false⟩)
  else if o.k = 24 then (if chk (lo (x o.a.toNat + o.i)) o.d = 0 then ⟨x o.b.toNat, lo (x o.a.toNat + o.i), wt (lo (x o.a.toNat + o.i) / 256), false⟩ else ⟨0, 0, true, false⟩)
  else if o.k = 25 then ⟨0, o.i, false, decide (x o.a.toNat ≠ 0)⟩
  else if o.k = 26 then ⟨0, o.i, false, true⟩
  else if o.k = 27 then ⟨0, x o.a.toNat, false, true⟩
  else ⟨valV o.k (x o.a.toNat) (x o.b.toNat) (x o.d.toNat) o.i, 0, false, false⟩
/-- registers, memory, where it leaves for (-1: it does not) -/
structure Mz where
  x : Nat → Int
  m : Nat → Int
  lv : Int
def appZ (M : Mz) (o : Opx) (r : Ro) : Mz := ⟨if 0 < wrX o then setX M.x (wrX o) r.v else M.x, if o.k = 24 then upd M.m r.a o.d r.v else M.m, if r.leave = true then r.a else M.lv⟩
def rowZ (wt : Int → Bool) (x m : Nat → Int) (row : List Opx) : Mz := row.foldl (fun M o => appZ M o (resZ wt x m o)) ⟨x, m, -1⟩
def trapZ (wt : Int → Bool) (x m : Nat → Int) (row : List Opx) : Option Int := (row.find? fun o => (resZ wt x m o).trap).map (·.t)
inductive Oz where
  | trap (t : Int)
  | leave (M : Mz)
  | fell
def runZ (wt : Int → Bool) : List (List Opx) → (Nat → Int) → (Nat → Int) → Oz
  | [], _, _ => .fell
  | row :: rows, x, m => match trapZ wt x m row with
    | some t => .trap t
    | none => if (rowZ wt x m row).lv < 0 then runZ wt rows (rowZ wt x m row).x (rowZ wt x m row).m else .leave (rowZ wt x m row)
/-- one op a row -/
def eachL (l : List Opx) : List (List Opx) := l.map fun o => [o]
def run1 (wt : Int → Bool) (l : List Opx) (x m : Nat → Int) : Oz := runZ wt (eachL l) x m
theorem run1_nil (wt : Int → Bool) (x m : Nat → Int) : run1 wt [] x m = .fell := rfl
theorem run1_cons (wt : Int → Bool) (o : Opx) (l : List Opx) (x m : Nat → Int) : run1 wt (o :: l) x m = if (resZ wt x m o).trap = true then .trap o.t else if (appZ ⟨x, m, -1⟩ o (resZ wt x m o)).lv < 0 then run1 wt l (appZ ⟨x, m, -1⟩ o (resZ wt x m o)).x (appZ ⟨x, m, -1⟩ o (resZ wt x m o)).m else .leave (appZ ⟨x, m, -1⟩ o (resZ wt x m o)) := by
  show runZ wt ([o] :: eachL l) x m = _
  unfold runZ
  have e : trapZ wt x m [o] = if (resZ wt x m o).trap = true then some o.t else none := by
    unfold trapZ
    rw [List.find?_cons]
    cases h : (resZ wt x m o).trap <;> simp
  rw [e]
  by_cases h : (resZ wt x m o).trap = true
  · rw [if_pos h, if_pos h]
  · rw [if_neg h, if_neg h]; rfl
/-- two endings that are alike: registers up to Lo -/
def OzAlike : Oz → Oz → Prop
  | .trap t, .trap u => t = u
  | .leave M, .leave N => M.lv = N.lv ∧ M.m = N.m ∧ ∀ r : Nat, 1 ≤ r → r ≤ 33 → M.x r = N.x r
  | .fell, .fell => True
  | _, _ => False
theorem OzAlike.rfl' (z : Oz) : OzAlike z z := by cases z <;> simp [OzAlike]
theorem valV_free {k : Nat} (h : 3 ≤ k ∧ k ≤ 16) (a b d i d' i' : Int) : valV k a b d i = valV k a b d' i' := by
  have : k = 3 ∨ k = 4 ∨ k = 5 ∨ k = 6 ∨ k = 7 ∨ k = 8 ∨ k = 9 ∨ k = 10 ∨ k = 11 ∨ k = 12 ∨ k = 13 ∨ k = 14 ∨ k = 15 ∨ k = 16 := by omega
  rcases this with rfl | rfl | rfl | rfl | rfl | rfl | rfl | rfl | rfl | rfl | rfl | rfl | rfl | rfl <;> simp [valV]
theorem resZ_val {wt : Int → Bool} {x m : Nat → Int} {o : Opx} (h : o.k ≤ 20) : resZ wt x m o = ⟨valV o.k (x o.a.toNat) (x o.b.toNat) (x o.d.toNat) o.i, 0, false, false⟩ := by
  unfold resZ
  rw [if_neg (by omega), if_neg (by omega), if_neg (by omega), if_neg (by omega), if_neg (by omega), if_neg (by omega), if_neg (by omega)]
theorem appZ_val {M : Mz} {o : Opx} (h1 : 1 ≤ o.k) (h : o.k ≤ 20) (hd : 1 ≤ o.d) (v a : Int) : appZ M o ⟨v, a, false, false⟩ = ⟨setX M.x o.d v, M.m, M.lv⟩ := by
  unfold appZ
  have e : wrX o = o.d := by unfold wrX rD; rw [if_pos (by rw [if_pos (.inl ⟨h1, h⟩)])]
  rw [e, if_pos (by omega), if_neg (by omega)]; rfl
theorem well_d {o : Opx} {many : Int} (h : opE o many = 0) (hr : rD o.k = 2) : 1 ≤ o.d ∧ o.d < 64 := by
  obtain ⟨_, hb, _⟩ := opE_zero.1 h
  unfold bndB at hb
  simp only [Bool.and_eq_true] at hb
  rw [hr] at hb
  have := hb.1.1.1.1
  unfold alw at this; simp at this; omega
theorem well_wr {o : Opx} {many : Int} (h : opE o many = 0) : 0 ≤ wrX o ∧ wrX o < 64 := by
  unfold wrX
  split
  · rename_i hr; have := well_d h hr; omega
  · omega
/-- facts that hold -/
def FactsOf (f : Fx) (x : Nat → Int) : Prop := ∀ r v, f r = some v → 0 ≤ r ∧ x r.toNat = v
theorem FactsOf.zero {x : Nat → Int} (h : x 0 = 0) : FactsOf fx0 x := by
  intro r v e
  unfold fx0 at e
  split at e
  · rename_i h0; subst h0; cases e; exact ⟨by omega, h⟩
  · cases e
theorem FactsOf.learn {f : Fx} {x : Nat → Int} {o : Opx} {many : Int} (F : FactsOf f x) (hw : opE o many = 0) {wt : Int → Bool} {m : Nat → Int} {M : Mz} (hM : M.x = x) : FactsOf (learnF f o) (appZ M o (resZ wt x m o)).x := by
  intro r v e
  have hb := well_wr hw
  unfold learnF at e
  by_cases h0 : wrX o = 0
  · rw [if_pos h0] at e
    show 0 ≤ r ∧ (if 0 < wrX o then setX M.x (wrX o) (resZ wt x m o).v else M.x) r.toNat = v
    rw [if_neg (by omega), hM]; exact F r v e
  · rw [if_neg h0] at e
    show 0 ≤ r ∧ (if 0 < wrX o then setX M.x (wrX o) (resZ wt x m o).v else M.x) r.toNat = v
    rw [if_pos (by omega)]
    unfold putF at e
    by_cases h1 : r = wrX o
    · rw [if_pos h1] at e
      by_cases h2 : o.k = 1
      · rw [if_pos h2] at e
        cases e
        refine ⟨by omega, ?_⟩
        unfold setX; rw [if_pos (by rw [h1]), resZ_val (by omega)]
        show valV o.k _ _ _ _ = _
        rw [h2]; rfl
      · rw [if_neg h2] at e; cases e
    · rw [if_neg h1] at e
      obtain ⟨g1, g2⟩ := F r v e
      refine ⟨g1, ?_⟩
      unfold setX; rw [if_neg (by omega), hM]; exact g2
/-- what was told ends as it did -/
theorem run_work {many : Int} (wt : Int → Bool) : ∀ (l : List Opx) (ah : Int) (f : Fx) (x m : Nat → Int), wellL many ah l → FactsOf f x → run1 wt (workF f l) x m = run1 wt l x m
  | [], _, _, _, _, _, _ => rfl
  | o :: l, ah, f, x, m, hw, F => by
    show run1 wt (toldO f o :: workF (learnF f (toldO f o)) l) x m = _
    have hw' : opE (toldO f o) many = 0 := told_opE hw.1
    rw [run1_cons, run1_cons]
    have ih := fun (M : Mz) (hM : M.x = x) => run_work wt l o.t (learnF f (toldO f o)) (appZ M (toldO f o) (resZ wt x m (toldO f o))).x (appZ M (toldO f o) (resZ wt x m (toldO f o))).m hw.2.2.2 (F.learn hw' hM)
    rw [ih ⟨x, m, -1⟩ rfl]
    cases hr : resF f o with
    | none => rw [told_none hr]
    | some v =>
      have hk := res_kind hr
      have hd := well_d hw.1 (by unfold rD; rw [if_pos (by omega)])
      have ev : valV o.k (x o.a.toNat) (x o.b.toNat) (x o.d.toNat) o.i = v := by
        unfold resF at hr
        split at hr
        · rename_i h2
          have := (F _ _ hr).2
          rw [h2.1]; exact this
        · split at hr
          · rename_i h2
            unfold tellB at h2
            simp only [Bool.and_eq_true, decide_eq_true_eq, Option.isSome_iff_exists] at h2
            obtain ⟨⟨h3, a, ha⟩, b, hb⟩ := h2
            rw [ha, hb] at hr
            cases hr
            rw [(F _ _ ha).2, (F _ _ hb).2]
            exact valV_free h3 _ _ _ _ _ _
          · cases hr
      rw [told_some hr, resZ_val (o := o) (by omega), ev, resZ_val (o := ⟨kindS 1, o.d, 0, 0, v, o.t⟩) (by simp [Opx.k, kn_kind]), appZ_val (o := o) (by omega) (by omega) hd.1, appZ_val (o := ⟨kindS 1, o.d, 0, 0, v, o.t⟩) (by simp [Opx.k, kn_kind]) (by simp [Opx.k, kn_kind]) hd.1]
      have e1 : valV (Opx.k ⟨kindS 1, o.d, 0, 0, v, o.t⟩) (x (0 : Int).toNat) (x (0 : Int).toNat) (x o.d.toNat) v = v := by simp [Opx.k, kn_kind, valV]
      simp only [e1]
/-- what an op comes to hangs on what it reads -/
theorem resZ_reads {wt : Int → Bool} {x y m : Nat → Int} {o : Opx} (hk : o.k ≠ 0) (h : ∀ r, r ∈ rdX o → x r.toNat = y r.toNat) : resZ wt x m o = resZ wt y m o := by
  have hl := kn_lt o.s
  have ha : rA o.k = 1 → x o.a.toNat = y o.a.toNat := fun e => h _ (by unfold rdX; rw [if_pos e]; simp)
  have hb : rB o.k = 1 → x o.b.toNat = y o.b.toNat := fun e => h _ (by unfold rdX; rw [if_pos e]; simp)
  have hd : dvB o.k = true → x o.d.toNat = y o.d.toNat := fun e => h _ (by unfold rdX; rw [if_pos e]; simp)
  generalize hkk : o.k = k at *
  have hl : k < 28 := by rw [← hkk]; exact hl
  unfold resZ
  rw [hkk]
  have hc : k = 1 ∨ k = 2 ∨ (3 ≤ k ∧ k ≤ 16) ∨ (17 ≤ k ∧ k ≤ 20) ∨ k = 21 ∨ k = 22 ∨ k = 23 ∨ k = 24 ∨ k = 25 ∨ k = 26 ∨ k = 27 := by omega
  rcases hc with rfl | rfl | hc | hc | rfl | rfl | rfl | rfl | rfl | rfl | rfl
  · simp [valV]
  · rw [ha rfl]; simp [valV]
  · rw [ha (by unfold rA; rw [if_pos (by omega)]), hb (by unfold rB; rw [if_pos (by omega)]), valV_free hc _ _ (x o.d.toNat) o.i (y o.d.toNat) o.i]
  · rw [ha (by unfold rA; rw [if_pos (by omega)]), hb (by unfold rB; rw [if_pos (by omega)]), hd (by unfold dvB; simpa using hc)]
  · rw [ha rfl, hb rfl]; simp
  · rw [ha rfl, hb rfl]; simp
  · rw [ha rfl]; simp
  · rw [ha rfl, hb rfl]; simp
  · rw [ha rfl]; simp
  · simp
  · rw [ha rfl]; simp
theorem appZ_x {M N : Mz} {o : Opx} {r : Ro} {n : Int} (h0 : 0 ≤ wrX o) (hn : 0 ≤ n) (h : n ≠ wrX o ∨ wrX o = 0 → M.x n.toNat = N.x n.toNat) : (appZ M o r).x n.toNat = (appZ N o r).x n.toNat := by
  show (if 0 < wrX o then setX M.x (wrX o) r.v else M.x) n.toNat = (if 0 < wrX o then setX N.x (wrX o) r.v else N.x) n.toNat
  by_cases hz : 0 < wrX o
  · rw [if_pos hz, if_pos hz]
    unfold setX
    by_cases he : n.toNat = (wrX o).toNat
    · rw [if_pos he, if_pos he]
    · rw [if_neg he, if_neg he]; exact h (.inl (by intro e; rw [e] at he; exact he rfl))
  · rw [if_neg hz, if_neg hz]; exact h (.inr (by omega))
/-- without what is dead a code ends alike -/
theorem run_drop {many : Int} (wt : Int → Bool) : ∀ (l : List Opx) (ah : Int) (x y m : Nat → Int), wellL many ah l → x 0 = y 0 → (∀ r : Int, 0 ≤ r → needN (dropD l) r = true → x r.toNat = y r.toNat) → OzAlike (run1 wt (dropD l) x m) (run1 wt l y m)
  | [], _, _, _, _, _, _, _ => trivial
  | o :: l, ah, x, y, m, hw, h0, hn => by
    have hb := well_wr hw.1
    have hk0 := (opE_zero.1 hw.1).1
    unfold dropD at hn ⊢
    by_cases hs : spareB (needN (dropD l)) o = true
    · rw [if_pos hs] at hn ⊢
      unfold spareB at hs
      simp only [Bool.and_eq_true, decide_eq_true_eq, Bool.not_eq_true'] at hs
      obtain ⟨⟨hs1, hs2⟩, hs3⟩ := hs
      have hk : 1 ≤ o.k ∧ o.k ≤ 20 := by
        unfold wrX rD at hs1
        by_cases hc : 1 ≤ o.k ∧ o.k ≤ 20 ∨ o.k = 23
        · omega
        · rw [if_neg hc] at hs1
          by_cases h24 : o.k = 24
          · rw [if_pos h24] at hs1; simp at hs1
          · rw [if_neg h24] at hs1; simp at hs1
      have ew : wrX o = o.d := by unfold wrX rD; rw [if_pos (by rw [if_pos (.inl hk)])]
      have hd := well_d hw.1 (by unfold rD; rw [if_pos (.inl hk)])
      rw [run1_cons wt o l y m, resZ_val hk.2, if_neg (by simp), appZ_val hk.1 hk.2 hd.1, if_pos (by show (-1 : Int) < 0; omega)]
      refine run_drop wt l o.t x _ m hw.2.2.2 ?_ fun r hr hnr => ?_
      · show x 0 = setX y o.d _ 0
        unfold setX; rw [if_neg (by omega)]; exact h0
      · show x r.toNat = setX y o.d _ r.toNat
        have hne : r ≠ o.d := by intro e; rw [e, ← ew, hs3] at hnr; cases hnr
        unfold setX; rw [if_neg (by omega)]; exact hn r hr hnr
    · rw [if_neg hs] at hn ⊢
      have hrd : ∀ r, r ∈ rdX o → x r.toNat = y r.toNat := by
        intro r hr
        by_cases hneg : 0 ≤ r
        · exact hn r hneg (by show passN _ o r = true; unfold passN; rw [if_pos hr])
        · have : r.toNat = 0 := by omega
          rw [this]; exact h0
      rw [run1_cons, run1_cons, resZ_reads hk0 hrd]
      generalize hR : resZ wt y m o = R
      by_cases ht : R.trap = true
      · rw [if_pos ht, if_pos ht]; rfl
      rw [if_neg ht, if_neg ht]
      have elv : (appZ ⟨x, m, -1⟩ o R).lv = (appZ ⟨y, m, -1⟩ o R).lv := rfl
      have em : (appZ ⟨x, m, -1⟩ o R).m = (appZ ⟨y, m, -1⟩ o R).m := rfl
      rw [elv]
      by_cases hlv : (appZ ⟨y, m, -1⟩ o R).lv < 0
      · rw [if_pos hlv, if_pos hlv, em]
        refine run_drop wt l o.t _ _ _ hw.2.2.2 ?_ fun r hr hnr => ?_
        · exact appZ_x (n := 0) hb.1 (by omega) fun _ => h0
        · refine appZ_x hb.1 hr fun hne => ?_
          show x r.toNat = y r.toNat
          by_cases hr0 : r = 0
          · rw [hr0]; exact h0
          · refine hn r hr ?_
            show passN _ o r = true
            unfold passN
            by_cases h1 : r ∈ rdX o
            · rw [if_pos h1]
            · have h2 : r ≠ wrX o := by
                rcases hne with hne | hne
                · exact hne
                · rw [hne]; exact hr0
              rw [if_neg h1, if_neg h2]
              split
              · rfl
              · exact hnr
      · rw [if_neg hlv, if_neg hlv]
        refine ⟨elv, em, fun r hr1 hr2 => ?_⟩
        have hk : 25 ≤ o.k := by
          by_cases hk : 25 ≤ o.k
          · exact hk
          · exfalso
            apply hlv
            show (if R.leave = true then R.a else (-1 : Int)) < 0
            have : R.leave = false := by
              rw [← hR]; unfold resZ
              by_cases h21 : o.k = 21
              · rw [if_pos h21]
              rw [if_neg h21]
              by_cases h22 : o.k = 22
              · rw [if_pos h22]
              rw [if_neg h22]
              by_cases h23 : o.k = 23
              · rw [if_pos h23]
                generalize (if o.b < 0 then -o.b else o.b) = n
                split <;> rfl
              rw [if_neg h23]
              by_cases h24 : o.k = 24
              · rw [if_pos h24]; split <;> rfl
              rw [if_neg h24, if_neg (by omega), if_neg (by omega), if_neg (by omega)]
            rw [this]; simp
        have hwz : wrX o = 0 := by unfold wrX rD; rw [if_neg (by rw [if_neg (by omega), if_neg (by omega)]; omega)]
        have := appZ_x (M := ⟨x, m, -1⟩) (N := ⟨y, m, -1⟩) (o := o) (r := R) (n := (r : Int)) hb.1 (by omega) fun _ => hn r (by omega) (by
          show passN _ o r = true
          unfold passN
          split
          · rfl
          · rw [if_neg (by omega), if_pos ⟨hk, by omega, by omega⟩])
        simpa using this
theorem run_opt {many lev : Int} {l : List Opx} (W : Well many l) (wt : Int → Bool) (x m : Nat → Int) (h0 : x 0 = 0) : OzAlike (run1 wt (optL lev l) x m) (run1 wt l x m) := by
  unfold optL
  split
  · exact OzAlike.rfl' _
  · split
    · rw [run_work wt l 0 fx0 x m W.ops (FactsOf.zero h0)]; exact OzAlike.rfl' _
    · have := run_drop wt (workF fx0 l) 0 x x m (W.work fx0).ops rfl (fun _ _ _ => rfl)
      rw [run_work wt l 0 fx0 x m W.ops (FactsOf.zero h0)] at this
      exact this
end Go.Proofs.YtphdginikmmnmaaGreatDoor
