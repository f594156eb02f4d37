/-
  A plan that is made of a code runs as the code does, in whole numbers.
-/
import Derived.Test.YtjkencgcdlfjhaaGreatDoorJPlP
namespace Go.Proofs.YtjkencgcdlfjhaaGreatDoor
open Num
set_option linter.unusedVariables false
/-- how rows end, with what they have become -/
inductive Gz where
  | trap
  | leave (M : Mz)
  | on (x m : Nat → Int)
def Gz.go : Gz → ((Nat → Int) → (Nat → Int) → Gz) → Gz
  | .on x m, f => f x m
  | .trap, _ => .trap
  | .leave M, _ => .leave M
def trB (wt : Int → Bool) (x m : Nat → Int) (row : List Opx) : Bool := row.any fun o => (resZ wt x m o).trap
def goR (wt : Int → Bool) (row : List Opx) (x m : Nat → Int) : Gz := if trB wt x m row = true then .trap else if (rowZ wt x m row).lv < 0 then .on (rowZ wt x m row).x (rowZ wt x m row).m else .leave (rowZ wt x m row)
def goZ (wt : Int → Bool) : List (List Opx) → (Nat → Int) → (Nat → Int) → Gz
  | [], x, m => .on x m
  | r :: rs, x, m => (goR wt r x m).go (goZ wt rs)
theorem Gz.go_on (g : Gz) : g.go .on = g := by cases g <;> rfl
theorem Gz.go_go (g : Gz) (f h : (Nat → Int) → (Nat → Int) → Gz) : (g.go f).go h = g.go fun x m => (f x m).go h := by cases g <;> rfl
theorem goZ_append (wt : Int → Bool) : ∀ (a b : List (List Opx)) (x m : Nat → Int), goZ wt (a ++ b) x m = (goZ wt a x m).go (goZ wt b)
  | [], b, x, m => rfl
  | r :: a, b, x, m => by
    show (goR wt r x m).go (goZ wt (a ++ b)) = ((goR wt r x m).go (goZ wt a)).go (goZ wt b)
    rw [Gz.go_go]
    congr 1
    funext x m
    exact goZ_append wt a b x m
theorem goZ_one (wt : Int → Bool) (r : List Opx) : goZ wt [r] = goR wt r := by
  funext x m
  show (goR wt r x m).go (goZ wt []) = _
  exact Gz.go_on _
theorem trapZ_some (wt : Int → Bool) (x m : Nat → Int) (row : List Opx) : (trapZ wt x m row).isSome = trB wt x m row := by
  unfold trapZ trB
  rw [Option.isSome_map]
  induction row with
  | nil => rfl
  | cons o l ih => rw [List.find?_cons, List.any_cons]; cases h : (resZ wt x m o).trap <;> simp [ih]
/-- the document's run, told by goZ -/
theorem runZ_goZ (wt : Int → Bool) : ∀ (rs : List (List Opx)) (x m : Nat → Int), (goZ wt rs x m = .trap → ∃ t, runZ wt rs x m = .trap t) ∧ (∀ M, goZ wt rs x m = .leave M → runZ wt rs x m = .leave M) ∧ (∀ y n, goZ wt rs x m = .on y n → runZ wt rs x m = .fell)
  | [], x, m => ⟨fun h => by simp [goZ] at h, fun M h => by simp [goZ] at h, fun _ _ _ => rfl⟩
  | r :: rs, x, m => by
    have hg : goZ wt (r :: rs) x m = (goR wt r x m).go (goZ wt rs) := rfl
    have hs := trapZ_some wt x m r
    have hr : runZ wt (r :: rs) x m = match trapZ wt x m r with
      | some t => .trap t
      | none => if (rowZ wt x m r).lv < 0 then runZ wt rs (rowZ wt x m r).x (rowZ wt x m r).m else .leave (rowZ wt x m r) := rfl
    rw [hg, hr]
    unfold goR
    cases ht : trapZ wt x m r with
    | some t =>
      rw [ht] at hs
      rw [if_pos (show trB wt x m r = true from hs.symm)]
      exact ⟨fun _ => ⟨t, rfl⟩, fun M h => by simp [Gz.go] at h, fun y n h => by simp [Gz.go] at h⟩
    | none =>
      rw [ht] at hs
      rw [if_neg (by rw [← hs]; simp)]
      by_cases hl : (rowZ wt x m r).lv < 0
      · rw [if_pos hl]
        simp only [if_pos hl]
        exact runZ_goZ wt rs _ _
      · rw [if_neg hl]
        simp only [if_neg hl]
        exact ⟨fun h => by simp [Gz.go] at h, fun M h => by simpa [Gz.go] using h, fun y n h => by simp [Gz.go] at h⟩
/-- o may stand in the row in which p stands, behind it -/
structure Aft (o p : Opx) : Prop where
  rw : ∀ r ∈ rdX o, 0 < wrX p → r.toNat ≠ (wrX p).toNat
  ww : 0 < wrX o → 0 < wrX p → (wrX o).toNat ≠ (wrX p).toNat
  m1 : o.k = 24 → p.k ≠ 24
  m2 : o.k = 23 → p.k ≠ 24
  lv : p.k < 25
structure Com (o p : Opx) : Prop extends Aft o p where
  wr : ∀ r ∈ rdX p, 0 < wrX o → r.toNat ≠ (wrX o).toNat
  m3 : o.k = 24 → p.k ≠ 23
theorem resZ_mem {wt : Int → Bool} {x m n : Nat → Int} {o : Opx} (h : o.k = 23 → m = n) : resZ wt x m o = resZ wt x n o := by
  by_cases hk : o.k = 23
  · rw [h hk]
  · unfold resZ; rw [if_neg hk, if_neg hk]
theorem resZ_same {wt : Int → Bool} {x y m n : Nat → Int} {o : Opx} (hk : o.k ≠ 0) (hx : ∀ r ∈ rdX o, x r.toNat = y r.toNat) (hm : o.k = 23 → m = n) : resZ wt x m o = resZ wt y n o :=
  (resZ_mem hm).trans (resZ_reads hk hx)
theorem ite_lv {c : Prop} [Decidable c] {a b : Ro} (h1 : a.leave = false) (h2 : b.leave = false) : (if c then a else b).leave = false := by split <;> assumption
theorem resZ_lv {wt : Int → Bool} {x m : Nat → Int} {o : Opx} (h : o.k < 25) : (resZ wt x m o).leave = false := by
  unfold resZ
  refine ite_lv rfl (ite_lv rfl (ite_lv (ite_lv rfl rfl) (ite_lv (ite_lv rfl rfl) ?_)))
  rw [if_neg (by omega), if_neg (by omega), if_neg (by omega)]
/-- what a row leaves as it was -/
theorem fold_x (wt : Int → Bool) (x m : Nat → Int) (n : Nat) : ∀ (l : List Opx) (M : Mz), (∀ p ∈ l, 0 < wrX p → n ≠ (wrX p).toNat) → (l.foldl (fun M o => appZ M o (resZ wt x m o)) M).x n = M.x n
  | [], M, _ => rfl
  | p :: l, M, h => by
    show (l.foldl _ (appZ M p (resZ wt x m p))).x n = _
    rw [fold_x wt x m n l _ fun q hq => h q (by simp [hq])]
    show (if 0 < wrX p then setX M.x (wrX p) _ else M.x) n = _
    split
    · rename_i h0
      show (if n = (wrX p).toNat then _ else M.x n) = _
      rw [if_neg (h p (by simp) h0)]
    · rfl
theorem fold_m (wt : Int → Bool) (x m : Nat → Int) : ∀ (l : List Opx) (M : Mz), (∀ p ∈ l, p.k ≠ 24) → (l.foldl (fun M o => appZ M o (resZ wt x m o)) M).m = M.m
  | [], M, _ => rfl
  | p :: l, M, h => by
    show (l.foldl _ (appZ M p (resZ wt x m p))).m = _
    rw [fold_m wt x m l _ fun q hq => h q (by simp [hq])]
    show (if p.k = 24 then _ else M.m) = _
    rw [if_neg (h p (by simp))]
theorem fold_lv (wt : Int → Bool) (x m : Nat → Int) : ∀ (l : List Opx) (M : Mz), (∀ p ∈ l, p.k < 25) → (l.foldl (fun M o => appZ M o (resZ wt x m o)) M).lv = M.lv
  | [], M, _ => rfl
  | p :: l, M, h => by
    show (l.foldl _ (appZ M p (resZ wt x m p))).lv = _
    rw [fold_lv wt x m l _ fun q hq => h q (by simp [hq])]
    show (if (resZ wt x m p).leave = true then _ else M.lv) = _
    rw [resZ_lv (h p (by simp))]; rfl
/-- the last op of a row may as well stand in a row of its own behind it -/
theorem goR_snoc {wt : Int → Bool} {r : List Opx} {o : Opx} (ho : o.k ≠ 0) (h : ∀ p ∈ r, Aft o p) : goR wt (r ++ [o]) = fun x m => (goR wt r x m).go (goR wt [o]) := by
  funext x m
  have hlv : (rowZ wt x m r).lv = -1 := fold_lv wt x m r _ fun p hp => (h p hp).lv
  have hx : ∀ q ∈ rdX o, (rowZ wt x m r).x q.toNat = x q.toNat := fun q hq => fold_x wt x m q.toNat r _ fun p hp h0 => (h p hp).rw q hq h0
  have hm : o.k = 23 → (rowZ wt x m r).m = m := fun hk => fold_m wt x m r _ fun p hp => (h p hp).m2 hk
  have hres : resZ wt (rowZ wt x m r).x (rowZ wt x m r).m o = resZ wt x m o := resZ_same ho hx hm
  have hrow : rowZ wt x m (r ++ [o]) = appZ (rowZ wt x m r) o (resZ wt x m o) := by unfold rowZ; rw [List.foldl_append]; rfl
  have hone : rowZ wt (rowZ wt x m r).x (rowZ wt x m r).m [o] = appZ (rowZ wt x m r) o (resZ wt x m o) := by
    show appZ ⟨_, _, -1⟩ o (resZ wt (rowZ wt x m r).x (rowZ wt x m r).m o) = _
    rw [hres, ← hlv]
  have ht : trB wt x m (r ++ [o]) = (trB wt x m r || (resZ wt x m o).trap) := by unfold trB; rw [List.any_append]; simp
  have ht1 : trB wt (rowZ wt x m r).x (rowZ wt x m r).m [o] = (resZ wt x m o).trap := by unfold trB; simp [hres]
  have e2 : goR wt r x m = if trB wt x m r = true then .trap else .on (rowZ wt x m r).x (rowZ wt x m r).m := by
    unfold goR; rw [if_pos (show (rowZ wt x m r).lv < 0 by rw [hlv]; decide)]
  have e3 : goR wt (r ++ [o]) x m = if (trB wt x m r || (resZ wt x m o).trap) = true then .trap else if (appZ (rowZ wt x m r) o (resZ wt x m o)).lv < 0 then .on (appZ (rowZ wt x m r) o (resZ wt x m o)).x (appZ (rowZ wt x m r) o (resZ wt x m o)).m else .leave (appZ (rowZ wt x m r) o (resZ wt x m o)) := by
    unfold goR; rw [ht, hrow]
  have e4 : goR wt [o] (rowZ wt x m r).x (rowZ wt x m r).m = if (resZ wt x m o).trap = true then .trap else if (appZ (rowZ wt x m r) o (resZ wt x m o)).lv < 0 then .on (appZ (rowZ wt x m r) o (resZ wt x m o)).x (appZ (rowZ wt x m r) o (resZ wt x m o)).m else .leave (appZ (rowZ wt x m r) o (resZ wt x m o)) := by
    unfold goR; rw [ht1, hone]
  show goR wt (r ++ [o]) x m = (goR wt r x m).go (goR wt [o])
  rw [e3, e2]
  by_cases h1 : trB wt x m r = true
  · rw [if_pos h1, if_pos (by rw [h1]; rfl)]; rfl
  · rw [if_neg h1]
    show _ = goR wt [o] (rowZ wt x m r).x (rowZ wt x m r).m
    rw [e4, Bool.eq_false_iff.2 h1, Bool.false_or]
theorem app_com {M : Mz} {o p : Opx} {a b : Ro} (ww : 0 < wrX o → 0 < wrX p → (wrX o).toNat ≠ (wrX p).toNat) (mm : o.k = 24 → p.k ≠ 24) (l1 : a.leave = false) (l2 : b.leave = false) : appZ (appZ M o a) p b = appZ (appZ M p b) o a := by
  unfold appZ
  simp only [l1, l2, Bool.false_eq_true, if_false]
  congr 1
  · by_cases h1 : 0 < wrX o
    · by_cases h2 : 0 < wrX p
      · simp only [if_pos h1, if_pos h2]
        funext n
        have := ww h1 h2
        unfold setX
        split <;> split <;> (try rfl)
        omega
      · simp only [if_pos h1, if_neg h2]
    · simp only [if_neg h1]
  · by_cases h1 : o.k = 24
    · simp only [if_pos h1, if_neg (mm h1)]
    · simp only [if_neg h1]
theorem fold_com (wt : Int → Bool) (x m : Nat → Int) (o : Opx) (a : Ro) (la : a.leave = false) : ∀ (l : List Opx) (M : Mz), (∀ p ∈ l, Aft o p) → l.foldl (fun M o => appZ M o (resZ wt x m o)) (appZ M o a) = appZ (l.foldl (fun M o => appZ M o (resZ wt x m o)) M) o a
  | [], M, _ => rfl
  | p :: l, M, h => by
    have hp := h p (by simp)
    show l.foldl _ (appZ (appZ M o a) p (resZ wt x m p)) = appZ (l.foldl _ (appZ M p (resZ wt x m p))) o a
    rw [app_com hp.ww hp.m1 la (resZ_lv hp.lv)]
    exact fold_com wt x m o a la l _ fun q hq => h q (by simp [hq])
theorem foldl_res {wt : Int → Bool} {x m y n : Nat → Int} : ∀ (l : List Opx) (M : Mz), (∀ p ∈ l, resZ wt x m p = resZ wt y n p) → l.foldl (fun M o => appZ M o (resZ wt x m o)) M = l.foldl (fun M o => appZ M o (resZ wt y n o)) M
  | [], M, _ => rfl
  | p :: l, M, h => by
    show l.foldl _ (appZ M p (resZ wt x m p)) = l.foldl _ (appZ M p (resZ wt y n p))
    rw [h p (by simp)]
    exact foldl_res l _ fun q hq => h q (by simp [hq])
/-- an op and a row that have nothing to do with one another -/
theorem goR_swap {wt : Int → Bool} {r : List Opx} {o : Opx} (ho : o.k ≠ 0) (ho2 : o.k < 25) (hr : ∀ p ∈ r, p.k ≠ 0) (h : ∀ p ∈ r, Com o p) (x m : Nat → Int) : (goR wt [o] x m).go (goR wt r) = (goR wt r x m).go (goR wt [o]) := by
  have hA : ∀ p ∈ r, Aft o p := fun p hp => (h p hp).toAft
  have la : (resZ wt x m o).leave = false := resZ_lv ho2
  have hx : ∀ q ∈ rdX o, (rowZ wt x m r).x q.toNat = x q.toNat := fun q hq => fold_x wt x m q.toNat r _ fun p hp h0 => (h p hp).rw q hq h0
  have hm : o.k = 23 → (rowZ wt x m r).m = m := fun hk => fold_m wt x m r _ fun p hp => (h p hp).m2 hk
  have hres : resZ wt (rowZ wt x m r).x (rowZ wt x m r).m o = resZ wt x m o := resZ_same ho hx hm
  have hlv : (rowZ wt x m r).lv = -1 := fold_lv wt x m r _ fun p hp => (h p hp).lv
  obtain ⟨N, hN⟩ : ∃ N, N = appZ ⟨x, m, -1⟩ o (resZ wt x m o) := ⟨_, rfl⟩
  have hNl : N.lv = -1 := by rw [hN]; show (if (resZ wt x m o).leave = true then _ else (-1 : Int)) = -1; rw [la]; rfl
  have hN1 : rowZ wt x m [o] = N := hN.symm
  have hresp : ∀ p ∈ r, resZ wt N.x N.m p = resZ wt x m p := fun p hp => by
    refine resZ_same (hr p hp) (fun q hq => ?_) (fun hk => ?_)
    · rw [hN]
      show (if 0 < wrX o then setX x (wrX o) _ else x) q.toNat = _
      split
      · rename_i h0
        show (if q.toNat = (wrX o).toNat then _ else x q.toNat) = _
        rw [if_neg ((h p hp).wr q hq h0)]
      · rfl
    · rw [hN]
      show (if o.k = 24 then _ else m) = m
      rw [if_neg fun e => (h p hp).m3 e hk]
  have ht0 : trB wt x m [o] = (resZ wt x m o).trap := by unfold trB; simp
  have ht1 : trB wt (rowZ wt x m r).x (rowZ wt x m r).m [o] = (resZ wt x m o).trap := by unfold trB; simp [hres]
  have ht2 : trB wt N.x N.m r = trB wt x m r := by
    unfold trB
    apply Bool.eq_iff_iff.2
    simp only [List.any_eq_true]
    constructor
    · rintro ⟨p, hp, h1⟩; exact ⟨p, hp, by rw [← hresp p hp]; exact h1⟩
    · rintro ⟨p, hp, h1⟩; exact ⟨p, hp, by rw [hresp p hp]; exact h1⟩
  have hrow : rowZ wt N.x N.m r = appZ (rowZ wt x m r) o (resZ wt x m o) := by
    show r.foldl (fun M o => appZ M o (resZ wt N.x N.m o)) ⟨N.x, N.m, -1⟩ = _
    rw [foldl_res r _ hresp, ← hNl]
    show r.foldl _ N = _
    rw [hN]
    exact fold_com wt x m o _ la r _ hA
  have hone : rowZ wt (rowZ wt x m r).x (rowZ wt x m r).m [o] = appZ (rowZ wt x m r) o (resZ wt x m o) := by
    show appZ ⟨_, _, -1⟩ o (resZ wt (rowZ wt x m r).x (rowZ wt x m r).m o) = _
    rw [hres, ← hlv]
  have e1 : goR wt [o] x m = if (resZ wt x m o).trap = true then .trap else .on N.x N.m := by
    unfold goR; rw [ht0, hN1, if_pos (show N.lv < 0 by rw [hNl]; decide)]
  have e2 : goR wt r x m = if trB wt x m r = true then .trap else .on (rowZ wt x m r).x (rowZ wt x m r).m := by
    unfold goR; rw [if_pos (show (rowZ wt x m r).lv < 0 by rw [hlv]; decide)]
  rw [e1, e2]
  by_cases t1 : (resZ wt x m o).trap = true
  · rw [if_pos t1]
    by_cases t2 : trB wt x m r = true
    · rw [if_pos t2]; rfl
    · rw [if_neg t2]
      show Gz.trap = goR wt [o] _ _
      unfold goR; rw [ht1, if_pos t1]
  · rw [if_neg t1]
    by_cases t2 : trB wt x m r = true
    · rw [if_pos t2]
      show goR wt r N.x N.m = Gz.trap
      unfold goR; rw [ht2, if_pos t2]
    · rw [if_neg t2]
      show goR wt r N.x N.m = goR wt [o] _ _
      unfold goR
      rw [ht2, if_neg t2, ht1, if_neg t1, hrow, hone]
theorem goZ_swap {wt : Int → Bool} {o : Opx} (ho : o.k ≠ 0) (ho2 : o.k < 25) : ∀ (B : List (List Opx)), (∀ r ∈ B, ∀ p ∈ r, p.k ≠ 0 ∧ Com o p) → goZ wt ([o] :: B) = goZ wt (B ++ [[o]])
  | [], _ => rfl
  | r :: B, h => by
    funext x m
    show (goR wt [o] x m).go (goZ wt (r :: B)) = (goR wt r x m).go (goZ wt (B ++ [[o]]))
    rw [← goZ_swap ho ho2 B fun q hq => h q (by simp [hq])]
    have e : ∀ (g : Gz) (s : List Opx), g.go (goZ wt (s :: B)) = (g.go (goR wt s)).go (goZ wt B) := fun g s => by rw [Gz.go_go]; rfl
    rw [e, e, goR_swap ho ho2 (fun p hp => (h r (by simp) p hp).1) (fun p hp => (h r (by simp) p hp).2)]
/-- what a plan on its way keeps of the ops that it has -/
structure MkInv (M : Mk) : Prop where
  rdy : ∀ (j : Nat) (r : List Opx), M.rows[j]? = some r → ∀ p ∈ r, wrX p ≠ 0 → j + 1 ≤ M.rdy (wrX p).toNat
  ask : ∀ (j : Nat) (r : List Opx), M.rows[j]? = some r → ∀ p ∈ r, ∀ q ∈ rdX p, j ≤ M.ask q.toNat
  bI : ∀ (j : Nat) (r : List Opx), M.rows[j]? = some r → ∀ p ∈ r, p.k = 25 → j + 1 ≤ M.bI
  bS : ∀ (j : Nat) (r : List Opx), M.rows[j]? = some r → ∀ p ∈ r, p.k = 24 → j + 1 ≤ M.bS
  bM : ∀ (j : Nat) (r : List Opx), M.rows[j]? = some r → ∀ p ∈ r, p.k = 23 ∨ p.k = 24 → j + 1 ≤ M.bM
  out : ∀ r ∈ M.rows, ∀ p ∈ r, p.k < 26 ∧ p.k ≠ 0
  sm : M.bS ≤ M.bM
theorem mk0_inv : MkInv mk0 := ⟨fun j r h => by simp [mk0] at h, fun j r h => by simp [mk0] at h, fun j r h => by simp [mk0] at h, fun j r h => by simp [mk0] at h, fun j r h => by simp [mk0] at h, fun r h => by simp [mk0] at h, Nat.le_refl _⟩
theorem frA_ge (M : Mk) : ∀ (l : List Int) (n : Nat), n ≤ frA M l n ∧ ∀ r ∈ l, M.rdy r.toNat ≤ frA M l n
  | [], n => ⟨Nat.le_refl _, fun r h => by cases h⟩
  | q :: l, n => by
    have ih := frA_ge M l (max n (M.rdy q.toNat))
    show n ≤ frA M l (max n (M.rdy q.toNat)) ∧ ∀ r ∈ q :: l, M.rdy r.toNat ≤ frA M l (max n (M.rdy q.toNat))
    refine ⟨by omega, fun r hr => ?_⟩
    rcases List.mem_cons.1 hr with rfl | hr
    · omega
    · exact ih.2 r hr
theorem frW_ge (M : Mk) (o : Opx) (n : Nat) : n ≤ frW M o n ∧ (wrX o ≠ 0 → M.rdy (wrX o).toNat ≤ frW M o n ∧ M.ask (wrX o).toNat ≤ frW M o n) := by
  unfold frW
  split <;> rename_i h
  · exact ⟨by omega, fun _ => ⟨by omega, by omega⟩⟩
  · exact ⟨Nat.le_refl _, fun h' => absurd h' h⟩
theorem frK_ge (M : Mk) (o : Opx) (n : Nat) : n ≤ frK M o n ∧ (o.k = 23 → M.bS ≤ frK M o n) ∧ (o.k = 24 → M.bM ≤ frK M o n) ∧ (25 ≤ o.k → M.rows.length - 1 ≤ frK M o n) := by
  unfold frK
  split
  · exact ⟨by omega, fun _ => by omega, fun _ => by omega, fun _ => by omega⟩
  · split
    · exact ⟨by omega, fun _ => by omega, fun _ => by omega, fun _ => by omega⟩
    · split
      · exact ⟨by omega, fun _ => by omega, fun _ => by omega, fun _ => by omega⟩
      · exact ⟨by omega, fun _ => by omega, fun _ => by omega, fun _ => by omega⟩
structure Ge (M : Mk) (o : Opx) (n : Nat) : Prop where
  bI : M.bI ≤ n
  rd : ∀ r ∈ rdX o, M.rdy r.toNat ≤ n
  ww : wrX o ≠ 0 → M.rdy (wrX o).toNat ≤ n
  wa : wrX o ≠ 0 → M.ask (wrX o).toNat ≤ n
  k3 : o.k = 23 → M.bS ≤ n
  k4 : o.k = 24 → M.bM ≤ n
  k5 : 25 ≤ o.k → M.rows.length - 1 ≤ n
theorem rowN_ge (M : Mk) (o : Opx) : Ge M o (rowN M o) := by
  have h1 := frA_ge M (rdX o) M.bI
  have h2 := frW_ge M o (frA M (rdX o) M.bI)
  have h3 := frK_ge M o (frW M o (frA M (rdX o) M.bI))
  have h4 : frR M o ≤ rowN M o := Nat.le_add_right _ _
  have e : frR M o = frK M o (frW M o (frA M (rdX o) M.bI)) := rfl
  rw [← e] at h3
  exact ⟨by omega, fun r hr => by have := h1.2 r hr; omega, fun h => by have := h2.2 h; omega, fun h => by have := h2.2 h; omega, fun h => by have := h3.2.1 h; omega, fun h => by have := h3.2.2.1 h; omega, fun h => by have := h3.2.2.2 h; omega⟩
theorem MkInv.aft {M : Mk} (I : MkInv M) {o : Opx} {n j : Nat} {r : List Opx} (G : Ge M o n) (hj : n ≤ j) (hr : M.rows[j]? = some r) {p : Opx} (hp : p ∈ r) : Aft o p := by
  have hout := I.out r (List.mem_of_getElem? hr) p hp
  refine ⟨fun q hq h0 e => ?_, fun h1 h0 e => ?_, fun hk h4 => ?_, fun hk h4 => ?_, ?_⟩
  · have a := I.rdy j r hr p hp (by omega)
    have b := G.rd q hq
    rw [e] at b; omega
  · have a := I.rdy j r hr p hp (by omega)
    have b := G.ww (by omega)
    rw [e] at b; omega
  · have a := I.bM j r hr p hp (.inr h4)
    have b := G.k4 hk
    omega
  · have a := I.bS j r hr p hp h4
    have b := G.k3 hk
    omega
  · by_cases h5 : p.k = 25
    · have a := I.bI j r hr p hp h5
      have b := G.bI
      omega
    · omega
theorem MkInv.com {M : Mk} (I : MkInv M) {o : Opx} {n j : Nat} {r : List Opx} (G : Ge M o n) (hj : n < j) (hr : M.rows[j]? = some r) {p : Opx} (hp : p ∈ r) : Com o p := by
  refine ⟨I.aft G (Nat.le_of_lt hj) hr hp, fun q hq h0 e => ?_, fun hk h3 => ?_⟩
  · have a := I.ask j r hr p hp q hq
    have b := G.wa (by omega)
    rw [← e] at b; omega
  · have a := I.bM j r hr p hp (.inl h3)
    have b := G.k4 hk
    omega
/-- an op that is put into its row runs as it would behind all rows -/
theorem goZ_put {wt : Int → Bool} {M : Mk} (I : MkInv M) {o : Opx} (ho : o.k ≠ 0) {n : Nat} (G : Ge M o n) : goZ wt (putR M.rows n o) = goZ wt (M.rows ++ [[o]]) := by
  unfold putR
  split
  · rename_i hn
    obtain ⟨r, hr⟩ : ∃ r, M.rows[n]? = some r := ⟨_, List.getElem?_eq_getElem hn⟩
    have hd : M.rows.drop n = r :: M.rows.drop (n + 1) := by rw [List.drop_eq_getElem_cons hn, (List.getElem_eq_iff hn).2 hr]
    have hsp : M.rows = M.rows.take n ++ r :: M.rows.drop (n + 1) := by rw [← hd, List.take_append_drop]
    have hmod : M.rows.modify n (· ++ [o]) = M.rows.take n ++ (r ++ [o]) :: M.rows.drop (n + 1) := by
      rw [List.modify_eq_take_cons_drop hn, (List.getElem_eq_iff hn).2 hr]
    rw [hmod]
    have hB : ∀ s ∈ M.rows.drop (n + 1), ∀ p ∈ s, p.k ≠ 0 ∧ Com o p := fun s hs p hp => by
      obtain ⟨i, hi⟩ := List.getElem?_of_mem hs
      rw [List.getElem?_drop] at hi
      exact ⟨(I.out s (List.mem_of_getElem? hi) p hp).2, I.com G (by omega) hi hp⟩
    have hm : goZ wt ((r ++ [o]) :: M.rows.drop (n + 1)) = goZ wt (r :: (M.rows.drop (n + 1) ++ [[o]])) := by
      funext x m
      show (goR wt (r ++ [o]) x m).go (goZ wt (M.rows.drop (n + 1))) = (goR wt r x m).go (goZ wt (M.rows.drop (n + 1) ++ [[o]]))
      rw [goR_snoc ho fun p hp => I.aft G (Nat.le_refl n) hr hp, Gz.go_go]
      congr 1
      by_cases h25 : o.k < 25
      · rw [← goZ_swap ho h25 _ hB]; rfl
      · have hl := G.k5 (by omega)
        have : M.rows.drop (n + 1) = [] := List.drop_eq_nil_of_le (by omega)
        rw [this]; rfl
    funext x m
    conv => rhs; rw [hsp, List.append_assoc, List.cons_append]
    rw [goZ_append, goZ_append, hm]
  · rfl
end Go.Proofs.YtjkencgcdlfjhaaGreatDoor
/-
  A plan that is made of a code runs as the code does, op by op, in whole numbers.
-/
namespace Go.Proofs.YtjkencgcdlfjhaaGreatDoor
open Num
set_option linter.unusedVariables false
theorem putR_at {rs : List (List Opx)} {n : Nat} {o : Opx} {j : Nat} {s : List Opx} (hn : n ≤ rs.length) (h : (putR rs n o)[j]? = some s) {p : Opx} (hp : p ∈ s) : (p = o ∧ j = n) ∨ ∃ r, rs[j]? = some r ∧ p ∈ r := by
  unfold putR at h
  split at h
  · rename_i hlt
    by_cases e : j = n
    · subst e
      obtain ⟨r, hr⟩ : ∃ r, rs[j]? = some r := ⟨_, List.getElem?_eq_getElem hlt⟩
      rw [List.getElem?_modify, hr] at h
      obtain rfl : r ++ [o] = s := by simpa using h
      rcases List.mem_append.1 hp with hp | hp
      · exact .inr ⟨r, hr, hp⟩
      · exact .inl ⟨List.mem_singleton.1 hp, rfl⟩
    · rw [List.getElem?_modify] at h
      exact .inr ⟨s, by simpa [Ne.symm e] using h, hp⟩
  · have e : n = rs.length := by omega
    by_cases hj : j < rs.length
    · rw [List.getElem?_append_left hj] at h
      exact .inr ⟨s, h, hp⟩
    · rw [List.getElem?_append_right (by omega)] at h
      have h0 : j - rs.length = 0 := by
        rcases Nat.eq_zero_or_pos (j - rs.length) with h0 | h0
        · exact h0
        · rw [List.getElem?_eq_none (by simp; omega)] at h; cases h
      rw [h0] at h
      obtain rfl : [o] = s := by simpa using h
      exact .inl ⟨List.mem_singleton.1 hp, by omega⟩
theorem ntA_ge (n : Nat) : ∀ (l : List Int) (f : Nat → Nat) (r : Nat), f r ≤ ntA f n l r ∧ (∀ q ∈ l, q.toNat = r → n ≤ ntA f n l r)
  | [], f, r => ⟨Nat.le_refl _, fun q h => by cases h⟩
  | q :: l, f, r => by
    have ih := ntA_ge n l (setN f q.toNat (max (f q.toNat) n)) r
    have e : ntA f n (q :: l) r = ntA (setN f q.toNat (max (f q.toNat) n)) n l r := rfl
    rw [e]
    have h1 : f r ≤ setN f q.toNat (max (f q.toNat) n) r := by
      unfold setN
      split
      · rename_i h; rw [h]; omega
      · exact Nat.le_refl _
    refine ⟨by omega, fun p hp hpr => ?_⟩
    rcases List.mem_cons.1 hp with rfl | hp
    · have h2 : n ≤ setN f p.toNat (max (f p.toNat) n) r := by
        unfold setN
        rw [if_pos hpr.symm]; omega
      omega
    · exact ih.2 p hp hpr
theorem place_inv {M : Mk} (I : MkInv M) (K : MkOk M) {o : Opx} (h26 : o.k < 26) (h0 : o.k ≠ 0) : MkInv (place M o) := by
  have hn := rowN_le K o
  have G := rowN_ge M o
  obtain ⟨n, hN⟩ : ∃ n, rowN M o = n := ⟨_, rfl⟩
  rw [hN] at hn G
  have hrows : (place M o).rows = putR M.rows n o := by show putR M.rows (rowN M o) o = _; rw [hN]
  have hrdy : (place M o).rdy = if wrX o ≠ 0 then setN M.rdy (wrX o).toNat (n + 1) else M.rdy := by show (if wrX o ≠ 0 then setN M.rdy (wrX o).toNat (rowN M o + 1) else M.rdy) = _; rw [hN]
  have hask : (place M o).ask = ntA M.ask n (rdX o) := by show ntA M.ask (rowN M o) (rdX o) = _; rw [hN]
  have hbI : (place M o).bI = if o.k = 25 then n + 1 else M.bI := by show (if o.k = 25 then rowN M o + 1 else M.bI) = _; rw [hN]
  have hbS : (place M o).bS = if o.k = 24 then n + 1 else M.bS := by show (if o.k = 24 then rowN M o + 1 else M.bS) = _; rw [hN]
  have hbM : (place M o).bM = if o.k = 23 then max M.bM (n + 1) else if o.k = 24 then n + 1 else M.bM := by show (if o.k = 23 then max M.bM (rowN M o + 1) else if o.k = 24 then rowN M o + 1 else M.bM) = _; rw [hN]
  refine ⟨?_, ?_, ?_, ?_, ?_, ?_, ?_⟩
  · intro j s hs p hp hw
    rw [hrows] at hs
    rw [hrdy]
    rcases putR_at hn hs hp with ⟨rfl, rfl⟩ | ⟨r, hr, hpr⟩
    · rw [if_pos hw]; unfold setN; rw [if_pos rfl]; exact Nat.le_refl _
    · have a := I.rdy j r hr p hpr hw
      split
      · rename_i ho
        unfold setN
        split
        · rename_i e
          have b := G.ww ho
          rw [← e] at b; omega
        · exact a
      · exact a
  · intro j s hs p hp q hq
    rw [hrows] at hs
    rw [hask]
    rcases putR_at hn hs hp with ⟨rfl, rfl⟩ | ⟨r, hr, hpr⟩
    · exact (ntA_ge j (rdX p) M.ask q.toNat).2 q hq rfl
    · have a := I.ask j r hr p hpr q hq
      have b := (ntA_ge n (rdX o) M.ask q.toNat).1
      omega
  · intro j s hs p hp hk
    rw [hrows] at hs
    rw [hbI]
    rcases putR_at hn hs hp with ⟨rfl, rfl⟩ | ⟨r, hr, hpr⟩
    · rw [if_pos hk]; exact Nat.le_refl _
    · have a := I.bI j r hr p hpr hk
      have b := G.bI
      split <;> omega
  · intro j s hs p hp hk
    rw [hrows] at hs
    rw [hbS]
    rcases putR_at hn hs hp with ⟨rfl, rfl⟩ | ⟨r, hr, hpr⟩
    · rw [if_pos hk]; exact Nat.le_refl _
    · have a := I.bS j r hr p hpr hk
      have c := I.sm
      split
      · rename_i e; have b := G.k4 e; omega
      · omega
  · intro j s hs p hp hk
    rw [hrows] at hs
    rw [hbM]
    rcases putR_at hn hs hp with ⟨rfl, rfl⟩ | ⟨r, hr, hpr⟩
    · rcases hk with hk | hk
      · rw [if_pos hk]; omega
      · rw [if_neg (by omega), if_pos hk]; exact Nat.le_refl _
    · have a := I.bM j r hr p hpr hk
      split
      · omega
      · split
        · rename_i e; have b := G.k4 e; omega
        · omega
  · intro s hs p hp
    obtain ⟨j, hj⟩ := List.getElem?_of_mem hs
    rw [hrows] at hj
    rcases putR_at hn hj hp with ⟨rfl, rfl⟩ | ⟨r, hr, hpr⟩
    · exact ⟨h26, h0⟩
    · exact I.out r (List.mem_of_getElem? hr) p hpr
  · rw [hbS, hbM]
    have c := I.sm
    split
    · rename_i e; rw [if_neg (by omega)]; exact Nat.le_refl _
    · split <;> omega
/-- outs stand last alone -/
def OutL : List Opx → Prop
  | [] => True
  | o :: l => o.k ≠ 0 ∧ (l ≠ [] → o.k < 26) ∧ OutL l
theorem goZ_fold (wt : Int → Bool) : ∀ (l : List Opx) (M : Mk), MkInv M → MkOk M → OutL l → goZ wt (l.foldl place M).rows = goZ wt (M.rows ++ eachL l)
  | [], M, _, _, _ => by show goZ wt M.rows = goZ wt (M.rows ++ []); rw [List.append_nil]
  | o :: l, M, I, K, h => by
    obtain ⟨h0, h26, hl⟩ := h
    have hput : goZ wt (place M o).rows = goZ wt (M.rows ++ [[o]]) := goZ_put I h0 (rowN_ge M o)
    have hR : M.rows ++ eachL (o :: l) = (M.rows ++ [[o]]) ++ eachL l := by rw [List.append_assoc]; rfl
    have happ : goZ wt ((place M o).rows ++ eachL l) = goZ wt ((M.rows ++ [[o]]) ++ eachL l) := by
      funext x m
      rw [goZ_append, goZ_append, hput]
    rw [hR, ← happ]
    show goZ wt (l.foldl place (place M o)).rows = _
    cases l with
    | nil => show goZ wt (place M o).rows = goZ wt ((place M o).rows ++ []); rw [List.append_nil]
    | cons q l => exact goZ_fold wt (q :: l) (place M o) (place_inv I K (h26 (by simp)) h0) (place_ok K o) hl
theorem make_go (wt : Int → Bool) {l : List Opx} (h : OutL l) : goZ wt (makeP l).rows = goZ wt (eachL l) := goZ_fold wt l mk0 mk0_inv mk0_ok h
theorem outL_well {many : Int} : ∀ {l : List Opx} {ah : Int}, wellL many ah l → OutL l
  | [], _, _ => trivial
  | o :: l, ah, h => by
    obtain ⟨h1, h2, h3, h4⟩ := h
    have hk := (opE_zero.1 h1).1
    refine ⟨hk, fun hne => ?_, outL_well h4⟩
    by_cases h26 : o.k < 26
    · exact h26
    · exact absurd (h3 (by have hk28 : o.k < 28 := kn_lt o.s; unfold outB; simp; omega)) hne
end Go.Proofs.YtjkencgcdlfjhaaGreatDoor
