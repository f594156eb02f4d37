/-
  How long a region is, in whole numbers: kd tells the kind of each place (2: branch, 3: trap, 5: store), M how many places memory has.
-/
namespace Go.Proofs.YtckcbnfobjmhpaaDoor
set_option linter.unusedVariables false
/-- may what stands at place n be taken, with so many stores ahead? -/
def lkP (kd : Nat → Nat) (M most n st : Nat) : Bool := decide (n < most) && decide (n < M) && decide (kd n ≠ 3) && (decide (kd n ≠ 5) || decide (st < 8))
theorem lkP_iff {kd : Nat → Nat} {M most n st : Nat} : lkP kd M most n st = true ↔ n < most ∧ n < M ∧ kd n ≠ 3 ∧ (kd n ≠ 5 ∨ st < 8) := by
  unfold lkP; simp only [Bool.and_eq_true, Bool.or_eq_true, decide_eq_true_eq]
  exact ⟨fun ⟨⟨⟨a, b⟩, c⟩, d⟩ => ⟨a, b, c, d⟩, fun ⟨a, b, c, d⟩ => ⟨⟨⟨a, b⟩, c⟩, d⟩⟩
/-- stores with one more -/
def stP (kd : Nat → Nat) (n st : Nat) : Nat := if kd n = 5 then st + 1 else st
/-- how long it is in the end -/
def lenP (kd : Nat → Nat) (M most : Nat) : Nat → Nat → Nat → Nat
  | 0, n, _ => n
  | f + 1, n, st => if lkP kd M most n st = true then (if kd n = 2 then (if lkP kd M most (n + 1) st = true ∧ kd (n + 1) ≠ 2 then n + 2 else n) else lenP kd M most f (n + 1) (stP kd n st)) else n
theorem lenP_ge (kd : Nat → Nat) (M most : Nat) : ∀ f n st, n ≤ lenP kd M most f n st
  | 0, n, st => Nat.le_refl _
  | f + 1, n, st => by
    unfold lenP
    split
    · split
      · split <;> omega
      · have := lenP_ge kd M most f (n + 1) (stP kd n st); omega
    · exact Nat.le_refl _
/-- stores among the first -/
def stc (kd : Nat → Nat) : Nat → Nat
  | 0 => 0
  | n + 1 => stP kd n (stc kd n)
/-- what a region is: not too long, in memory, without a trap, a branch only as the last but one, not too many stores -/
structure Reg (kd : Nat → Nat) (M most len : Nat) : Prop where
  room : len ≤ most
  mem : len ≤ M
  trap : ∀ j, j < len → kd j ≠ 3
  branch : ∀ j, j < len → kd j = 2 → j + 2 = len
  stores : stc kd len ≤ 8
/-- what it has so far -/
structure Sofar (kd : Nat → Nat) (M most n st : Nat) : Prop where
  cnt : st = stc kd n
  room : n ≤ most
  mem : n ≤ M
  trap : ∀ j, j < n → kd j ≠ 3 ∧ kd j ≠ 2
  stores : st ≤ 8
theorem Sofar.start (kd : Nat → Nat) (M most : Nat) : Sofar kd M most 0 0 := ⟨rfl, by omega, by omega, fun j h => by omega, by omega⟩
theorem Sofar.next {kd : Nat → Nat} {M most n st : Nat} (h : Sofar kd M most n st) (hl : lkP kd M most n st = true) (h2 : kd n ≠ 2) : Sofar kd M most (n + 1) (stP kd n st) := by
  obtain ⟨a, b, c, d⟩ := lkP_iff.1 hl
  refine ⟨by rw [h.cnt]; rfl, by omega, by omega, fun j hj => ?_, ?_⟩
  · by_cases e : j = n
    · subst e; exact ⟨c, h2⟩
    · exact h.trap j (by omega)
  · have := h.stores; unfold stP; split <;> omega
theorem Sofar.stop {kd : Nat → Nat} {M most n st : Nat} (h : Sofar kd M most n st) : Reg kd M most n := ⟨h.room, h.mem, fun j hj => (h.trap j hj).1, fun j hj e => absurd e (h.trap j hj).2, h.cnt ▸ h.stores⟩
theorem Sofar.both {kd : Nat → Nat} {M most n st : Nat} (h : Sofar kd M most n st) (hl : lkP kd M most n st = true) (h2 : kd n = 2) (hl' : lkP kd M most (n + 1) st = true) (h2' : kd (n + 1) ≠ 2) : Reg kd M most (n + 2) := by
  obtain ⟨a, b, c, d⟩ := lkP_iff.1 hl
  obtain ⟨a', b', c', d'⟩ := lkP_iff.1 hl'
  refine ⟨by omega, by omega, fun j hj => ?_, fun j hj e => ?_, ?_⟩
  · by_cases e : j = n
    · subst e; exact c
    · by_cases e : j = n + 1
      · subst e; exact c'
      · exact (h.trap j (by omega)).1
  · by_cases e' : j = n
    · omega
    · by_cases e' : j = n + 1
      · subst e'; exact absurd e h2'
      · exact absurd e (h.trap j (by omega)).2
  · have e1 : stc kd (n + 2) = stP kd (n + 1) (stP kd n (stc kd n)) := rfl
    have e2 : stP kd n (stc kd n) = stc kd n := by unfold stP; rw [if_neg (by omega)]
    rw [e1, e2, ← h.cnt]
    have := h.stores
    unfold stP; split <;> omega
theorem lenP_reg (kd : Nat → Nat) (M most : Nat) : ∀ f n st, Sofar kd M most n st → Reg kd M most (lenP kd M most f n st)
  | 0, n, st, h => h.stop
  | f + 1, n, st, h => by
    unfold lenP
    split
    · rename_i hl
      split
      · rename_i h2
        split
        · rename_i h3
          exact h.both hl h2 h3.1 h3.2
        · exact h.stop
      · rename_i h2
        exact lenP_reg kd M most f _ _ (h.next hl h2)
    · exact h.stop
/-- the length of a region from a place on -/
def lenR (kd : Nat → Nat) (M most : Nat) : Nat := lenP kd M most most 0 0
theorem lenR_reg (kd : Nat → Nat) (M most : Nat) : Reg kd M most (lenR kd M most) := lenP_reg kd M most most 0 0 (Sofar.start _ _ _)
theorem lkP_more {kd : Nat → Nat} {M most most' n st : Nat} (hm : most ≤ most') (h : lkP kd M most n st = true) : lkP kd M most' n st = true := by
  obtain ⟨a, b, c, d⟩ := lkP_iff.1 h
  exact lkP_iff.2 ⟨by omega, b, c, d⟩
theorem lenP_mono (kd : Nat → Nat) (M : Nat) {most most' : Nat} (hm : most ≤ most') : ∀ f f' n st, f ≤ f' → lenP kd M most f n st ≤ lenP kd M most' f' n st
  | 0, f', n, st, _ => lenP_ge _ _ _ _ _ _
  | f + 1, 0, n, st, h => by omega
  | f + 1, f' + 1, n, st, h => by
    have ih := lenP_mono kd M hm f f' (n + 1) (stP kd n st) (by omega)
    have hge := lenP_ge kd M most' (f' + 1) n st
    by_cases hl : lkP kd M most n st = true
    · have hl' := lkP_more hm hl
      by_cases h2 : kd n = 2
      · by_cases h3 : lkP kd M most (n + 1) st = true ∧ kd (n + 1) ≠ 2
        · simp only [lenP, hl, hl', h2, h3, lkP_more hm h3.1]; simp
        · have e : lenP kd M most (f + 1) n st = n := by rw [lenP, if_pos hl, if_pos h2, if_neg h3]
          omega
      · simpa only [lenP, hl, hl', h2, if_true, if_false] using ih
    · have e : lenP kd M most (f + 1) n st = n := by rw [lenP, if_neg hl]
      omega
theorem lenR_mono (kd : Nat → Nat) (M : Nat) {most most' : Nat} (hm : most ≤ most') : lenR kd M most ≤ lenR kd M most' := lenP_mono kd M hm _ _ _ _ hm
/-- with more room it goes on from there, or ends alike -/
theorem lenP_on (kd : Nat → Nat) (M : Nat) {most most' : Nat} (hm : most ≤ most') : ∀ f f' n st, f ≤ f' → lenP kd M most f n st = lenP kd M most' f' n st ∨ ∃ f'' st', f'' ≤ f' ∧ lenP kd M most' f' n st = lenP kd M most' f'' (lenP kd M most f n st) st'
  | 0, f', n, st, _ => .inr ⟨f', st, Nat.le_refl _, rfl⟩
  | f + 1, 0, n, st, h => by omega
  | f + 1, f' + 1, n, st, h => by
    by_cases hl : lkP kd M most n st = true
    · have hl' := lkP_more hm hl
      by_cases h2 : kd n = 2
      · by_cases h3 : lkP kd M most (n + 1) st = true ∧ kd (n + 1) ≠ 2
        · left
          rw [lenP, if_pos hl, if_pos h2, if_pos h3, lenP, if_pos hl', if_pos h2, if_pos ⟨lkP_more hm h3.1, h3.2⟩]
        · right
          have e : lenP kd M most (f + 1) n st = n := by rw [lenP, if_pos hl, if_pos h2, if_neg h3]
          rw [e]; exact ⟨f' + 1, st, Nat.le_refl _, rfl⟩
      · have e : lenP kd M most (f + 1) n st = lenP kd M most f (n + 1) (stP kd n st) := by rw [lenP, if_pos hl, if_neg h2]
        have e' : lenP kd M most' (f' + 1) n st = lenP kd M most' f' (n + 1) (stP kd n st) := by rw [lenP, if_pos hl', if_neg h2]
        rw [e, e']
        rcases lenP_on kd M hm f f' (n + 1) (stP kd n st) (by omega) with h | ⟨f'', st', h1, h2⟩
        · exact .inl h
        · exact .inr ⟨f'', st', by omega, h2⟩
    · right
      have e : lenP kd M most (f + 1) n st = n := by rw [lenP, if_neg hl]
      rw [e]; exact ⟨f' + 1, st, Nat.le_refl _, rfl⟩
/-- from a place on, with fewer stores ahead, it is not shorter -/
theorem lenP_from (kd : Nat → Nat) (M most a : Nat) (kd' : Nat → Nat) (hk : ∀ j, kd' j = kd (a + j)) : ∀ f f' i st st', f ≤ f' → st' ≤ st → lenP kd M most f (a + i) st ≤ a + lenP kd' (M - a) most f' i st'
  | 0, f', i, st, st', _, _ => by
    have := lenP_ge kd' (M - a) most f' i st'
    show a + i ≤ _; omega
  | f + 1, 0, i, st, st', h, _ => by omega
  | f + 1, f' + 1, i, st, st', h, hs => by
    have hge := lenP_ge kd' (M - a) most (f' + 1) i st'
    have lk : ∀ i, lkP kd M most (a + i) st = true → lkP kd' (M - a) most i st' = true := fun i hl => by
      obtain ⟨a1, b, c, d⟩ := lkP_iff.1 hl
      exact lkP_iff.2 ⟨by omega, by omega, by rw [hk]; exact c, by rw [hk]; omega⟩
    by_cases hl : lkP kd M most (a + i) st = true
    · by_cases h2 : kd (a + i) = 2
      · by_cases h3 : lkP kd M most (a + i + 1) st = true ∧ kd (a + i + 1) ≠ 2
        · rw [lenP, if_pos hl, if_pos h2, if_pos h3, lenP, if_pos (lk i hl), if_pos (by rw [hk]; exact h2), if_pos ⟨lk (i + 1) h3.1, by rw [hk]; exact h3.2⟩]
          omega
        · have e : lenP kd M most (f + 1) (a + i) st = a + i := by rw [lenP, if_pos hl, if_pos h2, if_neg h3]
          omega
      · have e : lenP kd M most (f + 1) (a + i) st = lenP kd M most f (a + (i + 1)) (stP kd (a + i) st) := by rw [lenP, if_pos hl, if_neg h2]; rfl
        have e' : lenP kd' (M - a) most (f' + 1) i st' = lenP kd' (M - a) most f' (i + 1) (stP kd' i st') := by rw [lenP, if_pos (lk i hl), if_neg (by rw [hk]; exact h2)]
        rw [e, e']
        refine lenP_from kd M most a kd' hk f f' (i + 1) _ _ (by omega) ?_
        unfold stP; rw [hk]; split <;> omega
    · have e : lenP kd M most (f + 1) (a + i) st = a + i := by rw [lenP, if_neg hl]
      omega
/-- what is left behind a shorter one is not longer than what begins there -/
theorem lenR_joins (kd : Nat → Nat) (M : Nat) {most most' : Nat} (hm : most ≤ most') (kd' : Nat → Nat) (hk : ∀ j, kd' j = kd (lenR kd M most + j)) (h : lenR kd M most < lenR kd M most') :
    lenR kd M most' ≤ lenR kd M most + lenR kd' (M - lenR kd M most) most' := by
  rcases lenP_on kd M hm most most' 0 0 hm with e | ⟨f'', st', h1, h2⟩
  · unfold lenR at h; omega
  · have := lenP_from kd M most' (lenR kd M most) kd' hk f'' most' 0 st' 0 h1 (by omega)
    unfold lenR at this ⊢
    rw [h2]; exact this
/-- enough rounds are enough -/
theorem lenP_fuel (kd : Nat → Nat) (M most : Nat) : ∀ f n st, most ≤ n + f → ∀ f', f ≤ f' → lenP kd M most f' n st = lenP kd M most f n st
  | 0, n, st, h, 0, _ => rfl
  | 0, n, st, h, f' + 1, _ => by
    have hl : ¬ lkP kd M most n st = true := fun e => by have := (lkP_iff.1 e).1; omega
    show _ = n; rw [lenP, if_neg hl]
  | f + 1, n, st, h, 0, h' => by omega
  | f + 1, n, st, h, f' + 1, h' => by
    unfold lenP
    rw [lenP_fuel kd M most f (n + 1) (stP kd n st) (by omega) f' (by omega)]
end Go.Proofs.YtckcbnfobjmhpaaDoor
