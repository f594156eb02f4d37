/-
  The document's answer's ParseOf: a text is read along its operation's order of fields.
-/
import Derived.Test.YtccnliihdhnckaaGreatDoorRegAt
import Derived.Test.YtccnliihdhnckaaGreatDoorRowOf
import Derived.Deep.Cut
import Derived.Deep.CutRange
import Derived.Deep.CutBlock
namespace Go.Proofs.YtccnliihdhnckaaGreatDoor
open Go.RowKit Go.Shelf Go.Joins
open Num Tab Fm Txt
set_option linter.unusedVariables false
/-- what ParseOf answers -/
def poV (l : List UInt8) : Value := match parseS l with
  | .name => .tuple #[ins 0 0 0 0 0, .int .i64 5]
  | .text => .tuple #[ins 0 0 0 0 0, .int .i64 1]
  | .bound => .tuple #[ins 0 0 0 0 0, .int .i64 2]
  | .ok k f => .tuple #[ins k f.s f.t f.d f.m, .int .i64 0]
/-- the instruction's block while a text is read: all below it stands as it stood -/
structure SInv (C : Nat) (w wr : World) (o : Int) (f : F) : Prop where
  c0 : wr.cell? ⟨C, 0, none⟩ = some (.int .i64 o)
  c1 : wr.cell? ⟨C, 1, none⟩ = some (.int .i64 f.s)
  c2 : wr.cell? ⟨C, 2, none⟩ = some (.int .i64 f.t)
  c3 : wr.cell? ⟨C, 3, none⟩ = some (.int .i64 f.d)
  c4 : wr.cell? ⟨C, 4, none⟩ = some (.int .u32 f.m)
  fz : ∀ j, wr.frozen? ⟨C, j, none⟩ = false
  bel : Below C w wr
section
variable {C : Nat} {w wr : World} {o : Int} {f : F}
theorem SInv.drewN (E : SInv C w wr o f) (n : Nat) : SInv C w (wr.drewN n) o f :=
  ⟨by simpa using E.c0, by simpa using E.c1, by simpa using E.c2, by simpa using E.c3, by simpa using E.c4, fun j => by simpa using E.fz j, below_drewN E.bel n⟩
theorem SInv.drew (E : SInv C w wr o f) : SInv C w wr.drew o f :=
  ⟨by simpa using E.c0, by simpa using E.c1, by simpa using E.c2, by simpa using E.c3, by simpa using E.c4, fun j => by simpa using E.fz j, E.bel.drew⟩
theorem set_at {C k : Nat} {w : World} {u v : Value} {q : Nat} (hq : q ≠ k) (h : w.cell? ⟨C, q, none⟩ = some u) : (w.setCell ⟨C, k, none⟩ v).cell? ⟨C, q, none⟩ = some u := by
  rw [World.cell?_setCell_other _ _ _ _ (by intro e; injection e with e1 e2; exact hq e2.symm)]; exact h
theorem SInv.putO (E : SInv C w wr o f) (v : Int) : SInv C w (wr.setCell ⟨C, 0, none⟩ (.int .i64 v)) v f :=
  ⟨World.cell?_setCell_same _ _ _ E.c0, set_at (by decide) E.c1, set_at (by decide) E.c2, set_at (by decide) E.c3, set_at (by decide) E.c4, fun j => by simpa using E.fz j, E.bel.setCell (Nat.le_refl _) _⟩
theorem SInv.putS (E : SInv C w wr o f) (v : Int) : SInv C w (wr.setCell ⟨C, 1, none⟩ (.int .i64 v)) o { f with s := v } :=
  ⟨set_at (by decide) E.c0, World.cell?_setCell_same _ _ _ E.c1, set_at (by decide) E.c2, set_at (by decide) E.c3, set_at (by decide) E.c4, fun j => by simpa using E.fz j, E.bel.setCell (Nat.le_refl _) _⟩
theorem SInv.putT (E : SInv C w wr o f) (v : Int) : SInv C w (wr.setCell ⟨C, 2, none⟩ (.int .i64 v)) o { f with t := v } :=
  ⟨set_at (by decide) E.c0, set_at (by decide) E.c1, World.cell?_setCell_same _ _ _ E.c2, set_at (by decide) E.c3, set_at (by decide) E.c4, fun j => by simpa using E.fz j, E.bel.setCell (Nat.le_refl _) _⟩
theorem SInv.putD (E : SInv C w wr o f) (v : Int) : SInv C w (wr.setCell ⟨C, 3, none⟩ (.int .i64 v)) o { f with d := v } :=
  ⟨set_at (by decide) E.c0, set_at (by decide) E.c1, set_at (by decide) E.c2, World.cell?_setCell_same _ _ _ E.c3, set_at (by decide) E.c4, fun j => by simpa using E.fz j, E.bel.setCell (Nat.le_refl _) _⟩
theorem SInv.putM (E : SInv C w wr o f) (v : Int) : SInv C w (wr.setCell ⟨C, 4, none⟩ (.int .u32 v)) o { f with m := v } :=
  ⟨set_at (by decide) E.c0, set_at (by decide) E.c1, set_at (by decide) E.c2, set_at (by decide) E.c3, World.cell?_setCell_same _ _ _ E.c4, fun j => by simpa using E.fz j, E.bel.setCell (Nat.le_refl _) _⟩
end
theorem tab_below {b C : Nat} {w w' : World} (t : TabAt b w) (h : Below C w w') (hb : b < C) : TabAt b w' := fun k hk => by
  have r := t k hk
  exact ⟨(h.cell (p := ⟨b, _, none⟩) hb).trans r.c0, (h.cell (p := ⟨b, _, none⟩) hb).trans r.c1, (h.cell (p := ⟨b, _, none⟩) hb).trans r.c2, (h.cell (p := ⟨b, _, none⟩) hb).trans r.c3, (h.cell (p := ⟨b, _, none⟩) hb).trans r.c4, (h.cell (p := ⟨b, _, none⟩) hb).trans r.c5⟩
/-- a sign more of the name -/
theorem word_more (l : List UInt8) (i : Nat) (hi : i ≤ (l.takeWhile isWord).length) (hl : i < l.length) (hd : isWord l[i] = true) : i < (l.takeWhile isWord).length := by
  induction l generalizing i with
  | nil => simp at hl
  | cons c r ih =>
    by_cases hc : isWord c = true
    · simp only [List.takeWhile_cons, hc, if_true, List.length_cons] at hi ⊢
      cases i with
      | zero => omega
      | succ i =>
        have := ih i (by omega) (by simpa using hl) (by simpa using hd)
        omega
    · simp only [List.takeWhile_cons, hc, Bool.false_eq_true, if_false, List.length_nil] at hi ⊢
      have : i = 0 := by omega
      subst this
      simp at hd
      exact absurd hd hc
theorem word_end (l : List UInt8) (i : Nat) (hi : i ≤ (l.takeWhile isWord).length) (h : i = l.length ∨ ∃ h : i < l.length, isWord l[i] = false) : i = (l.takeWhile isWord).length := by
  have hp : (l.takeWhile isWord).length ≤ l.length := (List.takeWhile_prefix isWord).length_le
  rcases Nat.lt_or_ge i (l.takeWhile isWord).length with g | g
  · exfalso
    have e : (l.takeWhile isWord)[i] = l[i] := List.IsPrefix.getElem (List.takeWhile_prefix isWord) g
    have hd := mem_take isWord l _ (List.getElem_mem (l := l.takeWhile isWord) g)
    rw [e] at hd
    rcases h with h | ⟨h, h2⟩
    · omega
    · rw [hd] at h2; cases h2
  · omega
theorem strip_short (p r : List UInt8) (h : r.length < p.length) : strip p r = none := by
  induction p generalizing r with
  | nil => simp at h
  | cons c p ih =>
    cases r with
    | nil => rfl
    | cons x r =>
      simp only [strip]
      split
      · exact ih r (by simpa using h)
      · rfl
theorem strip_take (p r : List UInt8) : strip p r = if r.take p.length = p then some (r.drop p.length) else none := by
  induction p generalizing r with
  | nil => simp [strip]
  | cons c p ih =>
    cases r with
    | nil => simp [strip]
    | cons x r =>
      simp only [strip, List.length_cons, List.take_succ_cons, List.drop_succ_cons, List.cons.injEq]
      by_cases h : x = c
      · rw [if_pos h, ih r]; simp [h]
      · rw [if_neg h, if_neg (by simp [h])]
theorem strip_mid (p l : List UInt8) (q : Nat) : strip p (l.drop q) = if (l.drop q).take p.length = p then some (l.drop (q + p.length)) else none := by
  rw [strip_take, List.drop_drop]
theorem ext_mid (l : List UInt8) (q n : Nat) (h : q + n ≤ l.length) : (⟨l.toArray⟩ : ByteArray).extract q (q + n) = ⟨((l.drop q).take n).toArray⟩ := by
  apply ByteArray.ext
  simp [ByteArray.data_extract]
theorem suffix_at (l x r : List UInt8) (a : Nat) (ha : a ≤ l.length) (h : l.drop a = x ++ r) : ∃ q, q ≤ l.length ∧ (l.length : Int) - r.length = q ∧ r = l.drop q := by
  have hl := congrArg List.length h
  rw [List.length_drop, List.length_append] at hl
  refine ⟨a + x.length, by omega, by omega, ?_⟩
  rw [← List.drop_drop, h, List.drop_left' rfl]
theorem rnum_at (l : List UInt8) (a : Nat) (ha : a ≤ l.length) {n : Int} {r : List UInt8} (h : rnum (l.drop a) = some (n, r)) : ∃ q, q ≤ l.length ∧ (l.length : Int) - r.length = q ∧ r = l.drop q ∧ -10000000000 < n ∧ n < 10000000000 := by
  obtain ⟨e, x, y⟩ := (rnum_iff _ _ _).mp h
  obtain ⟨q, h1, h2, h3⟩ := suffix_at l _ r a ha e
  exact ⟨q, h1, h2, h3, by omega, by omega⟩
theorem regD_at (l : List UInt8) (a : Nat) (ha : a ≤ l.length) {n : Int} {r : List UInt8} (h : regD (l.drop a) = some (n, r)) : ∃ q, q ≤ l.length ∧ (l.length : Int) - r.length = q ∧ r = l.drop q ∧ 0 ≤ n ∧ n < 10000000000 := by
  unfold regD at h
  cases hs : strip [36] (l.drop a) with
  | none => rw [hs] at h; cases h
  | some x =>
    rw [hs] at h
    simp only [regS] at h
    cases hr : rnum x with
    | none => rw [hr] at h; cases h
    | some y =>
      obtain ⟨n', r'⟩ := y
      rw [hr] at h
      simp only at h
      split at h
      · cases h
      · rename_i hn
        injection h with h
        injection h with h1 h2
        subst h1 h2
        obtain ⟨e, x1, y1⟩ := (rnum_iff _ _ _).mp hr
        have e2 := strip_one hs
        obtain ⟨q, h1, h2, h3⟩ := suffix_at l (36 :: Lib.itoa n') r' a ha (by rw [e2, e]; rfl)
        exact ⟨q, h1, h2, h3, by omega, by omega⟩
theorem ord_len : ∀ k, k < 54 → (ordr k).length ≤ 3 := by decide
/-- a letter of an order: what the document's answer asks of it -/
theorem ord_cs {o : UInt8} (h : ordB o = true) :
    (((o.toNat : Int) == 83) = true ∧ Hid (regB o = true ∧ (o = 109) = False ∧ lett o = 83)) ∨
    (((o.toNat : Int) == 83) = false ∧ ((o.toNat : Int) == 84) = true ∧ Hid (regB o = true ∧ (o = 109) = False ∧ lett o = 84)) ∨
    (((o.toNat : Int) == 83) = false ∧ ((o.toNat : Int) == 84) = false ∧ ((o.toNat : Int) == 68) = true ∧ Hid (regB o = true ∧ (o = 109) = False ∧ lett o = 68)) ∨
    (((o.toNat : Int) == 83) = false ∧ ((o.toNat : Int) == 84) = false ∧ ((o.toNat : Int) == 68) = false ∧ ((o.toNat : Int) == 110) = true ∧ Hid (regB o = false ∧ (o = 109) = False ∧ lett o = 105)) ∨
    (((o.toNat : Int) == 83) = false ∧ ((o.toNat : Int) == 84) = false ∧ ((o.toNat : Int) == 68) = false ∧ ((o.toNat : Int) == 110) = false ∧ ((o.toNat : Int) == 109) = true ∧ Hid (regB o = false ∧ (o = 109) = True ∧ lett o = 105)) ∨
    (((o.toNat : Int) == 83) = false ∧ ((o.toNat : Int) == 84) = false ∧ ((o.toNat : Int) == 68) = false ∧ ((o.toNat : Int) == 110) = false ∧ ((o.toNat : Int) == 109) = false ∧ ((o.toNat : Int) == 117) = true ∧ Hid (regB o = false ∧ (o = 109) = False ∧ lett o = 117)) ∨
    (((o.toNat : Int) == 83) = false ∧ ((o.toNat : Int) == 84) = false ∧ ((o.toNat : Int) == 68) = false ∧ ((o.toNat : Int) == 110) = false ∧ ((o.toNat : Int) == 109) = false ∧ ((o.toNat : Int) == 117) = false ∧ ((o.toNat : Int) == 106) = true ∧ Hid (regB o = false ∧ (o = 109) = False ∧ lett o = 106)) ∨
    (((o.toNat : Int) == 83) = false ∧ ((o.toNat : Int) == 84) = false ∧ ((o.toNat : Int) == 68) = false ∧ ((o.toNat : Int) == 110) = false ∧ ((o.toNat : Int) == 109) = false ∧ ((o.toNat : Int) == 117) = false ∧ ((o.toNat : Int) == 106) = false ∧ Hid (regB o = false ∧ (o = 109) = False ∧ lett o = 97)) := by
  have : o = 83 ∨ o = 84 ∨ o = 68 ∨ o = 97 ∨ o = 110 ∨ o = 109 ∨ o = 117 ∨ o = 106 := by
    unfold ordB regB at h
    simp only [Bool.or_eq_true, beq_iff_eq] at h
    rcases h with (((((((h | h) | h) | h) | h) | h) | h)) | h <;> simp [h]
  have k (P Q R : Prop) (a : P) (b : Q) (c : R) : Hid (P ∧ Q ∧ R) := ⟨a, b, c⟩
  rcases this with rfl | rfl | rfl | rfl | rfl | rfl | rfl | rfl
  · exact Or.inl ⟨by decide, k _ _ _ (by decide) (by simp) (by decide)⟩
  · exact Or.inr (Or.inl ⟨by decide, by decide, k _ _ _ (by decide) (by simp) (by decide)⟩)
  · exact Or.inr (Or.inr (Or.inl ⟨by decide, by decide, by decide, k _ _ _ (by decide) (by simp) (by decide)⟩))
  · exact Or.inr (Or.inr (Or.inr (Or.inr (Or.inr (Or.inr (Or.inr ⟨by decide, by decide, by decide, by decide, by decide, by decide, by decide, k _ _ _ (by decide) (by simp) (by decide)⟩))))))
  · exact Or.inr (Or.inr (Or.inr (Or.inl ⟨by decide, by decide, by decide, by decide, k _ _ _ (by decide) (by simp) (by decide)⟩)))
  · exact Or.inr (Or.inr (Or.inr (Or.inr (Or.inl ⟨by decide, by decide, by decide, by decide, by decide, k _ _ _ (by decide) (by simp) (by decide)⟩))))
  · exact Or.inr (Or.inr (Or.inr (Or.inr (Or.inr (Or.inl ⟨by decide, by decide, by decide, by decide, by decide, by decide, k _ _ _ (by decide) (by simp) (by decide)⟩)))))
  · exact Or.inr (Or.inr (Or.inr (Or.inr (Or.inr (Or.inr (Or.inl ⟨by decide, by decide, by decide, by decide, by decide, by decide, by decide, k _ _ _ (by decide) (by simp) (by decide)⟩))))))
theorem put_set {acc : Option F} {f : F} (HA : ∀ g, acc = some g → f = g) (c : UInt8) (hc : numB c = true) (n : Int) : ∀ g, put c n acc = some g → setF f c n = g := by
  intro g h
  cases acc with
  | none => cases h
  | some g0 =>
    rw [put, if_pos hc] at h
    split at h
    · injection h with h; rw [← h, HA g0 rfl]
    · cases h
theorem put_in (c : UInt8) (hc : numB c = true) (n : Int) (acc : Option F) (h : inB c n = true) : (put c n acc).isNone = acc.isNone := by
  cases acc with
  | none => rfl
  | some g => rw [put, if_pos hc, if_pos h]; rfl
theorem put_out (c : UInt8) (hc : numB c = true) (n : Int) (acc : Option F) (h : inB c n = false) : (put c n acc).isNone = true := by
  cases acc with
  | none => rfl
  | some g => rw [put, if_pos hc, if_neg (by rw [h]; decide)]; rfl
/-- the operation, as far as the search has gone -/
def opBel (k p : Nat) : Int := if k < p then (k : Int) else 0
end Go.Proofs.YtccnliihdhnckaaGreatDoor
