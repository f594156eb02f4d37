/-
  The document's answer's ParseOf: a text is read along its operation's order of fields.
-/
import Derived.Deep.Cut
import Derived.Deep.CutRange
import Derived.Deep.CutBlock
import Derived.Test.YtccnliihdhnckaaGreatDoorQRowOf
import Derived.Test.YtccnliihdhnckaaGreatDoorQRegAt
namespace Go.Proofs.YtccnliihdhnckaaGreatDoor
open Go.RowKit Go.Shelf Go.Joins
open Num Tab Fm Txt
set_option linter.unusedVariables false
/-- what ParseOf answers -/
def poV (l : List UInt8) : Value := match parseS l with
  | .name => .tuple #[ins 0 0 0 0 0, .int .i64 5]
  | .text => .tuple #[ins 0 0 0 0 0, .int .i64 1]
  | .bound => .tuple #[ins 0 0 0 0 0, .int .i64 2]
  | .ok k f => .tuple #[ins k f.s f.t f.d f.m, .int .i64 0]
/-- the instruction's block while a text is read: all below it stands as it stood -/
structure SInv (C : Nat) (w wr : World) (o : Int) (f : F) : Prop where
  c0 : wr.cell? ⟨C, 0, none⟩ = some (.int .i64 o)
  c1 : wr.cell? ⟨C, 1, none⟩ = some (.int .i64 f.s)
  c2 : wr.cell? ⟨C, 2, none⟩ = some (.int .i64 f.t)
  c3 : wr.cell? ⟨C, 3, none⟩ = some (.int .i64 f.d)
  c4 : wr.cell? ⟨C, 4, none⟩ = some (.int .u32 f.m)
  fz : ∀ j, wr.frozen? ⟨C, j, none⟩ = false
  bel : Below C w wr
section
variable {C : Nat} {w wr : World} {o : Int} {f : F}
theorem SInv.drewN (E : SInv C w wr o f) (n : Nat) : SInv C w (wr.drewN n) o f :=
  ⟨by simpa using E.c0, by simpa using E.c1, by simpa using E.c2, by simpa using E.c3, by simpa using E.c4, fun j => by simpa using E.fz j, below_drewN E.bel n⟩
theorem SInv.drew (E : SInv C w wr o f) : SInv C w wr.drew o f :=
  ⟨by simpa using E.c0, by simpa using E.c1, by simpa using E.c2, by simpa using E.c3, by simpa using E.c4, fun j => by simpa using E.fz j, E.bel.drew⟩
theorem set_at {C k : Nat} {w : World} {u v : Value} {q : Nat} (hq : q ≠ k) (h : w.cell? ⟨C, q, none⟩ = some u) : (w.setCell ⟨C, k, none⟩ v).cell? ⟨C, q, none⟩ = some u := by
  rw [World.cell?_setCell_other _ _ _ _ (by intro e; injection e with e1 e2; exact hq e2.symm)]; exact h
theorem SInv.putO (E : SInv C w wr o f) (v : Int) : SInv C w (wr.setCell ⟨C, 0, none⟩ (.int .i64 v)) v f :=
  ⟨World.cell?_setCell_same _ _ _ E.c0, set_at (by decide) E.c1, set_at (by decide) E.c2, set_at (by decide) E.c3, set_at (by decide) E.c4, fun j => by simpa using E.fz j, E.bel.setCell (Nat.le_refl _) _⟩
theorem SInv.putS (E : SInv C w wr o f) (v : Int) : SInv C w (wr.setCell ⟨C, 1, none⟩ (.int .i64 v)) o { f with s := v } :=
  ⟨set_at (by decide) E.c0, World.cell?_setCell_same _ _ _ E.c1, set_at (by decide) E.c2, set_at (by decide) E.c3, set_at (by decide) E.c4, fun j => by simpa using E.fz j, E.bel.setCell (Nat.le_refl _) _⟩
theorem SInv.putT (E : SInv C w wr o f) (v : Int) : SInv C w (wr.setCell ⟨C, 2, none⟩ (.int .i64 v)) o { f with t := v } :=
  ⟨set_at (by decide) E.c0, set_at (by decide) E.c1, World.cell?_setCell_same _ _ _ E.c2, set_at (by decide) E.c3, set_at (by decide) E.c4, fun j => by simpa using E.fz j, E.bel.setCell (Nat.le_refl _) _⟩
theorem SInv.putD (E : SInv C w wr o f) (v : Int) : SInv C w (wr.setCell ⟨C, 3, none⟩ (.int .i64 v)) o { f with d := v } :=
  ⟨set_at (by decide) E.c0, set_at (by decide) E.c1, set_at (by decide) E.c2, World.cell?_setCell_same _ _ _ E.c3, set_at (by decide) E.c4, fun j => by simpa using E.fz j, E.bel.setCell (Nat.le_refl _) _⟩
theorem SInv.putM (E : SInv C w wr o f) (v : Int) : SInv C w (wr.setCell ⟨C, 4, none⟩ (.int .u32 v)) o { f with m := v } :=
  ⟨set_at (by decide) E.c0, set_at (by decide) E.c1, set_at (by decide) E.c2, set_at (by decide) E.c3, World.cell?_setCell_same _ _ _ E.c4, fun j => by simpa using E.fz j, E.bel.setCell (Nat.le_refl _) _⟩
end
theorem tab_below {b C : Nat} {w w' : World} (t : TabAt b w) (h : Below C w w') (hb : b < C) : TabAt b w' := fun k hk => by
  have r := t k hk
  exact ⟨(h.cell (p := ⟨b, _, none⟩) hb).trans r.c0, (h.cell (p := ⟨b, _, none⟩) hb).trans r.c1, (h.cell (p := ⟨b, _, none⟩) hb).trans r.c2, (h.cell (p := ⟨b, _, none⟩) hb).trans r.c3, (h.cell (p := ⟨b, _, none⟩) hb).trans r.c4, (h.cell (p := ⟨b, _, none⟩) hb).trans r.c5⟩
/-- a sign more of the name -/
theorem word_more (l : List UInt8) (i : Nat) (hi : i ≤ (l.takeWhile isWord).length) (hl : i < l.length) (hd : isWord l[i] = true) : i < (l.takeWhile isWord).length := by
  induction l generalizing i with
  | nil => simp at hl
  | cons c r ih =>
    by_cases hc : isWord c = true
    · simp only [List.takeWhile_cons, hc, if_true, List.length_cons] at hi ⊢
      cases i with
      | zero => omega
      | succ i =>
        have := ih i (by omega) (by simpa using hl) (by simpa using hd)
        omega
    · simp only [List.takeWhile_cons, hc, Bool.false_eq_true, if_false, List.length_nil] at hi ⊢
      have : i = 0 := by omega
      subst this
      simp at hd
      exact absurd hd hc
theorem word_end (l : List UInt8) (i : Nat) (hi : i ≤ (l.takeWhile isWord).length) (h : i = l.length ∨ ∃ h : i < l.length, isWord l[i] = false) : i = (l.takeWhile isWord).length := by
  have hp : (l.takeWhile isWord).length ≤ l.length := (List.takeWhile_prefix isWord).length_le
  rcases Nat.lt_or_ge i (l.takeWhile isWord).length with g | g
  · exfalso
    have e : (l.takeWhile isWord)[i] = l[i] := List.IsPrefix.getElem (List.takeWhile_prefix isWord) g
    have hd := mem_take isWord l _ (List.getElem_mem (l := l.takeWhile isWord) g)
    rw [e] at hd
    rcases h with h | ⟨h, h2⟩
    · omega
    · rw [hd] at h2; cases h2
  · omega
theorem strip_short (p r : List UInt8) (h : r.length < p.length) : strip p r = none := by
  induction p generalizing r with
  | nil => simp at h
  | cons c p ih =>
    cases r with
    | nil => rfl
    | cons x r =>
      simp only [strip]
      split
      · exact ih r (by simpa using h)
      · rfl
theorem strip_take (p r : List UInt8) : strip p r = if r.take p.length = p then some (r.drop p.length) else none := by
  induction p generalizing r with
  | nil => simp [strip]
  | cons c p ih =>
    cases r with
    | nil => simp [strip]
    | cons x r =>
      simp only [strip, List.length_cons, List.take_succ_cons, List.drop_succ_cons, List.cons.injEq]
      by_cases h : x = c
      · rw [if_pos h, ih r]; simp [h]
      · rw [if_neg h, if_neg (by simp [h])]
theorem strip_mid (p l : List UInt8) (q : Nat) : strip p (l.drop q) = if (l.drop q).take p.length = p then some (l.drop (q + p.length)) else none := by
  rw [strip_take, List.drop_drop]
theorem ext_mid (l : List UInt8) (q n : Nat) (h : q + n ≤ l.length) : (⟨l.toArray⟩ : ByteArray).extract q (q + n) = ⟨((l.drop q).take n).toArray⟩ := by
  apply ByteArray.ext
  simp [ByteArray.data_extract]
theorem suffix_at (l x r : List UInt8) (a : Nat) (ha : a ≤ l.length) (h : l.drop a = x ++ r) : ∃ q, q ≤ l.length ∧ (l.length : Int) - r.length = q ∧ r = l.drop q := by
  have hl := congrArg List.length h
  rw [List.length_drop, List.length_append] at hl
  refine ⟨a + x.length, by omega, by omega, ?_⟩
  rw [← List.drop_drop, h, List.drop_left' rfl]
theorem rnum_at (l : List UInt8) (a : Nat) (ha : a ≤ l.length) {n : Int} {r : List UInt8} (h : rnum (l.drop a) = some (n, r)) : ∃ q, q ≤ l.length ∧ (l.length : Int) - r.length = q ∧ r = l.drop q ∧ -10000000000 < n ∧ n < 10000000000 := by
  obtain ⟨e, x, y⟩ := (rnum_iff _ _ _).mp h
  obtain ⟨q, h1, h2, h3⟩ := suffix_at l _ r a ha e
  exact ⟨q, h1, h2, h3, by omega, by omega⟩
theorem regD_at (l : List UInt8) (a : Nat) (ha : a ≤ l.length) {n : Int} {r : List UInt8} (h : regD (l.drop a) = some (n, r)) : ∃ q, q ≤ l.length ∧ (l.length : Int) - r.length = q ∧ r = l.drop q ∧ 0 ≤ n ∧ n < 10000000000 := by
  unfold regD at h
  cases hs : strip [36] (l.drop a) with
  | none => rw [hs] at h; cases h
  | some x =>
    rw [hs] at h
    simp only [regS] at h
    cases hr : rnum x with
    | none => rw [hr] at h; cases h
    | some y =>
      obtain ⟨n', r'⟩ := y
      rw [hr] at h
      simp only at h
      split at h
      · cases h
      · rename_i hn
        injection h with h
        injection h with h1 h2
        subst h1 h2
        obtain ⟨e, x1, y1⟩ := (rnum_iff _ _ _).mp hr
        have e2 := strip_one hs
        obtain ⟨q, h1, h2, h3⟩ := suffix_at l (36 :: Lib.itoa n') r' a ha (by rw [e2, e]; rfl)
        exact ⟨q, h1, h2, h3, by omega, by omega⟩
theorem ord_len : ∀ k, k < 54 → (ordr k).length ≤ 3 := by decide
/-- a letter of an order: what the document's answer asks of it -/
theorem ord_cs {o : UInt8} (h : ordB o = true) :
    (((o.toNat : Int) == 83) = true ∧ Hid (regB o = true ∧ (o = 109) = False ∧ lett o = 83)) ∨
    (((o.toNat : Int) == 83) = false ∧ ((o.toNat : Int) == 84) = true ∧ Hid (regB o = true ∧ (o = 109) = False ∧ lett o = 84)) ∨
    (((o.toNat : Int) == 83) = false ∧ ((o.toNat : Int) == 84) = false ∧ ((o.toNat : Int) == 68) = true ∧ Hid (regB o = true ∧ (o = 109) = False ∧ lett o = 68)) ∨
    (((o.toNat : Int) == 83) = false ∧ ((o.toNat : Int) == 84) = false ∧ ((o.toNat : Int) == 68) = false ∧ ((o.toNat : Int) == 110) = true ∧ Hid (regB o = false ∧ (o = 109) = False ∧ lett o = 105)) ∨
    (((o.toNat : Int) == 83) = false ∧ ((o.toNat : Int) == 84) = false ∧ ((o.toNat : Int) == 68) = false ∧ ((o.toNat : Int) == 110) = false ∧ ((o.toNat : Int) == 109) = true ∧ Hid (regB o = false ∧ (o = 109) = True ∧ lett o = 105)) ∨
    (((o.toNat : Int) == 83) = false ∧ ((o.toNat : Int) == 84) = false ∧ ((o.toNat : Int) == 68) = false ∧ ((o.toNat : Int) == 110) = false ∧ ((o.toNat : Int) == 109) = false ∧ ((o.toNat : Int) == 117) = true ∧ Hid (regB o = false ∧ (o = 109) = False ∧ lett o = 117)) ∨
    (((o.toNat : Int) == 83) = false ∧ ((o.toNat : Int) == 84) = false ∧ ((o.toNat : Int) == 68) = false ∧ ((o.toNat : Int) == 110) = false ∧ ((o.toNat : Int) == 109) = false ∧ ((o.toNat : Int) == 117) = false ∧ ((o.toNat : Int) == 106) = true ∧ Hid (regB o = false ∧ (o = 109) = False ∧ lett o = 106)) ∨
    (((o.toNat : Int) == 83) = false ∧ ((o.toNat : Int) == 84) = false ∧ ((o.toNat : Int) == 68) = false ∧ ((o.toNat : Int) == 110) = false ∧ ((o.toNat : Int) == 109) = false ∧ ((o.toNat : Int) == 117) = false ∧ ((o.toNat : Int) == 106) = false ∧ Hid (regB o = false ∧ (o = 109) = False ∧ lett o = 97)) := by
  have : o = 83 ∨ o = 84 ∨ o = 68 ∨ o = 97 ∨ o = 110 ∨ o = 109 ∨ o = 117 ∨ o = 106 := by
    unfold ordB regB at h
    simp only [Bool.or_eq_true, beq_iff_eq] at h
    rcases h with (((((((h | h) | h) | h) | h) | h) | h)) | h <;> simp [h]
  have k (P Q R : Prop) (a : P) (b : Q) (c : R) : Hid (P ∧ Q ∧ R) := ⟨a, b, c⟩
  rcases this with rfl | rfl | rfl | rfl | rfl | rfl | rfl | rfl
  · exact Or.inl ⟨by decide, k _ _ _ (by decide) (by simp) (by decide)⟩
  · exact Or.inr (Or.inl ⟨by decide, by decide, k _ _ _ (by decide) (by simp) (by decide)⟩)
  · exact Or.inr (Or.inr (Or.inl ⟨by decide, by decide, by decide, k _ _ _ (by decide) (by simp) (by decide)⟩))
  · exact Or.inr (Or.inr (Or.inr (Or.inr (Or.inr (Or.inr (Or.inr ⟨by decide, by decide, by decide, by decide, by decide, by decide, by decide, k _ _ _ (by decide) (by simp) (by decide)⟩))))))
  · exact Or.inr (Or.inr (Or.inr (Or.inl ⟨by decide, by decide, by decide, by decide, k _ _ _ (by decide) (by simp) (by decide)⟩)))
  · exact Or.inr (Or.inr (Or.inr (Or.inr (Or.inl ⟨by decide, by decide, by decide, by decide, by decide, k _ _ _ (by decide) (by simp) (by decide)⟩))))
  · exact Or.inr (Or.inr (Or.inr (Or.inr (Or.inr (Or.inl ⟨by decide, by decide, by decide, by decide, by decide, by decide, k _ _ _ (by decide) (by simp) (by decide)⟩)))))
  · exact Or.inr (Or.inr (Or.inr (Or.inr (Or.inr (Or.inr (Or.inl ⟨by decide, by decide, by decide, by decide, by decide, by decide, by decide, k _ _ _ (by decide) (by simp) (by decide)⟩))))))
theorem put_set {acc : Option F} {f : F} (HA : ∀ g, acc = some g → f = g) (c : UInt8) (hc : numB c = true) (n : Int) : ∀ g, put c n acc = some g → setF f c n = g := by
  intro g h
  cases acc with
  | none => cases h
  | some g0 =>
    rw [put, if_pos hc] at h
    split at h
    · injection h with h; rw [← h, HA g0 rfl]
    · cases h
theorem put_in (c : UInt8) (hc : numB c = true) (n : Int) (acc : Option F) (h : inB c n = true) : (put c n acc).isNone = acc.isNone := by
  cases acc with
  | none => rfl
  | some g => rw [put, if_pos hc, if_pos h]; rfl
theorem put_out (c : UInt8) (hc : numB c = true) (n : Int) (acc : Option F) (h : inB c n = false) : (put c n acc).isNone = true := by
  cases acc with
  | none => rfl
  | some g => rw [put, if_pos hc, if_neg (by rw [h]; decide)]; rfl
/-- the operation, as far as the search has gone -/
def opBel (k p : Nat) : Int := if k < p then (k : Int) else 0
end Go.Proofs.YtccnliihdhnckaaGreatDoor
/-
  A text's middle, as the walk meets it; what is read at a letter of an order.
-/
namespace Go.Proofs.YtccnliihdhnckaaGreatDoor
open Go.RowKit Go.Shelf Go.Joins
open Num Tab Fm Txt
theorem run_mid (l : List UInt8) (q n : Nat) (h : q + n ≤ l.length) (w : World) : (Instr.slice 9 (.string ⟨l.toArray⟩) (some (.int .i64 (q : Int))) (some (.int .i64 ((q : Int) + (n : Int)))) none).run Tryz.prog w = .ok (.string ⟨((l.drop q).take n).toArray⟩) w := by
  have hx := ext_mid l q n h
  have hs : (⟨l.toArray⟩ : ByteArray).size = l.length := by show l.toArray.size = _; simp
  have h1 : ((q : Int) + (n : Int)).toNat = q + n := by omega
  simp [Instr.slice, run_underlying Tryz.underlying9, go_sem]
  rw [if_pos (by omega), h1, if_pos (by omega), hx]
/-- what a letter of an order reads -/
def rdo (o : UInt8) (r : List UInt8) : Option (Int × List UInt8) := if regB o then regD r else rnum r
theorem rdo_at (o : UInt8) (l : List UInt8) (a : Nat) (ha : a ≤ l.length) {n : Int} {r : List UInt8} (h : rdo o (l.drop a) = some (n, r)) : ∃ q, q ≤ l.length ∧ (l.length : Int) - r.length = q ∧ r = l.drop q ∧ -10000000000 < n ∧ n < 10000000000 := by
  unfold rdo at h
  split at h
  · obtain ⟨q, h1, h2, h3, h4, h5⟩ := regD_at l a ha h
    exact ⟨q, h1, h2, h3, by omega, h5⟩
  · exact rnum_at l a ha h
theorem rdo_neg (o : UInt8) (l : List UInt8) (a : Nat) (ha : a ≤ l.length) {n : Int} {r : List UInt8} (h : rdo o (l.drop a) = some (n, r)) (ho : regB o = true) : 0 ≤ n := by
  unfold rdo at h
  rw [if_pos ho] at h
  obtain ⟨q, _, _, _, h4, _⟩ := regD_at l a ha h
  exact h4
theorem reg_cs (o : UInt8) :
    (((o.toNat : Int) == 83) = true ∧ Hid (regB o = true)) ∨ (((o.toNat : Int) == 83) = false ∧ ((o.toNat : Int) == 84) = true ∧ Hid (regB o = true)) ∨
    (((o.toNat : Int) == 83) = false ∧ ((o.toNat : Int) == 84) = false ∧ ((o.toNat : Int) == 68) = true ∧ Hid (regB o = true)) ∨
    (((o.toNat : Int) == 83) = false ∧ ((o.toNat : Int) == 84) = false ∧ ((o.toNat : Int) == 68) = false ∧ Hid (regB o = false)) := by
  have e (v : UInt8) (k : Nat) (hv : v.toNat = k) : ((o.toNat : Int) == (k : Int)) = (o == v) := by
    by_cases h : o = v
    · subst h; simp [hv]
    · have : ¬ o.toNat = v.toNat := fun g => h (UInt8.toNat_inj.mp g)
      have h2 : (o == v) = false := by simpa using h
      rw [h2]; simp; omega
  have e1 : ((o.toNat : Int) == 83) = (o == 83) := e 83 83 rfl
  have e2 : ((o.toNat : Int) == 84) = (o == 84) := e 84 84 rfl
  have e3 : ((o.toNat : Int) == 68) = (o == 68) := e 68 68 rfl
  have hr : regB o = (o == 83 || o == 84 || o == 68) := rfl
  cases h1 : o == 83
  · cases h2 : o == 84
    · cases h3 : o == 68
      · exact Or.inr (Or.inr (Or.inr ⟨e1.trans h1, e2.trans h2, e3.trans h3, by show regB o = false; rw [hr, h1, h2, h3]; rfl⟩))
      · exact Or.inr (Or.inr (Or.inl ⟨e1.trans h1, e2.trans h2, e3.trans h3, by show regB o = true; rw [hr, h1, h2, h3]; rfl⟩))
    · exact Or.inr (Or.inl ⟨e1.trans h1, e2.trans h2, by show regB o = true; rw [hr, h1, h2]; rfl⟩)
  · exact Or.inl ⟨e1.trans h1, by show regB o = true; rw [hr, h1]; rfl⟩
theorem tm16 (n : Int) : ∃ t1 t2 : Int, n.tmod 65536 = t1 ∧ (t1 + 65536).tmod 65536 = t2 ∧ -65536 < t1 ∧ t1 < 65536 ∧ 0 ≤ t2 ∧ t2 < 65536 ∧ t2 = n % 65536 := by
  have h1 := Int.mul_tdiv_add_tmod n 65536
  have h2 := Int.tmod_lt_of_pos n (b := 65536) (by omega)
  have h3 := Int.lt_tmod_of_pos n (b := 65536) (by omega)
  refine ⟨n.tmod 65536, (n.tmod 65536 + 65536).tmod 65536, rfl, rfl, by omega, by omega, ?_, ?_, ?_⟩
  · rw [Int.tmod_eq_emod_of_nonneg (by omega)]; omega
  · rw [Int.tmod_eq_emod_of_nonneg (by omega)]; omega
  · rw [Int.tmod_eq_emod_of_nonneg (by omega)]; omega
theorem ord_all {o : UInt8} (h : ordB o = true) : o = 83 ∨ o = 84 ∨ o = 68 ∨ o = 97 ∨ o = 110 ∨ o = 109 ∨ o = 117 ∨ o = 106 := by
  unfold ordB regB at h
  simp only [Bool.or_eq_true, beq_iff_eq] at h
  rcases h with (((((((h | h) | h) | h) | h) | h) | h)) | h <;> simp [h]
theorem lett_num {o : UInt8} (h : ordB o = true) : numB (lett o) = true := by
  rcases ord_all h with rfl | rfl | rfl | rfl | rfl | rfl | rfl | rfl <;> decide
theorem put_none (c : UInt8) (hc : numB c = true) (n : Int) (acc : Option F) : (put c n acc).isNone = (acc.isNone || !inB c n) := by
  cases h : inB c n with
  | true => rw [put_in c hc n acc h]; simp
  | false => rw [put_out c hc n acc h]; simp
theorem low_bd (c : UInt8) : -32768 ≤ lowB c ∧ lowB c ≤ 0 ∧ 0 ≤ highB c ∧ highB c ≤ 67108863 := by
  refine ⟨?_, ?_, ?_, ?_⟩
  · unfold lowB; split <;> omega
  · unfold lowB; split <;> omega
  · unfold highB; repeat' split
    all_goals omega
  · unfold highB; repeat' split
    all_goals omega
theorem strip_at (l : List UInt8) (q : Nat) (c : UInt8) (h : q < l.length) : strip [c] (l.drop q) = if l[q] = c then some (l.drop (q + 1)) else none := by
  rw [List.drop_eq_getElem_cons h]
  simp only [strip]
end Go.Proofs.YtccnliihdhnckaaGreatDoor
/-
  ParseOf's ends: what it answers where a text is none.
-/
namespace Go.Proofs.YtccnliihdhnckaaGreatDoor
open Go.RowKit Go.Shelf Go.Joins
open Num Tab Fm Txt
theorem err_ret {R : Ending → World → Prop} {a : Act} {X : World} {B : Nat} {c : Int} (h2 : a.tmps.getD 2 undef = .pointer (some ⟨B, 0, none⟩)) (h3 : a.tmps.getD 3 undef = .int .i64 c) (hd : a.defers = []) (z : ZAt B X)
    (hR : R (.returned (.tuple #[ins 0 0 0 0 0, .int .i64 c])) X) : bodyPost Tryz.prog Tryz.f13 R Exit.ret a X := by
  obtain ⟨z0, z1, z2, z3, z4, zf⟩ := z
  refine bodyPost_ret (v := .tuple #[ins 0 0 0 0 0, .int .i64 c]) ?_ hd hR
  simp only [Array.getD_eq_getD_getElem?] at h2 h3
  simp [results, Tryz.results13, go_sem, h2, h3, z0, z1, z2, z3, z4]
/-- an instruction of nothing, made -/
theorem wpList_build24 {ops : Array Oper} {rest : List Oper} {o : Oper} {a : Act} {w : World} {Q : Exit → Act → World → Prop} (hg : o.guard = none) (ho : o.op = .build 24 #[])
    (h : wpList Tryz.prog ops Q rest (a.put o.dst (ins 0 0 0 0 0)) w) : wpList Tryz.prog ops Q (o :: rest) a w := by
  refine wpList_plain hg fun K hK => ?_
  unfold Oper.wp
  have e : (execOp a.eval o).run Tryz.prog w = .ok (.value (ins 0 0 0 0 0)) w := by
    unfold execOp; rw [ho]; simp only; kernel_rfl
  rw [e, Oper.upon_value]
  exact hK _ _ h
/-- .. laid over one of nothing -/
theorem wpList_store24 {ops : Array Oper} {rest : List Oper} {o : Oper} {a : Act} {w : World} {Q : Exit → Act → World → Prop} (hg : o.guard = none) (x y : Operand) (ho : o.op = .store 24 x y) (B : Nat) (hx : a.eval x = .pointer (some ⟨B, 0, none⟩)) (hy : a.eval y = ins 0 0 0 0 0) (z : ZAt B w)
    (h : wpList Tryz.prog ops Q rest (a.put o.dst undef) (((((w.setCell ⟨B, 0, none⟩ (.int .i64 0)).setCell ⟨B, 1, none⟩ (.int .i64 0)).setCell ⟨B, 2, none⟩ (.int .i64 0)).setCell ⟨B, 3, none⟩ (.int .i64 0)).setCell ⟨B, 4, none⟩ (.int .u32 0))) : wpList Tryz.prog ops Q (o :: rest) a w := by
  obtain ⟨z0, z1, z2, z3, z4, zf⟩ := z
  refine wpList_plain hg fun K hK => ?_
  unfold Oper.wp
  have hst : (storeVar 24 ⟨B, 0, none⟩ (ins 0 0 0 0 0)).run Tryz.prog w = .ok () (((((w.setCell ⟨B, 0, none⟩ (.int .i64 0)).setCell ⟨B, 1, none⟩ (.int .i64 0)).setCell ⟨B, 2, none⟩ (.int .i64 0)).setCell ⟨B, 3, none⟩ (.int .i64 0)).setCell ⟨B, 4, none⟩ (.int .u32 0)) := by
    simp [storeVar, go_sem, z0, z1, z2, z3, z4, zf]
  unfold execOp
  simp only [ho, hx, hy, Instr.storeAt, Instr.sureAddr, Sem.run_bind, Sem.run_pure, Result.andThen_ok, hst]
  exact hK _ _ h
/-- the last of such an end: its number, and back -/
theorem wpList_err {P : Program} {ops : Array Oper} {o : Oper} {a : Act} {w : World} {K : Act → World → Prop} {Q1 : Exit → Act → World → Prop} (v : Value) (hg : o.guard = none) (ho : o.op = .assign (.const v)) (hK : ∀ a w, Code.wp P Code.ret Q1 a w → K a w) (h : Q1 .ret (a.put o.dst v) w) : wpList P ops (Exit.then K Q1) [o] a w := by
  refine wpList_plain hg fun K' hK' => ?_
  unfold Oper.wp
  have e : (execOp a.eval o).run P w = .ok (.value v) w := by unfold execOp; rw [ho]; rfl
  rw [e, Oper.upon_value]
  refine hK' _ _ ?_
  exact hK _ _ (wp_ret h)
end Go.Proofs.YtccnliihdhnckaaGreatDoor
