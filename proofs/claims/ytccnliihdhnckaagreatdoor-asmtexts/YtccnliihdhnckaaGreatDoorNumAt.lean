/-
  The document's answer's number at a place, as lists say it: NumberAt.
-/
import Derived.Test.YtccnliihdhnckaaGreatDoorParse
namespace Go.Proofs.YtccnliihdhnckaaGreatDoor
open Go.RowKit Go.Shelf Go.Joins
open Num Tab Fm Txt
set_option linter.unusedVariables false
def bad : Value := .tuple #[.int .i64 0, .int .i64 (-1)]
/-- what NumberAt answers -/
def naV (l : List UInt8) (a : Nat) : Value := match rnum (l.drop a) with | some (n, r) => .tuple #[.int .i64 n, .int .i64 ((l.length : Int) - r.length)] | none => bad
/-- the digits from a place on -/
def digsAt (l : List UInt8) (f : Nat) : List UInt8 := (l.drop f).takeWhile isDig
def naW (l : List UInt8) (f : Nat) (mi : Bool) : Value :=
  if digsAt l f = [] ∨ 10 < (digsAt l f).length ∨ ((digsAt l f).head? = some 48 ∧ (1 < (digsAt l f).length ∨ mi = true)) then bad
  else .tuple #[.int .i64 (if mi then -(val (digsAt l f) : Int) else val (digsAt l f)), .int .i64 ((f + (digsAt l f).length : Nat) : Int)]
theorem drop_digs_len (l : List UInt8) (f : Nat) (hf : f ≤ l.length) : (l.length : Int) - ((l.drop f).dropWhile isDig).length = ((f + (digsAt l f).length : Nat) : Int) := by
  have h : (l.drop f).takeWhile isDig ++ (l.drop f).dropWhile isDig = l.drop f := List.takeWhile_append_dropWhile
  have := congrArg List.length h
  rw [List.length_append, List.length_drop] at this
  unfold digsAt
  omega
theorem naV_plain (l : List UInt8) (a : Nat) (ha : a ≤ l.length) (h : (l.drop a).head? ≠ some 45) : naV l a = naW l a false := by
  have hb : ((l.drop a).head? == some 45) = false := by simpa using h
  unfold naV naW rnum
  simp only [hb, Bool.false_eq_true, if_false]
  show (match (if digsAt l a = [] ∨ 10 < (digsAt l a).length ∨ ((digsAt l a).head? = some 48 ∧ (1 < (digsAt l a).length ∨ False)) then none else some ((val (digsAt l a) : Int), (l.drop a).dropWhile isDig)) with | some (n, r) => Value.tuple #[.int .i64 n, .int .i64 ((l.length : Int) - r.length)] | none => bad) = _
  split
  · rename_i n r hh
    split at hh
    · cases hh
    · rename_i hn
      injection hh with hh
      injection hh with e1 e2
      subst e1 e2
      rw [if_neg hn, drop_digs_len l a ha]
  · rename_i hh
    split at hh
    · rename_i hn
      rw [if_pos hn]
    · cases hh
theorem naV_minus (l : List UInt8) (a : Nat) (ha : a < l.length) (h : l[a] = 45) : naV l a = naW l (a + 1) true := by
  have hd : l.drop a = 45 :: l.drop (a + 1) := by rw [List.drop_eq_getElem_cons ha, h]
  unfold naV naW rnum
  rw [hd]
  simp only [List.head?_cons, beq_self_eq_true, if_true, List.tail_cons]
  show (match (if digsAt l (a + 1) = [] ∨ 10 < (digsAt l (a + 1)).length ∨ ((digsAt l (a + 1)).head? = some 48 ∧ (1 < (digsAt l (a + 1)).length ∨ True)) then none else some (-(val (digsAt l (a + 1)) : Int), (l.drop (a + 1)).dropWhile isDig)) with | some (n, r) => Value.tuple #[.int .i64 n, .int .i64 ((l.length : Int) - r.length)] | none => bad) = _
  split
  · rename_i n r hh
    split at hh
    · cases hh
    · rename_i hn
      injection hh with hh
      injection hh with e1 e2
      subst e1 e2
      rw [if_neg hn, drop_digs_len l (a + 1) (by omega)]
  · rename_i hh
    split at hh
    · rename_i hn
      rw [if_pos hn]
    · cases hh
/-- a digit more -/
theorem digs_more (l : List UInt8) (f i : Nat) (hi : i ≤ (digsAt l f).length) (hl : f + i < l.length) (hd : isDig l[f + i] = true) : i < (digsAt l f).length ∧ ∀ h : i < (digsAt l f).length, (digsAt l f)[i] = l[f + i] := by
  have key : ∀ (r : List UInt8) (i : Nat), i ≤ (r.takeWhile isDig).length → ∀ (h : i < r.length), isDig r[i] = true → i < (r.takeWhile isDig).length := by
    intro r
    induction r with
    | nil => intro i _ h; simp at h
    | cons c r ih =>
      intro i hi h hd
      by_cases hc : isDig c = true
      · simp only [List.takeWhile_cons, hc, if_true, List.length_cons] at hi ⊢
        cases i with
        | zero => omega
        | succ i =>
          have := ih i (by omega) (by simpa using h) (by simpa using hd)
          omega
      · simp only [List.takeWhile_cons, hc, Bool.false_eq_true, if_false, List.length_nil] at hi ⊢
        have : i = 0 := by omega
        subst this
        simp at hd
        exact absurd hd hc
  have hdl : i < (l.drop f).length := by rw [List.length_drop]; omega
  have e : (l.drop f)[i] = l[f + i] := List.getElem_drop
  refine ⟨key (l.drop f) i hi hdl (by rw [e]; exact hd), fun h => ?_⟩
  rw [← e]
  unfold digsAt at h ⊢
  exact List.IsPrefix.getElem (List.takeWhile_prefix isDig) h
theorem digs_end (l : List UInt8) (f i : Nat) (hi : i ≤ (digsAt l f).length) (h : f + i = l.length ∨ ∃ h : f + i < l.length, isDig l[f + i] = false) : i = (digsAt l f).length := by
  rcases Nat.lt_or_ge i (digsAt l f).length with g | g
  · exfalso
    have hl : (digsAt l f).length ≤ (l.drop f).length := (List.takeWhile_prefix isDig).length_le
    rw [List.length_drop] at hl
    have hfi : f + i < l.length := by omega
    have hdl : i < (l.drop f).length := by rw [List.length_drop]; omega
    have e : (digsAt l f)[i] = l[f + i] := by
      have e1 : (l.drop f)[i] = l[f + i] := List.getElem_drop
      rw [← e1]
      unfold digsAt at g ⊢
      exact List.IsPrefix.getElem (List.takeWhile_prefix isDig) g
    have hd := mem_take isDig (l.drop f) _ (List.getElem_mem (l := (l.drop f).takeWhile isDig) g)
    have hd2 : isDig l[f + i] = true := by rw [← e]; exact hd
    rcases h with h | ⟨h, h2⟩
    · omega
    · rw [hd2] at h2; cases h2
  · omega
theorem val_take (ds : List UInt8) (i : Nat) (h : i < ds.length) : val (ds.take (i + 1)) = val (ds.take i) * 10 + (ds[i].toNat - 48) := by
  rw [List.take_add_one, List.getElem?_eq_getElem h]
  simp only [Option.toList_some]
  rw [val_append]; rfl
theorem val_lt (ds : List UInt8) (hd : ∀ c ∈ ds, isDig c = true) : val ds < 10 ^ ds.length := by
  induction h : ds.length generalizing ds with
  | zero => rw [List.eq_nil_of_length_eq_zero h]; decide
  | succ n ih =>
    have hn : ds ≠ [] := by intro e; subst e; simp at h
    obtain ⟨a, c, rfl⟩ : ∃ a c, ds = a ++ [c] := ⟨ds.dropLast, ds.getLast hn, (List.dropLast_concat_getLast hn).symm⟩
    have hl : a.length = n := by simp at h; exact h
    have := ih a (fun x hx => hd x (by simp [hx])) hl
    have hc := hd c (by simp)
    unfold isDig at hc
    simp at hc
    rw [val_append, Nat.pow_succ]
    show val a * 10 + (c.toNat - 48) < _
    omega
theorem digs_head (l : List UInt8) (f : Nat) (hf : f < l.length) (h : 0 < (digsAt l f).length) : (digsAt l f).head? = some l[f] := by
  have e : (l.drop f)[0]'(by rw [List.length_drop]; omega) = l[f] := by rw [List.getElem_drop]; rfl
  have e2 : (digsAt l f)[0] = l[f] := by
    rw [← e]
    unfold digsAt at h ⊢
    exact List.IsPrefix.getElem (List.takeWhile_prefix isDig) h
  rw [List.head?_eq_getElem?, List.getElem?_eq_getElem h, e2]
end Go.Proofs.YtccnliihdhnckaaGreatDoor
