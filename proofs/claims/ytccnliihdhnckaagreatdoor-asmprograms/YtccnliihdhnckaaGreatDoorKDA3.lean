/-
  Lines as the document reads them, and as the program does: the same.
-/
import Derived.Test.YtccnliihdhnckaaGreatDoorQDA2
import Derived.Test.YtccnliihdhnckaaGreatDoorKAsmP
namespace Go.Proofs.YtccnliihdhnckaaGreatDoor
open Go.RowKit Go.Shelf Go.Joins
open Num Tab Fm Txt
set_option linter.unusedVariables false
theorem pnum_mark {t : List UInt8} {n : Int} (h : pnum t = some n) : ∀ c ∈ t, isMark c = true := by
  obtain ⟨e, _⟩ := (pnum_iff t n).1 h
  subst e; exact mark_itoa n
theorem itoa_ne (n : Int) : Lib.itoa n ≠ [] := by
  rcases int_cases n with ⟨u, rfl⟩ | ⟨u, h1, rfl⟩
  · rw [itoa_pos]; exact Txt.dec_ne u
  · rw [itoa_min u h1]; simp
theorem pnum_ne {t : List UInt8} {n : Int} (h : pnum t = some n) : t ≠ [] := by
  obtain ⟨e, _⟩ := (pnum_iff t n).1 h
  subst e; exact itoa_ne n
theorem pnum_no {t : List UInt8} {c : UInt8} (hc : c ∈ t) (hm : isMark c = false) : pnum t = none := by
  cases h : pnum t with
  | none => rfl
  | some n => have := pnum_mark h c hc; rw [hm] at this; cases this
theorem suf_split {l : List UInt8} (h : Lib.hasSuffix l [58] = true) : ∃ t, l = t ++ [58] := by
  unfold Lib.hasSuffix at h
  obtain ⟨t, ht⟩ := List.isSuffixOf_iff_suffix.1 h
  exact ⟨t, ht.symm⟩
theorem pre_split {l p : List UInt8} (h : Lib.hasPrefix l p = true) : ∃ r, l = p ++ r := by
  unfold Lib.hasPrefix at h
  obtain ⟨t, ht⟩ := List.isPrefixOf_iff_prefix.1 h
  exact ⟨t, ht.symm⟩
theorem word_suf {l : List UInt8} (hs : Lib.hasSuffix l [58] = true) : wordS l = none := by
  obtain ⟨t, rfl⟩ := suf_split hs
  have hn : pnum (Lib.trimPrefix (t ++ [58]) [46, 119, 111, 114, 100, 32]) = none := by
    unfold Lib.trimPrefix
    split
    · rename_i hp
      obtain ⟨r, hr⟩ := pre_split hp
      rw [hr]
      have e : (([46, 119, 111, 114, 100, 32] : List UInt8) ++ r).drop ([46, 119, 111, 114, 100, 32] : List UInt8).length = r := List.drop_left' rfl
      rw [e]
      cases hrr : r with
      | nil =>
        subst hrr
        have := congrArg List.getLast? hr
        simp at this
      | cons c r' =>
        refine pnum_no (c := 58) ?_ (by decide)
        rw [← hrr]
        have h1 : (t ++ [58]).getLast? = some 58 := by simp
        rw [hr, List.getLast?_append] at h1
        rw [hrr] at h1 ⊢
        have : (c :: r').getLast? = some 58 := by
          cases hg : (c :: r').getLast? with
          | none => simp at hg
          | some x => rw [hg] at h1; simpa using h1
        exact List.mem_of_getLast? this
    · exact pnum_no (c := 58) (by simp) (by decide)
  unfold wordS; rw [hn]
/-- what the document reads as a line's word -/
def wdOf (l : List UInt8) : Int := if 6 < l.length ∧ l.getD 5 0 = 32 then woOf (l.drop 6) else -1
theorem pnum_nil : pnum [] = none := by
  cases h : pnum [] with
  | none => rfl
  | some n => exact absurd rfl (pnum_ne h)
theorem wd_eq {l : List UInt8} (hp : Lib.hasPrefix l [46, 119, 111, 114, 100] = true) : wdOf l = (match wordS l with | some n => n | none => -1) := by
  obtain ⟨r, rfl⟩ := pre_split hp
  cases r with
  | nil =>
    have : wordS ([46, 119, 111, 114, 100] ++ []) = none := by
      unfold wordS Lib.trimPrefix
      rw [if_neg (by decide), pnum_no (c := 46) (by simp) (by decide)]
    rw [this]; rfl
  | cons c r =>
    by_cases hc : c = 32
    · subst hc
      have e1 : Lib.trimPrefix ([46, 119, 111, 114, 100] ++ 32 :: r) [46, 119, 111, 114, 100, 32] = r := by
        unfold Lib.trimPrefix Lib.hasPrefix
        rw [if_pos (by simp [List.isPrefixOf])]
        rfl
      unfold wordS wdOf
      rw [e1]
      cases r with
      | nil => rw [pnum_nil]; rfl
      | cons d r =>
        rw [if_pos ⟨by simp, rfl⟩]
        show woOf (d :: r) = _
        unfold woOf
        cases pnum (d :: r) with
        | none => rfl
        | some n =>
          simp only
          split <;> rfl
    · have e1 : Lib.trimPrefix ([46, 119, 111, 114, 100] ++ c :: r) [46, 119, 111, 114, 100, 32] = [46, 119, 111, 114, 100] ++ c :: r := by
        unfold Lib.trimPrefix Lib.hasPrefix
        rw [if_neg]
        simp [List.isPrefixOf]
        exact fun e => hc e.symm
      unfold wordS wdOf
      rw [e1, pnum_no (c := 46) (by simp) (by decide), if_neg (by rintro ⟨_, h⟩; exact hc h)]
/-! ### a label's line -/
theorem trim_take {l : List UInt8} (h : Lib.hasSuffix l [58] = true) : Lib.trimSuffix l [58] = l.take (l.length - 1) := by
  unfold Lib.trimSuffix; rw [if_pos h]; rfl
theorem lk_108 {l : List UInt8} (h : lkOf l = 108) : Lib.hasSuffix l [58] = true := by
  unfold lkOf at h
  split at h
  · assumption
  · split at h <;> omega
theorem lk_119 {l : List UInt8} (h : lkOf l = 119) : Lib.hasPrefix l [46, 119, 111, 114, 100] = true := by
  unfold lkOf at h
  split at h
  · omega
  · split at h
    · assumption
    · omega
theorem lk_105 {l : List UInt8} (h : lkOf l = 105) : Lib.hasSuffix l [58] = false ∧ Lib.hasPrefix l [46, 119, 111, 114, 100] = false := by
  unfold lkOf at h
  split at h
  · omega
  · rename_i h1
    split at h
    · omega
    · rename_i h2
      exact ⟨by simpa using h1, by simpa using h2⟩
theorem lk_all (l : List UInt8) : lkOf l = 108 ∨ lkOf l = 119 ∨ lkOf l = 105 := by
  unfold lkOf; split
  · exact Or.inl rfl
  · split
    · exact Or.inr (Or.inl rfl)
    · exact Or.inr (Or.inr rfl)
theorem dot_no {l : List UInt8} (hs : Lib.hasSuffix l [58] = true) (hp : Lib.hasPrefix l [46, 119, 111, 114, 100] = true) : isNm (l.take (l.length - 1)) = false := by
  obtain ⟨r, rfl⟩ := pre_split hp
  cases r with
  | nil => revert hs; decide
  | cons c r =>
    have : ([46, 119, 111, 114, 100] ++ c :: r).take (([46, 119, 111, 114, 100] ++ c :: r).length - 1) = 46 :: ([119, 111, 114, 100] ++ c :: r).take (4 + r.length) := by
      rw [show (([46, 119, 111, 114, 100] : List UInt8) ++ c :: r).length - 1 = (4 + r.length) + 1 by simp; omega]
      rfl
    rw [this]
    exact nm_no 46 _ (by decide)
theorem add_l0 {l : List UInt8} (hk : lkOf l = 108) (hn : isNm (l.take (l.length - 1)) = false) (j : Int) (ps : List Pt) (g : Lbs) : addP j l ps g = .error 0 := by
  have hs := lk_108 hk
  unfold addP
  by_cases hp : Lib.hasPrefix l [46, 119, 111, 114, 100] = true
  · rw [if_pos hp, word_suf hs]
  · rw [if_neg hp, if_pos hs, trim_take hs, if_neg (by rw [hn]; decide)]
theorem add_l1 {l : List UInt8} (hk : lkOf l = 108) (hn : isNm (l.take (l.length - 1)) = true) (j : Int) (ps : List Pt) (g : Lbs) :
    addP j l ps g = if (g (l.take (l.length - 1))).isSome then .error 6 else .ok (ps, lPut g (l.take (l.length - 1)) ps.length) := by
  have hs := lk_108 hk
  unfold addP
  by_cases hp : Lib.hasPrefix l [46, 119, 111, 114, 100] = true
  · have := dot_no hs hp; rw [hn] at this; cases this
  · rw [if_neg hp, if_pos hs, trim_take hs, if_pos hn]
theorem add_w0 {l : List UInt8} (hk : lkOf l = 119) (hn : wordS l = none) (j : Int) (ps : List Pt) (g : Lbs) : addP j l ps g = .error 0 := by
  unfold addP; rw [if_pos (lk_119 hk), hn]
theorem add_w1 {l : List UInt8} {n : Int} (hk : lkOf l = 119) (hn : wordS l = some n) (j : Int) (ps : List Pt) (g : Lbs) : addP j l ps g = .ok (ps ++ [⟨j, n, 0, ⟨0, 0, 0, 0⟩, []⟩], g) := by
  unfold addP; rw [if_pos (lk_119 hk), hn]
theorem add_i {l : List UInt8} (hk : lkOf l = 105) (j : Int) (ps : List Pt) (g : Lbs) : addP j l ps g = (match parseS (cutT l) with
    | .name => .error 4
    | .text => .error 0
    | .bound => .error 1
    | .ok k f => .ok (ps ++ [⟨j, 0, k, f, cutN l⟩], g)) := by
  obtain ⟨h1, h2⟩ := lk_105 hk
  unfold addP
  rw [if_neg (by rw [h2]; decide), if_neg (by rw [h1]; decide)]
  cases parseS (cutT l) <;> rfl
/-! ### what a form that is read to its end looks like -/
theorem pgo_lit {c : UInt8} {cs r : List UInt8} {a : Option F} {x : List UInt8 × Option F} (hc : numB c = false) (h : pgo (c :: cs) r a = some x) : ∃ r' a', r = c :: r' ∧ pgo cs r' a' = some x := by
  unfold pgo readL at h
  rw [hc] at h
  cases r with
  | nil => simp [strip] at h
  | cons y r =>
    by_cases e : y = c
    · subst e
      simp [strip] at h
      exact ⟨r, _, rfl, h⟩
    · simp [strip, e] at h
theorem pgo_reg {c : UInt8} {cs r : List UInt8} {a : Option F} {x : List UInt8 × Option F} (hc : regB c = true) (h : pgo (c :: cs) r a = some x) : ∃ ds r' a', r = ds ++ r' ∧ (∀ y ∈ ds, isDig y = true) ∧ pgo cs r' a' = some x := by
  rw [pgo_num c (by unfold numB; rw [hc]; rfl), if_pos hc] at h
  cases hr : readReg r with
  | none => rw [hr] at h; cases h
  | some y =>
    obtain ⟨n, r1⟩ := y
    rw [hr] at h
    unfold readReg at hr
    cases hp : pnum (r.takeWhile isDig) with
    | none => rw [hp] at hr; cases hr
    | some m =>
      rw [hp] at hr
      simp at hr
      refine ⟨r.takeWhile isDig, r1, _, ?_, mem_take isDig r, h⟩
      rw [← hr.2]; exact List.takeWhile_append_dropWhile.symm
theorem pgo_mark {c : UInt8} {cs r : List UInt8} {a : Option F} {x : List UInt8 × Option F} (hn : numB c = true) (hc : regB c = false) (h : pgo (c :: cs) r a = some x) : ∃ ds r' a', r = ds ++ r' ∧ (∀ y ∈ ds, isMark y = true) ∧ pgo cs r' a' = some x := by
  rw [pgo_num c hn, if_neg (by rw [hc]; decide)] at h
  cases hr : readNum r with
  | none => rw [hr] at h; cases h
  | some y =>
    obtain ⟨n, r1⟩ := y
    rw [hr] at h
    unfold readNum at hr
    cases hp : pnum (r.takeWhile isMark) with
    | none => rw [hp] at hr; cases hr
    | some m =>
      rw [hp] at hr
      simp at hr
      refine ⟨r.takeWhile isMark, r1, _, ?_, mem_take isMark r, h⟩
      rw [← hr.2]; exact List.takeWhile_append_dropWhile.symm
theorem pgo_nil {r : List UInt8} {a b : Option F} (h : pgo [] r a = some ([], b)) : r = [] := by
  unfold pgo at h; injection h with h; injection h
theorem dig_no32 {ds : List UInt8} (h : ∀ y ∈ ds, isDig y = true) : (32 : UInt8) ∉ ds := fun hm => by have := h _ hm; revert this; decide
theorem mark_no32 {ds : List UInt8} (h : ∀ y ∈ ds, isMark y = true) : (32 : UInt8) ∉ ds := fun hm => by have := h _ hm; revert this; decide
/-- its last blank, and what is behind it: a register, or a number; ahead of it a comma, or nothing -/
inductive Tl (k : Nat) (r : List UInt8) : Prop
  | reg (X ds : List UInt8) (h : k = 7 ∨ k = 8) (e : r = X ++ 32 :: 36 :: ds) (hd : (32 : UInt8) ∉ ds)
  | one (ds : List UInt8) (h : k = 29 ∨ k = 30) (e : r = 32 :: ds) (hd : ∀ y ∈ ds, isMark y = true)
  | more (X ds : List UInt8) (h : k = 31 ∨ k = 32 ∨ k = 33 ∨ k = 34) (e : r = 32 :: X ++ 44 :: 32 :: ds) (hd : ∀ y ∈ ds, isMark y = true)
theorem form_tl {k : Nat} (hk : k = 7 ∨ k = 8 ∨ k = 29 ∨ k = 30 ∨ k = 31 ∨ k = 32 ∨ k = 33 ∨ k = 34) {r : List UInt8} {a b : Option F} (h : pgo (form k) r a = some ([], b)) : Tl k r := by
  have h7 : form 7 = [32, 36, 83] := by decide
  have h8 : form 8 = [32, 36, 68, 44, 32, 36, 83] := by decide
  have h29 : form 29 = [32, 106] := by decide
  have h30 : form 30 = [32, 106] := by decide
  have h31 : form 31 = [32, 36, 83, 44, 32, 36, 84, 44, 32, 105] := by decide
  have h32 : form 32 = [32, 36, 83, 44, 32, 36, 84, 44, 32, 105] := by decide
  have h33 : form 33 = [32, 36, 83, 44, 32, 105] := by decide
  have h34 : form 34 = [32, 36, 83, 44, 32, 105] := by decide
  rcases hk with rfl | rfl | hk | hk | hk | hk | hk | hk
  · rw [h7] at h
    obtain ⟨r1, a1, e1, q1⟩ := pgo_lit (by decide) h
    subst e1
    obtain ⟨r2, a2, e2, q2⟩ := pgo_lit (by decide) q1
    subst e2
    obtain ⟨ds, r3, a3, e3, hd, q3⟩ := pgo_reg (by decide) q2
    subst e3
    have eN := pgo_nil q3
    subst eN
    exact .reg [] ds (Or.inl rfl) (by simp) (dig_no32 hd)
  · rw [h8] at h
    obtain ⟨r1, a1, e1, q1⟩ := pgo_lit (by decide) h
    subst e1
    obtain ⟨r2, a2, e2, q2⟩ := pgo_lit (by decide) q1
    subst e2
    obtain ⟨d1, r3, a3, e3, hd1, q3⟩ := pgo_reg (by decide) q2
    subst e3
    obtain ⟨r4, a4, e4, q4⟩ := pgo_lit (by decide) q3
    subst e4
    obtain ⟨r5, a5, e5, q5⟩ := pgo_lit (by decide) q4
    subst e5
    obtain ⟨r6, a6, e6, q6⟩ := pgo_lit (by decide) q5
    subst e6
    obtain ⟨ds, r7, a7, e7, hd, q7⟩ := pgo_reg (by decide) q6
    subst e7
    have eN := pgo_nil q7
    subst eN
    exact .reg (32 :: 36 :: d1 ++ [44]) ds (Or.inr rfl) (by simp) (dig_no32 hd)
  · have hf : form k = [32, 106] := by rw [hk]; exact h29
    rw [hf] at h
    obtain ⟨r1, a1, e1, q1⟩ := pgo_lit (by decide) h
    subst e1
    obtain ⟨ds, r2, a2, e2, hd, q2⟩ := pgo_mark (by decide) (by decide) q1
    subst e2
    have eN := pgo_nil q2
    subst eN
    exact .one ds (Or.inl hk) (by simp) hd
  · have hf : form k = [32, 106] := by rw [hk]; exact h30
    rw [hf] at h
    obtain ⟨r1, a1, e1, q1⟩ := pgo_lit (by decide) h
    subst e1
    obtain ⟨ds, r2, a2, e2, hd, q2⟩ := pgo_mark (by decide) (by decide) q1
    subst e2
    have eN := pgo_nil q2
    subst eN
    exact .one ds (Or.inr hk) (by simp) hd
  · have hf : form k = [32, 36, 83, 44, 32, 36, 84, 44, 32, 105] := by rw [hk]; exact h31
    rw [hf] at h
    obtain ⟨r1, a1, e1, q1⟩ := pgo_lit (by decide) h
    subst e1
    obtain ⟨r2, a2, e2, q2⟩ := pgo_lit (by decide) q1
    subst e2
    obtain ⟨d1, r3, a3, e3, hd1, q3⟩ := pgo_reg (by decide) q2
    subst e3
    obtain ⟨r4, a4, e4, q4⟩ := pgo_lit (by decide) q3
    subst e4
    obtain ⟨r5, a5, e5, q5⟩ := pgo_lit (by decide) q4
    subst e5
    obtain ⟨r6, a6, e6, q6⟩ := pgo_lit (by decide) q5
    subst e6
    obtain ⟨d2, r7, a7, e7, hd2, q7⟩ := pgo_reg (by decide) q6
    subst e7
    obtain ⟨r8, a8, e8, q8⟩ := pgo_lit (by decide) q7
    subst e8
    obtain ⟨r9, a9, e9, q9⟩ := pgo_lit (by decide) q8
    subst e9
    obtain ⟨ds, rA, aA, e10, hd, q10⟩ := pgo_mark (by decide) (by decide) q9
    subst e10
    have eN := pgo_nil q10
    subst eN
    exact .more (36 :: d1 ++ 44 :: 32 :: 36 :: d2) ds (Or.inl hk) (by simp) hd
  · have hf : form k = [32, 36, 83, 44, 32, 36, 84, 44, 32, 105] := by rw [hk]; exact h32
    rw [hf] at h
    obtain ⟨r1, a1, e1, q1⟩ := pgo_lit (by decide) h
    subst e1
    obtain ⟨r2, a2, e2, q2⟩ := pgo_lit (by decide) q1
    subst e2
    obtain ⟨d1, r3, a3, e3, hd1, q3⟩ := pgo_reg (by decide) q2
    subst e3
    obtain ⟨r4, a4, e4, q4⟩ := pgo_lit (by decide) q3
    subst e4
    obtain ⟨r5, a5, e5, q5⟩ := pgo_lit (by decide) q4
    subst e5
    obtain ⟨r6, a6, e6, q6⟩ := pgo_lit (by decide) q5
    subst e6
    obtain ⟨d2, r7, a7, e7, hd2, q7⟩ := pgo_reg (by decide) q6
    subst e7
    obtain ⟨r8, a8, e8, q8⟩ := pgo_lit (by decide) q7
    subst e8
    obtain ⟨r9, a9, e9, q9⟩ := pgo_lit (by decide) q8
    subst e9
    obtain ⟨ds, rA, aA, e10, hd, q10⟩ := pgo_mark (by decide) (by decide) q9
    subst e10
    have eN := pgo_nil q10
    subst eN
    exact .more (36 :: d1 ++ 44 :: 32 :: 36 :: d2) ds (Or.inr (Or.inl hk)) (by simp) hd
  · have hf : form k = [32, 36, 83, 44, 32, 105] := by rw [hk]; exact h33
    rw [hf] at h
    obtain ⟨r1, a1, e1, q1⟩ := pgo_lit (by decide) h
    subst e1
    obtain ⟨r2, a2, e2, q2⟩ := pgo_lit (by decide) q1
    subst e2
    obtain ⟨d1, r3, a3, e3, hd1, q3⟩ := pgo_reg (by decide) q2
    subst e3
    obtain ⟨r4, a4, e4, q4⟩ := pgo_lit (by decide) q3
    subst e4
    obtain ⟨r5, a5, e5, q5⟩ := pgo_lit (by decide) q4
    subst e5
    obtain ⟨ds, r6, a6, e6, hd, q6⟩ := pgo_mark (by decide) (by decide) q5
    subst e6
    have eN := pgo_nil q6
    subst eN
    exact .more (36 :: d1) ds (Or.inr (Or.inr (Or.inl hk))) (by simp) hd
  · have hf : form k = [32, 36, 83, 44, 32, 105] := by rw [hk]; exact h34
    rw [hf] at h
    obtain ⟨r1, a1, e1, q1⟩ := pgo_lit (by decide) h
    subst e1
    obtain ⟨r2, a2, e2, q2⟩ := pgo_lit (by decide) q1
    subst e2
    obtain ⟨d1, r3, a3, e3, hd1, q3⟩ := pgo_reg (by decide) q2
    subst e3
    obtain ⟨r4, a4, e4, q4⟩ := pgo_lit (by decide) q3
    subst e4
    obtain ⟨r5, a5, e5, q5⟩ := pgo_lit (by decide) q4
    subst e5
    obtain ⟨ds, r6, a6, e6, hd, q6⟩ := pgo_mark (by decide) (by decide) q5
    subst e6
    have eN := pgo_nil q6
    subst eN
    exact .more (36 :: d1) ds (Or.inr (Or.inr (Or.inr hk))) (by simp) hd
theorem nm_marks {ds : List UInt8} (h : ∀ y ∈ ds, isMark y = true) : isNm ds = false := by
  cases ds with
  | nil => decide
  | cons c t => exact nm_no c t (mark_let (h c (by simp)))
theorem nm_no32 {l : List UInt8} (h : isNm l = true) : (32 : UInt8) ∉ l := fun hm => by
  unfold isNm at h
  simp only [Bool.and_eq_true] at h
  have := List.all_eq_true.1 h.2 32 hm
  revert this; decide
end Go.Proofs.YtccnliihdhnckaaGreatDoor
/-
  A branch's label: where the document finds it, and where the program does.
-/
namespace Go.Proofs.YtccnliihdhnckaaGreatDoor
open Go.RowKit Go.Shelf Go.Joins
open Num Tab Fm Txt
set_option linter.unusedVariables false
theorem bj_br : ∀ k, k < 54 → bjB k = true → isBr k = true ∧ (29 ≤ k ∧ k ≤ 34) := by decide
theorem bj_all : ∀ k, k < 54 → (29 ≤ k ∧ k ≤ 34) → bjB k = true := by decide
theorem bj_j : ∀ k, k < 54 → (29 ≤ k ∧ k ≤ 34) → hasB (flds k) 106 = decide (k = 29 ∨ k = 30) := by decide
theorem m2_get {l : List UInt8} {i : Nat} (h : (l.drop i).take 2 = [44, 32]) : l[i]? = some 44 ∧ l[i + 1]? = some 32 := by
  have h0 := congrArg (fun x => x[0]?) h
  have h1 := congrArg (fun x => x[1]?) h
  simp [List.getElem?_drop] at h0 h1
  exact ⟨h0, h1⟩
theorem m2_of {X T : List UInt8} : ((X ++ 44 :: 32 :: T).drop X.length).take 2 = [44, 32] := by
  rw [List.drop_left' rfl]; rfl
theorem atUp_none (l : List UInt8) (k : Nat) : ∀ m, (∀ i, k + 1 ≤ i → i < k + 1 + m → (l.drop i).take 2 ≠ [44, 32]) → atUp l k m = k + 1
  | 0, _ => rfl
  | m + 1, h => by
    unfold atUp
    rw [if_neg (h _ (by omega) (by omega))]
    exact atUp_none l k m (fun i h1 h2 => h i h1 (by omega))
theorem atUp_last (l : List UInt8) (k i0 : Nat) (h0 : k + 1 ≤ i0) (hm : (l.drop i0).take 2 = [44, 32]) : ∀ m, i0 < k + 1 + m → (∀ i, i0 < i → i < k + 1 + m → (l.drop i).take 2 ≠ [44, 32]) → atUp l k m = i0 + 2
  | 0, h, _ => by omega
  | m + 1, h, hn => by
    unfold atUp
    by_cases e : k + 1 + m = i0
    · rw [e, if_pos hm]
    · rw [if_neg (hn _ (by omega) (by omega))]
      exact atUp_last l k i0 h0 hm m (by omega) (fun i h1 h2 => hn i h1 (by omega))
theorem atUp_is (l : List UInt8) (k : Nat) : ∀ m, atUp l k m = k + 1 ∨ ∃ i, (l.drop i).take 2 = [44, 32] ∧ atUp l k m = i + 2
  | 0 => Or.inl rfl
  | m + 1 => by
    unfold atUp
    split
    · rename_i h
      exact Or.inr ⟨_, h, rfl⟩
    · exact atUp_is l k m
theorem split_last : ∀ l : List UInt8, l.any (· == 32) = true → ∃ X B, l = X ++ 32 :: B ∧ (32 : UInt8) ∉ B
  | [], h => by simp at h
  | c :: l, h => by
    by_cases g : l.any (· == 32) = true
    · obtain ⟨X, B, e, hB⟩ := split_last l g
      exact ⟨c :: X, B, by rw [e]; rfl, hB⟩
    · have hc : c = 32 := by
        simp only [List.any_cons, Bool.or_eq_true] at h
        rcases h with h | h
        · simpa using h
        · exact absurd h g
      refine ⟨[], l, by rw [hc]; rfl, fun hm => g ?_⟩
      exact List.any_eq_true.2 ⟨32, hm, by simp⟩
theorem last_uniq {A B C D : List UInt8} (e : A ++ 32 :: B = C ++ 32 :: D) (hB : (32 : UInt8) ∉ B) (hD : (32 : UInt8) ∉ D) : A = C ∧ B = D := by
  have h1 := lsi_at A B hB
  have h2 := lsi_at C D hD
  rw [e, h2] at h1
  obtain ⟨a, b⟩ := List.append_inj e (by omega)
  injection b with _ b
  exact ⟨a, b⟩
theorem tw_blank (X B : List UInt8) : (X ++ 32 :: B).takeWhile isWord = X.takeWhile isWord ∧ (X ++ 32 :: B).dropWhile isWord = X.dropWhile isWord ++ 32 :: B := by
  induction X with
  | nil => exact ⟨by simp [isWord], by simp [isWord]⟩
  | cons c X ih =>
    by_cases h : isWord c = true
    · simp only [List.cons_append, List.takeWhile_cons, List.dropWhile_cons, h, if_true]
      exact ⟨by rw [ih.1], ih.2⟩
    · simp only [List.cons_append, List.takeWhile_cons, List.dropWhile_cons, h]
      exact ⟨rfl, rfl⟩
theorem wl_lt {X B : List UInt8} : wl (X ++ 32 :: B) ≤ X.length ∧ (X ++ 32 :: B)[wl (X ++ 32 :: B)]? = some 32 := by
  unfold wl
  rw [(tw_blank X B).1]
  induction X with
  | nil => exact ⟨Nat.le_refl _, by simp⟩
  | cons c X ih =>
    by_cases h : isWord c = true
    · simp only [List.takeWhile_cons, h, if_true, List.length_cons, List.cons_append, List.getElem?_cons_succ]
      exact ⟨by omega, ih.2⟩
    · have hc : c = 32 := by unfold isWord at h; simpa using h
      subst hc
      simp [isWord]
theorem wl_all {l : List UInt8} (h : wl l ≠ l.length) : l.any (· == 32) = true := by
  cases hb : l.any (· == 32) with
  | true => rfl
  | false =>
    refine absurd ?_ h
    unfold wl
    have : l.takeWhile isWord = l := by
      have hh : ∀ c ∈ l, isWord c = true := fun c hc => by
        unfold isWord
        rw [Bool.not_eq_true', Bool.eq_false_iff]
        intro e
        have := List.any_eq_false.1 hb c hc
        exact this e
      have := (take_all isWord l [] hh (fun c hc => by simp at hc)).1
      simpa using this
    rw [this]
theorem lab_pos {l : List UInt8} (h : 0 ≤ labOf l) : bjB (opOf (l.takeWhile isWord)) = true ∧ cutOk l = true ∧ labOf l = (lsi l : Int) := by
  unfold labOf at h ⊢
  by_cases hw : wl l = l.length
  · rw [if_pos hw] at h; omega
  rw [if_neg hw] at h ⊢
  by_cases hc0 : ¬ (bjB (opOf (l.takeWhile isWord)) && isNm (l.drop (laAt l))) = true
  · rw [if_neg hc0] at h; omega
  have hc : (bjB (opOf (l.takeWhile isWord)) && isNm (l.drop (laAt l))) = true := by simpa using hc0
  rw [if_pos hc]
  simp only [Bool.and_eq_true] at hc
  obtain ⟨hb, hn⟩ := hc
  obtain ⟨X, B, e, hB⟩ := split_last l (wl_all hw)
  have hwl : wl l < l.length := by
    have := wl_lt (X := X) (B := B)
    rw [← e] at this
    have h2 := congrArg List.length e
    simp at h2; omega
  have hle := atUp_le l (wl l) hwl (l.length - (wl l + 2)) (Nat.le_refl _)
  have hat : 1 ≤ laAt l ∧ laAt l ≤ l.length := ⟨by have : wl l + 1 ≤ laAt l := hle.1; omega, hle.2⟩
  have h32 : l[laAt l - 1]? = some 32 := by
    rcases atUp_is l (wl l) (l.length - (wl l + 2)) with g | ⟨i, g, g2⟩
    · have : laAt l = wl l + 1 := g
      rw [this, Nat.add_sub_cancel]
      have := (wl_lt (X := X) (B := B)).2
      rw [← e] at this; exact this
    · have : laAt l = i + 2 := g2
      rw [this]
      exact (m2_get g).2
  have hd : l = l.take (laAt l - 1) ++ 32 :: l.drop (laAt l) := by
    have h1 : laAt l - 1 < l.length := by omega
    have h2 : l.drop (laAt l - 1) = 32 :: l.drop (laAt l) := by
      rw [List.drop_eq_getElem_cons h1, show laAt l - 1 + 1 = laAt l by omega]
      rw [List.getElem?_eq_getElem h1] at h32
      injection h32 with h32; rw [h32]
    rw [← h2]; exact (List.take_append_drop _ l).symm
  have hlsi : lsi l = laAt l := by
    have := lsi_at (l.take (laAt l - 1)) (l.drop (laAt l)) (nm_no32 hn)
    rw [← hd] at this
    rw [this]; simp; omega
  refine ⟨hb, ?_, by rw [hlsi]⟩
  unfold cutOk
  rw [wl_all hw, (bj_br _ (opOf_lt _) hb).1, hlsi, hn]; rfl
theorem no_more {X T : List UInt8} (hT : (32 : UInt8) ∉ T) {i : Nat} (hi : X.length < i + 1) : ((X ++ 32 :: T).drop i).take 2 ≠ [44, 32] := fun h => by
  have := (m2_get h).2
  rw [List.getElem?_append_right (by omega)] at this
  obtain ⟨d, hd⟩ : ∃ d, i + 1 - X.length = d + 1 := ⟨i - X.length, by omega⟩
  rw [hd, List.getElem?_cons_succ] at this
  exact hT (List.mem_of_getElem? this)
theorem finTx {k : Nat} {x : Option (List UInt8 × Option F)} (h : ∀ b, x ≠ some ([], b)) : fin k x = .text := by
  cases x with
  | none => rfl
  | some y =>
    obtain ⟨r, b⟩ := y
    cases r with
    | nil => exact absurd rfl (h b)
    | cons c r => rfl
theorem no36 {ds : List UInt8} (h : (32 : UInt8) ∉ ds) : (32 : UInt8) ∉ 36 :: ds := fun hm => by
  rcases List.mem_cons.1 hm with g | g
  · exact absurd g (by decide)
  · exact h g
theorem lab_neg {l : List UInt8} (h : labOf l < 0) (hc : cutOk l = true) : parseS l = .text ∧ parseS (cutT l) = .text := by
  have hc' := hc
  unfold cutOk at hc
  simp only [Bool.and_eq_true] at hc
  obtain ⟨⟨ha, hb⟩, hn⟩ := hc
  obtain ⟨X, B, e, hB⟩ := split_last l ha
  have hlsi : lsi l = X.length + 1 := by rw [e]; exact lsi_at X B hB
  have hdB : l.drop (lsi l) = B := by rw [hlsi, e]; simp [List.drop_append]
  have htk : l.take (lsi l) = X ++ [32] := by rw [hlsi, e]; simp [List.take_append]; exact List.take_of_length_le (by omega)
  rw [hdB] at hn
  have hcT : cutT l = X ++ 32 :: [48] := by unfold cutT; rw [hc', if_pos rfl, htk]; simp
  have hk := br_form _ (opOf_lt _) hb
  have hnm : l.takeWhile isWord = X.takeWhile isWord := by rw [e]; exact (tw_blank X B).1
  have hr : l.dropWhile isWord = X.dropWhile isWord ++ 32 :: B := by rw [e]; exact (tw_blank X B).2
  have hk0 : ¬ opOf (X.takeWhile isWord) = 0 := by rw [hnm] at hk; omega
  rw [hnm] at hk hb
  constructor
  · unfold parseS
    rw [hnm, if_neg hk0, hr]
    refine finTx (fun b hp => ?_)
    cases form_tl hk hp with
    | reg X' ds _ e' hd =>
      obtain ⟨_, h2⟩ := last_uniq e' hB (no36 hd)
      rw [h2, nm_no 36 ds (by decide)] at hn; cases hn
    | one ds _ e' hd =>
      obtain ⟨_, h2⟩ := last_uniq (A := X.dropWhile isWord) (B := B) (C := []) (D := ds) e' hB (mark_no32 hd)
      rw [h2, nm_marks hd] at hn; cases hn
    | more X' ds _ e' hd =>
      obtain ⟨_, h2⟩ := last_uniq (A := X.dropWhile isWord) (B := B) (C := 32 :: X' ++ [44]) (D := ds) (by rw [e']; simp) hB (mark_no32 hd)
      rw [h2, nm_marks hd] at hn; cases hn
  · rw [hcT]
    unfold parseS
    rw [(tw_blank X [48]).1, (tw_blank X [48]).2, if_neg hk0]
    refine finTx (fun b hp => ?_)
    have key : (29 ≤ opOf (X.takeWhile isWord) ∧ opOf (X.takeWhile isWord) ≤ 34) → laAt l = X.length + 1 → False := fun h1 h2 => by
      have hwl : wl l ≠ l.length := by
        have := (wl_lt (X := X) (B := B)).1
        rw [← e] at this
        have h3 := congrArg List.length e
        simp at h3; omega
      have : labOf l = (laAt l : Int) := by
        unfold labOf
        rw [if_neg hwl, hnm, bj_all _ (opOf_lt _) h1, h2, ← hlsi, hdB, hn]; rfl
      omega
    cases form_tl hk hp with
    | reg X' ds _ e' hd =>
      obtain ⟨_, h2⟩ := last_uniq e' (by decide) (no36 hd)
      injection h2 with h2 _; exact absurd h2 (by decide)
    | one ds hk' e' hd =>
      obtain ⟨h1, _⟩ := last_uniq (A := X.dropWhile isWord) (B := [48]) (C := []) (D := ds) e' (by decide) (mark_no32 hd)
      have hX : X.takeWhile isWord = X := by
        have := List.takeWhile_append_dropWhile (p := isWord) (l := X)
        rw [h1, List.append_nil] at this; exact this
      have hw : wl l = X.length := by unfold wl; rw [hnm, hX]
      refine key (by omega) ?_
      unfold laAt
      rw [hw]
      exact atUp_none l X.length _ (fun i h3 _ => by rw [e]; exact no_more hB (by omega))
    | more X' ds hk' e' hd =>
      obtain ⟨h1, _⟩ := last_uniq (A := X.dropWhile isWord) (B := [48]) (C := 32 :: X' ++ [44]) (D := ds) (by rw [e']; simp) (by decide) (mark_no32 hd)
      have hX : X = (X.takeWhile isWord ++ 32 :: X') ++ [44] := by
        have h8 : X.takeWhile isWord ++ X.dropWhile isWord = X := List.takeWhile_append_dropWhile
        have h9 : X.takeWhile isWord ++ (32 :: X' ++ [44]) = X := (congrArg (X.takeWhile isWord ++ ·) h1.symm).trans h8
        exact h9.symm.trans (by simp)
      have hw : wl l = (X.takeWhile isWord).length := by unfold wl; rw [hnm]
      have hlen := congrArg List.length hX
      simp at hlen
      have hll := congrArg List.length e
      simp at hll
      refine key (by omega) ?_
      unfold laAt
      have h2 := atUp_last l (wl l) (X.length - 1) (by rw [hw]; omega) (by
        have h9 : l = (X.takeWhile isWord ++ 32 :: X') ++ 44 :: 32 :: B := by
          have h8 : X ++ 32 :: B = ((X.takeWhile isWord ++ 32 :: X') ++ [44]) ++ 32 :: B := congrArg (· ++ 32 :: B) hX
          rw [e, h8]; simp
        have h10 : X.length - 1 = (X.takeWhile isWord ++ 32 :: X').length := by simp; omega
        rw [h9, h10]
        exact m2_of) (l.length - (wl l + 2)) (by rw [hw]; omega) (fun i h3 _ => by rw [e]; exact no_more hB (by omega))
      rw [h2]; omega
/-- what the document takes for a line's label and text, and the program's -/
theorem lab_cases (l : List UInt8) : (0 ≤ labOf l ∧ labOf l = (lsi l : Int) ∧ cutOk l = true ∧ bjB (opOf (l.takeWhile isWord)) = true) ∨ (labOf l = -1 ∧ cutOk l = false) ∨ (labOf l = -1 ∧ cutOk l = true ∧ parseS l = .text ∧ parseS (cutT l) = .text) := by
  by_cases h : 0 ≤ labOf l
  · obtain ⟨h1, h2, h3⟩ := lab_pos h
    exact Or.inl ⟨h, h3, h2, h1⟩
  · have hm : labOf l = -1 := by
      unfold labOf at h ⊢
      split
      · rfl
      · rename_i hw
        rw [if_neg hw] at h
        split
        · rename_i hc
          rw [if_pos hc] at h; omega
        · rfl
    cases hc : cutOk l with
    | false => exact Or.inr (Or.inl ⟨hm, rfl⟩)
    | true =>
      obtain ⟨h1, h2⟩ := lab_neg (by omega) hc
      exact Or.inr (Or.inr ⟨hm, rfl, h1, h2⟩)
/-- the text that the document reads -/
def txOf (l : List UInt8) : List UInt8 := if 0 ≤ labOf l then l.take (labOf l).toNat ++ [48] else l
theorem tx_parse (l : List UInt8) : parseS (txOf l) = parseS (cutT l) := by
  unfold txOf
  rcases lab_cases l with ⟨h, e, hc, _⟩ | ⟨h, hc⟩ | ⟨h, hc, p1, p2⟩
  · rw [if_pos h, e]
    unfold cutT
    rw [if_pos hc]; simp
  · rw [if_neg (by omega)]
    unfold cutT; rw [hc, if_neg (by decide)]
  · rw [if_neg (by omega), p1, p2]
theorem tx_name {l : List UInt8} {k : Nat} {f : F} (h : parseS (cutT l) = .ok k f) : (0 ≤ labOf l ∧ labOf l ≤ l.length ∧ cutN l = l.drop (labOf l).toNat ∧ cutN l ≠ [] ∧ 29 ≤ k ∧ k ≤ 34) ∨ (labOf l = -1 ∧ cutN l = []) := by
  rcases lab_cases l with ⟨h0, e, hc, hb⟩ | ⟨h0, hc⟩ | ⟨h0, hc, p1, p2⟩
  · refine Or.inl ⟨h0, ?_, ?_, ?_, ?_⟩
    · rw [e]; have := (lsi_eq l).2; omega
    · unfold cutN; rw [if_pos hc, e]; rfl
    · unfold cutN
      rw [if_pos hc]
      intro h1
      unfold cutOk at hc
      rw [h1] at hc
      simp [isNm] at hc
    · have hk : k = opOf ((cutT l).takeWhile isWord) := by
        unfold parseS at h
        split at h
        · cases h
        · revert h
          generalize pgo _ _ _ = x
          intro h
          cases x with
          | none => cases h
          | some y =>
            obtain ⟨r, b⟩ := y
            cases r with
            | cons c r => cases h
            | nil =>
              cases b with
              | none => cases h
              | some f' => injection h with h1 _; exact h1.symm
      obtain ⟨X, B, e2, hB⟩ := split_last l (by unfold cutOk at hc; simp only [Bool.and_eq_true] at hc; exact hc.1.1)
      have hlsi : lsi l = X.length + 1 := by rw [e2]; exact lsi_at X B hB
      have hcT : cutT l = X ++ 32 :: [48] := by unfold cutT; rw [hc, if_pos rfl, hlsi, e2]; simp [List.take_append]; exact List.take_of_length_le (by omega)
      rw [hcT, (tw_blank X [48]).1] at hk
      have hnm : l.takeWhile isWord = X.takeWhile isWord := by rw [e2]; exact (tw_blank X B).1
      rw [hnm] at hb
      have := (bj_br _ (opOf_lt _) hb).2
      rw [← hk] at this; exact this
  · exact Or.inr ⟨h0, by unfold cutN; rw [hc, if_neg (by decide)]⟩
  · rw [p2] at h; cases h
end Go.Proofs.YtccnliihdhnckaaGreatDoor
