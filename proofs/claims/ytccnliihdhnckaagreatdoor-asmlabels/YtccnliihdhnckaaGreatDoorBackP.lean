/-
  Words written as text are assembled again: the lines of AsmBack, as lists.
-/
import Derived.Test.YtccnliihdhnckaaGreatDoorAsmP
import Derived.Test.YtccnliihdhnckaaGreatDoorDecode
namespace Go.Proofs.YtccnliihdhnckaaGreatDoor
open Go.RowKit Go.Shelf Go.Joins Go.Maps
open Num Tab Fm Txt
set_option linter.unusedVariables false
theorem itoa_no (n : Int) (c : UInt8) (h : isMark c = false) : c ∉ Lib.itoa n := fun hc => by
  have := mark_itoa n c hc; rw [h] at this; cases this
theorem flat_no (f : F) (c : UInt8) (h : isMark c = false) : ∀ l : List UInt8, c ∉ l → c ∉ l.flatMap (rend f)
  | [], _ => by simp
  | x :: l, hn => by
    rw [List.flatMap_cons, List.mem_append]
    rintro (hx | hx)
    · unfold rend at hx
      split at hx
      · exact itoa_no _ c h hx
      · simp at hx; exact hn (by simp [hx])
    · exact flat_no f c h l (fun hl => hn (by simp [hl])) hx
theorem no_tab : ∀ k, k < 54 → ((58 : UInt8) ∉ nme k ∧ (58 : UInt8) ∉ form k) ∧ ((46 : UInt8) ∉ nme k ∧ (46 : UInt8) ∉ form k) := by decide
theorem text_no58 (k : Nat) (hk : k < 54) (f : F) : (58 : UInt8) ∉ ptext k f := by
  unfold ptext
  rw [List.mem_append]
  rintro (h | h)
  · exact (no_tab k hk).1.1 h
  · exact flat_no f 58 (by decide) _ (no_tab k hk).1.2 h
theorem text_no46 (k : Nat) (hk : k < 54) (f : F) : (46 : UInt8) ∉ ptext k f := by
  unfold ptext
  rw [List.mem_append]
  rintro (h | h)
  · exact (no_tab k hk).2.1 h
  · exact flat_no f 46 (by decide) _ (no_tab k hk).2.2 h
theorem suf_no (l : List UInt8) (h : (58 : UInt8) ∉ l) : Lib.hasSuffix l [58] = false := by
  unfold Lib.hasSuffix
  rw [Bool.eq_false_iff]
  intro hs
  have := List.isSuffixOf_iff_suffix.1 hs
  exact h (this.subset (by simp))
theorem pre_no (l : List UInt8) (h : (46 : UInt8) ∉ l) : Lib.hasPrefix l [46, 119, 111, 114, 100] = false := by
  unfold Lib.hasPrefix
  rw [Bool.eq_false_iff]
  intro hs
  have := List.isPrefixOf_iff_prefix.1 hs
  exact h (this.subset (by simp))
theorem occ32 (l : List UInt8) (i : Nat) : Lib.occAt l [32] i = true ↔ l[i]? = some 32 := by
  unfold Lib.occAt
  rw [List.isPrefixOf_iff_prefix]
  constructor
  · rintro ⟨r, hr⟩
    have h2 : (l.drop i)[0]? = some 32 := by rw [← hr]; rfl
    simpa using h2
  · intro h
    have hlt : i < l.length := (List.getElem?_eq_some_iff.1 h).1
    refine ⟨l.drop (i + 1), ?_⟩
    have h2 := (List.getElem?_eq_some_iff.1 h).2
    rw [List.drop_eq_getElem_cons hlt, h2]
    rfl
theorem lsi_at (X B : List UInt8) (h : (32 : UInt8) ∉ B) : lsi (X ++ 32 :: B) = X.length + 1 := by
  unfold lsi Lib.lastIndex
  rw [if_pos (by simp; omega)]
  have hat : Lib.occAt (X ++ 32 :: B) [32] X.length = true := (occ32 _ _).2 (by simp)
  rcases Lib.lastOcc_spec (X ++ 32 :: B) [32] ((X ++ 32 :: B).length - [(32 : UInt8)].length + 1) with ⟨_, hn⟩ | ⟨i, hi, e, hc, hn⟩
  · rw [hn X.length (by simp; omega)] at hat; cases hat
  · rw [e]
    have h1 : ¬ i < X.length := fun hl => by
      rw [hn X.length hl (by simp; omega)] at hat; cases hat
    have h2 : ¬ X.length < i := fun hl => by
      have := (occ32 _ _).1 hc
      rw [List.getElem?_append_right (by omega)] at this
      obtain ⟨m, hm⟩ : ∃ m, i - X.length = m + 1 := ⟨i - X.length - 1, by omega⟩
      rw [hm, List.getElem?_cons_succ] at this
      exact h (List.mem_of_getElem? this)
    omega
theorem drop_at (X B : List UInt8) (h : (32 : UInt8) ∉ B) : (X ++ 32 :: B).drop (lsi (X ++ 32 :: B)) = B := by
  rw [lsi_at X B h, ← List.drop_drop]
  simp
theorem mark_let {c : UInt8} (h : isMark c = true) : letB c = false := by
  unfold isMark isDig at h
  unfold letB
  simp at h ⊢
  rcases h with h | h
  · omega
  · subst h; decide
theorem nm_no (c : UInt8) (l : List UInt8) (h : letB c = false) : isNm (c :: l) = false := by
  unfold isNm; simp [h]
theorem nm_itoa (n : Int) : isNm (Lib.itoa n) = false := by
  cases h : Lib.itoa n with
  | nil => rfl
  | cons c l => exact nm_no c l (mark_let (mark_itoa n c (by rw [h]; simp)))
theorem br_form : ∀ k, k < 54 → isBr k = true → k = 7 ∨ k = 8 ∨ k = 29 ∨ k = 30 ∨ k = 31 ∨ k = 32 ∨ k = 33 ∨ k = 34 := by decide
theorem cut_text (k : Nat) (h1 : 1 ≤ k) (hk : k < 54) (f : F) : cutOk (ptext k f) = false := by
  unfold cutOk
  rw [(take_word k hk f).1, opOf_nme k h1 hk]
  by_cases hb : isBr k = true
  · have hB : ∃ A B, form k = A ++ 32 :: B ∧ (B = [36, 83] ∨ B = [106] ∨ B = [105]) := by
      rcases br_form k hk hb with rfl | rfl | rfl | rfl | rfl | rfl | rfl | rfl
      · exact ⟨[], _, rfl, by decide⟩
      · exact ⟨[32, 36, 68, 44], _, rfl, by decide⟩
      · exact ⟨[], _, rfl, by decide⟩
      · exact ⟨[], _, rfl, by decide⟩
      · exact ⟨[32, 36, 83, 44, 32, 36, 84, 44], _, rfl, by decide⟩
      · exact ⟨[32, 36, 83, 44, 32, 36, 84, 44], _, rfl, by decide⟩
      · exact ⟨[32, 36, 83, 44], _, rfl, by decide⟩
      · exact ⟨[32, 36, 83, 44], _, rfl, by decide⟩
    obtain ⟨A, B, e, hB⟩ := hB
    have ht : ptext k f = (nme k ++ A.flatMap (rend f)) ++ 32 :: B.flatMap (rend f) := by
      unfold ptext; rw [e, List.flatMap_append, List.flatMap_cons, List.append_assoc]; rfl
    have h32 : (32 : UInt8) ∉ B.flatMap (rend f) := flat_no f 32 (by decide) _ (by rcases hB with rfl | rfl | rfl <;> decide)
    rw [ht, drop_at _ _ h32]
    have : isNm (B.flatMap (rend f)) = false := by
      rcases hB with rfl | rfl | rfl
      · exact nm_no _ _ (by decide)
      · show isNm (Lib.itoa _ ++ []) = false; rw [List.append_nil]; exact nm_itoa _
      · show isNm (Lib.itoa _ ++ []) = false; rw [List.append_nil]; exact nm_itoa _
    rw [this, Bool.and_false]
  · simp [hb]
theorem add_text (at_ : Int) (k : Nat) (h1 : 1 ≤ k) (hk : k < 54) (f : F) (h : okF k f) (ps : List Pt) (g : Lbs) : addP at_ (ptext k f) ps g = .ok (ps ++ [⟨at_, 0, k, f, []⟩], g) := by
  have hc := cut_text k h1 hk f
  unfold addP
  rw [pre_no _ (text_no46 k hk f), suf_no _ (text_no58 k hk f)]
  have ht : cutT (ptext k f) = ptext k f := by unfold cutT; rw [hc]; rfl
  have hn : cutN (ptext k f) = [] := by unfold cutN; rw [hc]; rfl
  rw [ht, hn, parse_text k h1 hk f h]
  simp
/-- '.word ' -/
abbrev wMark : List UInt8 := [46, 119, 111, 114, 100, 32]
theorem add_wordL (at_ : Int) (v : Int) (v0 : 0 ≤ v) (v1 : v < 4294967296) (ps : List Pt) (g : Lbs) : addP at_ (wMark ++ Lib.itoa v) ps g = .ok (ps ++ [⟨at_, v, 0, ⟨0, 0, 0, 0⟩, []⟩], g) := by
  have hp : Lib.hasPrefix (wMark ++ Lib.itoa v) [46, 119, 111, 114, 100] = true := by
    unfold Lib.hasPrefix; rw [List.isPrefixOf_iff_prefix]; exact ⟨32 :: Lib.itoa v, rfl⟩
  have hp2 : Lib.hasPrefix (wMark ++ Lib.itoa v) wMark = true := by
    unfold Lib.hasPrefix; rw [List.isPrefixOf_iff_prefix]; exact ⟨Lib.itoa v, rfl⟩
  have ht : Lib.trimPrefix (wMark ++ Lib.itoa v) wMark = Lib.itoa v := by
    unfold Lib.trimPrefix; rw [if_pos hp2]; rfl
  have hw : wordS (wMark ++ Lib.itoa v) = some v := by
    unfold wordS; rw [ht, (pnum_iff _ v).2 ⟨rfl, by omega⟩]; simp only; rw [if_pos (by omega)]
  unfold addP
  rw [if_pos hp, hw]
abbrev hereL : List UInt8 := [104, 101, 114, 101, 58]
abbrev hereN : List UInt8 := [104, 101, 114, 101]
theorem add_here (at_ : Int) (ps : List Pt) (g : Lbs) (h : g hereN = none) : addP at_ hereL ps g = .ok (ps, lPut g hereN ps.length) := by
  unfold addP
  rw [if_neg (by decide), if_pos (by decide), if_pos (by decide)]
  have e : Lib.trimSuffix hereL [58] = hereN := by decide
  rw [e, h]
  simp
theorem decP_one {v : Int} (v0 : 0 ≤ v) (v1 : v < 4294967296) {k j : Nat} (h : DecP v k) (g : DecP v j) : k = j := by
  rcases h with ⟨a, b, c⟩ | ⟨rfl, hn⟩
  · rcases g with ⟨a', b', c'⟩ | ⟨rfl, hn⟩
    · exact xw_one k j b a b' a' v v0 v1 c c'
    · exact absurd c (hn k a b)
  · rcases g with ⟨a', b', c'⟩ | ⟨rfl, hn'⟩
    · exact absurd c' (hn j a' b')
    · rfl
open Classical in
/-- a word's operation -/
noncomputable def kOf (v : Int) : Nat := if h : ∃ k, DecP v k then h.choose else 0
theorem kOf_eq {v : Int} (v0 : 0 ≤ v) (v1 : v < 4294967296) {k : Nat} (h : DecP v k) : kOf v = k := by
  unfold kOf
  rw [dif_pos ⟨k, h⟩]
  exact decP_one v0 v1 (Exists.choose_spec (⟨k, h⟩ : ∃ k, DecP v k)) h
/-- a word's fields -/
def fOf (v : Int) (k : Nat) : F := ⟨xs (sh k) v, xt (sh k) v, xd (sh k) v, xm (sh k) v⟩
/-- a word as text -/
noncomputable def lnB (v : Int) : List UInt8 := if kOf v = 0 then wMark ++ Lib.itoa v else ptext (kOf v) (fOf v (kOf v))
noncomputable def lsB (at_ : Int) : List Int → Nat → List (List UInt8)
  | [], _ => []
  | v :: vs, i => (if (i : Int) = at_ then [hereL] else []) ++ lnB v :: lsB at_ vs (i + 1)
theorem lsB_snoc (at_ : Int) (v : Int) : ∀ (vs : List Int) (i : Nat), lsB at_ (vs ++ [v]) i = lsB at_ vs i ++ ((if ((i + vs.length : Nat) : Int) = at_ then [hereL] else []) ++ [lnB v])
  | [], i => by simp [lsB]
  | x :: vs, i => by
    rw [List.cons_append, lsB, lsB, lsB_snoc at_ v vs (i + 1)]
    simp only [List.append_assoc, List.cons_append, List.length_cons]
    rw [show i + 1 + vs.length = i + (vs.length + 1) by omega]
theorem lsB_len (at_ : Int) : ∀ (vs : List Int) (i : Nat), (lsB at_ vs i).length ≤ vs.length + (if (i : Int) ≤ at_ ∧ at_ < i + vs.length then 1 else 0)
  | [], i => by simp [lsB]
  | x :: vs, i => by
    rw [lsB]
    have ih := lsB_len at_ vs (i + 1)
    simp only [List.length_append, List.length_cons]
    by_cases h : (i : Int) = at_
    · rw [if_pos h]
      rw [if_neg (by omega)] at ih
      rw [if_pos (by omega)]
      simp; omega
    · rw [if_neg h]
      simp only [List.length_nil]
      split at ih
      · rw [if_pos (by omega)]; omega
      · split <;> omega
def WdB (v : Int) : Prop := 0 ≤ v ∧ v < 4294967296
theorem fin_text (org : Int) (g : Lbs) (n : Nat) (at_ v : Int) (k : Nat) (h1 : 1 ≤ k) (hk : k < 54) (h : WdB v) (e : xw k v = v) : finP org g n ⟨at_, 0, k, fOf v k, []⟩ = .ok v := by
  unfold finP
  rw [if_neg (by show ¬ k = 0; omega), if_pos rfl]
  unfold encP fOf
  rw [if_pos (ok_of (sh k) (sh_all k hk) v h.1 h.2).1]
  exact congrArg Except.ok e
theorem adds_back (at_ : Int) (hdec : ∀ v, WdB v → ∃ k, DecP v k) : ∀ (vs : List Int) (i j : Nat) (ps : List Pt) (g : Lbs), (∀ v ∈ vs, WdB v) → ((i : Int) ≤ at_ → g hereN = none) → ∃ ps' g', addsP (lsB at_ vs i) j ps g = .ok (ps ++ ps', g') ∧ ∀ org g'' n, finsP org g'' ps' n = .ok vs
  | [], i, j, ps, g, hw, hg => ⟨[], g, by simp [lsB, addsP], fun _ _ _ => rfl⟩
  | v :: vs, i, j, ps, g, hw, hg => by
    have hv := hw v (by simp)
    have hws : ∀ x ∈ vs, WdB x := fun x hx => hw x (by simp [hx])
    have step : ∀ (g : Lbs) (j : Nat), (((i + 1 : Nat) : Int) ≤ at_ → g hereN = none) → ∃ ps' g', addsP (lnB v :: lsB at_ vs (i + 1)) j ps g = .ok (ps ++ ps', g') ∧ ∀ org g'' n, finsP org g'' ps' n = .ok (v :: vs) := by
      intro g j hg
      obtain ⟨k, hk⟩ := hdec v hv
      have ek := kOf_eq hv.1 hv.2 hk
      have hone : ∃ p : Pt, addP j (lnB v) ps g = .ok (ps ++ [p], g) ∧ ∀ org g'' n, finP org g'' n p = .ok v := by
        unfold lnB
        rw [ek]
        rcases hk with ⟨k1, k2, e⟩ | ⟨rfl, _⟩
        · rw [if_neg (by omega)]
          exact ⟨_, add_text j k k1 k2 (fOf v k) (ok_of (sh k) (sh_all k k2) v hv.1 hv.2) ps g, fun org g'' n => fin_text org g'' n j v k k1 k2 hv e⟩
        · rw [if_pos rfl]
          exact ⟨_, add_wordL j v hv.1 hv.2 ps g, fun org g'' n => by unfold finP; rw [if_pos rfl]⟩
      obtain ⟨p, hp, hf⟩ := hone
      obtain ⟨ps', g', ha, hfs⟩ := adds_back at_ hdec vs (i + 1) (j + 1) (ps ++ [p]) g hws hg
      refine ⟨p :: ps', g', ?_, fun org g'' n => ?_⟩
      · rw [addsP, hp]; simp only; rw [ha, List.append_assoc]; rfl
      · rw [finsP, hf]; simp only; rw [hfs]
    rw [lsB]
    by_cases h : (i : Int) = at_
    · rw [if_pos h, List.cons_append, List.nil_append]
      obtain ⟨ps', g', ha, hf⟩ := step (lPut g hereN ps.length) (j + 1) (fun h2 => by omega)
      refine ⟨ps', g', ?_, hf⟩
      rw [addsP, add_here j ps g (hg (by omega))]
      exact ha
    · rw [if_neg h, List.nil_append]
      exact step g j (fun h2 => hg (by omega))
theorem asm_back (at_ : Int) (hdec : ∀ v, WdB v → ∃ k, DecP v k) (vs : List Int) (h : ∀ v ∈ vs, WdB v) (org : Int) : asmP (lsB at_ vs 0) org = .ok vs := by
  obtain ⟨ps', g', ha, hf⟩ := adds_back at_ hdec vs 0 0 [] lNone h (fun _ => rfl)
  unfold asmP
  rw [ha]
  exact hf org g' 0
end Go.Proofs.YtccnliihdhnckaaGreatDoor
