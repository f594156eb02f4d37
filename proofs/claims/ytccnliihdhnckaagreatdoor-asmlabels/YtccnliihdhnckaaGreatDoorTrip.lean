/-
  An instruction is read as it was written, and what is read was written so: forms, lists of bytes, no Go in sight.
-/
import Derived.Test.YtccnliihdhnckaaGreatDoorForm
namespace Go.Proofs.YtccnliihdhnckaaGreatDoor.Fm
open Go.Lib Tab Txt
set_option linter.unusedVariables false

def okF (k : Nat) (f : F) : Prop := okB (sh k) f.s f.t f.d f.m = true ∧ 0 ≤ f.m
/-- a number is followed by no number, no digit, no minus -/
def apartB : List UInt8 → Bool
  | [] => true
  | [_] => true
  | c :: x :: cs => (!numB c || (!numB x && !isMark x)) && apartB (x :: cs)
theorem form_apart : ∀ k, k < 54 → apartB (form k) = true := by decide
/-- which field a letter tells -/
def tgt (c : UInt8) : Nat := if c = 83 then 0 else if c = 84 then 1 else if c = 68 then 2 else 3
def onceB : List UInt8 → Bool
  | [] => true
  | c :: cs => (!numB c || cs.all (fun x => !numB x || tgt x != tgt c)) && onceB cs
theorem form_once : ∀ k, k < 54 → onceB (form k) = true := by decide

theorem num_cases {c : UInt8} (h : numB c = true) : c = 83 ∨ c = 84 ∨ c = 68 ∨ c = 97 ∨ c = 105 ∨ c = 117 ∨ c = 106 := by
  unfold numB regB at h
  simp only [Bool.or_eq_true, beq_iff_eq] at h
  rcases h with (((((h | h) | h) | h) | h) | h) | h <;> simp [h]
theorem vl_set (f : F) (c : UInt8) (hc : numB c = true) (n : Int) (hb : inB c n = true) : vl (setF f c n) c = n := by
  unfold inB at hb
  simp only [decide_eq_true_eq] at hb
  rcases num_cases hc with rfl | rfl | rfl | rfl | rfl | rfl | rfl <;> simp [vl, setF, lowB, highB, regB, s16] at hb ⊢ <;> omega
theorem vl_other (f : F) (c x : UInt8) (hc : numB c = true) (hx : numB x = true) (n : Int) (h : tgt x ≠ tgt c) : vl (setF f x n) c = vl f c := by
  rcases num_cases hc with rfl | rfl | rfl | rfl | rfl | rfl | rfl <;> rcases num_cases hx with rfl | rfl | rfl | rfl | rfl | rfl | rfl <;> simp [vl, setF, tgt] at h ⊢
theorem pgo_none (cs r : List UInt8) (r' : List UInt8) (f : F) : pgo cs r none ≠ some (r', some f) := by
  induction cs generalizing r with
  | nil => simp [pgo]
  | cons c cs ih =>
    rw [pgo]
    cases readL c r with
    | none => simp
    | some x => obtain ⟨n, r1⟩ := x; exact ih r1
theorem pgo_keep (cs r r' : List UInt8) (g f : F) (h : pgo cs r (some g) = some (r', some f)) (c : UInt8) (hc : numB c = true) (ht : cs.all (fun x => !numB x || tgt x != tgt c) = true) : vl f c = vl g c := by
  induction cs generalizing r g with
  | nil => simp [pgo] at h; rw [h.2]
  | cons x cs ih =>
    simp only [List.all_cons, Bool.and_eq_true] at ht
    rw [pgo] at h
    cases hr : readL x r with
    | none => rw [hr] at h; simp at h
    | some y =>
      obtain ⟨n, r1⟩ := y
      rw [hr] at h
      simp only at h
      by_cases hx : numB x = true
      · rw [put, if_pos hx] at h
        split at h
        · have := ih r1 _ h ht.2
          rw [this]
          refine vl_other g c x hc hx n ?_
          have h1 := ht.1
          rw [hx] at h1
          simpa using h1
        · exact absurd h (pgo_none _ _ _ _)
      · rw [put, if_neg hx] at h
        exact ih r1 _ h ht.2
theorem strip_one {c : UInt8} {r q : List UInt8} (h : strip [c] r = some q) : r = c :: q := by
  cases r with
  | nil => simp [strip] at h
  | cons x r => simp [strip] at h; rw [h.1, h.2]
theorem read_num {c : UInt8} (hc : numB c = true) {r r1 : List UInt8} {n : Int} (h : readL c r = some (n, r1)) : r = itoa n ++ r1 := by
  rw [readL, if_pos hc] at h
  split at h
  · exact ((readReg_iff _ _ _).mp h).1
  · exact ((readNum_iff _ _ _).mp h).1
/-- what was read is what is written -/
theorem pgo_back (cs r r' : List UInt8) (g f : F) (ho : onceB cs = true) (h : pgo cs r (some g) = some (r', some f)) : r = cs.flatMap (rend f) ++ r' ∧ (∀ c ∈ cs, numB c = true → inB c (vl f c) = true) := by
  induction cs generalizing r g with
  | nil => simp [pgo] at h; simp [h.1]
  | cons c cs ih =>
    rw [onceB, Bool.and_eq_true] at ho
    rw [pgo] at h
    cases hr : readL c r with
    | none => rw [hr] at h; simp at h
    | some y =>
      obtain ⟨n, r1⟩ := y
      rw [hr] at h
      simp only at h
      by_cases hc : numB c = true
      · rw [put, if_pos hc] at h
        split at h
        · rename_i hb
          obtain ⟨e1, e2⟩ := ih r1 _ ho.2 h
          have hv : vl f c = n := by
            rw [pgo_keep cs r1 r' _ f h c hc (by have := ho.1; rw [hc] at this; simpa using this)]
            exact vl_set g c hc n hb
          refine ⟨?_, ?_⟩
          · rw [read_num hc hr, e1]; simp [rend, hc, hv]
          · intro x hx hn
            rcases List.mem_cons.mp hx with rfl | hx
            · rw [hv]; exact hb
            · exact e2 x hx hn
        · exact absurd h (pgo_none _ _ _ _)
      · rw [put, if_neg hc] at h
        obtain ⟨e1, e2⟩ := ih r1 _ ho.2 h
        rw [readL, if_neg hc] at hr
        have hs : strip [c] r = some r1 := by
          cases hh : strip [c] r with
          | none => rw [hh] at hr; simp at hr
          | some q => rw [hh] at hr; simp at hr; rw [hr.2]
        refine ⟨?_, ?_⟩
        · rw [strip_one hs, e1]; simp [rend, hc]
        · intro x hx hn
          rcases List.mem_cons.mp hx with rfl | hx
          · exact absurd hn hc
          · exact e2 x hx hn
theorem pgo_nn (cs r r' : List UInt8) (g f : F) (hg : 0 ≤ g.m) (h : pgo cs r (some g) = some (r', some f)) : 0 ≤ f.m := by
  induction cs generalizing r g with
  | nil => simp [pgo] at h; rw [← h.2]; exact hg
  | cons c cs ih =>
    rw [pgo] at h
    cases hr : readL c r with
    | none => rw [hr] at h; simp at h
    | some y =>
      obtain ⟨n, r1⟩ := y
      rw [hr] at h
      simp only at h
      by_cases hc : numB c = true
      · rw [put, if_pos hc] at h
        split at h
        · refine ih r1 _ ?_ h
          rcases num_cases hc with rfl | rfl | rfl | rfl | rfl | rfl | rfl <;> simp [setF] <;> omega
        · exact absurd h (pgo_none _ _ _ _)
      · rw [put, if_neg hc] at h
        exact ih r1 _ hg h
/-- the letters of a form are those of the shape -/
theorem form_fields : ∀ k, k < 54 → hasS (sh k) = (form k).contains 83 ∧ hasT (sh k) = (form k).contains 84 ∧ hasD (sh k) = (form k).contains 68 ∧ hasA (sh k) = (form k).contains 97 ∧ hasI (sh k) = ((form k).contains 105 || (form k).contains 117) ∧ hasJ (sh k) = (form k).contains 106 ∧ ((form k).contains 105 && (form k).contains 117) = false := by decide
theorem all_tgt (cs : List UInt8) (c : UInt8) (h : ∀ x ∈ cs, numB x = true → tgt x ≠ tgt c) : cs.all (fun x => !numB x || tgt x != tgt c) = true := by
  rw [List.all_eq_true]
  intro x hx
  by_cases hn : numB x = true
  · have := h x hx hn; simp [this]
  · simp [hn]
theorem contains_mem {cs : List UInt8} {c : UInt8} : cs.contains c = true ↔ c ∈ cs := by simp
theorem tgt3 {x : UInt8} (hn : numB x = true) (h : tgt x = 3) : x = 97 ∨ x = 105 ∨ x = 117 ∨ x = 106 := by
  rcases num_cases hn with rfl | rfl | rfl | rfl | rfl | rfl | rfl <;> simp [tgt] at h ⊢
theorem okF_of (k : Nat) (hk : k < 54) (r : List UInt8) (f : F) (h : pgo (form k) r (some ⟨0, 0, 0, 0⟩) = some ([], some f)) : okF k f ∧ r = (form k).flatMap (rend f) := by
  obtain ⟨e1, e2⟩ := pgo_back _ _ _ _ _ (form_once k hk) h
  have hm := pgo_nn _ _ _ _ _ (by simp) h
  obtain ⟨aS, aT, aD, aA, aI, aJ, aX⟩ := form_fields k hk
  have W : ∀ (c : UInt8), regB c = true → well (vl f c) ((form k).contains c) = true := by
    intro c hc
    have hn : numB c = true := by unfold numB; rw [hc]; rfl
    cases hh : (form k).contains c with
    | true =>
      have := e2 c (contains_mem.mp hh) hn
      unfold inB at this
      simp only [decide_eq_true_eq, highB, hc, Bool.true_or, if_true] at this
      have hl : lowB c = 0 := by unfold lowB; rw [if_neg]; intro e; subst e; exact absurd hc (by decide)
      unfold well
      simp
      omega
    | false =>
      have hz : vl f c = 0 := by
        rw [pgo_keep _ _ _ _ _ h c hn (all_tgt _ _ fun x hx hxn ht => ?_)]
        · rcases num_cases hn with rfl | rfl | rfl | rfl | rfl | rfl | rfl <;> rfl
        · have : x = c := by
            unfold regB at hc
            simp only [Bool.or_eq_true, beq_iff_eq] at hc
            rcases num_cases hxn with rfl | rfl | rfl | rfl | rfl | rfl | rfl <;> rcases hc with (rfl | rfl) | rfl <;> simp [tgt] at ht ⊢
          subst this
          rw [contains_mem.mpr hx] at hh
          cases hh
      rw [hz]; simp [well]
  have B := fun (c : UInt8) (hn : numB c = true) (hh : (form k).contains c = true) => e2 c (contains_mem.mp hh) hn
  refine ⟨⟨?_, hm⟩, by simpa using e1⟩
  unfold okB
  rw [aS, aT, aD]
  have w1 := W 83 (by decide); have w2 := W 84 (by decide); have w3 := W 68 (by decide)
  simp only [vl] at w1 w2 w3
  simp only [if_true, show ¬ (84 : UInt8) = 83 by decide, show ¬ (68 : UInt8) = 83 by decide, show ¬ (68 : UInt8) = 84 by decide, if_false] at w1 w2 w3
  rw [w1, w2, w3]
  simp only [Bool.true_and, decide_eq_true_eq]
  unfold top
  rw [aJ, aI, aA]
  cases h106 : (form k).contains 106 with
  | true =>
    have := B 106 (by decide) h106
    simp [inB, vl, lowB, highB, regB] at this
    simp; omega
  | false =>
    cases h117 : (form k).contains 117 with
    | true =>
      have := B 117 (by decide) h117
      simp [inB, vl, lowB, highB, regB] at this
      simp; omega
    | false =>
      cases h105 : (form k).contains 105 with
      | true =>
        -- Imm of 16 bits: what was put was so
        have key : ∀ (cs r r' : List UInt8) (g : F), g.m < 65536 → cs.contains 106 = false → pgo cs r (some g) = some (r', some f) → f.m < 65536 := by
          intro cs
          induction cs with
          | nil => intro r r' g hg _ hh; simp [pgo] at hh; rw [← hh.2]; exact hg
          | cons c cs ih =>
            intro r r' g hg hj hh
            rw [pgo] at hh
            have hj2 : cs.contains 106 = false := by
              cases h9 : cs.contains 106 with
              | false => rfl
              | true => rw [List.contains_cons, h9] at hj; simp at hj
            have hcj : c ≠ 106 := by intro e; subst e; simp at hj
            cases hr : readL c r with
            | none => rw [hr] at hh; simp at hh
            | some y =>
              obtain ⟨n, r1⟩ := y
              rw [hr] at hh
              simp only at hh
              by_cases hc : numB c = true
              · rw [put, if_pos hc] at hh
                split at hh
                · rename_i hb
                  refine ih r1 r' _ ?_ hj2 hh
                  rcases num_cases hc with rfl | rfl | rfl | rfl | rfl | rfl | rfl <;> simp [setF, inB, lowB, highB, regB] at hb hcj ⊢ <;> omega
                · exact absurd hh (pgo_none _ _ _ _)
              · rw [put, if_neg hc] at hh
                exact ih r1 r' _ hg hj2 hh
        have := key _ _ _ _ (by simp) h106 h
        simp; omega
      | false =>
        cases h97 : (form k).contains 97 with
        | true =>
          have := B 97 (by decide) h97
          simp [inB, vl, lowB, highB, regB] at this
          simp; omega
        | false =>
          have hz : vl f 97 = 0 := by
            rw [pgo_keep _ _ _ _ _ h 97 (by decide) (all_tgt _ _ fun x hx hxn ht => ?_)]
            · rfl
            · have hx' := contains_mem.mpr hx
              rcases tgt3 hxn ht with rfl | rfl | rfl | rfl
              · rw [h97] at hx'; cases hx'
              · rw [h105] at hx'; cases hx'
              · rw [h117] at hx'; cases hx'
              · rw [h106] at hx'; cases hx'
          have : f.m = 0 := hz
          simp; omega
theorem take_word (k : Nat) (hk : k < 54) (f : F) : (ptext k f).takeWhile isWord = nme k ∧ (ptext k f).dropWhile isWord = (form k).flatMap (rend f) := by
  unfold ptext
  refine take_all isWord _ _ (nme_word k hk) ?_
  intro c hc
  cases hh : form k with
  | nil => rw [hh] at hc; simp at hc
  | cons x cs =>
    have := form_head k hk x (by rw [hh]; rfl)
    rw [hh] at hc
    simp [rend, this.1] at hc
    rw [← hc]; exact this.2
theorem parse_ok (l : List UInt8) (k : Nat) (f : F) (h : parseS l = .ok k f) : 1 ≤ k ∧ k < 54 ∧ okF k f ∧ ptext k f = l := by
  unfold parseS at h
  split at h
  · cases h
  · rename_i h0
    have hlt := opOf_lt (l.takeWhile isWord)
    generalize hk : opOf (l.takeWhile isWord) = j at h h0 hlt
    have hn : nme j = l.takeWhile isWord := by
      rcases opOf_is (l.takeWhile isWord) with g | g
      · rw [hk] at g; exact g.2.2
      · rw [hk] at g; exact absurd g.1 h0
    cases hp : pgo (form j) (l.dropWhile isWord) (some ⟨0, 0, 0, 0⟩) with
    | none => rw [hp] at h; cases h
    | some x =>
      obtain ⟨r, a⟩ := x
      rw [hp] at h
      cases r with
      | cons y r => cases h
      | nil =>
        cases a with
        | none => cases h
        | some g =>
          injection h with e1 e2
          subst e1 e2
          obtain ⟨a1, a2⟩ := okF_of j hlt _ g hp
          refine ⟨by omega, hlt, a1, ?_⟩
          unfold ptext
          rw [← a2, hn]
          simp

/-! ### what is written is read -/
theorem head_rend (f : F) (c : UInt8) (cs : List UInt8) (h : numB c = false) : ((c :: cs).flatMap (rend f)).head? = some c := by simp [rend, h]
theorem pgo_forth (f : F) (cs : List UInt8) (ha : apartB cs = true) (hb : ∀ c ∈ cs, numB c = true → inB c (vl f c) = true) (g : F) : pgo cs (cs.flatMap (rend f)) (some g) = some ([], some (cs.foldl (fun g c => if numB c then setF g c (vl f c) else g) g)) := by
  induction cs generalizing g with
  | nil => rfl
  | cons c cs ih =>
    have ha2 : apartB cs = true := by
      cases cs with
      | nil => rfl
      | cons x cs => rw [apartB, Bool.and_eq_true] at ha; exact ha.2
    have IH := ih ha2 (fun x hx => hb x (by simp [hx]))
    rw [pgo]
    by_cases hc : numB c = true
    · have hin := hb c (by simp) hc
      have hend : endB isMark (cs.flatMap (rend f)) := by
        cases cs with
        | nil => intro x hx; simp at hx
        | cons x cs =>
          rw [apartB, Bool.and_eq_true, hc] at ha
          simp at ha
          intro y hy
          rw [head_rend f x cs ha.1.1] at hy
          injection hy with hy
          rw [← hy]; exact ha.1.2
      have hl : (vl f c).natAbs < 10000000000 := by
        unfold inB at hin
        simp only [decide_eq_true_eq] at hin
        rcases num_cases hc with rfl | rfl | rfl | rfl | rfl | rfl | rfl <;> simp [lowB, highB, regB] at hin <;> omega
      have hr : readL c ((c :: cs).flatMap (rend f)) = some (vl f c, cs.flatMap (rend f)) := by
        rw [readL, if_pos hc]
        have e : (c :: cs).flatMap (rend f) = itoa (vl f c) ++ cs.flatMap (rend f) := by simp [rend, hc]
        split
        · rename_i hreg
          refine (readReg_iff _ _ _).mpr ⟨e, hl, ((endMark _).mp hend).1, ?_⟩
          unfold inB at hin
          simp only [decide_eq_true_eq] at hin
          have : lowB c = 0 := by unfold lowB; rw [if_neg]; intro e; subst e; exact absurd hreg (by decide)
          omega
        · exact (readNum_iff _ _ _).mpr ⟨e, hl, hend⟩
      rw [hr]
      simp only [put, if_pos hc, if_pos hin, List.foldl_cons]
      exact IH _
    · have hr : readL c ((c :: cs).flatMap (rend f)) = some (0, cs.flatMap (rend f)) := by
        rw [readL, if_neg hc]; simp [rend, hc, strip]
      rw [hr]
      simp only [put, if_neg hc, List.foldl_cons]
      exact IH _
theorem ok_parts (k : Nat) (f : F) (h : okF k f) : well f.s (hasS (sh k)) = true ∧ well f.t (hasT (sh k)) = true ∧ well f.d (hasD (sh k)) = true ∧ f.m ≤ top (sh k) ∧ 0 ≤ f.m := by
  obtain ⟨h1, h2⟩ := h
  unfold okB at h1
  simp only [Bool.and_eq_true, decide_eq_true_eq] at h1
  exact ⟨h1.1.1.1, h1.1.1.2, h1.1.2, h1.2, h2⟩
theorem in_of_ok (k : Nat) (hk : k < 54) (f : F) (h : okF k f) : ∀ c ∈ form k, numB c = true → inB c (vl f c) = true := by
  obtain ⟨a, b, c, d, e⟩ := ok_parts k f h
  obtain ⟨aS, aT, aD, aA, aI, aJ, aX⟩ := form_fields k hk
  have key : ∀ k, k < 54 → (((form k).contains 97 = true → top (sh k) = 31) ∧ ((form k).contains 105 = true → top (sh k) = 65535) ∧ ((form k).contains 117 = true → top (sh k) = 65535) ∧ ((form k).contains 106 = true → top (sh k) = 67108863)) := by decide
  obtain ⟨k1, k2, k3, k4⟩ := key k hk
  intro x hx hn
  have hx' := contains_mem.mpr hx
  rcases num_cases hn with rfl | rfl | rfl | rfl | rfl | rfl | rfl
  · rw [aS, hx'] at a; have := well_of a; simp [inB, lowB, highB, regB, vl]; rcases this with g | g
    · omega
    · exact absurd g.1 (by decide)
  · rw [aT, hx'] at b; have := well_of b; simp [inB, lowB, highB, regB, vl]; rcases this with g | g
    · omega
    · exact absurd g.1 (by decide)
  · rw [aD, hx'] at c; have := well_of c; simp [inB, lowB, highB, regB, vl]; rcases this with g | g
    · omega
    · exact absurd g.1 (by decide)
  · have := k1 hx'; simp [inB, lowB, highB, regB, vl]; omega
  · have := k2 hx'; simp [inB, lowB, highB, regB, vl, s16]; omega
  · have := k3 hx'; simp [inB, lowB, highB, regB, vl]; omega
  · have := k4 hx'; simp [inB, lowB, highB, regB, vl]; omega
theorem form_lt : ∀ k, k < 54 → fmL.getD k 0 < 16 := by decide
theorem form_sh : ∀ k, k < 54 → ∀ n, n < 16 → fmL.getD k 0 = n → hasS (sh k) = (fL.getD n []).contains 83 ∧ hasT (sh k) = (fL.getD n []).contains 84 ∧ hasD (sh k) = (fL.getD n []).contains 68 ∧ top (sh k) = (if (fL.getD n []).contains 106 then 67108863 else if (fL.getD n []).contains 105 || (fL.getD n []).contains 117 then 65535 else if (fL.getD n []).contains 97 then 31 else 0) := by decide
theorem fold_is (k : Nat) (hk : k < 54) (f : F) (h : okF k f) : (form k).foldl (fun g c => if numB c then setF g c (vl f c) else g) ⟨0, 0, 0, 0⟩ = f := by
  obtain ⟨a, b, c, d, e⟩ := ok_parts k f h
  have hlt := form_lt k hk
  generalize hj : fmL.getD k 0 = j at hlt
  obtain ⟨g1, g2, g3, g4⟩ := form_sh k hk j hlt hj
  rw [g1] at a; rw [g2] at b; rw [g3] at c; rw [g4] at d
  unfold form
  rw [hj]
  obtain ⟨s, t, dd, m⟩ := f
  simp only at a b c d e
  have : j = 0 ∨ j = 1 ∨ j = 2 ∨ j = 3 ∨ j = 4 ∨ j = 5 ∨ j = 6 ∨ j = 7 ∨ j = 8 ∨ j = 9 ∨ j = 10 ∨ j = 11 ∨ j = 12 ∨ j = 13 ∨ j = 14 ∨ j = 15 := by omega
  rcases this with rfl | rfl | rfl | rfl | rfl | rfl | rfl | rfl | rfl | rfl | rfl | rfl | rfl | rfl | rfl | rfl <;>
    simp [fL, well] at a b c d <;> simp [fL, numB, regB, setF, vl, s16] <;> omega
theorem parse_text (k : Nat) (h1 : 1 ≤ k) (hk : k < 54) (f : F) (h : okF k f) : parseS (ptext k f) = .ok k f := by
  obtain ⟨T1, T2⟩ := take_word k hk f
  unfold parseS
  rw [T1, T2, opOf_nme k h1 hk, if_neg (by omega), pgo_forth f _ (form_apart k hk) (in_of_ok k hk f h), fold_is k hk f h]
  rfl
/-- two instructions have one text only if they are one -/
theorem text_inj (k j : Nat) (h1 : 1 ≤ k) (hk : k < 54) (g1 : 1 ≤ j) (hj : j < 54) (f g : F) (h : okF k f) (h' : okF j g) (e : ptext k f = ptext j g) : k = j ∧ f = g := by
  have a := parse_text k h1 hk f h
  have b := parse_text j g1 hj g h'
  rw [e, b] at a
  injection a with a b
  exact ⟨a.symm, b.symm⟩

/-! ### the document's answer's text -/
def i16 (m : Int) : Int := if m < 32768 then m else m - 65536
def rpc (f : F) (o : UInt8) : List UInt8 := if o = 83 then 36 :: itoa f.s else if o = 84 then 36 :: itoa f.t else if o = 68 then 36 :: itoa f.d else if o = 110 then itoa (i16 f.m) else if o = 109 then itoa (i16 f.m) ++ [40] ++ (36 :: itoa f.s) ++ [41] else itoa f.m
def rj (f : F) : Bool → List UInt8 → List UInt8
  | _, [] => []
  | first, o :: os => sep first ++ rpc f o ++ rj f false os
theorem rj_eq (f : F) (os : List UInt8) (ho : os.all ordB = true) (hm : (os.contains 110 || os.contains 109) = true → f.m < 65536) (h0 : 0 ≤ f.m) (first : Bool) : rj f first os = (expand first os).flatMap (rend f) := by
  induction os generalizing first with
  | nil => rfl
  | cons o os ih =>
    simp only [List.all_cons, Bool.and_eq_true] at ho
    have IH := ih ho.2 (fun h => hm (by simp only [List.contains_cons, Bool.or_eq_true] at h ⊢; exact h.elim (fun h => Or.inl (Or.inr h)) (fun h => Or.inr (Or.inr h)))) false
    rw [rj, expand, List.flatMap_append, List.flatMap_append, ← IH]
    have hs : (sep first).flatMap (rend f) = sep first := by cases first <;> rfl
    rw [hs]
    congr 2
    have : o = 83 ∨ o = 84 ∨ o = 68 ∨ o = 97 ∨ o = 110 ∨ o = 109 ∨ o = 117 ∨ o = 106 := by
      have h := ho.1
      unfold ordB regB at h
      simp only [Bool.or_eq_true, beq_iff_eq] at h
      rcases h with (((((((h | h) | h) | h) | h) | h) | h)) | h <;> simp [h]
    have e16 : (o = 110 ∨ o = 109) → s16 f.m = i16 f.m := by
      intro h
      have := hm (by rcases h with rfl | rfl <;> simp)
      unfold s16 i16; split <;> omega
    rcases this with rfl | rfl | rfl | rfl | rfl | rfl | rfl | rfl
    · simp [rpc, pc, regB, rend, numB, vl]
    · simp [rpc, pc, regB, rend, numB, vl]
    · simp [rpc, pc, regB, rend, numB, vl]
    · simp [rpc, pc, regB, rend, numB, vl]
    · have := e16 (Or.inl rfl); simp [rpc, pc, regB, rend, numB, vl, this]
    · have := e16 (Or.inr rfl); simp [rpc, pc, regB, rend, numB, vl, this]
    · simp [rpc, pc, regB, rend, numB, vl]
    · simp [rpc, pc, regB, rend, numB, vl]
theorem order_top : ∀ k, k < 54 → ((ordr k).contains 110 || (ordr k).contains 109) = true → top (sh k) = 65535 := by decide
theorem rtext_eq (k : Nat) (hk : k < 54) (f : F) (h : okF k f) : nme k ++ rj f true (ordr k) = ptext k f := by
  obtain ⟨a, b, c, d, e⟩ := ok_parts k f h
  unfold ptext
  rw [form_expand k hk, rj_eq f _ (ordr_ok k hk) (fun g => by have := order_top k hk g; omega) e true]
end Go.Proofs.YtccnliihdhnckaaGreatDoor.Fm
