/-
  Better codes in whole numbers: what an op reads and writes, what is known, what is dead; what is left of a code.
-/
import Derived.Test.YtcccaejjhodnkaaDoorIrPure
namespace Go.Proofs.YtcccaejjhodnkaaDoor
open Num
set_option linter.unusedVariables false
/-- the register that an op writes; 0: none -/
def wrX (o : Opx) : Int := if rD o.k = 2 then o.d else 0
def dvB (k : Nat) : Bool := decide (17 ≤ k ∧ k ≤ 20)
/-- the registers that an op reads -/
def rdX (o : Opx) : List Int := (if rA o.k = 1 then [o.a] else []) ++ (if rB o.k = 1 then [o.b] else []) ++ (if dvB o.k = true then [o.d] else [])
/-- what known registers have -/
abbrev Fx := Int → Option Int
def fx0 : Fx := fun r => if r = 0 then some 0 else none
/-- is an op one whose result is known? -/
def tellB (f : Fx) (o : Opx) : Bool := decide (3 ≤ o.k ∧ o.k ≤ 16) && (f o.a).isSome && (f o.b).isSome
/-- an op's result, where it is known -/
def resF (f : Fx) (o : Opx) : Option Int := if o.k = 2 ∧ (f o.a).isSome = true then f o.a else if tellB f o = true then some (valV o.k ((f o.a).getD 0) ((f o.b).getD 0) 0 0) else none
def putF (f : Fx) (r : Int) (v : Option Int) : Fx := fun x => if x = r then v else f x
/-- what is known behind an op -/
def learnF (f : Fx) (o : Opx) : Fx := if wrX o = 0 then f else putF f (wrX o) (if o.k = 1 then some o.i else none)
def knownC : Fx → List Opx → Nat
  | _, [] => 0
  | f, o :: l => (if tellB f o = true then 1 else 0) + knownC (learnF f o) l
def factsF (f : Fx) (l : List Opx) : Fx := l.foldl learnF f
/-- an op as it is told -/
def toldO (f : Fx) (o : Opx) : Opx := match resF f o with
  | some v => ⟨kindS 1, o.d, 0, 0, v, o.t⟩
  | none => o
def workF : Fx → List Opx → List Opx
  | _, [] => []
  | f, o :: l => toldO f o :: workF (learnF f (toldO f o)) l
abbrev Nx := Int → Bool
/-- which registers are asked for ahead of an op -/
def passN (n : Nx) (o : Opx) : Nx := fun r => if r ∈ rdX o then true else if r = wrX o then false else if 25 ≤ o.k ∧ 0 ≤ r ∧ r ≤ 33 then true else n r
/-- is an op dead? -/
def spareB (n : Nx) (o : Opx) : Bool := decide (wrX o ≠ 0) && decide (o.k ≠ 23) && !n (wrX o)
def needN : List Opx → Nx
  | [] => fun _ => false
  | o :: l => passN (needN l) o
def deadC : List Opx → Nat
  | [] => 0
  | o :: l => (if spareB (needN l) o = true then 1 else 0) + deadC l
def dropD : List Opx → List Opx
  | [] => []
  | o :: l => if spareB (needN (dropD l)) o = true then dropD l else o :: dropD l
/-- what Opt makes of ops -/
def optL (lev : Int) (l : List Opx) : List Opx := if lev ≤ 0 then l else if lev = 1 then workF fx0 l else dropD (workF fx0 l)
theorem workF_len : ∀ (l : List Opx) (f : Fx), (workF f l).length = l.length
  | [], _ => rfl
  | o :: l, f => by simp [workF, workF_len l]
theorem dropD_sub : ∀ l : List Opx, (dropD l).Sublist l
  | [] => .slnil
  | o :: l => by
    unfold dropD
    split
    · exact (dropD_sub l).cons _
    · exact (dropD_sub l).cons_cons _
theorem dropD_len (l : List Opx) : (dropD l).length ≤ l.length := (dropD_sub l).length_le
theorem told_some {f : Fx} {o : Opx} {v : Int} (h : resF f o = some v) : toldO f o = ⟨kindS 1, o.d, 0, 0, v, o.t⟩ := by unfold toldO; rw [h]
theorem told_none {f : Fx} {o : Opx} (h : resF f o = none) : toldO f o = o := by unfold toldO; rw [h]
theorem res_none_tell {f : Fx} {o : Opx} (h : resF f o = none) : tellB f o = false := by
  cases ht : tellB f o with
  | false => rfl
  | true =>
    unfold resF at h
    split at h
    · rename_i h2; rw [h] at h2; simp at h2
    · cases h
theorem told_tell (f : Fx) (o : Opx) : tellB f (toldO f o) = false := by
  cases h : resF f o with
  | some v => rw [told_some h]; simp [tellB, Opx.k, kn_kind]
  | none => rw [told_none h]; exact res_none_tell h
/-- what was told leaves nothing known -/
theorem knownC_work : ∀ (l : List Opx) (f : Fx), knownC f (workF f l) = 0
  | [], _ => rfl
  | o :: l, f => by
    show (if tellB f (toldO f o) = true then 1 else 0) + knownC (learnF f (toldO f o)) (workF (learnF f (toldO f o)) l) = 0
    rw [told_tell, knownC_work l]; rfl
theorem deadC_drop : ∀ l : List Opx, deadC (dropD l) = 0
  | [] => rfl
  | o :: l => by
    unfold dropD
    split
    · exact deadC_drop l
    · rename_i h
      show (if spareB (needN (dropD l)) o = true then 1 else 0) + deadC (dropD l) = 0
      rw [if_neg h, deadC_drop l]
/-- ops that are well, behind one of instruction ah -/
def wellL (many : Int) : Int → List Opx → Prop
  | _, [] => True
  | ah, o :: l => opE o many = 0 ∧ ah ≤ o.t ∧ (outB o = true → l = []) ∧ wellL many o.t l
theorem opF_zero {o : Opx} {many ah : Int} {last : Bool} : opF o many ah last = 0 ↔ opE o many = 0 ∧ ah ≤ o.t ∧ (outB o = true → last = true) := by
  unfold opF
  by_cases h : opE o many = 0
  · rw [if_neg (by simpa using h)]
    by_cases h2 : o.t < ah ∨ outB o = true ∧ last = false
    · rw [if_pos h2]
      constructor
      · intro h; cases h
      · rintro ⟨_, h3, h4⟩
        rcases h2 with h2 | ⟨h5, h6⟩
        · omega
        · rw [h4 h5] at h6; cases h6
    · rw [if_neg h2]
      refine ⟨fun _ => ⟨h, by omega, fun h3 => ?_⟩, fun _ => rfl⟩
      cases last with
      | true => rfl
      | false => exact absurd (.inr ⟨h3, rfl⟩) h2
  · rw [if_pos h]
    exact ⟨fun h2 => absurd h2 h, fun h2 => h2.1⟩
theorem opsF_well (many : Int) : ∀ (l : List Opx) (ah : Int) (n : Nat), opsF many ah n l = (0, -1) ↔ wellL many ah l
  | [], ah, n => by simp [opsF, wellL]
  | o :: l, ah, n => by
    unfold opsF wellL
    by_cases h : opF o many ah l.isEmpty = 0
    · rw [if_neg (by simpa using h), opsF_well many l]
      have := opF_zero.1 h
      exact ⟨fun h2 => ⟨this.1, this.2.1, fun h3 => by simpa using this.2.2 h3, h2⟩, fun h2 => h2.2.2.2⟩
    · rw [if_pos h]
      constructor
      · intro e; have := congrArg Prod.snd e; simp at this
      · rintro ⟨h1, h2, h3, _⟩
        exact absurd (opF_zero.2 ⟨h1, h2, fun h4 => by rw [h3 h4]; rfl⟩) h
theorem wellL_mono {many : Int} {ah ah' : Int} (h : ah' ≤ ah) : ∀ {l : List Opx}, wellL many ah l → wellL many ah' l
  | [], _ => trivial
  | _ :: _, ⟨h1, h2, h3, h4⟩ => ⟨h1, by omega, h3, h4⟩
theorem wellL_sub {many : Int} {l l' : List Opx} (hs : l'.Sublist l) : ∀ {ah : Int}, wellL many ah l → wellL many ah l' := by
  induction hs with
  | slnil => intro ah h; exact h
  | cons a hs ih => intro ah h; exact wellL_mono h.2.1 (ih h.2.2.2)
  | cons_cons a hs ih =>
    intro ah h
    exact ⟨h.1, h.2.1, fun h2 => (by have := h.2.2.1 h2; rw [this] at hs; exact List.sublist_nil.1 hs), ih h.2.2.2⟩
theorem wellL_mem {many : Int} : ∀ {l : List Opx} {ah : Int}, wellL many ah l → ∀ o ∈ l, opE o many = 0
  | _ :: _, _, h, o, hm => by
    rcases List.mem_cons.1 hm with rfl | hm
    · exact h.1
    · exact wellL_mem h.2.2.2 o hm
/-- a code that is well -/
structure Well (many : Int) (l : List Opx) : Prop where
  m0 : 1 ≤ many
  m1 : many ≤ 24
  len : l.length ≤ 200
  st : strs l ≤ 8
  last : ∃ o, l.getLast? = some o ∧ outB o = true
  ops : wellL many 0 l
theorem Well.ne {many : Int} {l : List Opx} (W : Well many l) : l ≠ [] := by
  obtain ⟨o, h, _⟩ := W.last
  intro e; rw [e] at h; cases h
theorem codeF_well {many : Int} {l : List Opx} : codeF many l = (0, -1) ↔ Well many l := by
  unfold codeF
  by_cases h1 : many < 1 ∨ 24 < many
  · rw [if_pos h1]; exact ⟨fun h => (by cases h), fun W => by have := W.m0; have := W.m1; omega⟩
  rw [if_neg h1]
  by_cases h2 : 200 < l.length ∨ 8 < strs l
  · rw [if_pos h2]; exact ⟨fun h => (by cases h), fun W => by have := W.len; have := W.st; omega⟩
  rw [if_neg h2]
  by_cases h3 : l = [] ∨ (l.getLast?.map outB).getD false = false
  · rw [if_pos h3]
    refine ⟨fun h => (by cases h), fun W => ?_⟩
    obtain ⟨o, ho, hb⟩ := W.last
    rcases h3 with h3 | h3
    · exact absurd h3 W.ne
    · rw [ho] at h3; simp [hb] at h3
  rw [if_neg h3, opsF_well]
  refine ⟨fun h => ⟨by omega, by omega, by omega, by omega, ?_, h⟩, fun W => W.ops⟩
  cases hl : l.getLast? with
  | none => exact absurd (List.getLast?_eq_none_iff.1 hl) (fun e => h3 (.inl e))
  | some o =>
    refine ⟨o, rfl, ?_⟩
    cases hb : outB o with
    | true => rfl
    | false => exact absurd (.inr (by rw [hl]; exact hb)) h3
theorem wrX_out {o : Opx} (h : outB o = true) : wrX o = 0 := by
  unfold outB at h
  simp only [decide_eq_true_eq] at h
  unfold wrX rD
  rcases h with h | h <;> simp [h]
theorem spare_out {o : Opx} (n : Nx) (h : outB o = true) : spareB n o = false := by
  unfold spareB; rw [wrX_out h]; simp
theorem dropD_last : ∀ {l : List Opx} {o : Opx}, l.getLast? = some o → outB o = true → (dropD l).getLast? = some o
  | [], _, h, _ => by cases h
  | [a], o, h, hb => by
    obtain rfl : a = o := by simpa using h
    show (if spareB (needN (dropD [])) a = true then dropD [] else a :: dropD []).getLast? = _
    rw [spare_out _ hb]; rfl
  | a :: b :: l, o, h, hb => by
    have h2 : (b :: l).getLast? = some o := by rw [List.getLast?_cons_cons] at h; exact h
    have ih := dropD_last h2 hb
    unfold dropD
    split
    · exact ih
    · cases hd : dropD (b :: l) with
      | nil => rw [hd] at ih; cases ih
      | cons x y => rw [List.getLast?_cons_cons, ← hd]; exact ih
theorem strs_sub {l l' : List Opx} (hs : l'.Sublist l) : strs l' ≤ strs l := (hs.filter _).length_le
theorem Well.drop {many : Int} {l : List Opx} (W : Well many l) : Well many (dropD l) := by
  obtain ⟨o, h1, h2⟩ := W.last
  exact ⟨W.m0, W.m1, Nat.le_trans (dropD_len l) W.len, Nat.le_trans (strs_sub (dropD_sub l)) W.st, ⟨o, dropD_last h1 h2, h2⟩, wellL_sub (dropD_sub l) W.ops⟩
/-- what a kind's result takes of its op -/
theorem res_kind {f : Fx} {o : Opx} {v : Int} (h : resF f o = some v) : 2 ≤ o.k ∧ o.k ≤ 16 := by
  unfold resF at h
  split at h
  · rename_i h2; omega
  · split at h
    · rename_i h2
      unfold tellB at h2
      simp only [Bool.and_eq_true, decide_eq_true_eq] at h2
      omega
    · cases h
theorem opE_zero {o : Opx} {many : Int} : opE o many = 0 ↔ o.k ≠ 0 ∧ bndB o many = true ∧ shpB o = true := by
  unfold opE
  by_cases h : o.k = 0
  · rw [if_pos h]; exact ⟨fun e => (by cases e), fun e => absurd h e.1⟩
  rw [if_neg h]
  by_cases h2 : bndB o many = false
  · rw [if_pos h2]; exact ⟨fun e => (by cases e), fun e => by rw [h2] at e; cases e.2.1⟩
  rw [if_neg h2]
  by_cases h3 : shpB o = false
  · rw [if_pos h3]; exact ⟨fun e => (by cases e), fun e => by rw [h3] at e; cases e.2.2⟩
  rw [if_neg h3]
  exact ⟨fun _ => ⟨h, by simpa using h2, by simpa using h3⟩, fun _ => rfl⟩
theorem told_opE {f : Fx} {o : Opx} {many : Int} (h : opE o many = 0) : opE (toldO f o) many = 0 := by
  cases hr : resF f o with
  | none => rw [told_none hr]; exact h
  | some v =>
    rw [told_some hr]
    have hk := res_kind hr
    obtain ⟨_, hb, _⟩ := opE_zero.1 h
    refine opE_zero.2 ⟨by simp [Opx.k, kn_kind], ?_, ?_⟩
    · unfold bndB at hb ⊢
      simp only [Bool.and_eq_true] at hb
      have e1 : rD o.k = 2 := by unfold rD; rw [if_pos (by omega)]
      rw [e1] at hb
      simp only [Opx.k, kn_kind 1 (by omega) (by omega)]
      simp only [Bool.and_eq_true]
      exact ⟨⟨⟨⟨hb.1.1.1.1, by simp [rA, alw]⟩, by simp [rB, alw]⟩, hb.1.2⟩, hb.2⟩
    · simp [shpB, Opx.k, kn_kind, rD, rA, rB, rI]
theorem told_t (f : Fx) (o : Opx) : (toldO f o).t = o.t := by
  cases hr : resF f o with
  | none => rw [told_none hr]
  | some v => rw [told_some hr]
theorem told_k {f : Fx} {o : Opx} : (toldO f o).k = o.k ∨ ((toldO f o).k = 1 ∧ 2 ≤ o.k ∧ o.k ≤ 16) := by
  cases hr : resF f o with
  | none => rw [told_none hr]; exact .inl rfl
  | some v => rw [told_some hr]; exact .inr ⟨by simp [Opx.k, kn_kind], res_kind hr⟩
theorem told_out (f : Fx) (o : Opx) : outB (toldO f o) = outB o := by
  unfold outB
  rcases told_k (f := f) (o := o) with h | ⟨h1, h2⟩
  · rw [h]
  · rw [h1]; simp; omega
theorem told_out_same {f : Fx} {o : Opx} (h : outB o = true) : toldO f o = o := by
  cases hr : resF f o with
  | none => exact told_none hr
  | some v => have := res_kind hr; unfold outB at h; simp at h; omega
theorem work_nil {f : Fx} {l : List Opx} (h : l = []) : workF f l = [] := by subst h; rfl
theorem wellL_work {many : Int} : ∀ {l : List Opx} {ah : Int} {f : Fx}, wellL many ah l → wellL many ah (workF f l)
  | [], _, _, _ => trivial
  | o :: l, ah, f, h => by
    refine ⟨told_opE h.1, by rw [told_t]; exact h.2.1, fun h2 => work_nil (h.2.2.1 (by rw [← told_out f o]; exact h2)), ?_⟩
    rw [told_t]
    exact wellL_work h.2.2.2
theorem strs_cons (o : Opx) (l : List Opx) : strs (o :: l) = (if o.k = 24 then 1 else 0) + strs l := by
  unfold strs; rw [List.filter_cons]; by_cases h : o.k = 24 <;> simp [h]; omega
theorem strs_work : ∀ (l : List Opx) (f : Fx), strs (workF f l) = strs l
  | [], _ => rfl
  | o :: l, f => by
    show strs (toldO f o :: workF (learnF f (toldO f o)) l) = _
    rw [strs_cons, strs_cons, strs_work l]
    congr 1
    rcases told_k (f := f) (o := o) with h | ⟨h1, h2⟩
    · rw [h]
    · rw [h1, if_neg (by omega), if_neg (by omega)]
theorem work_last : ∀ {l : List Opx} {o : Opx} {f : Fx}, l.getLast? = some o → outB o = true → (workF f l).getLast? = some o
  | [], _, _, h, _ => by cases h
  | [a], o, f, h, hb => by
    obtain rfl : a = o := by simpa using h
    show [toldO f a].getLast? = _
    rw [told_out_same hb]; rfl
  | a :: b :: l, o, f, h, hb => by
    have h2 : (b :: l).getLast? = some o := by rw [List.getLast?_cons_cons] at h; exact h
    have ih := work_last (f := learnF f (toldO f a)) h2 hb
    show (toldO f a :: toldO (learnF f (toldO f a)) b :: workF _ l).getLast? = _
    rw [List.getLast?_cons_cons]; exact ih
theorem Well.work {many : Int} {l : List Opx} (W : Well many l) (f : Fx) : Well many (workF f l) := by
  obtain ⟨o, h1, h2⟩ := W.last
  exact ⟨W.m0, W.m1, by rw [workF_len]; exact W.len, by rw [strs_work]; exact W.st, ⟨o, work_last h1 h2, h2⟩, wellL_work W.ops⟩
theorem Well.opt {many : Int} {l : List Opx} (W : Well many l) (lev : Int) : Well many (optL lev l) := by
  unfold optL
  split
  · exact W
  · split
    · exact W.work _
    · exact (W.work _).drop
theorem optL_len (lev : Int) (l : List Opx) : (optL lev l).length ≤ l.length := by
  unfold optL
  split
  · exact Nat.le_refl _
  · split
    · rw [workF_len]; exact Nat.le_refl _
    · exact Nat.le_trans (dropD_len _) (by rw [workF_len]; exact Nat.le_refl _)
end Go.Proofs.YtcccaejjhodnkaaDoor
