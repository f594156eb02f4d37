/-
  Better codes in whole numbers: what an op reads and writes, what is known, what is dead; what is left of a code.
-/
import Derived.Test.YtjkencgcdlfjhaaGreatDoorJBase
namespace Go.Proofs.YtjkencgcdlfjhaaGreatDoor
open Num
set_option linter.unusedVariables false
/-- the register that an op writes; 0: none -/
def wrX (o : Opx) : Int := if rD o.k = 2 then o.d else 0
def dvB (k : Nat) : Bool := decide (17 ≤ k ∧ k ≤ 20)
/-- the registers that an op reads -/
def rdX (o : Opx) : List Int := (if rA o.k = 1 then [o.a] else []) ++ (if rB o.k = 1 then [o.b] else []) ++ (if dvB o.k = true then [o.d] else [])
/-- what known registers have -/
abbrev Fx := Int → Option Int
def fx0 : Fx := fun r => if r = 0 then some 0 else none
/-- is an op one whose result is known? -/
def tellB (f : Fx) (o : Opx) : Bool := decide (3 ≤ o.k ∧ o.k ≤ 16) && (f o.a).isSome && (f o.b).isSome
/-- an op's result, where it is known -/
def resF (f : Fx) (o : Opx) : Option Int := if o.k = 2 ∧ (f o.a).isSome = true then f o.a else if tellB f o = true then some (valV o.k ((f o.a).getD 0) ((f o.b).getD 0) 0 0) else none
def putF (f : Fx) (r : Int) (v : Option Int) : Fx := fun x => if x = r then v else f x
/-- what is known behind an op -/
def learnF (f : Fx) (o : Opx) : Fx := if wrX o = 0 then f else putF f (wrX o) (if o.k = 1 then some o.i else none)
def knownC : Fx → List Opx → Nat
  | _, [] => 0
  | f, o :: l => (if tellB f o = true then 1 else 0) + knownC (learnF f o) l
def factsF (f : Fx) (l : List Opx) : Fx := l.foldl learnF f
/-- an op as it is told -/
def toldO (f : Fx) (o : Opx) : Opx := match resF f o with
  | some v => ⟨kindS 1, o.d, 0, 0, v, o.t⟩
  | none => o
def workF : Fx → List Opx → List Opx
  | _, [] => []
  | f, o :: l => toldO f o :: workF (learnF f (toldO f o)) l
abbrev Nx := Int → Bool
/-- which registers are asked for ahead of an op -/
def passN (n : Nx) (o : Opx) : Nx := fun r => if r ∈ rdX o then true else if r = wrX o then false else if 25 ≤ o.k ∧ 0 ≤ r ∧ r ≤ 33 then true else n r
/-- is an op dead? -/
def spareB (n : Nx) (o : Opx) : Bool := decide (wrX o ≠ 0) && decide (o.k ≠ 23) && !n (wrX o)
def needN : List Opx → Nx
  | [] => fun _ => false
  | o :: l => passN (needN l) o
def deadC : List Opx → Nat
  | [] => 0
  | o :: l => (if spareB (needN l) o = true then 1 else 0) + deadC l
def dropD : List Opx → List Opx
  | [] => []
  | o :: l => if spareB (needN (dropD l)) o = true then dropD l else o :: dropD l
/-- what Opt makes of ops -/
def optL (lev : Int) (l : List Opx) : List Opx := if lev ≤ 0 then l else if lev = 1 then workF fx0 l else dropD (workF fx0 l)
theorem workF_len : ∀ (l : List Opx) (f : Fx), (workF f l).length = l.length
  | [], _ => rfl
  | o :: l, f => by simp [workF, workF_len l]
theorem dropD_sub : ∀ l : List Opx, (dropD l).Sublist l
  | [] => .slnil
  | o :: l => by
    unfold dropD
    split
    · exact (dropD_sub l).cons _
    · exact (dropD_sub l).cons_cons _
theorem dropD_len (l : List Opx) : (dropD l).length ≤ l.length := (dropD_sub l).length_le
theorem told_some {f : Fx} {o : Opx} {v : Int} (h : resF f o = some v) : toldO f o = ⟨kindS 1, o.d, 0, 0, v, o.t⟩ := by unfold toldO; rw [h]
theorem told_none {f : Fx} {o : Opx} (h : resF f o = none) : toldO f o = o := by unfold toldO; rw [h]
theorem res_none_tell {f : Fx} {o : Opx} (h : resF f o = none) : tellB f o = false := by
  cases ht : tellB f o with
  | false => rfl
  | true =>
    unfold resF at h
    split at h
    · rename_i h2; rw [h] at h2; simp at h2
    · cases h
theorem told_tell (f : Fx) (o : Opx) : tellB f (toldO f o) = false := by
  cases h : resF f o with
  | some v => rw [told_some h]; simp [tellB, Opx.k, kn_kind]
  | none => rw [told_none h]; exact res_none_tell h
/-- what was told leaves nothing known -/
theorem knownC_work : ∀ (l : List Opx) (f : Fx), knownC f (workF f l) = 0
  | [], _ => rfl
  | o :: l, f => by
    show (if tellB f (toldO f o) = true then 1 else 0) + knownC (learnF f (toldO f o)) (workF (learnF f (toldO f o)) l) = 0
    rw [told_tell, knownC_work l]; rfl
theorem deadC_drop : ∀ l : List Opx, deadC (dropD l) = 0
  | [] => rfl
  | o :: l => by
    unfold dropD
    split
    · exact deadC_drop l
    · rename_i h
      show (if spareB (needN (dropD l)) o = true then 1 else 0) + deadC (dropD l) = 0
      rw [if_neg h, deadC_drop l]
/-- ops that are well, behind one of instruction ah -/
def wellL (many : Int) : Int → List Opx → Prop
  | _, [] => True
  | ah, o :: l => opE o many = 0 ∧ ah ≤ o.t ∧ (outB o = true → l = []) ∧ wellL many o.t l
theorem opF_zero {o : Opx} {many ah : Int} {last : Bool} : opF o many ah last = 0 ↔ opE o many = 0 ∧ ah ≤ o.t ∧ (outB o = true → last = true) := by
  unfold opF
  by_cases h : opE o many = 0
  · rw [if_neg (by simpa using h)]
    by_cases h2 : o.t < ah ∨ outB o = true ∧ last = false
    · rw [if_pos h2]
      constructor
      · intro h; cases h
      · rintro ⟨_, h3, h4⟩
        rcases h2 with h2 | ⟨h5, h6⟩
        · omega
        · rw [h4 h5] at h6; cases h6
    · rw [if_neg h2]
      refine ⟨fun _ => ⟨h, by omega, fun h3 => ?_⟩, fun _ => rfl⟩
      cases last with
      | true => rfl
      | false => exact absurd (.inr ⟨h3, rfl⟩) h2
  · rw [if_pos h]
    exact ⟨fun h2 => absurd h2 h, fun h2 => h2.1⟩
theorem opsF_well (many : Int) : ∀ (l : List Opx) (ah : Int) (n : Nat), opsF many ah n l = (0, -1) ↔ wellL many ah l
  | [], ah, n => by simp [opsF, wellL]
  | o :: l, ah, n => by
    unfold opsF wellL
    by_cases h : opF o many ah l.isEmpty = 0
    · rw [if_neg (by simpa using h), opsF_well many l]
      have := opF_zero.1 h
      exact ⟨fun h2 => ⟨this.1, this.2.1, fun h3 => by simpa using this.2.2 h3, h2⟩, fun h2 => h2.2.2.2⟩
    · rw [if_pos h]
      constructor
      · intro e; have := congrArg Prod.snd e; simp at this
      · rintro ⟨h1, h2, h3, _⟩
        exact absurd (opF_zero.2 ⟨h1, h2, fun h4 => by rw [h3 h4]; rfl⟩) h
theorem wellL_mono {many : Int} {ah ah' : Int} (h : ah' ≤ ah) : ∀ {l : List Opx}, wellL many ah l → wellL many ah' l
  | [], _ => trivial
  | _ :: _, ⟨h1, h2, h3, h4⟩ => ⟨h1, by omega, h3, h4⟩
theorem wellL_sub {many : Int} {l l' : List Opx} (hs : l'.Sublist l) : ∀ {ah : Int}, wellL many ah l → wellL many ah l' := by
  induction hs with
  | slnil => intro ah h; exact h
  | cons a hs ih => intro ah h; exact wellL_mono h.2.1 (ih h.2.2.2)
  | cons_cons a hs ih =>
    intro ah h
    exact ⟨h.1, h.2.1, fun h2 => (by have := h.2.2.1 h2; rw [this] at hs; exact List.sublist_nil.1 hs), ih h.2.2.2⟩
theorem wellL_mem {many : Int} : ∀ {l : List Opx} {ah : Int}, wellL many ah l → ∀ o ∈ l, opE o many = 0
  | _ :: _, _, h, o, hm => by
    rcases List.mem_cons.1 hm with rfl | hm
    · exact h.1
    · exact wellL_mem h.2.2.2 o hm
/-- a code that is well -/
structure Well (many : Int) (l : List Opx) : Prop where
  m0 : 1 ≤ many
  m1 : many ≤ 24
  len : l.length ≤ 200
  st : strs l ≤ 8
  last : ∃ o, l.getLast? = some o ∧ outB o = true
  ops : wellL many 0 l
theorem Well.ne {many : Int} {l : List Opx} (W : Well many l) : l ≠ [] := by
  obtain ⟨o, h, _⟩ := W.last
  intro e; rw [e] at h; cases h
theorem codeF_well {many : Int} {l : List Opx} : codeF many l = (0, -1) ↔ Well many l := by
  unfold codeF
  by_cases h1 : many < 1 ∨ 24 < many
  · rw [if_pos h1]; exact ⟨fun h => (by cases h), fun W => by have := W.m0; have := W.m1; omega⟩
  rw [if_neg h1]
  by_cases h2 : 200 < l.length ∨ 8 < strs l
  · rw [if_pos h2]; exact ⟨fun h => (by cases h), fun W => by have := W.len; have := W.st; omega⟩
  rw [if_neg h2]
  by_cases h3 : l = [] ∨ (l.getLast?.map outB).getD false = false
  · rw [if_pos h3]
    refine ⟨fun h => (by cases h), fun W => ?_⟩
    obtain ⟨o, ho, hb⟩ := W.last
    rcases h3 with h3 | h3
    · exact absurd h3 W.ne
    · rw [ho] at h3; simp [hb] at h3
  rw [if_neg h3, opsF_well]
  refine ⟨fun h => ⟨by omega, by omega, by omega, by omega, ?_, h⟩, fun W => W.ops⟩
  cases hl : l.getLast? with
  | none => exact absurd (List.getLast?_eq_none_iff.1 hl) (fun e => h3 (.inl e))
  | some o =>
    refine ⟨o, rfl, ?_⟩
    cases hb : outB o with
    | true => rfl
    | false => exact absurd (.inr (by rw [hl]; exact hb)) h3
theorem wrX_out {o : Opx} (h : outB o = true) : wrX o = 0 := by
  unfold outB at h
  simp only [decide_eq_true_eq] at h
  unfold wrX rD
  rcases h with h | h <;> simp [h]
theorem spare_out {o : Opx} (n : Nx) (h : outB o = true) : spareB n o = false := by
  unfold spareB; rw [wrX_out h]; simp
theorem dropD_last : ∀ {l : List Opx} {o : Opx}, l.getLast? = some o → outB o = true → (dropD l).getLast? = some o
  | [], _, h, _ => by cases h
  | [a], o, h, hb => by
    obtain rfl : a = o := by simpa using h
    show (if spareB (needN (dropD [])) a = true then dropD [] else a :: dropD []).getLast? = _
    rw [spare_out _ hb]; rfl
  | a :: b :: l, o, h, hb => by
    have h2 : (b :: l).getLast? = some o := by rw [List.getLast?_cons_cons] at h; exact h
    have ih := dropD_last h2 hb
    unfold dropD
    split
    · exact ih
    · cases hd : dropD (b :: l) with
      | nil => rw [hd] at ih; cases ih
      | cons x y => rw [List.getLast?_cons_cons, ← hd]; exact ih
theorem strs_sub {l l' : List Opx} (hs : l'.Sublist l) : strs l' ≤ strs l := (hs.filter _).length_le
theorem Well.drop {many : Int} {l : List Opx} (W : Well many l) : Well many (dropD l) := by
  obtain ⟨o, h1, h2⟩ := W.last
  exact ⟨W.m0, W.m1, Nat.le_trans (dropD_len l) W.len, Nat.le_trans (strs_sub (dropD_sub l)) W.st, ⟨o, dropD_last h1 h2, h2⟩, wellL_sub (dropD_sub l) W.ops⟩
/-- what a kind's result takes of its op -/
theorem res_kind {f : Fx} {o : Opx} {v : Int} (h : resF f o = some v) : 2 ≤ o.k ∧ o.k ≤ 16 := by
  unfold resF at h
  split at h
  · rename_i h2; omega
  · split at h
    · rename_i h2
      unfold tellB at h2
      simp only [Bool.and_eq_true, decide_eq_true_eq] at h2
      omega
    · cases h
theorem opE_zero {o : Opx} {many : Int} : opE o many = 0 ↔ o.k ≠ 0 ∧ bndB o many = true ∧ shpB o = true := by
  unfold opE
  by_cases h : o.k = 0
  · rw [if_pos h]; exact ⟨fun e => (by cases e), fun e => absurd h e.1⟩
  rw [if_neg h]
  by_cases h2 : bndB o many = false
  · rw [if_pos h2]; exact ⟨fun e => (by cases e), fun e => by rw [h2] at e; cases e.2.1⟩
  rw [if_neg h2]
  by_cases h3 : shpB o = false
  · rw [if_pos h3]; exact ⟨fun e => (by cases e), fun e => by rw [h3] at e; cases e.2.2⟩
  rw [if_neg h3]
  exact ⟨fun _ => ⟨h, by simpa using h2, by simpa using h3⟩, fun _ => rfl⟩
theorem told_opE {f : Fx} {o : Opx} {many : Int} (h : opE o many = 0) : opE (toldO f o) many = 0 := by
  cases hr : resF f o with
  | none => rw [told_none hr]; exact h
  | some v =>
    rw [told_some hr]
    have hk := res_kind hr
    obtain ⟨_, hb, _⟩ := opE_zero.1 h
    refine opE_zero.2 ⟨by simp [Opx.k, kn_kind], ?_, ?_⟩
    · unfold bndB at hb ⊢
      simp only [Bool.and_eq_true] at hb
      have e1 : rD o.k = 2 := by unfold rD; rw [if_pos (by omega)]
      rw [e1] at hb
      simp only [Opx.k, kn_kind 1 (by omega) (by omega)]
      simp only [Bool.and_eq_true]
      exact ⟨⟨⟨⟨hb.1.1.1.1, by simp [rA, alw]⟩, by simp [rB, alw]⟩, hb.1.2⟩, hb.2⟩
    · simp [shpB, Opx.k, kn_kind, rD, rA, rB, rI]
theorem told_t (f : Fx) (o : Opx) : (toldO f o).t = o.t := by
  cases hr : resF f o with
  | none => rw [told_none hr]
  | some v => rw [told_some hr]
theorem told_k {f : Fx} {o : Opx} : (toldO f o).k = o.k ∨ ((toldO f o).k = 1 ∧ 2 ≤ o.k ∧ o.k ≤ 16) := by
  cases hr : resF f o with
  | none => rw [told_none hr]; exact .inl rfl
  | some v => rw [told_some hr]; exact .inr ⟨by simp [Opx.k, kn_kind], res_kind hr⟩
theorem told_out (f : Fx) (o : Opx) : outB (toldO f o) = outB o := by
  unfold outB
  rcases told_k (f := f) (o := o) with h | ⟨h1, h2⟩
  · rw [h]
  · rw [h1]; simp; omega
theorem told_out_same {f : Fx} {o : Opx} (h : outB o = true) : toldO f o = o := by
  cases hr : resF f o with
  | none => exact told_none hr
  | some v => have := res_kind hr; unfold outB at h; simp at h; omega
theorem work_nil {f : Fx} {l : List Opx} (h : l = []) : workF f l = [] := by subst h; rfl
theorem wellL_work {many : Int} : ∀ {l : List Opx} {ah : Int} {f : Fx}, wellL many ah l → wellL many ah (workF f l)
  | [], _, _, _ => trivial
  | o :: l, ah, f, h => by
    refine ⟨told_opE h.1, by rw [told_t]; exact h.2.1, fun h2 => work_nil (h.2.2.1 (by rw [← told_out f o]; exact h2)), ?_⟩
    rw [told_t]
    exact wellL_work h.2.2.2
theorem strs_cons (o : Opx) (l : List Opx) : strs (o :: l) = (if o.k = 24 then 1 else 0) + strs l := by
  unfold strs; rw [List.filter_cons]; by_cases h : o.k = 24 <;> simp [h]; omega
theorem strs_work : ∀ (l : List Opx) (f : Fx), strs (workF f l) = strs l
  | [], _ => rfl
  | o :: l, f => by
    show strs (toldO f o :: workF (learnF f (toldO f o)) l) = _
    rw [strs_cons, strs_cons, strs_work l]
    congr 1
    rcases told_k (f := f) (o := o) with h | ⟨h1, h2⟩
    · rw [h]
    · rw [h1, if_neg (by omega), if_neg (by omega)]
theorem work_last : ∀ {l : List Opx} {o : Opx} {f : Fx}, l.getLast? = some o → outB o = true → (workF f l).getLast? = some o
  | [], _, _, h, _ => by cases h
  | [a], o, f, h, hb => by
    obtain rfl : a = o := by simpa using h
    show [toldO f a].getLast? = _
    rw [told_out_same hb]; rfl
  | a :: b :: l, o, f, h, hb => by
    have h2 : (b :: l).getLast? = some o := by rw [List.getLast?_cons_cons] at h; exact h
    have ih := work_last (f := learnF f (toldO f a)) h2 hb
    show (toldO f a :: toldO (learnF f (toldO f a)) b :: workF _ l).getLast? = _
    rw [List.getLast?_cons_cons]; exact ih
theorem Well.work {many : Int} {l : List Opx} (W : Well many l) (f : Fx) : Well many (workF f l) := by
  obtain ⟨o, h1, h2⟩ := W.last
  exact ⟨W.m0, W.m1, by rw [workF_len]; exact W.len, by rw [strs_work]; exact W.st, ⟨o, work_last h1 h2, h2⟩, wellL_work W.ops⟩
theorem Well.opt {many : Int} {l : List Opx} (W : Well many l) (lev : Int) : Well many (optL lev l) := by
  unfold optL
  split
  · exact W
  · split
    · exact W.work _
    · exact (W.work _).drop
theorem optL_len (lev : Int) (l : List Opx) : (optL lev l).length ≤ l.length := by
  unfold optL
  split
  · exact Nat.le_refl _
  · split
    · rw [workF_len]; exact Nat.le_refl _
    · exact Nat.le_trans (dropD_len _) (by rw [workF_len]; exact Nat.le_refl _)
end Go.Proofs.YtjkencgcdlfjhaaGreatDoor
/-
  Better codes in whole numbers: what is known and what is dead as the document counts them.
-/
namespace Go.Proofs.YtjkencgcdlfjhaaGreatDoor
open Num
set_option linter.unusedVariables false
theorem factsF_snoc (f : Fx) (l : List Opx) (o : Opx) : factsF f (l ++ [o]) = learnF (factsF f l) o := by unfold factsF; rw [List.foldl_append]; rfl
theorem factsF_zero : ∀ (l : List Opx) (f : Fx), (f 0).isSome = true → (factsF f l 0).isSome = true
  | [], f, h => h
  | o :: l, f, h => by
    refine factsF_zero l (learnF f o) ?_
    unfold learnF
    by_cases h0 : wrX o = 0
    · rw [if_pos h0]; exact h
    · rw [if_neg h0]; unfold putF; rw [if_neg (fun e => h0 e.symm)]; exact h
/-- is a register known behind ops? -/
def knw (l : List Opx) (n : Int) : Bool := (factsF fx0 l n).isSome
theorem knw_zero (l : List Opx) : knw l 0 = true := factsF_zero l fx0 rfl
theorem knw_nil {n : Int} (h : n ≠ 0) : knw [] n = false := by unfold knw factsF fx0; simp [h]
theorem knw_snoc (l : List Opx) (o : Opx) {n : Int} (h : n ≠ 0) : knw (l ++ [o]) n = if wrX o = n then decide (o.k = 1) else knw l n := by
  unfold knw
  rw [factsF_snoc]
  unfold learnF
  by_cases h0 : wrX o = 0
  · rw [if_pos h0, if_neg (by omega)]
  · rw [if_neg h0]; unfold putF
    by_cases h1 : n = wrX o
    · rw [if_pos h1, if_pos h1.symm]
      by_cases h2 : o.k = 1 <;> simp [h2]
    · rw [if_neg h1, if_neg (fun e => h1 e.symm)]
theorem knownC_snoc : ∀ (l : List Opx) (f : Fx) (o : Opx), knownC f (l ++ [o]) = knownC f l + (if tellB (factsF f l) o = true then 1 else 0)
  | [], f, o => by show (if tellB f o = true then 1 else 0) + 0 = 0 + _; rw [Nat.add_zero, Nat.zero_add]; rfl
  | x :: l, f, o => by
    show (if tellB f x = true then 1 else 0) + knownC (learnF f x) (l ++ [o]) = (if tellB f x = true then 1 else 0) + knownC (learnF f x) l + (if tellB (factsF (learnF f x) l) o = true then 1 else 0)
    rw [knownC_snoc l, Nat.add_assoc]
theorem tell_knw (l : List Opx) (o : Opx) : tellB (factsF fx0 l) o = (decide (3 ≤ o.k ∧ o.k ≤ 16) && knw l o.a && knw l o.b) := rfl
theorem knownC_le : ∀ (l : List Opx) (f : Fx), knownC f l ≤ l.length
  | [], _ => Nat.le_refl _
  | x :: l, f => by
    show (if tellB f x = true then 1 else 0) + knownC (learnF f x) l ≤ _
    have := knownC_le l (learnF f x)
    simp only [List.length_cons]
    split <;> omega
/-- whether a register is asked for no more: gone through as the document does -/
def scanD (d : Int) : Bool → List Opx → Bool
  | _, [] => decide (33 < d)
  | f, x :: l => if d ∈ rdX x then false else if wrX x = d then decide (33 < d) || !f else scanD d (f || decide (x.k = 25)) l
def deadD (o : Opx) (l : List Opx) : Bool := decide (1 ≤ o.k ∧ o.k ≤ 20) && scanD o.d false l
def deadN : List Opx → Nat
  | [] => 0
  | o :: l => (if deadD o l = true then 1 else 0) + deadN l
theorem deadN_le : ∀ (l : List Opx), deadN l ≤ l.length
  | [] => Nat.le_refl _
  | x :: l => by
    show (if deadD x l = true then 1 else 0) + deadN l ≤ _
    have := deadN_le l
    simp only [List.length_cons]
    split <;> omega
/-- ops whose last one leaves, and no other one does -/
def endL (l : List Opx) : Prop := ∃ o, l.getLast? = some o ∧ outB o = true
theorem endL_tail {o : Opx} {l : List Opx} (h : endL (o :: l)) (hl : l ≠ []) : endL l := by
  cases l with
  | nil => exact absurd rfl hl
  | cons b l => obtain ⟨x, h1, h2⟩ := h; rw [List.getLast?_cons_cons] at h1; exact ⟨x, h1, h2⟩
theorem scan_need {many : Int} {d : Int} (h1 : 1 ≤ d) : ∀ (l : List Opx) (ah : Int) (f : Bool), wellL many ah l → endL l → scanD d f l = ((!f || decide (33 < d)) && !needN l d)
  | [], _, _, _, h => by obtain ⟨o, h, _⟩ := h; cases h
  | x :: l, ah, f, hw, he => by
    show (if d ∈ rdX x then false else if wrX x = d then decide (33 < d) || !f else scanD d (f || decide (x.k = 25)) l) = (((!f || decide (33 < d)) && !(if d ∈ rdX x then true else if d = wrX x then false else if 25 ≤ x.k ∧ 0 ≤ d ∧ d ≤ 33 then true else needN l d)))
    by_cases hr : d ∈ rdX x
    · rw [if_pos hr, if_pos hr]; simp
    rw [if_neg hr, if_neg hr]
    by_cases hd : wrX x = d
    · rw [if_pos hd, if_pos hd.symm]; cases f <;> simp
    rw [if_neg hd, if_neg (fun e => hd e.symm)]
    by_cases hl : l = []
    · subst hl
      obtain ⟨o, h3, h4⟩ := he
      obtain rfl : x = o := by simpa using h3
      have hk : x.k = 26 ∨ x.k = 27 := by unfold outB at h4; simpa using h4
      have hk2 : x.k ≠ 25 := by omega
      show decide (33 < d) = _
      by_cases h33 : 33 < d
      · rw [if_neg (by omega)]; simp [h33, needN]
      · rw [if_pos (by omega)]; simp [h33]
    have hel := endL_tail he hl
    rw [scan_need h1 l x.t _ hw.2.2.2 hel]
    have ho : ¬ outB x = true := fun e => hl (hw.2.2.1 e)
    have hk : ¬ (x.k = 26 ∨ x.k = 27) := by unfold outB at ho; simpa using ho
    have hk3 := kn_lt x.s
    by_cases h25 : x.k = 25
    · by_cases h33 : 33 < d
      · rw [if_neg (by omega)]; simp [h33]
      · rw [if_pos (by omega)]; simp [h33, h25]
    · rw [if_neg (by unfold Opx.k at *; omega)]; simp [h25]
theorem dead_spare {many ah : Int} {o : Opx} {l : List Opx} (hw : wellL many ah (o :: l)) (he : endL (o :: l)) : deadD o l = spareB (needN l) o := by
  by_cases hl : l = []
  · subst hl
    obtain ⟨x, h3, h4⟩ := he
    obtain rfl : o = x := by simpa using h3
    rw [spare_out _ h4]
    have hk : o.k = 26 ∨ o.k = 27 := by unfold outB at h4; simpa using h4
    have : ¬ (1 ≤ o.k ∧ o.k ≤ 20) := by omega
    unfold deadD; simp [this]
  have hel := endL_tail he hl
  unfold deadD spareB
  by_cases hk : 1 ≤ o.k ∧ o.k ≤ 20
  · have hd : alw 2 o.d = true := by
      obtain ⟨_, hb, _⟩ := opE_zero.1 hw.1
      unfold bndB at hb
      simp only [Bool.and_eq_true] at hb
      have e : rD o.k = 2 := by unfold rD; rw [if_pos (.inl hk)]
      rw [e] at hb; exact hb.1.1.1.1
    have hd' : 1 ≤ o.d := by unfold alw at hd; simp at hd; omega
    have e : wrX o = o.d := by unfold wrX rD; rw [if_pos (by rw [if_pos (.inl hk)])]
    rw [scan_need hd' l o.t false hw.2.2.2 hel, e]
    have h23 : o.k ≠ 23 := by omega
    have h0 : o.d ≠ 0 := by omega
    simp [hk, h23, h0]
  · by_cases h23 : o.k = 23
    · simp [h23]
    · have e : wrX o = 0 := by
        unfold wrX rD
        by_cases h : o.k = 24
        · simp [h]
        · rw [if_neg (show ¬ (1 ≤ o.k ∧ o.k ≤ 20 ∨ o.k = 23) by omega), if_neg h]; rfl
      rw [e]; simp [hk]
theorem deadN_deadC {many : Int} : ∀ (l : List Opx) (ah : Int), wellL many ah l → endL l → deadN l = deadC l
  | [], _, _, _ => rfl
  | o :: l, ah, hw, he => by
    show (if deadD o l = true then 1 else 0) + deadN l = (if spareB (needN l) o = true then 1 else 0) + deadC l
    rw [dead_spare hw he]
    by_cases hl : l = []
    · subst hl; rfl
    · rw [deadN_deadC l o.t hw.2.2.2 (endL_tail he hl)]
theorem deadN_well {many : Int} {l : List Opx} (W : Well many l) : deadN l = deadC l := deadN_deadC l 0 W.ops W.last
theorem learn_some {f g : Fx} {o : Opx} {r : Int} (h : r ≠ wrX o ∨ wrX o = 0 → (f r).isSome = (g r).isSome) : (learnF f o r).isSome = (learnF g o r).isSome := by
  unfold learnF
  by_cases h0 : wrX o = 0
  · rw [if_pos h0, if_pos h0]; exact h (.inr h0)
  · rw [if_neg h0, if_neg h0]; unfold putF
    by_cases h1 : r = wrX o
    · rw [if_pos h1, if_pos h1]
    · rw [if_neg h1, if_neg h1]; exact h (.inl h1)
/-- dropping what is dead makes nothing known -/
theorem known_drop : ∀ (l : List Opx) (f g : Fx), (∀ r, r = 0 ∨ needN (dropD l) r = true → (f r).isSome = (g r).isSome) → knownC g l = 0 → knownC f (dropD l) = 0
  | [], _, _, _, _ => rfl
  | o :: l, f, g, h, hk => by
    have hk2 : (if tellB g o = true then 1 else 0) + knownC (learnF g o) l = 0 := hk
    have ht : tellB g o = false := by
      cases e : tellB g o with
      | false => rfl
      | true => rw [e] at hk2; simp at hk2
    have hr : knownC (learnF g o) l = 0 := by omega
    unfold dropD at h ⊢
    by_cases hs : spareB (needN (dropD l)) o = true
    · rw [if_pos hs] at h ⊢
      refine known_drop l f (learnF g o) (fun r hr2 => ?_) hr
      unfold spareB at hs
      simp only [Bool.and_eq_true, decide_eq_true_eq, Bool.not_eq_true'] at hs
      rw [h r hr2]
      unfold learnF
      rw [if_neg hs.1.1]
      unfold putF
      rw [if_neg]
      intro e
      rcases hr2 with hr2 | hr2
      · exact hs.1.1 (by rw [← e]; exact hr2)
      · rw [e, hs.2] at hr2; cases hr2
    · rw [if_neg hs] at h ⊢
      show (if tellB f o = true then 1 else 0) + knownC (learnF f o) (dropD l) = 0
      have ha : ∀ r, r ∈ rdX o → (f r).isSome = (g r).isSome := fun r hr2 => h r (.inr (by show passN _ o r = true; unfold passN; rw [if_pos hr2]))
      have et : tellB f o = tellB g o := by
        unfold tellB
        by_cases hk3 : 3 ≤ o.k ∧ o.k ≤ 16
        · have e1 : o.a ∈ rdX o := by have e3 : rA o.k = 1 := (by unfold rA; rw [if_pos (by omega)]); unfold rdX; rw [e3]; simp
          have e2 : o.b ∈ rdX o := by have e3 : rB o.k = 1 := (by unfold rB; rw [if_pos (by omega)]); unfold rdX; rw [e3]; simp
          rw [ha _ e1, ha _ e2]
        · simp [hk3]
      rw [et, ht]
      have := known_drop l (learnF f o) (learnF g o) (fun r hr2 => learn_some fun hne => ?_) hr
      · rw [this]; rfl
      by_cases hr0 : r = 0
      · exact h r (.inl hr0)
      · rcases hr2 with hr2 | hr2
        · exact absurd hr2 hr0
        · refine h r (.inr ?_)
          show passN _ o r = true
          unfold passN
          by_cases h1 : r ∈ rdX o
          · rw [if_pos h1]
          · have h2 : r ≠ wrX o := by
              rcases hne with hne | hne
              · exact hne
              · rw [hne]; exact hr0
            rw [if_neg h1, if_neg h2]
            split
            · rfl
            · exact hr2
theorem known_opt {lev : Int} (h : 0 < lev) (l : List Opx) : knownC fx0 (optL lev l) = 0 := by
  unfold optL
  rw [if_neg (by omega)]
  split
  · exact knownC_work l fx0
  · exact known_drop _ fx0 fx0 (fun _ _ => rfl) (knownC_work l fx0)
theorem dead_opt {many lev : Int} {l : List Opx} (W : Well many l) (h : 1 < lev) : deadN (optL lev l) = 0 := by
  rw [deadN_well (W.opt lev)]
  unfold optL
  rw [if_neg (by omega), if_neg (by omega)]
  exact deadC_drop _
end Go.Proofs.YtjkencgcdlfjhaaGreatDoor
/-
  What a kind writes is a word.
-/
namespace Go.Proofs.YtjkencgcdlfjhaaGreatDoor
open Num
set_option linter.unusedVariables false
def u32 (x : Int) : Prop := 0 ≤ x ∧ x < 4294967296
theorem u32_and_bd {a b : Int} (ha : u32 a) (hb : u32 b) : u32 (bits .and .u32 a b) := by
  obtain ⟨x, rfl⟩ : ∃ n : Nat, a = n := ⟨a.toNat, by have := ha.1; omega⟩
  obtain ⟨y, rfl⟩ : ∃ n : Nat, b = n := ⟨b.toNat, by have := hb.1; omega⟩
  have h1 := ha.2
  have h2 := hb.2
  rw [u32_and_nat x y (by omega) (by omega)]
  exact ⟨by omega, by have : x &&& y ≤ x := Nat.and_le_left; omega⟩
theorem u32_or_bd {a b : Int} (ha : u32 a) (hb : u32 b) : u32 (bits .or .u32 a b) := by
  obtain ⟨x, rfl⟩ : ∃ n : Nat, a = n := ⟨a.toNat, by have := ha.1; omega⟩
  obtain ⟨y, rfl⟩ : ∃ n : Nat, b = n := ⟨b.toNat, by have := hb.1; omega⟩
  have h1 := ha.2
  have h2 := hb.2
  rw [u32_or_nat x y (by omega) (by omega)]
  exact ⟨by omega, by have : x ||| y < 2 ^ 32 := Nat.or_lt_two_pow (by omega) (by omega); omega⟩
theorem u32_xor_bd {a b : Int} (ha : u32 a) (hb : u32 b) : u32 (bits .xor .u32 a b) := by
  obtain ⟨x, rfl⟩ : ∃ n : Nat, a = n := ⟨a.toNat, by have := ha.1; omega⟩
  obtain ⟨y, rfl⟩ : ∃ n : Nat, b = n := ⟨b.toNat, by have := hb.1; omega⟩
  have h1 := ha.2
  have h2 := hb.2
  rw [u32_xor_nat x y (by omega) (by omega)]
  exact ⟨by omega, by have : x ^^^ y < 2 ^ 32 := Nat.xor_lt_two_pow (by omega) (by omega); omega⟩
theorem u32_ite {c : Prop} [Decidable c] {x y : Int} (hx : u32 x) (hy : u32 y) : u32 (if c then x else y) := by split <;> assumption
theorem valV_bd (k : Nat) {a b d i : Int} (ha : u32 a) (hb : u32 b) (hd : u32 d) (hi : u32 i) : u32 (valV k a b d i) := by
  have h1 : u32 1 := ⟨by omega, by omega⟩
  have h0 : u32 0 := ⟨by omega, by omega⟩
  unfold valV
  repeat' (first | exact shf_bd ha.1 ha.2 | apply u32_ite)
  all_goals first | assumption | exact lo_bd _ | exact hi_bd _ | exact u32_and_bd ha hb | exact u32_or_bd ha hb | exact u32_xor_bd ha hb | exact u32_xor_bd ⟨by omega, by omega⟩ (u32_or_bd ha hb) | exact shf_bd ha.1 ha.2 | exact quo_bd _ _ _ | exact rst_bd _ _ _
theorem res_bd {f : Fx} {o : Opx} {v : Int} (hf : ∀ x v, f x = some v → 0 ≤ v ∧ v < 4294967296) (h : resF f o = some v) : 0 ≤ v ∧ v < 4294967296 := by
  unfold resF at h
  split at h
  · exact hf _ _ h
  · split at h
    · rename_i h2
      unfold tellB at h2
      simp only [Bool.and_eq_true, decide_eq_true_eq, Option.isSome_iff_exists] at h2
      obtain ⟨⟨h3, a, ha⟩, b, hb⟩ := h2
      rw [ha, hb] at h
      cases h
      exact valV_bd _ (hf _ _ ha) (hf _ _ hb) ⟨by omega, by omega⟩ ⟨by omega, by omega⟩
    · cases h
theorem told_ok {f : Fx} {o : Opx} (hf : ∀ x v, f x = some v → 0 ≤ v ∧ v < 4294967296) (h : o.ok) : (toldO f o).ok := by
  cases hr : resF f o with
  | none => rw [told_none hr]; exact h
  | some v =>
    rw [told_some hr]
    obtain ⟨v0, v1⟩ := res_bd hf hr
    exact ⟨h.d0, h.d1, by show _ ≤ (0 : Int); omega, by show (0 : Int) ≤ _; omega, by show _ ≤ (0 : Int); omega, by show (0 : Int) ≤ _; omega, v0, v1, h.t0, h.t1⟩
end Go.Proofs.YtjkencgcdlfjhaaGreatDoor
