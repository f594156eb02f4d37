/-
  Better codes in whole numbers: what an op reads and writes, what is known, what is dead; what is left of a code.
-/
import Derived.Test.YtcccaejjhodnkabGreatDoorKPure
namespace Go.Proofs.YtcccaejjhodnkabGreatDoor
open Num
set_option linter.unusedVariables false
/-- the register that an op writes; 0: none -/
def wrX (o : Opx) : Int := if rD o.k = 2 then o.d else 0
def dvB (k : Nat) : Bool := decide (17 ≤ k ∧ k ≤ 20)
/-- the registers that an op reads -/
def rdX (o : Opx) : List Int := (if rA o.k = 1 then [o.a] else []) ++ (if rB o.k = 1 then [o.b] else []) ++ (if dvB o.k = true then [o.d] else [])
/-- what known registers have -/
abbrev Fx := Int → Option Int
def fx0 : Fx := fun r => if r = 0 then some 0 else none
/-- is an op one whose result is known? -/
def tellB (f : Fx) (o : Opx) : Bool := decide (3 ≤ o.k ∧ o.k ≤ 16) && (f o.a).isSome && (f o.b).isSome
/-- an op's result, where it is known -/
def resF (f : Fx) (o : Opx) : Option Int := if o.k = 2 ∧ (f o.a).isSome = true then f o.a else if tellB f o = true then some (valV o.k ((f o.a).getD 0) ((f o.b).getD 0) 0 0) else none
def putF (f : Fx) (r : Int) (v : Option Int) : Fx := fun x => if x = r then v else f x
/-- what is known behind an op -/
def learnF (f : Fx) (o : Opx) : Fx := if wrX o = 0 then f else putF f (wrX o) (if o.k = 1 then some o.i else none)
/-- an op as it is told -/
def toldO (f : Fx) (o : Opx) : Opx := match resF f o with
  | some v => ⟨kindS 1, o.d, 0, 0, v, o.t⟩
  | none => o
def workF : Fx → List Opx → List Opx
  | _, [] => []
  | f, o :: l => toldO f o :: workF (learnF f (toldO f o)) l
abbrev Nx := Int → Bool
/-- which registers are asked for ahead of an op -/
def passN (n : Nx) (o : Opx) : Nx := fun r => if r ∈ rdX o then true else if r = wrX o then false else if 25 ≤ o.k ∧ 0 ≤ r ∧ r ≤ 33 then true else n r
/-- is an op dead? -/
def spareB (n : Nx) (o : Opx) : Bool := decide (wrX o ≠ 0) && decide (o.k ≠ 23) && !n (wrX o)
def needN : List Opx → Nx
  | [] => fun _ => false
  | o :: l => passN (needN l) o
def dropD : List Opx → List Opx
  | [] => []
  | o :: l => if spareB (needN (dropD l)) o = true then dropD l else o :: dropD l
/-- what Opt makes of ops -/
def optL (lev : Int) (l : List Opx) : List Opx := if lev ≤ 0 then l else if lev = 1 then workF fx0 l else dropD (workF fx0 l)
theorem workF_len : ∀ (l : List Opx) (f : Fx), (workF f l).length = l.length
  | [], _ => rfl
  | o :: l, f => by simp [workF, workF_len l]
theorem dropD_sub : ∀ l : List Opx, (dropD l).Sublist l
  | [] => .slnil
  | o :: l => by
    unfold dropD
    split
    · exact (dropD_sub l).cons _
    · exact (dropD_sub l).cons_cons _
theorem dropD_len (l : List Opx) : (dropD l).length ≤ l.length := (dropD_sub l).length_le
theorem told_some {f : Fx} {o : Opx} {v : Int} (h : resF f o = some v) : toldO f o = ⟨kindS 1, o.d, 0, 0, v, o.t⟩ := by unfold toldO; rw [h]
theorem told_none {f : Fx} {o : Opx} (h : resF f o = none) : toldO f o = o := by unfold toldO; rw [h]
/-- ops that are well, behind one of instruction ah -/
def wellL (many : Int) : Int → List Opx → Prop
  | _, [] => True
  | ah, o :: l => opE o many = 0 ∧ ah ≤ o.t ∧ (outB o = true → l = []) ∧ wellL many o.t l
theorem wellL_mono {many : Int} {ah ah' : Int} (h : ah' ≤ ah) : ∀ {l : List Opx}, wellL many ah l → wellL many ah' l
  | [], _ => trivial
  | _ :: _, ⟨h1, h2, h3, h4⟩ => ⟨h1, by omega, h3, h4⟩
theorem wellL_sub {many : Int} {l l' : List Opx} (hs : l'.Sublist l) : ∀ {ah : Int}, wellL many ah l → wellL many ah l' := by
  induction hs with
  | slnil => intro ah h; exact h
  | cons a hs ih => intro ah h; exact wellL_mono h.2.1 (ih h.2.2.2)
  | cons_cons a hs ih =>
    intro ah h
    exact ⟨h.1, h.2.1, fun h2 => (by have := h.2.2.1 h2; rw [this] at hs; exact List.sublist_nil.1 hs), ih h.2.2.2⟩
/-- a code that is well -/
structure Well (many : Int) (l : List Opx) : Prop where
  m0 : 1 ≤ many
  m1 : many ≤ 24
  len : l.length ≤ 200
  st : strs l ≤ 8
  last : ∃ o, l.getLast? = some o ∧ outB o = true
  ops : wellL many 0 l
theorem Well.ne {many : Int} {l : List Opx} (W : Well many l) : l ≠ [] := by
  obtain ⟨o, h, _⟩ := W.last
  intro e; rw [e] at h; cases h
theorem wrX_out {o : Opx} (h : outB o = true) : wrX o = 0 := by
  unfold outB at h
  simp only [decide_eq_true_eq] at h
  unfold wrX rD
  rcases h with h | h <;> simp [h]
theorem spare_out {o : Opx} (n : Nx) (h : outB o = true) : spareB n o = false := by
  unfold spareB; rw [wrX_out h]; simp
theorem dropD_last : ∀ {l : List Opx} {o : Opx}, l.getLast? = some o → outB o = true → (dropD l).getLast? = some o
  | [], _, h, _ => by cases h
  | [a], o, h, hb => by
    obtain rfl : a = o := by simpa using h
    show (if spareB (needN (dropD [])) a = true then dropD [] else a :: dropD []).getLast? = _
    rw [spare_out _ hb]; rfl
  | a :: b :: l, o, h, hb => by
    have h2 : (b :: l).getLast? = some o := by rw [List.getLast?_cons_cons] at h; exact h
    have ih := dropD_last h2 hb
    unfold dropD
    split
    · exact ih
    · cases hd : dropD (b :: l) with
      | nil => rw [hd] at ih; cases ih
      | cons x y => rw [List.getLast?_cons_cons, ← hd]; exact ih
theorem strs_sub {l l' : List Opx} (hs : l'.Sublist l) : strs l' ≤ strs l := (hs.filter _).length_le
theorem Well.drop {many : Int} {l : List Opx} (W : Well many l) : Well many (dropD l) := by
  obtain ⟨o, h1, h2⟩ := W.last
  exact ⟨W.m0, W.m1, Nat.le_trans (dropD_len l) W.len, Nat.le_trans (strs_sub (dropD_sub l)) W.st, ⟨o, dropD_last h1 h2, h2⟩, wellL_sub (dropD_sub l) W.ops⟩
/-- what a kind's result takes of its op -/
theorem res_kind {f : Fx} {o : Opx} {v : Int} (h : resF f o = some v) : 2 ≤ o.k ∧ o.k ≤ 16 := by
  unfold resF at h
  split at h
  · rename_i h2; omega
  · split at h
    · rename_i h2
      unfold tellB at h2
      simp only [Bool.and_eq_true, decide_eq_true_eq] at h2
      omega
    · cases h
theorem opE_zero {o : Opx} {many : Int} : opE o many = 0 ↔ o.k ≠ 0 ∧ bndB o many = true ∧ shpB o = true := by
  unfold opE
  by_cases h : o.k = 0
  · rw [if_pos h]; exact ⟨fun e => (by cases e), fun e => absurd h e.1⟩
  rw [if_neg h]
  by_cases h2 : bndB o many = false
  · rw [if_pos h2]; exact ⟨fun e => (by cases e), fun e => by rw [h2] at e; cases e.2.1⟩
  rw [if_neg h2]
  by_cases h3 : shpB o = false
  · rw [if_pos h3]; exact ⟨fun e => (by cases e), fun e => by rw [h3] at e; cases e.2.2⟩
  rw [if_neg h3]
  exact ⟨fun _ => ⟨h, by simpa using h2, by simpa using h3⟩, fun _ => rfl⟩
theorem told_opE {f : Fx} {o : Opx} {many : Int} (h : opE o many = 0) : opE (toldO f o) many = 0 := by
  cases hr : resF f o with
  | none => rw [told_none hr]; exact h
  | some v =>
    rw [told_some hr]
    have hk := res_kind hr
    obtain ⟨_, hb, _⟩ := opE_zero.1 h
    refine opE_zero.2 ⟨by simp [Opx.k, kn_kind], ?_, ?_⟩
    · unfold bndB at hb ⊢
      simp only [Bool.and_eq_true] at hb
      have e1 : rD o.k = 2 := by unfold rD; rw [if_pos (by omega)]
      rw [e1] at hb
      simp only [Opx.k, kn_kind 1 (by omega) (by omega)]
      simp only [Bool.and_eq_true]
      exact ⟨⟨⟨⟨hb.1.1.1.1, by simp [rA, alw]⟩, by simp [rB, alw]⟩, hb.1.2⟩, hb.2⟩
    · simp [shpB, Opx.k, kn_kind, rD, rA, rB, rI]
theorem told_t (f : Fx) (o : Opx) : (toldO f o).t = o.t := by
  cases hr : resF f o with
  | none => rw [told_none hr]
  | some v => rw [told_some hr]
theorem told_k {f : Fx} {o : Opx} : (toldO f o).k = o.k ∨ ((toldO f o).k = 1 ∧ 2 ≤ o.k ∧ o.k ≤ 16) := by
  cases hr : resF f o with
  | none => rw [told_none hr]; exact .inl rfl
  | some v => rw [told_some hr]; exact .inr ⟨by simp [Opx.k, kn_kind], res_kind hr⟩
theorem told_out (f : Fx) (o : Opx) : outB (toldO f o) = outB o := by
  unfold outB
  rcases told_k (f := f) (o := o) with h | ⟨h1, h2⟩
  · rw [h]
  · rw [h1]; simp; omega
theorem told_out_same {f : Fx} {o : Opx} (h : outB o = true) : toldO f o = o := by
  cases hr : resF f o with
  | none => exact told_none hr
  | some v => have := res_kind hr; unfold outB at h; simp at h; omega
theorem work_nil {f : Fx} {l : List Opx} (h : l = []) : workF f l = [] := by subst h; rfl
theorem wellL_work {many : Int} : ∀ {l : List Opx} {ah : Int} {f : Fx}, wellL many ah l → wellL many ah (workF f l)
  | [], _, _, _ => trivial
  | o :: l, ah, f, h => by
    refine ⟨told_opE h.1, by rw [told_t]; exact h.2.1, fun h2 => work_nil (h.2.2.1 (by rw [← told_out f o]; exact h2)), ?_⟩
    rw [told_t]
    exact wellL_work h.2.2.2
theorem strs_cons (o : Opx) (l : List Opx) : strs (o :: l) = (if o.k = 24 then 1 else 0) + strs l := by
  unfold strs; rw [List.filter_cons]; by_cases h : o.k = 24 <;> simp [h]; omega
theorem strs_work : ∀ (l : List Opx) (f : Fx), strs (workF f l) = strs l
  | [], _ => rfl
  | o :: l, f => by
    show strs (toldO f o :: workF (learnF f (toldO f o)) l) = _
    rw [strs_cons, strs_cons, strs_work l]
    congr 1
    rcases told_k (f := f) (o := o) with h | ⟨h1, h2⟩
    · rw [h]
    · rw [h1, if_neg (by omega), if_neg (by omega)]
theorem work_last : ∀ {l : List Opx} {o : Opx} {f : Fx}, l.getLast? = some o → outB o = true → (workF f l).getLast? = some o
  | [], _, _, h, _ => by cases h
  | [a], o, f, h, hb => by
    obtain rfl : a = o := by simpa using h
    show [toldO f a].getLast? = _
    rw [told_out_same hb]; rfl
  | a :: b :: l, o, f, h, hb => by
    have h2 : (b :: l).getLast? = some o := by rw [List.getLast?_cons_cons] at h; exact h
    have ih := work_last (f := learnF f (toldO f a)) h2 hb
    show (toldO f a :: toldO (learnF f (toldO f a)) b :: workF _ l).getLast? = _
    rw [List.getLast?_cons_cons]; exact ih
theorem Well.work {many : Int} {l : List Opx} (W : Well many l) (f : Fx) : Well many (workF f l) := by
  obtain ⟨o, h1, h2⟩ := W.last
  exact ⟨W.m0, W.m1, by rw [workF_len]; exact W.len, by rw [strs_work]; exact W.st, ⟨o, work_last h1 h2, h2⟩, wellL_work W.ops⟩
theorem Well.opt {many : Int} {l : List Opx} (W : Well many l) (lev : Int) : Well many (optL lev l) := by
  unfold optL
  split
  · exact W
  · split
    · exact W.work _
    · exact (W.work _).drop
end Go.Proofs.YtcccaejjhodnkabGreatDoor
/-
  Better codes in whole numbers: what is known and what is dead as the document counts them.
-/
namespace Go.Proofs.YtcccaejjhodnkabGreatDoor
open Num
set_option linter.unusedVariables false
end Go.Proofs.YtcccaejjhodnkabGreatDoor
/-
  Plans in whole numbers: what is wrong with a row or a plan, and how a plan is made.
-/
namespace Go.Proofs.YtcccaejjhodnkabGreatDoor
open Num
set_option linter.unusedVariables false
/-- the part of a row in which an op stands: 0 sums, 1 memory, 2 what leaves -/
def ptO (o : Opx) : Nat := if o.k = 23 ∨ o.k = 24 then 1 else if 25 ≤ o.k then 2 else 0
theorem ptO_lt (o : Opx) : ptO o < 3 := by unfold ptO; split <;> (try split) <;> omega
def ctP (p : Nat) (l : List Opx) : Nat := (l.filter fun o => decide (ptO o = p)).length
theorem ctP_snoc (p : Nat) (l : List Opx) (o : Opx) : ctP p (l ++ [o]) = if p = ptO o then ctP p l + 1 else ctP p l := by
  unfold ctP
  rw [List.filter_append, List.length_append]
  by_cases h : p = ptO o
  · subst h; simp
  · rw [if_neg h]; simp [Ne.symm h]
theorem ctP_le (p : Nat) (l : List Opx) : ctP p l ≤ l.length := List.length_filter_le _ _
theorem ctP_sum (l : List Opx) : ctP 0 l + ctP 1 l + ctP 2 l = l.length := by
  unfold ctP
  induction l with
  | nil => rfl
  | cons o l ih =>
    have := ptO_lt o
    rw [List.filter_cons, List.filter_cons, List.filter_cons, List.length_cons]
    have : ptO o = 0 ∨ ptO o = 1 ∨ ptO o = 2 := by omega
    rcases this with h | h | h <;> simp [h] <;> omega
def fitC (a b c : Nat) : Bool := decide (a ≤ 3) && decide (b ≤ 1) && decide (c ≤ 1) && decide (a + b + c ≤ 4)
def fitB (l : List Opx) : Bool := fitC (ctP 0 l) (ctP 1 l) (ctP 2 l)
/-- does one write what one ahead of it wrote? -/
def dupA : List Opx → List Opx → Bool
  | _, [] => false
  | pre, o :: l => (decide (wrX o ≠ 0) && pre.any fun p => decide (wrX p = wrX o)) || dupA (pre ++ [o]) l
theorem dupA_snoc : ∀ (l pre : List Opx) (o : Opx), dupA pre (l ++ [o]) = (dupA pre l || (decide (wrX o ≠ 0) && (pre ++ l).any fun p => decide (wrX p = wrX o)))
  | [], pre, o => by simp [dupA]
  | q :: l, pre, o => by
    show (_ || dupA (pre ++ [q]) (l ++ [o])) = _
    rw [dupA_snoc l (pre ++ [q]) o]
    simp [dupA, Bool.or_assoc]
theorem dupA_take {l : List Opx} {j : Nat} {o : Opx} (h : l[j]? = some o) : dupA [] (l.take (j + 1)) = (dupA [] (l.take j) || (decide (wrX o ≠ 0) && (l.take j).any fun p => decide (wrX p = wrX o))) := by
  have e : l.take (j + 1) = l.take j ++ [o] := by
    rw [List.take_add_one, h]; rfl
  rw [e, dupA_snoc]; rfl
theorem dupA_mono (l pre : List Opx) (o : Opx) (h : dupA pre l = true) : dupA pre (l ++ [o]) = true := by rw [dupA_snoc, h]; rfl
theorem dupA_found {l : List Opx} {j : Nat} (h : dupA [] (l.take j) = true) : dupA [] l = true := by
  have : ∀ (a b pre : List Opx), dupA pre a = true → dupA pre (a ++ b) = true := by
    intro a b
    induction b generalizing a with
    | nil => intro pre h; simpa using h
    | cons o b ih => intro pre h; have := ih (a ++ [o]) pre (dupA_mono a pre o h); simpa using this
  have e := this (l.take j) (l.drop j) [] h
  rwa [List.take_append_drop] at e
/-- the first op's error -/
def firE (many : Int) : List Opx → Int
  | [] => 0
  | o :: l => if opE o many ≠ 0 then opE o many else firE many l
theorem firE_at (many : Int) : ∀ (l : List Opx) (j : Nat) (o : Opx), l[j]? = some o → (∀ k p, k < j → l[k]? = some p → opE p many = 0) → opE o many ≠ 0 → firE many l = opE o many
  | [], j, o, h, _, _ => by simp at h
  | q :: l, 0, o, h, _, h2 => by
    obtain rfl : q = o := by simpa using h
    unfold firE; rw [if_pos h2]
  | q :: l, j + 1, o, h, h1, h2 => by
    unfold firE
    rw [if_neg (by simpa using h1 0 q (by omega) rfl)]
    exact firE_at many l j o (by simpa using h) (fun k p hk hp => h1 (k + 1) p (by omega) (by simpa using hp)) h2
theorem firE_none (many : Int) : ∀ (l : List Opx), (∀ o ∈ l, opE o many = 0) → firE many l = 0
  | [], _ => rfl
  | q :: l, h => by
    unfold firE
    rw [if_neg (by simpa using h q (by simp))]
    exact firE_none many l fun o ho => h o (by simp [ho])
theorem firE_all (many : Int) : ∀ (l : List Opx), firE many l = 0 → ∀ o ∈ l, opE o many = 0
  | [], _, o, h => by cases h
  | q :: l, hf, o, h => by
    unfold firE at hf
    by_cases hq : opE q many ≠ 0
    · rw [if_pos hq] at hf; exact absurd hf hq
    · rw [if_neg hq] at hf
      rcases List.mem_cons.1 h with rfl | h
      · simpa using hq
      · exact firE_all many l hf o h
/-- what is wrong with a row -/
def rowE (many : Int) (last : Bool) (l : List Opx) : Int :=
  if l = [] ∨ 4 < l.length then 3 else if firE many l ≠ 0 then firE many l else if fitB l = false then 8 else if dupA [] l = true then 7 else if last ≠ l.any outB then 3 else 0
/-- the first row that is not well -/
def rowsF (many : Int) : Nat → List (List Opx) → Int × Int
  | _, [] => (0, -1)
  | n, r :: rs => if rowE many rs.isEmpty r ≠ 0 then (rowE many rs.isEmpty r, n) else rowsF many (n + 1) rs
def strR (rs : List (List Opx)) : Nat := (rs.map strs).sum
theorem strR_snoc (rs : List (List Opx)) (r : List Opx) : strR (rs ++ [r]) = strR rs + strs r := by simp [strR]
/-- what is wrong with a plan -/
def planF (many : Int) (rs : List (List Opx)) : Int × Int :=
  if many < 1 ∨ 24 < many then (2, -1) else if 200 < rs.length then (8, -1) else if rs = [] then (3, -1) else if (rowsF many 0 rs).1 ≠ 0 then rowsF many 0 rs else if 8 < strR rs then (8, -1) else (0, -1)
theorem rowsF_at (many : Int) : ∀ (rs : List (List Opx)) (n j : Nat) (r : List Opx), rs[j]? = some r → (∀ k q, k < j → rs[k]? = some q → rowE many false q = 0) → rowE many (decide (j + 1 = rs.length)) r ≠ 0 → rowsF many n rs = (rowE many (decide (j + 1 = rs.length)) r, ((n + j : Nat) : Int))
  | [], n, j, r, h, _, _ => by simp at h
  | q :: rs, n, 0, r, h, _, h2 => by
    obtain rfl : q = r := by simpa using h
    have e : rs.isEmpty = decide (0 + 1 = (q :: rs).length) := by cases rs <;> simp
    unfold rowsF
    rw [e, if_pos h2]; simp
  | q :: rs, n, j + 1, r, h, h1, h2 => by
    have hne : rs ≠ [] := by rintro rfl; simp at h
    have e : rs.isEmpty = false := by cases rs <;> simp_all
    have h0 := h1 0 q (by omega) rfl
    unfold rowsF
    rw [e, if_neg (by simpa using h0), rowsF_at many rs (n + 1) j r (by simpa using h) (fun k p hk hp => h1 (k + 1) p (by omega) (by simpa using hp)) (by simpa using h2)]
    simp; omega
theorem rowsF_none (many : Int) : ∀ (rs : List (List Opx)) (n : Nat), (∀ k q, rs[k]? = some q → rowE many (decide (k + 1 = rs.length)) q = 0) → rowsF many n rs = (0, -1)
  | [], n, _ => rfl
  | q :: rs, n, h => by
    have e : rs.isEmpty = decide (0 + 1 = (q :: rs).length) := by cases rs <;> simp
    unfold rowsF
    rw [e, if_neg (by simpa using h 0 q rfl)]
    exact rowsF_none many rs (n + 1) fun k p hp => by simpa using h (k + 1) p (by simpa using hp)
theorem opE_vals (o : Opx) (many : Int) : opE o many = 0 ∨ opE o many = 2 ∨ opE o many = 3 ∨ opE o many = 4 := by
  unfold opE
  split
  · omega
  · split
    · omega
    · split <;> omega
theorem firE_vals (many : Int) : ∀ l, firE many l = 0 ∨ firE many l = 2 ∨ firE many l = 3 ∨ firE many l = 4
  | [] => .inl rfl
  | o :: l => by
    unfold firE
    split
    · exact opE_vals o many
    · exact firE_vals many l
theorem rowE_vals (many : Int) (last : Bool) (l : List Opx) : rowE many last l = 0 ∨ rowE many last l = 2 ∨ rowE many last l = 3 ∨ rowE many last l = 4 ∨ rowE many last l = 7 ∨ rowE many last l = 8 := by
  have := firE_vals many l
  unfold rowE
  split
  · omega
  · split
    · omega
    · split
      · omega
      · split
        · omega
        · split <;> omega
theorem rowsF_vals (many : Int) : ∀ (rs : List (List Opx)) (n : Nat), rowsF many n rs = (0, -1) ∨ ∃ (k : Nat) (e : Int), (e = 2 ∨ e = 3 ∨ e = 4 ∨ e = 7 ∨ e = 8) ∧ n ≤ k ∧ k < n + rs.length ∧ rowsF many n rs = (e, (k : Int))
  | [], n => .inl rfl
  | r :: rs, n => by
    unfold rowsF
    by_cases h : rowE many rs.isEmpty r ≠ 0
    · rw [if_pos h]
      right
      refine ⟨n, _, ?_, Nat.le_refl _, by simp, rfl⟩
      have := rowE_vals many rs.isEmpty r
      omega
    · rw [if_neg h]
      rcases rowsF_vals many rs (n + 1) with h | ⟨k, e, h1, h2, h3, h4⟩
      · exact .inl h
      · exact .inr ⟨k, e, h1, by omega, by simp only [List.length_cons]; omega, h4⟩
theorem planF_vals (many : Int) (rs : List (List Opx)) : planF many rs = (0, -1) ∨ planF many rs = (2, -1) ∨ planF many rs = (3, -1) ∨ planF many rs = (8, -1) ∨ ∃ (k : Nat) (e : Int), (e = 2 ∨ e = 3 ∨ e = 4 ∨ e = 7 ∨ e = 8) ∧ k < rs.length ∧ planF many rs = (e, (k : Int)) := by
  unfold planF
  split
  · simp
  · split
    · simp
    · split
      · simp
      · rcases rowsF_vals many rs 0 with h | ⟨k, e, h1, h2, h3, h4⟩
        · rw [h]; split
          · simp_all
          · split <;> simp
        · rw [h4]
          rw [if_pos (by show e ≠ 0; omega)]
          exact .inr (.inr (.inr (.inr ⟨k, e, h1, by omega, rfl⟩)))
/-- a plan on its way: rows; the first row in which a register can be read; the last row that reads it; the first rows behind the last if, store, load or store -/
structure Mk where
  rows : List (List Opx)
  rdy : Nat → Nat
  ask : Nat → Nat
  bI : Nat
  bS : Nat
  bM : Nat
def frA (M : Mk) (l : List Int) (n : Nat) : Nat := l.foldl (fun n r => max n (M.rdy r.toNat)) n
def frW (M : Mk) (o : Opx) (n : Nat) : Nat := if wrX o ≠ 0 then max (max n (M.rdy (wrX o).toNat)) (M.ask (wrX o).toNat) else n
def frK (M : Mk) (o : Opx) (n : Nat) : Nat := if o.k = 23 then max n M.bS else if o.k = 24 then max n M.bM else if 25 ≤ o.k then max n (M.rows.length - 1) else n
/-- the first row in which an op may stand -/
def frR (M : Mk) (o : Opx) : Nat := frK M o (frW M o (frA M (rdX o) M.bI))
def roomB (o : Opx) (r : List Opx) : Bool := fitB (r ++ [o])
def rowN (M : Mk) (o : Opx) : Nat := frR M o + (M.rows.drop (frR M o)).findIdx (roomB o)
def putR (rs : List (List Opx)) (n : Nat) (o : Opx) : List (List Opx) := if n < rs.length then rs.modify n (· ++ [o]) else rs ++ [[o]]
def setN (f : Nat → Nat) (r n : Nat) : Nat → Nat := fun k => if k = r then n else f k
def ntA (f : Nat → Nat) (n : Nat) (l : List Int) : Nat → Nat := l.foldl (fun f r => setN f r.toNat (max (f r.toNat) n)) f
def note (M : Mk) (o : Opx) (n : Nat) : Mk where
  rows := M.rows
  rdy := if wrX o ≠ 0 then setN M.rdy (wrX o).toNat (n + 1) else M.rdy
  ask := ntA M.ask n (rdX o)
  bI := if o.k = 25 then n + 1 else M.bI
  bS := if o.k = 24 then n + 1 else M.bS
  bM := if o.k = 23 then max M.bM (n + 1) else if o.k = 24 then n + 1 else M.bM
def place (M : Mk) (o : Opx) : Mk := note { M with rows := putR M.rows (rowN M o) o } o (rowN M o)
structure MkOk (M : Mk) : Prop where
  rdy : ∀ r, M.rdy r ≤ M.rows.length
  ask : ∀ r, M.ask r ≤ M.rows.length
  bI : M.bI ≤ M.rows.length
  bS : M.bS ≤ M.rows.length
  bM : M.bM ≤ M.rows.length
end Go.Proofs.YtcccaejjhodnkabGreatDoor
/-
  Rows of ops over registers and memory, as the document runs them, in whole numbers; better codes end alike.
-/
namespace Go.Proofs.YtcccaejjhodnkabGreatDoor
open Num
set_option linter.unusedVariables false
/-- what an op comes to: what it writes, an address, whether it traps, whether it leaves -/
structure Ro where
  v : Int
  a : Int
  trap : Bool
  leave : Bool
/-- registers, memory, where it leaves for (-1: it does not) -/
structure Mz where
  x : Nat → Int
  m : Nat → Int
  lv : Int
inductive Oz where
  | trap (t : Int)
  | leave (M : Mz)
  | fell
theorem well_d {o : Opx} {many : Int} (h : opE o many = 0) (hr : rD o.k = 2) : 1 ≤ o.d ∧ o.d < 64 := by
  obtain ⟨_, hb, _⟩ := opE_zero.1 h
  unfold bndB at hb
  simp only [Bool.and_eq_true] at hb
  rw [hr] at hb
  have := hb.1.1.1.1
  unfold alw at this; simp at this; omega
theorem well_wr {o : Opx} {many : Int} (h : opE o many = 0) : 0 ≤ wrX o ∧ wrX o < 64 := by
  unfold wrX
  split
  · rename_i hr; have := well_d h hr; omega
  · omega
/-- facts that hold -/
def FactsOf (f : Fx) (x : Nat → Int) : Prop := ∀ r v, f r = some v → 0 ≤ r ∧ x r.toNat = v
theorem FactsOf.zero {x : Nat → Int} (h : x 0 = 0) : FactsOf fx0 x := by
  intro r v e
  unfold fx0 at e
  split at e
  · rename_i h0; subst h0; cases e; exact ⟨by omega, h⟩
  · cases e
end Go.Proofs.YtcccaejjhodnkabGreatDoor
