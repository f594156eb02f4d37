/-
  Better codes in whole numbers: what an op reads and writes, what is known, what is dead; what is left of a code.
-/
import Derived.Deep.RegionWith
import Derived.Deep.Cut
import Derived.Laws.Rows
import Derived.Laws.CopyOwn
import Derived.Below
import Derived.Laws.BitsAllLaws
import Derived.Handy
import Derived.Test.YtflagpkmebdckaaGreatDoorQTab
import Derived.Test.YtflagpkmebdckaaGreatDoorKNum
namespace Go.Proofs.YtflagpkmebdckaaGreatDoor
open Num
set_option linter.unusedVariables false
/-- the register that an op writes; 0: none -/
def wrX (o : Opx) : Int := if rD o.k = 2 then o.d else 0
def dvB (k : Nat) : Bool := decide (17 ≤ k ∧ k ≤ 20)
/-- the registers that an op reads -/
def rdX (o : Opx) : List Int := (if rA o.k = 1 then [o.a] else []) ++ (if rB o.k = 1 then [o.b] else []) ++ (if dvB o.k = true then [o.d] else [])
/-- what known registers have -/
abbrev Fx := Int → Option Int
def fx0 : Fx := fun r => if r = 0 then some 0 else none
/-- is an op one whose result is known? -/
def tellB (f : Fx) (o : Opx) : Bool := decide (3 ≤ o.k ∧ o.k ≤ 16) && (f o.a).isSome && (f o.b).isSome
/-- an op's result, where it is known -/
def resF (f : Fx) (o : Opx) : Option Int := if o.k = 2 ∧ (f o.a).isSome = true then f o.a else if tellB f o = true then some (valV o.k ((f o.a).getD 0) ((f o.b).getD 0) 0 0) else none
def putF (f : Fx) (r : Int) (v : Option Int) : Fx := fun x => if x = r then v else f x
/-- what is known behind an op -/
def learnF (f : Fx) (o : Opx) : Fx := if wrX o = 0 then f else putF f (wrX o) (if o.k = 1 then some o.i else none)
/-- an op as it is told -/
def toldO (f : Fx) (o : Opx) : Opx := match resF f o with
  | some v => ⟨kindS 1, o.d, 0, 0, v, o.t⟩
  | none => o
def workF : Fx → List Opx → List Opx
  | _, [] => []
  | f, o :: l => toldO f o :: workF (learnF f (toldO f o)) l
abbrev Nx := Int → Bool
/-- which registers are asked for ahead of an op -/
def passN (n : Nx) (o : Opx) : Nx := fun r => if r ∈ rdX o then true else if r = wrX o then false else if 25 ≤ o.k ∧ 0 ≤ r ∧ r ≤ 33 then true else n r
/-- is an op dead? -/
def spareB (n : Nx) (o : Opx) : Bool := decide (wrX o ≠ 0) && decide (o.k ≠ 23) && !n (wrX o)
def needN : List Opx → Nx
  | [] => fun _ => false
  | o :: l => passN (needN l) o
def dropD : List Opx → List Opx
  | [] => []
  | o :: l => if spareB (needN (dropD l)) o = true then dropD l else o :: dropD l
/-- what Opt makes of ops -/
def optL (lev : Int) (l : List Opx) : List Opx := if lev ≤ 0 then l else if lev = 1 then workF fx0 l else dropD (workF fx0 l)
theorem workF_len : ∀ (l : List Opx) (f : Fx), (workF f l).length = l.length
  | [], _ => rfl
  | o :: l, f => by simp [workF, workF_len l]
theorem dropD_sub : ∀ l : List Opx, (dropD l).Sublist l
  | [] => .slnil
  | o :: l => by
    unfold dropD
    split
    · exact (dropD_sub l).cons _
    · exact (dropD_sub l).cons_cons _
theorem dropD_len (l : List Opx) : (dropD l).length ≤ l.length := (dropD_sub l).length_le
theorem told_some {f : Fx} {o : Opx} {v : Int} (h : resF f o = some v) : toldO f o = ⟨kindS 1, o.d, 0, 0, v, o.t⟩ := by unfold toldO; rw [h]
theorem told_none {f : Fx} {o : Opx} (h : resF f o = none) : toldO f o = o := by unfold toldO; rw [h]
/-- ops that are well, behind one of instruction ah -/
def wellL (many : Int) : Int → List Opx → Prop
  | _, [] => True
  | ah, o :: l => opE o many = 0 ∧ ah ≤ o.t ∧ (outB o = true → l = []) ∧ wellL many o.t l
theorem opF_zero {o : Opx} {many ah : Int} {last : Bool} : opF o many ah last = 0 ↔ opE o many = 0 ∧ ah ≤ o.t ∧ (outB o = true → last = true) := by
  unfold opF
  by_cases h : opE o many = 0
  · rw [if_neg (by simpa using h)]
    by_cases h2 : o.t < ah ∨ outB o = true ∧ last = false
    · rw [if_pos h2]
      constructor
      · intro h; cases h
      · rintro ⟨_, h3, h4⟩
        rcases h2 with h2 | ⟨h5, h6⟩
        · omega
        · rw [h4 h5] at h6; cases h6
    · rw [if_neg h2]
      refine ⟨fun _ => ⟨h, by omega, fun h3 => ?_⟩, fun _ => rfl⟩
      cases last with
      | true => rfl
      | false => exact absurd (.inr ⟨h3, rfl⟩) h2
  · rw [if_pos h]
    exact ⟨fun h2 => absurd h2 h, fun h2 => h2.1⟩
theorem opsF_well (many : Int) : ∀ (l : List Opx) (ah : Int) (n : Nat), opsF many ah n l = (0, -1) ↔ wellL many ah l
  | [], ah, n => by simp [opsF, wellL]
  | o :: l, ah, n => by
    unfold opsF wellL
    by_cases h : opF o many ah l.isEmpty = 0
    · rw [if_neg (by simpa using h), opsF_well many l]
      have := opF_zero.1 h
      exact ⟨fun h2 => ⟨this.1, this.2.1, fun h3 => by simpa using this.2.2 h3, h2⟩, fun h2 => h2.2.2.2⟩
    · rw [if_pos h]
      constructor
      · intro e; have := congrArg Prod.snd e; simp at this
      · rintro ⟨h1, h2, h3, _⟩
        exact absurd (opF_zero.2 ⟨h1, h2, fun h4 => by rw [h3 h4]; rfl⟩) h
theorem wellL_mono {many : Int} {ah ah' : Int} (h : ah' ≤ ah) : ∀ {l : List Opx}, wellL many ah l → wellL many ah' l
  | [], _ => trivial
  | _ :: _, ⟨h1, h2, h3, h4⟩ => ⟨h1, by omega, h3, h4⟩
theorem wellL_sub {many : Int} {l l' : List Opx} (hs : l'.Sublist l) : ∀ {ah : Int}, wellL many ah l → wellL many ah l' := by
  induction hs with
  | slnil => intro ah h; exact h
  | cons a hs ih => intro ah h; exact wellL_mono h.2.1 (ih h.2.2.2)
  | cons_cons a hs ih =>
    intro ah h
    exact ⟨h.1, h.2.1, fun h2 => (by have := h.2.2.1 h2; rw [this] at hs; exact List.sublist_nil.1 hs), ih h.2.2.2⟩
theorem wellL_mem {many : Int} : ∀ {l : List Opx} {ah : Int}, wellL many ah l → ∀ o ∈ l, opE o many = 0
  | _ :: _, _, h, o, hm => by
    rcases List.mem_cons.1 hm with rfl | hm
    · exact h.1
    · exact wellL_mem h.2.2.2 o hm
/-- a code that is well -/
structure Well (many : Int) (l : List Opx) : Prop where
  m0 : 1 ≤ many
  m1 : many ≤ 24
  len : l.length ≤ 200
  st : strs l ≤ 8
  last : ∃ o, l.getLast? = some o ∧ outB o = true
  ops : wellL many 0 l
theorem Well.ne {many : Int} {l : List Opx} (W : Well many l) : l ≠ [] := by
  obtain ⟨o, h, _⟩ := W.last
  intro e; rw [e] at h; cases h
theorem codeF_well {many : Int} {l : List Opx} : codeF many l = (0, -1) ↔ Well many l := by
  unfold codeF
  by_cases h1 : many < 1 ∨ 24 < many
  · rw [if_pos h1]; exact ⟨fun h => (by cases h), fun W => by have := W.m0; have := W.m1; omega⟩
  rw [if_neg h1]
  by_cases h2 : 200 < l.length ∨ 8 < strs l
  · rw [if_pos h2]; exact ⟨fun h => (by cases h), fun W => by have := W.len; have := W.st; omega⟩
  rw [if_neg h2]
  by_cases h3 : l = [] ∨ (l.getLast?.map outB).getD false = false
  · rw [if_pos h3]
    refine ⟨fun h => (by cases h), fun W => ?_⟩
    obtain ⟨o, ho, hb⟩ := W.last
    rcases h3 with h3 | h3
    · exact absurd h3 W.ne
    · rw [ho] at h3; simp [hb] at h3
  rw [if_neg h3, opsF_well]
  refine ⟨fun h => ⟨by omega, by omega, by omega, by omega, ?_, h⟩, fun W => W.ops⟩
  cases hl : l.getLast? with
  | none => exact absurd (List.getLast?_eq_none_iff.1 hl) (fun e => h3 (.inl e))
  | some o =>
    refine ⟨o, rfl, ?_⟩
    cases hb : outB o with
    | true => rfl
    | false => exact absurd (.inr (by rw [hl]; exact hb)) h3
theorem wrX_out {o : Opx} (h : outB o = true) : wrX o = 0 := by
  unfold outB at h
  simp only [decide_eq_true_eq] at h
  unfold wrX rD
  rcases h with h | h <;> simp [h]
theorem spare_out {o : Opx} (n : Nx) (h : outB o = true) : spareB n o = false := by
  unfold spareB; rw [wrX_out h]; simp
theorem dropD_last : ∀ {l : List Opx} {o : Opx}, l.getLast? = some o → outB o = true → (dropD l).getLast? = some o
  | [], _, h, _ => by cases h
  | [a], o, h, hb => by
    obtain rfl : a = o := by simpa using h
    show (if spareB (needN (dropD [])) a = true then dropD [] else a :: dropD []).getLast? = _
    rw [spare_out _ hb]; rfl
  | a :: b :: l, o, h, hb => by
    have h2 : (b :: l).getLast? = some o := by rw [List.getLast?_cons_cons] at h; exact h
    have ih := dropD_last h2 hb
    unfold dropD
    split
    · exact ih
    · cases hd : dropD (b :: l) with
      | nil => rw [hd] at ih; cases ih
      | cons x y => rw [List.getLast?_cons_cons, ← hd]; exact ih
theorem strs_sub {l l' : List Opx} (hs : l'.Sublist l) : strs l' ≤ strs l := (hs.filter _).length_le
theorem Well.drop {many : Int} {l : List Opx} (W : Well many l) : Well many (dropD l) := by
  obtain ⟨o, h1, h2⟩ := W.last
  exact ⟨W.m0, W.m1, Nat.le_trans (dropD_len l) W.len, Nat.le_trans (strs_sub (dropD_sub l)) W.st, ⟨o, dropD_last h1 h2, h2⟩, wellL_sub (dropD_sub l) W.ops⟩
/-- what a kind's result takes of its op -/
theorem res_kind {f : Fx} {o : Opx} {v : Int} (h : resF f o = some v) : 2 ≤ o.k ∧ o.k ≤ 16 := by
  unfold resF at h
  split at h
  · rename_i h2; omega
  · split at h
    · rename_i h2
      unfold tellB at h2
      simp only [Bool.and_eq_true, decide_eq_true_eq] at h2
      omega
    · cases h
theorem opE_zero {o : Opx} {many : Int} : opE o many = 0 ↔ o.k ≠ 0 ∧ bndB o many = true ∧ shpB o = true := by
  unfold opE
  by_cases h : o.k = 0
  · rw [if_pos h]; exact ⟨fun e => (by cases e), fun e => absurd h e.1⟩
  rw [if_neg h]
  by_cases h2 : bndB o many = false
  · rw [if_pos h2]; exact ⟨fun e => (by cases e), fun e => by rw [h2] at e; cases e.2.1⟩
  rw [if_neg h2]
  by_cases h3 : shpB o = false
  · rw [if_pos h3]; exact ⟨fun e => (by cases e), fun e => by rw [h3] at e; cases e.2.2⟩
  rw [if_neg h3]
  exact ⟨fun _ => ⟨h, by simpa using h2, by simpa using h3⟩, fun _ => rfl⟩
theorem told_opE {f : Fx} {o : Opx} {many : Int} (h : opE o many = 0) : opE (toldO f o) many = 0 := by
  cases hr : resF f o with
  | none => rw [told_none hr]; exact h
  | some v =>
    rw [told_some hr]
    have hk := res_kind hr
    obtain ⟨_, hb, _⟩ := opE_zero.1 h
    refine opE_zero.2 ⟨by simp [Opx.k, kn_kind], ?_, ?_⟩
    · unfold bndB at hb ⊢
      simp only [Bool.and_eq_true] at hb
      have e1 : rD o.k = 2 := by unfold rD; rw [if_pos (by omega)]
      rw [e1] at hb
      simp only [Opx.k, kn_kind 1 (by omega) (by omega)]
      simp only [Bool.and_eq_true]
      exact ⟨⟨⟨⟨hb.1.1.1.1, by simp [rA, alw]⟩, by simp [rB, alw]⟩, hb.1.2⟩, hb.2⟩
    · simp [shpB, Opx.k, kn_kind, rD, rA, rB, rI]
theorem told_t (f : Fx) (o : Opx) : (toldO f o).t = o.t := by
  cases hr : resF f o with
  | none => rw [told_none hr]
  | some v => rw [told_some hr]
theorem told_k {f : Fx} {o : Opx} : (toldO f o).k = o.k ∨ ((toldO f o).k = 1 ∧ 2 ≤ o.k ∧ o.k ≤ 16) := by
  cases hr : resF f o with
  | none => rw [told_none hr]; exact .inl rfl
  | some v => rw [told_some hr]; exact .inr ⟨by simp [Opx.k, kn_kind], res_kind hr⟩
theorem told_out (f : Fx) (o : Opx) : outB (toldO f o) = outB o := by
  unfold outB
  rcases told_k (f := f) (o := o) with h | ⟨h1, h2⟩
  · rw [h]
  · rw [h1]; simp; omega
theorem told_out_same {f : Fx} {o : Opx} (h : outB o = true) : toldO f o = o := by
  cases hr : resF f o with
  | none => exact told_none hr
  | some v => have := res_kind hr; unfold outB at h; simp at h; omega
theorem work_nil {f : Fx} {l : List Opx} (h : l = []) : workF f l = [] := by subst h; rfl
theorem wellL_work {many : Int} : ∀ {l : List Opx} {ah : Int} {f : Fx}, wellL many ah l → wellL many ah (workF f l)
  | [], _, _, _ => trivial
  | o :: l, ah, f, h => by
    refine ⟨told_opE h.1, by rw [told_t]; exact h.2.1, fun h2 => work_nil (h.2.2.1 (by rw [← told_out f o]; exact h2)), ?_⟩
    rw [told_t]
    exact wellL_work h.2.2.2
theorem strs_cons (o : Opx) (l : List Opx) : strs (o :: l) = (if o.k = 24 then 1 else 0) + strs l := by
  unfold strs; rw [List.filter_cons]; by_cases h : o.k = 24 <;> simp [h]; omega
theorem strs_work : ∀ (l : List Opx) (f : Fx), strs (workF f l) = strs l
  | [], _ => rfl
  | o :: l, f => by
    show strs (toldO f o :: workF (learnF f (toldO f o)) l) = _
    rw [strs_cons, strs_cons, strs_work l]
    congr 1
    rcases told_k (f := f) (o := o) with h | ⟨h1, h2⟩
    · rw [h]
    · rw [h1, if_neg (by omega), if_neg (by omega)]
theorem work_last : ∀ {l : List Opx} {o : Opx} {f : Fx}, l.getLast? = some o → outB o = true → (workF f l).getLast? = some o
  | [], _, _, h, _ => by cases h
  | [a], o, f, h, hb => by
    obtain rfl : a = o := by simpa using h
    show [toldO f a].getLast? = _
    rw [told_out_same hb]; rfl
  | a :: b :: l, o, f, h, hb => by
    have h2 : (b :: l).getLast? = some o := by rw [List.getLast?_cons_cons] at h; exact h
    have ih := work_last (f := learnF f (toldO f a)) h2 hb
    show (toldO f a :: toldO (learnF f (toldO f a)) b :: workF _ l).getLast? = _
    rw [List.getLast?_cons_cons]; exact ih
theorem Well.work {many : Int} {l : List Opx} (W : Well many l) (f : Fx) : Well many (workF f l) := by
  obtain ⟨o, h1, h2⟩ := W.last
  exact ⟨W.m0, W.m1, by rw [workF_len]; exact W.len, by rw [strs_work]; exact W.st, ⟨o, work_last h1 h2, h2⟩, wellL_work W.ops⟩
theorem Well.opt {many : Int} {l : List Opx} (W : Well many l) (lev : Int) : Well many (optL lev l) := by
  unfold optL
  split
  · exact W
  · split
    · exact W.work _
    · exact (W.work _).drop
end Go.Proofs.YtflagpkmebdckaaGreatDoor
/-
  Better codes in whole numbers: what is known and what is dead as the document counts them.
-/
namespace Go.Proofs.YtflagpkmebdckaaGreatDoor
open Num
set_option linter.unusedVariables false
/-- ops whose last one leaves, and no other one does -/
def endL (l : List Opx) : Prop := ∃ o, l.getLast? = some o ∧ outB o = true
end Go.Proofs.YtflagpkmebdckaaGreatDoor
/-
  Append: a row that was appended to lies where it lay, or anew.
-/
namespace Go.Proofs.YtflagpkmebdckaaGreatDoor
open Go.RowKit
set_option linter.unusedVariables false
/-- a row that was appended to lies where it lay, or anew -/
def Moved (w : World) (v v' : Value) : Prop := ∀ k, v'.ownBlock = some k → v.ownBlock = some k ∨ w.heap.size ≤ k
theorem Moved.refl (w : World) (v : Value) : Moved w v v := fun _ h => Or.inl h
theorem run_append_moved {P : Program} (w : World) (base : Nat) (t ty e : TypeId) (i : TypeInfo) (z : Value) (size bytes : Nat) (ht : P.underlying t = some (.slice e)) (hi : P.info? e = some i) (hz : i.zero = some z)
    (hsize : i.size = size) (hby : i.bytes = bytes) (hzs : z.cells.size = size) (hsz : 0 < size)
    (v : Value) (n : Nat) (xs : List Value) (hown : w.ownsRow base e size v n xs)
    (a : Addr) (m c : Nat) (news : List Value) (hl : news.length = m * size) (hnews : ∀ j u, news[j]? = some u → w.cell? (a.add j) = some u) (h1 : ∀ u ∈ news, u.oneCell' = true)
    (h63 : n + m ≤ maxLen) (hbytes : (n + m) * bytes ≤ 140737488355328) (hbase : base ≤ w.heap.size) :
    ∃ v' w', (Builtin.append_ #[t, t] ty #[v, .slice (some a) m c]).run P w = .ok v' w' ∧ w'.ownsRow base e size v' (n + m) (xs ++ news) ∧ w.grownBy w' v.ownBlock ∧ Moved w v v' := by
  obtain ⟨v', w', hr, h2, h3, h4⟩ := run_append_own (P := P) w base t ty e i z size bytes ht hi hz hsize hby hzs hsz v n xs hown a m c news hl hnews h1 h63 hbytes hbase
  refine ⟨v', w', hr, h2, h3, ?_⟩
  subst hsize
  subst hby
  have hsmall : n + m ≤ 9223372036854775807 := by simp only [maxLen] at h63; omega
  rcases hown.2 with ⟨rfl, rfl⟩ | ⟨g, cap, cur, rfl, hbg, hg, hnc, hcm, hcs, htake⟩
  · by_cases hm : m = 0
    · obtain rfl : v' = .slice none 0 0 := h4.2 ⟨rfl, hm⟩
      exact Moved.refl _ _
    · have hr2 := run_append_nil (P := P) w t ty e i z ht hi hz a m c news hl hnews (by omega) (by omega) (by have hb := hbytes; simp only [Nat.zero_add] at hb; omega)
      rw [hr] at hr2
      injection hr2 with e1 e2
      subst e1
      intro k hk
      simp [Value.ownBlock] at hk
      exact Or.inr (by omega)
  · by_cases hroom : n + m ≤ cap
    · have hfit : n * i.size + news.length ≤ cur.size := by rw [hl, hcs, ← Nat.add_mul]; exact Nat.mul_le_mul_right _ hroom
      have hr2 := run_append_room (P := P) w t ty e i ht hi g n cap cur hg a m c news hl hnews h1 hroom hfit
      rw [hr] at hr2
      injection hr2 with e1 e2
      subst e1
      intro k hk
      exact Or.inl hk
    · have holds : ∀ j u, xs[j]? = some u → w.cell? ((⟨g, 0, none⟩ : Addr).add j) = some u := hown.cells (g := g) rfl
      have hr2 := run_append_grow (P := P) w t ty e i z ht hi hz ⟨g, 0, none⟩ n cap xs hown.1 holds a m c news hl hnews (by omega) (by omega) (growslice_fits (by omega) hbytes)
      rw [hr] at hr2
      injection hr2 with e1 e2
      subst e1
      intro k hk
      simp [Value.ownBlock] at hk
      exact Or.inr (by omega)
theorem wpList_append_moved {P : Program} {w : World} {ops : Array Oper} {rest : List Oper} {o : Oper} {a : Act} {Q : Exit → Act → World → Prop} (hgd : o.guard = none) (s x : Operand) (t : TypeId)
    (ho : o.op = .call { callee := .builtin .append, args := #[s, x], argTypes := #[t, t] })
    (base : Nat) (e : TypeId) (i : TypeInfo) (z : Value) (size bytes : Nat) (ht : P.underlying t = some (.slice e)) (hi : P.info? e = some i) (hz : i.zero = some z)
    (hsize : i.size = size) (hby : i.bytes = bytes) (hzs : z.cells.size = size) (hsz : 0 < size)
    (v : Value) (n : Nat) (xs : List Value) (hs : a.eval s = v) (hown : w.ownsRow base e size v n xs)
    (ad : Addr) (m c : Nat) (news : List Value) (hx : a.eval x = .slice (some ad) m c) (hl : news.length = m * size) (hnews : ∀ j u, news[j]? = some u → w.cell? (ad.add j) = some u) (h1 : ∀ u ∈ news, u.oneCell' = true)
    (h63 : n + m ≤ maxLen) (hbytes : (n + m) * bytes ≤ 140737488355328) (hbase : base ≤ w.heap.size)
    (h : ∀ v' w', w'.ownsRow base e size v' (n + m) (xs ++ news) → w.grownBy w' v.ownBlock → Moved w v v' → wpList P ops Q rest (a.put o.dst v') w') : wpList P ops Q (o :: rest) a w := by
  refine wpList_plain hgd fun K hK => ?_
  obtain ⟨v', w', hr, h2, h3, h4⟩ := run_append_moved (P := P) w base t o.type e i z size bytes ht hi hz hsize hby hzs hsz v n xs hown ad m c news hl hnews h1 h63 hbytes hbase
  unfold Oper.wp execOp
  simp only [ho, resolve, invoke, builtin, Sem.run_bind, Sem.run_pure, Result.andThen_ok, List.map_toArray, List.map_cons, List.map_nil, hs, hx, hr]
  exact hK _ _ (h v' w' h2 h3 h4)
end Go.Proofs.YtflagpkmebdckaaGreatDoor
/-
  Rows of memory that may be written.
-/
namespace Go.Proofs.YtflagpkmebdckaaGreatDoor
open Go.RowKit
set_option linter.unusedVariables false
/-- block b is a row of so many cells, that may be written -/
def RowIs (w : World) (b : Nat) (t : TypeId) (n : Nat) (f : Nat → Value) : Prop := ∃ cur : Array Value, w.heap[b]? = some (.cells cur t (0, 0)) ∧ cur.size = n ∧ ∀ j, j < n → cur[j]? = some (f j)
theorem RowIs.cell {w : World} {b : Nat} {t : TypeId} {n : Nat} {f : Nat → Value} (h : RowIs w b t n f) {j : Nat} (hj : j < n) : w.cell? ⟨b, j, none⟩ = some (f j) := by
  obtain ⟨cur, h1, h2, h3⟩ := h
  rw [cell_of_row _ _ _ _ _ _ h1]; exact h3 j hj
theorem RowIs.fz {w : World} {b : Nat} {t : TypeId} {n : Nat} {f : Nat → Value} (h : RowIs w b t n f) (j : Nat) : w.frozen? ⟨b, j, none⟩ = false := by
  obtain ⟨cur, h1, h2, h3⟩ := h
  simp [World.frozen?, h1]
theorem RowIs.lt {w : World} {b : Nat} {t : TypeId} {n : Nat} {f : Nat → Value} (h : RowIs w b t n f) : b < w.heap.size := by
  obtain ⟨cur, h1, _⟩ := h; exact (Array.getElem?_eq_some_iff.1 h1).1
theorem RowIs.block {w w' : World} {b : Nat} {t : TypeId} {n : Nat} {f : Nat → Value} (h : RowIs w b t n f) (e : w'.heap[b]? = w.heap[b]?) : RowIs w' b t n f := by
  obtain ⟨cur, h1, h2, h3⟩ := h; exact ⟨cur, e.trans h1, h2, h3⟩
theorem RowIs.stays {w w' : World} {b : Nat} {t : TypeId} {n : Nat} {f : Nat → Value} (h : RowIs w b t n f) (hb : Below w.heap.size w w') : RowIs w' b t n f := h.block (hb.block _ h.lt)
theorem RowIs.put {w : World} {b : Nat} {t : TypeId} {n : Nat} {f : Nat → Value} (h : RowIs w b t n f) (i : Nat) (v : Value) (g : Nat → Value) (hg : g i = v) (ho : ∀ j, j < n → j ≠ i → g j = f j) : RowIs (w.setCell ⟨b, i, none⟩ v) b t n g := by
  obtain ⟨cur, h1, h2, h3⟩ := h
  rw [setCell_eq_setRow _ _ _ cur t (0, 0) _ h1]
  refine ⟨cur.setIfInBounds i v, setRow_heap w b _ _ t _ h1, by simp [h2], fun j hj => ?_⟩
  by_cases e : i = j
  · subst e; rw [Array.getElem?_setIfInBounds_self, if_pos (by omega), hg]
  · rw [Array.getElem?_setIfInBounds_ne e, h3 j hj, ho j hj (Ne.symm e)]
theorem owns_blocks {w w' : World} {base : Nat} {e : TypeId} {size n : Nat} {v : Value} {xs : List Value} (h : w.ownsRow base e size v n xs) (hb : ∀ k, v.ownBlock = some k → w'.heap[k]? = w.heap[k]?) : w'.ownsRow base e size v n xs := by
  refine ⟨h.1, ?_⟩
  rcases h.2 with hn | ⟨g, cap, cur, rfl, hbg, hgg, rest⟩
  · exact .inl hn
  · exact .inr ⟨g, cap, cur, rfl, hbg, (hb g rfl).trans hgg, rest⟩
theorem own_pos {w : World} {base : Nat} {e : TypeId} {size n : Nat} {v : Value} {xs : List Value} (h : w.ownsRow base e size v (n + 1) xs) : ∃ g cap, v = .slice (some ⟨g, 0, none⟩) (n + 1) cap := by
  rcases h.2 with ⟨_, h⟩ | ⟨g, cap, cur, rfl, _⟩
  · omega
  · exact ⟨g, cap, rfl⟩
theorem add_lit (g k : Nat) : (⟨g, 0, none⟩ : Addr).add k = ⟨g, k, none⟩ := by unfold Addr.add; split <;> simp_all
end Go.Proofs.YtflagpkmebdckaaGreatDoor
/-
  Instructions made a code, in whole numbers: which ops, and that they are well.
-/
namespace Go.Proofs.YtflagpkmebdckaaGreatDoor.Low
open Num
set_option linter.unusedVariables false
/-- an instruction -/
structure Ix where
  k : Int
  s : Int
  t : Int
  d : Int
  m : Int
abbrev Ix.n (i : Ix) : Nat := i.k.toNat
/-- its cells are numbers of their types -/
structure Ix.bd (i : Ix) : Prop where
  k0 : -9223372036854775808 ≤ i.k
  k1 : i.k ≤ 9223372036854775807
  s0 : -9223372036854775808 ≤ i.s
  s1 : i.s ≤ 9223372036854775807
  t0 : -9223372036854775808 ≤ i.t
  t1 : i.t ≤ 9223372036854775807
  d0 : -9223372036854775808 ≤ i.d
  d1 : i.d ≤ 9223372036854775807
  m0 : 0 ≤ i.m
  m1 : i.m < 4294967296
/-- it has a word -/
def Ix.wordB (i : Ix) : Bool := decide (1 ≤ i.k) && decide (i.k < 54) && Tab.okB (Tab.sh i.n) i.s i.t i.d i.m
/-- its kind: 0 none, 1 sum, 2 branch, 3 trap, 4 load, 5 store -/
def Ix.kd (i : Ix) : Nat := if 0 ≤ i.k ∧ i.k < 54 then Tab.kdL.getD i.n 0 else 0
/-- a number that is at once, as it is wide -/
def immI (k : Nat) (m : Int) : Int := if k = 39 ∨ k = 40 ∨ k = 41 ∨ k = 42 then m else wd m 16 true
/-- how many bytes, and whether signed -/
def szI (k : Nat) : Int := if k = 46 ∨ k = 49 ∨ k = 51 then 1 else if k = 47 ∨ k = 50 ∨ k = 52 then 2 else 4
def sgI (k : Nat) : Bool := decide (k = 46 ∨ k = 47)
def opx (n : Nat) (d a b i t : Int) : Opx := ⟨kindS n, d, a, b, i, t⟩
def wrO (o : Opx) : List Opx := if o.d = 0 then [] else [o]
/-- operands of a result: which takes it, and of which two -/
def oD (k : Nat) (i : Ix) : Int := if 35 ≤ k ∧ k ≤ 41 then i.t else i.d
def oA (k : Nat) (i : Ix) : Int := if 1 ≤ k ∧ k ≤ 6 then i.t else i.s
def oB (k : Nat) (i : Ix) : Int := if 1 ≤ k ∧ k ≤ 3 then 34 else if 4 ≤ k ∧ k ≤ 6 then i.s else if 35 ≤ k ∧ k ≤ 41 then 34 else i.t
/-- the op by which it traps; 0: none -/
def ovK (k : Nat) : Nat := if k = 19 ∨ k = 35 then 21 else if k = 21 then 22 else 0
def rsK (k : Nat) : Nat :=
  if k = 21 ∨ k = 22 then 4 else if k = 23 ∨ k = 39 then 5 else if k = 24 ∨ k = 40 then 6 else if k = 25 ∨ k = 41 then 7 else if k = 26 then 8 else if k = 27 ∨ k = 37 then 9 else if k = 28 ∨ k = 38 then 10 else if k = 1 ∨ k = 4 then 11 else if k = 2 ∨ k = 5 then 12 else if k = 3 ∨ k = 6 then 13 else 3
def resL (i : Ix) (n : Int) : List Opx :=
  if oD i.n i = 0 ∧ ovK i.n = 0 then [] else
    (if oB i.n i = 34 then [opx 1 34 0 0 (immI i.n i.m) n] else []) ++ (if ovK i.n = 0 then [] else [opx (ovK i.n) 0 (oA i.n i) (oB i.n i) 0 n]) ++ wrO (opx (rsK i.n) (oD i.n i) (oA i.n i) (oB i.n i) 0 n)
def hiLoL (h l : Nat) (i : Ix) (n : Int) : List Opx := [opx h 32 i.s i.t 0 n, opx l 33 i.s i.t 0 n]
def sumL (i : Ix) (n : Int) : List Opx :=
  if i.n = 15 then hiLoL 15 14 i n else if i.n = 16 then hiLoL 16 14 i n else if i.n = 17 then hiLoL 18 17 i n else if i.n = 18 then hiLoL 20 19 i n
  else if i.n = 11 then wrO (opx 2 i.d 32 0 0 n) else if i.n = 13 then wrO (opx 2 i.d 33 0 0 n) else if i.n = 12 then [opx 2 32 i.s 0 0 n] else if i.n = 14 then [opx 2 33 i.s 0 0 n]
  else if i.n = 42 then wrO (opx 1 i.t 0 0 (lo (i.m * 65536)) n) else resL i n
def linkI (pc n : Int) : Int := lo (pc + 4 * (n + 2))
def brL (pc : Int) (i : Ix) (n : Int) : List Opx :=
  (if i.n = 31 ∨ i.n = 32 then [opx 7 35 i.s i.t 0 n] else if i.n = 33 ∨ i.n = 34 then [opx 9 35 0 i.s 0 n] else if i.n = 7 ∨ i.n = 8 then [opx 2 35 i.s 0 0 n] else [])
  ++ (if i.n = 30 then [opx 1 31 0 0 (linkI pc n) n] else if i.n = 8 then wrO (opx 1 i.d 0 0 (linkI pc n) n) else [])
def ldL (i : Ix) (n : Int) : List Opx := [opx 23 (if i.t = 0 then 36 else i.t) i.s (if sgI i.n = true then -szI i.n else szI i.n) (immI i.n i.m) n]
def stL (i : Ix) (n : Int) : List Opx := [opx 24 (szI i.n) i.s i.t (immI i.n i.m) n]
/-- the ops of an instruction -/
def insX (pc : Int) (i : Ix) (n : Int) : List Opx := if i.kd = 2 then brL pc i n else if i.kd = 4 then ldL i n else if i.kd = 5 then stL i n else sumL i n
def insXs (pc : Int) : List Ix → Int → List Opx
  | [], _ => []
  | i :: l, n => insX pc i n ++ insXs pc l (n + 1)
theorem insXs_app (pc : Int) : ∀ (a b : List Ix) (n : Int), insXs pc (a ++ b) n = insXs pc a n ++ insXs pc b (n + a.length)
  | [], b, n => by simp [insXs]
  | i :: a, b, n => by
    show insX pc i n ++ insXs pc (a ++ b) (n + 1) = (insX pc i n ++ insXs pc a (n + 1)) ++ insXs pc b (n + ((a.length + 1 : Nat) : Int))
    rw [insXs_app pc a b (n + 1), List.append_assoc]
    congr 3; omega
/-- where a branch at pc goes -/
def tgI (i : Ix) (pc : Int) : Int := if i.n = 29 ∨ i.n = 30 then bits .or .u32 (bits .and .u32 (lo (pc + 4)) 4026531840) (lo (4 * i.m)) else lo (lo (pc + 4) + lo (4 * immI i.n i.m))
def leaveB (i : Ix) (to be n : Int) : List Opx :=
  if i.n = 32 ∨ i.n = 34 then [opx 25 0 35 0 to n, opx 26 0 0 0 be n] else if i.n = 31 ∨ i.n = 33 then [opx 25 0 35 0 be n, opx 26 0 0 0 to n] else if i.n = 7 ∨ i.n = 8 then [opx 27 0 35 0 0 n] else [opx 26 0 0 0 to n]
/-- the last but one, where it is a branch -/
def lastBr (l : List Ix) : Option Ix := if 2 ≤ l.length then (match l[l.length - 2]? with | some i => if i.kd = 2 then some i else none | none => none) else none
def leaveL (pc : Int) (l : List Ix) : List Opx := match lastBr l with
  | some i => leaveB i (tgI i (lo (pc + 4 * ((l.length : Int) - 2)))) (lo (pc + 4 * l.length)) ((l.length : Int) - 1)
  | none => [opx 26 0 0 0 (lo (pc + 4 * l.length)) ((l.length : Int) - 1)]
def lowL (pc : Int) (l : List Ix) : List Opx := insXs pc l 0 ++ leaveL pc l
/-- stores of instructions -/
def stI : List Ix → Nat
  | [] => 0
  | i :: l => (if i.kd = 5 then 1 else 0) + stI l
theorem stI_app : ∀ a b : List Ix, stI (a ++ b) = stI a + stI b
  | [], b => by simp [stI]
  | i :: a, b => by simp [stI, stI_app a b]; omega
/-- is an instruction, number n of len, one of a region? -/
def insB (len n : Nat) (i : Ix) : Bool := i.wordB && decide (i.kd ≠ 3) && (decide (i.kd ≠ 2) || decide (n + 2 = len))
/-- are these instructions ones of a region? -/
def regB (len : Nat) : Nat → Nat → List Ix → Bool
  | _, _, [] => true
  | n, st, i :: l => insB len n i && decide (st + (if i.kd = 5 then 1 else 0) ≤ 8) && regB len (n + 1) (st + (if i.kd = 5 then 1 else 0)) l
/-- an error's number: 6 none, 2 bound, 4 kind -/
def regE (l : List Ix) : Nat := if l.length = 0 then 6 else if 24 < l.length then 2 else if regB l.length 0 0 l = true then 0 else 4
theorem regB_iff (len : Nat) : ∀ (l : List Ix) (n st : Nat), regB len n st l = true ↔ (∀ (j : Nat) (i : Ix), l[j]? = some i → insB len (n + j) i = true) ∧ (st ≤ 8 ∨ l = [] → st + stI l ≤ 8 ∨ l = []) ∧ (l ≠ [] → st + stI l ≤ 8)
  | [], n, st => by simp [regB]
  | i :: l, n, st => by
    have ih := regB_iff len l (n + 1) (st + (if i.kd = 5 then 1 else 0))
    show (insB len n i && decide (st + (if i.kd = 5 then 1 else 0) ≤ 8) && regB len (n + 1) (st + (if i.kd = 5 then 1 else 0)) l) = true ↔ _
    rw [Bool.and_eq_true, Bool.and_eq_true, ih, decide_eq_true_eq]
    have es : stI (i :: l) = (if i.kd = 5 then 1 else 0) + stI l := rfl
    constructor
    · rintro ⟨⟨h1, h2⟩, h3, h4, h5⟩
      refine ⟨fun j q hq => ?_, fun _ => .inl ?_, fun _ => ?_⟩
      · cases j with
        | zero => simp at hq; subst hq; simpa using h1
        | succ j => simp at hq; have := h3 j q hq; rwa [show n + (j + 1) = n + 1 + j by omega]
      all_goals
        rw [es]
        by_cases hl : l = []
        · subst hl; simp [stI]; omega
        · have := h5 hl; omega
    · rintro ⟨h1, h2, h3⟩
      have h4 := h3 (by simp)
      rw [es] at h4
      refine ⟨⟨by simpa using h1 0 i rfl, by omega⟩, fun j q hq => ?_, fun _ => ?_, fun _ => by omega⟩
      · have := h1 (j + 1) q (by simpa using hq); rwa [show n + (j + 1) = n + 1 + j by omega] at this
      · left; omega
/-- what a region's instructions are -/
structure RegOk (l : List Ix) : Prop where
  l0 : 1 ≤ l.length
  l1 : l.length ≤ 24
  st : stI l ≤ 8
  ins : ∀ (j : Nat) (i : Ix), l[j]? = some i → insB l.length j i = true
theorem regE_zero {l : List Ix} (h : regE l = 0) : RegOk l := by
  unfold regE at h
  split at h
  · cases h
  split at h
  · cases h
  split at h
  · rename_i h1 h2 h3
    obtain ⟨g1, g2, g3⟩ := (regB_iff l.length l 0 0).1 h3
    exact ⟨by omega, by omega, by have := g3 (by intro e; rw [e] at h1; exact h1 rfl); omega, fun j i hj => by simpa using g1 j i hj⟩
  · cases h
/-- what an instruction of a region is -/
structure InsOk (i : Ix) : Prop where
  k1 : 1 ≤ i.n
  k2 : i.n < 54
  kk : i.k = i.n
  s0 : 0 ≤ i.s
  s1 : i.s < 32
  t0 : 0 ≤ i.t
  t1 : i.t < 32
  d0 : 0 ≤ i.d
  d1 : i.d < 32
  kd : i.kd = Tab.kdL.getD i.n 0
  nt : i.kd ≠ 3
  ok : Tab.okB (Tab.sh i.n) i.s i.t i.d i.m = true
theorem insB_ok {len n : Nat} {i : Ix} (h : insB len n i = true) : InsOk i ∧ (i.kd = 2 → n + 2 = len) := by
  unfold insB Ix.wordB at h
  simp only [Bool.and_eq_true, Bool.or_eq_true, decide_eq_true_eq] at h
  obtain ⟨⟨⟨⟨h1, h2⟩, h3⟩, h4⟩, h5⟩ := h
  have h3' := h3
  unfold Tab.okB at h3
  simp only [Bool.and_eq_true, decide_eq_true_eq] at h3
  obtain ⟨⟨⟨a, b⟩, c⟩, d⟩ := h3
  refine ⟨⟨by unfold Ix.n; omega, by unfold Ix.n; omega, by unfold Ix.n; omega, ?_, ?_, ?_, ?_, ?_, ?_, by unfold Ix.kd; rw [if_pos (by omega)], h4, h3'⟩, fun e => by rcases h5 with h5 | h5; exact absurd e h5; exact h5⟩
  · rcases Tab.well_of a with h | h <;> omega
  · rcases Tab.well_of a with h | h <;> omega
  · rcases Tab.well_of b with h | h <;> omega
  · rcases Tab.well_of b with h | h <;> omega
  · rcases Tab.well_of c with h | h <;> omega
  · rcases Tab.well_of c with h | h <;> omega
end Go.Proofs.YtflagpkmebdckaaGreatDoor.Low
/-
  What Fields and Kind of package code answer, and IsOf and Part of the verifier's.
-/
namespace Go.Proofs.YtflagpkmebdckaaGreatDoor.K
open Go.RowKit
open Num Tab
set_option linter.unusedVariables false
/-- fields of any number -/
def fieldsI (op : Int) : List UInt8 := if 0 ≤ op ∧ op < 54 then flds op.toNat else []
/-- the kind of any number -/
def kindI (op : Int) : List UInt8 := if 0 ≤ op ∧ op < 54 then kind op.toNat else []
theorem fields_none : ∀ k : Nat, k < 54 → flds k = [] ∨ k = 1 ∨ k = 2 ∨ k = 3 ∨ k = 4 ∨ k = 5 ∨ k = 6 ∨ k = 7 ∨ k = 8 ∨ (11 ≤ k ∧ k ≤ 44) ∨ (46 ≤ k ∧ k ≤ 53) := by decide
set_option maxHeartbeats 4000000 in
theorem fields_any (op : Int) (w : World) : Calls Tryz.prog 155 #[.int .i64 op] w fun e w' => e = .returned (.string ⟨(fieldsI op).toArray⟩) ∧ w' = w := by
  go_enter Tryz.func155, Tryz.ntmps155
  go_wp2
  all_goals go_ret
  all_goals refine ⟨?_, rfl⟩
  all_goals
    first
    | (rename_i h; have h := eq_of_beq h; subst h; exact rfl)
    | (have e : fieldsI op = [] := by
         unfold fieldsI
         by_cases hr : 0 ≤ op ∧ op < 54
         · rw [if_pos hr]
           have := fields_none op.toNat (by omega)
           rcases this with h | h
           · exact h
           · exfalso
             simp only [beq_eq_false_iff_ne, ne_eq] at *
             omega
         · rw [if_neg hr]
       rw [e]; rfl)
theorem kind_rest : ∀ k : Nat, k < 54 → kind k = [115, 117, 109] ∨ k = 0 ∨ k = 7 ∨ k = 8 ∨ k = 9 ∨ k = 10 ∨ (29 ≤ k ∧ k ≤ 34) ∨ (43 ≤ k ∧ k ≤ 53) := by decide
set_option maxHeartbeats 4000000 in
theorem kind_any (op : Int) (w : World) : Calls Tryz.prog 91 #[.int .i64 op] w fun e w' => e = .returned (.string ⟨(kindI op).toArray⟩) ∧ w' = w := by
  by_cases hr : 0 < op ∧ op < 54
  all_goals
    go_enter Tryz.func91, Tryz.ntmps91
    go_wp2_with (go_at_call 158; refine (isOp_any _ _).mono ?_; rintro e w' ⟨rfl, rfl⟩)
  all_goals go_ret
  all_goals refine ⟨?_, rfl⟩
  all_goals
    first
    | (rename_i h; have h := eq_of_beq h; subst h; exact rfl)
    | (have e : kindI op = [115, 117, 109] := by
         unfold kindI
         rw [if_pos (by omega)]
         have := kind_rest op.toNat (by omega)
         rcases this with h | h
         · exact h
         · exfalso
           simp only [beq_eq_false_iff_ne, ne_eq] at *
           omega
       rw [e]; rfl)
    | (have e : kindI op = [] := by
         unfold kindI
         simp only [beq_eq_false_iff_ne, ne_eq] at *
         rw [if_neg (by omega)]
       rw [e]; rfl)
end Go.Proofs.YtflagpkmebdckaaGreatDoor.K
/-
  What stays where it was while memory grows.
-/
namespace Go.Proofs.YtflagpkmebdckaaGreatDoor.K
open Go.RowKit
theorem cell_lt {w : World} {a : Addr} {v : Value} (h : w.cell? a = some v) : a.block < w.heap.size := by
  rcases Nat.lt_or_ge a.block w.heap.size with h' | h'
  · exact h'
  · simp [World.cell?, Array.getElem?_eq_none h'] at h
theorem some_lt {w : World} {k : Nat} {o : Obj} (h : w.heap[k]? = some o) : k < w.heap.size := by
  rcases Nat.lt_or_ge k w.heap.size with h' | h'
  · exact h'
  · rw [Array.getElem?_eq_none h'] at h; cases h
theorem cell_stays {B : Nat} {w w' : World} (h : Below B w w') (hB : w.heap.size ≤ B) {a : Addr} {v : Value} (hc : w.cell? a = some v) : w'.cell? a = some v := by
  rw [h.cell (Nat.lt_of_lt_of_le (cell_lt hc) hB)]; exact hc
theorem row_stays {B : Nat} {w w' : World} (h : Below B w w') (hB : w.heap.size ≤ B) {k : Nat} {o : Obj} (hc : w.heap[k]? = some o) : w'.heap[k]? = some o := by
  rw [h.block k (Nat.lt_of_lt_of_le (some_lt hc) hB)]; exact hc
end Go.Proofs.YtflagpkmebdckaaGreatDoor.K
/-
  Bits of words as sums and rests: masks, and fields laid beside one another.
-/
namespace Go.Proofs.YtflagpkmebdckaaGreatDoor.K
open Tab
/-- a field laid where its bits are 0 -/
theorem or_int (x v : Int) (a k : Nat) (P Q : Int) (hP : P = 2 ^ a) (hQ : Q = 2 ^ (a + k)) (h0 : 0 ≤ x) (h1 : x < 4294967296) (v0 : 0 ≤ v) (v1 : v < 2 ^ k) (g : v * P < 4294967296) (hx : x % Q < P) : bits .or .u32 x (v * P) = x + v * P := by
  obtain ⟨x, rfl⟩ : ∃ n : Nat, x = n := ⟨x.toNat, by omega⟩
  obtain ⟨v, rfl⟩ : ∃ n : Nat, v = n := ⟨v.toNat, by omega⟩
  subst hP hQ
  have e : ((v : Int) * 2 ^ a) = ((v * 2 ^ a : Nat) : Int) := by push_cast; rfl
  rw [e] at g ⊢
  rw [u32_or_nat _ _ (by omega) (by omega), or_nat x v a k (by exact_mod_cast hx) (by exact_mod_cast v1)]
  push_cast; rfl
end Go.Proofs.YtflagpkmebdckaaGreatDoor.K
/-
  What package code's search for an operation answers: the one whose first word is what tells a word, or none.
-/
namespace Go.Proofs.YtflagpkmebdckaaGreatDoor.K
open Go.RowKit Go.Extern.Stop Go.Stop Go.Extern
open Num Tab
set_option linter.unusedVariables false
/-- the table of first words is laid -/
def FT (w : World) : Prop := ∀ i : Nat, i < 54 → w.cell? ⟨10, i, none⟩ = some (.int .u32 (fst i))
theorem FT.stays {w w' : World} {B : Nat} (t : FT w) (h : Below B w w') (hB : w.heap.size ≤ B) : FT w' := fun i hi => cell_stays h hB (t i hi)
theorem FT.drewN {w : World} (t : FT w) (n : Nat) : FT (w.drewN n) := fun i hi => by have := t i hi; simpa using this
theorem below_drewN {B : Nat} {a w : World} (h : Below B a w) (n : Nat) : Below B a (w.drewN n) := ⟨h.os, h.tape, h.output, h.size, h.block⟩
end Go.Proofs.YtflagpkmebdckaaGreatDoor.K
/-
  What a kind writes is a word.
-/
namespace Go.Proofs.YtflagpkmebdckaaGreatDoor
open Num
set_option linter.unusedVariables false
def u32 (x : Int) : Prop := 0 ≤ x ∧ x < 4294967296
theorem u32_and_bd {a b : Int} (ha : u32 a) (hb : u32 b) : u32 (bits .and .u32 a b) := by
  obtain ⟨x, rfl⟩ : ∃ n : Nat, a = n := ⟨a.toNat, by have := ha.1; omega⟩
  obtain ⟨y, rfl⟩ : ∃ n : Nat, b = n := ⟨b.toNat, by have := hb.1; omega⟩
  have h1 := ha.2
  have h2 := hb.2
  rw [u32_and_nat x y (by omega) (by omega)]
  exact ⟨by omega, by have : x &&& y ≤ x := Nat.and_le_left; omega⟩
theorem u32_or_bd {a b : Int} (ha : u32 a) (hb : u32 b) : u32 (bits .or .u32 a b) := by
  obtain ⟨x, rfl⟩ : ∃ n : Nat, a = n := ⟨a.toNat, by have := ha.1; omega⟩
  obtain ⟨y, rfl⟩ : ∃ n : Nat, b = n := ⟨b.toNat, by have := hb.1; omega⟩
  have h1 := ha.2
  have h2 := hb.2
  rw [u32_or_nat x y (by omega) (by omega)]
  exact ⟨by omega, by have : x ||| y < 2 ^ 32 := Nat.or_lt_two_pow (by omega) (by omega); omega⟩
theorem u32_xor_bd {a b : Int} (ha : u32 a) (hb : u32 b) : u32 (bits .xor .u32 a b) := by
  obtain ⟨x, rfl⟩ : ∃ n : Nat, a = n := ⟨a.toNat, by have := ha.1; omega⟩
  obtain ⟨y, rfl⟩ : ∃ n : Nat, b = n := ⟨b.toNat, by have := hb.1; omega⟩
  have h1 := ha.2
  have h2 := hb.2
  rw [u32_xor_nat x y (by omega) (by omega)]
  exact ⟨by omega, by have : x ^^^ y < 2 ^ 32 := Nat.xor_lt_two_pow (by omega) (by omega); omega⟩
theorem u32_ite {c : Prop} [Decidable c] {x y : Int} (hx : u32 x) (hy : u32 y) : u32 (if c then x else y) := by split <;> assumption
theorem valV_bd (k : Nat) {a b d i : Int} (ha : u32 a) (hb : u32 b) (hd : u32 d) (hi : u32 i) : u32 (valV k a b d i) := by
  have h1 : u32 1 := ⟨by omega, by omega⟩
  have h0 : u32 0 := ⟨by omega, by omega⟩
  unfold valV
  repeat' (first | exact shf_bd ha.1 ha.2 | apply u32_ite)
  all_goals first | assumption | exact lo_bd _ | exact hi_bd _ | exact u32_and_bd ha hb | exact u32_or_bd ha hb | exact u32_xor_bd ha hb | exact u32_xor_bd ⟨by omega, by omega⟩ (u32_or_bd ha hb) | exact shf_bd ha.1 ha.2 | exact quo_bd _ _ _ | exact rst_bd _ _ _
theorem res_bd {f : Fx} {o : Opx} {v : Int} (hf : ∀ x v, f x = some v → 0 ≤ v ∧ v < 4294967296) (h : resF f o = some v) : 0 ≤ v ∧ v < 4294967296 := by
  unfold resF at h
  split at h
  · exact hf _ _ h
  · split at h
    · rename_i h2
      unfold tellB at h2
      simp only [Bool.and_eq_true, decide_eq_true_eq, Option.isSome_iff_exists] at h2
      obtain ⟨⟨h3, a, ha⟩, b, hb⟩ := h2
      rw [ha, hb] at h
      cases h
      exact valV_bd _ (hf _ _ ha) (hf _ _ hb) ⟨by omega, by omega⟩ ⟨by omega, by omega⟩
    · cases h
theorem told_ok {f : Fx} {o : Opx} (hf : ∀ x v, f x = some v → 0 ≤ v ∧ v < 4294967296) (h : o.ok) : (toldO f o).ok := by
  cases hr : resF f o with
  | none => rw [told_none hr]; exact h
  | some v =>
    rw [told_some hr]
    obtain ⟨v0, v1⟩ := res_bd hf hr
    exact ⟨h.d0, h.d1, by show _ ≤ (0 : Int); omega, by show (0 : Int) ≤ _; omega, by show _ ≤ (0 : Int); omega, by show (0 : Int) ≤ _; omega, v0, v1, h.t0, h.t1⟩
end Go.Proofs.YtflagpkmebdckaaGreatDoor
