/-
  A plan that is made of a code is well and has the code's ops, in whole numbers.
-/
import Derived.Test.YtjkencgcdlfjhaaGreatDoorJMkR
namespace Go.Proofs.YtjkencgcdlfjhaaGreatDoor
open Num
set_option linter.unusedVariables false
theorem putR_rowW {rs : List (List Opx)} {n : Nat} {o : Opx} {j : Nat} {s : List Opx} (hn : n ≤ rs.length) (h : (putR rs n o)[j]? = some s) : (j = n ∧ n < rs.length ∧ ∃ r, rs[n]? = some r ∧ s = r ++ [o]) ∨ (j = n ∧ n = rs.length ∧ s = [o]) ∨ (j ≠ n ∧ rs[j]? = some s) := by
  unfold putR at h
  split at h
  · rename_i hlt
    by_cases e : j = n
    · subst e
      obtain ⟨r, hr⟩ : ∃ r, rs[j]? = some r := ⟨_, List.getElem?_eq_getElem hlt⟩
      rw [List.getElem?_modify, hr] at h
      obtain rfl : r ++ [o] = s := by simpa using h
      exact .inl ⟨rfl, hlt, r, hr, rfl⟩
    · rw [List.getElem?_modify] at h
      exact .inr (.inr ⟨e, by simpa [Ne.symm e] using h⟩)
  · have e : n = rs.length := by omega
    by_cases hj : j < rs.length
    · rw [List.getElem?_append_left hj] at h
      exact .inr (.inr ⟨by omega, h⟩)
    · rw [List.getElem?_append_right (by omega)] at h
      have h0 : j - rs.length = 0 := by
        rcases Nat.eq_zero_or_pos (j - rs.length) with h0 | h0
        · exact h0
        · rw [List.getElem?_eq_none (by simp; omega)] at h; cases h
      rw [h0] at h
      obtain rfl : [o] = s := by simpa using h
      exact .inr (.inl ⟨by omega, e, rfl⟩)
structure MkFit (many : Int) (M : Mk) : Prop where
  ne : ∀ r ∈ M.rows, r ≠ []
  fit : ∀ r ∈ M.rows, fitB r = true
  dup : ∀ r ∈ M.rows, dupA [] r = false
  ok : ∀ r ∈ M.rows, ∀ p ∈ r, opE p many = 0
theorem fit_one (o : Opx) : fitB [o] = true := by
  have := ptO_lt o
  have : ptO o = 0 ∨ ptO o = 1 ∨ ptO o = 2 := by omega
  rcases this with h | h | h <;> simp [fitB, fitC, ctP, h]
theorem room_of {M : Mk} {o : Opx} {r : List Opx} (h : rowN M o < M.rows.length) (hr : M.rows[rowN M o]? = some r) : fitB (r ++ [o]) = true := by
  have hlt : (M.rows.drop (frR M o)).findIdx (roomB o) < (M.rows.drop (frR M o)).length := by
    rw [List.length_drop]
    have : rowN M o = frR M o + (M.rows.drop (frR M o)).findIdx (roomB o) := rfl
    omega
  have h1 := List.findIdx_getElem (w := hlt)
  have h2 : (M.rows.drop (frR M o))[(M.rows.drop (frR M o)).findIdx (roomB o)]? = some r := by
    rw [List.getElem?_drop]; exact hr
  rw [List.getElem?_eq_getElem hlt] at h2
  have h3 := Option.some.inj h2
  rw [h3] at h1
  exact h1
theorem place_fit {many : Int} {M : Mk} (I : MkInv M) (K : MkOk M) (F : MkFit many M) {o : Opx} (ho : opE o many = 0) : MkFit many (place M o) := by
  have hn := rowN_le K o
  have G := rowN_ge M o
  have hrows : (place M o).rows = putR M.rows (rowN M o) o := rfl
  have key : ∀ s ∈ (place M o).rows, (∃ r, M.rows[rowN M o]? = some r ∧ s = r ++ [o] ∧ fitB s = true) ∨ s = [o] ∨ s ∈ M.rows := fun s hs => by
    obtain ⟨j, hj⟩ := List.getElem?_of_mem hs
    rw [hrows] at hj
    rcases putR_rowW hn hj with ⟨e, hlt, r, hr, rfl⟩ | ⟨e, hlt, rfl⟩ | ⟨e, h⟩
    · exact .inl ⟨r, hr, rfl, room_of hlt hr⟩
    · exact .inr (.inl rfl)
    · exact .inr (.inr (List.mem_of_getElem? h))
  refine ⟨fun s hs => ?_, fun s hs => ?_, fun s hs => ?_, fun s hs p hp => ?_⟩
  · rcases key s hs with ⟨r, hr, rfl, _⟩ | rfl | h
    · simp
    · simp
    · exact F.ne s h
  · rcases key s hs with ⟨r, hr, rfl, h⟩ | rfl | h
    · exact h
    · exact fit_one o
    · exact F.fit s h
  · rcases key s hs with ⟨r, hr, rfl, _⟩ | rfl | h
    · rw [dupA_snoc, F.dup r (List.mem_of_getElem? hr), Bool.false_or]
      apply Bool.eq_false_iff.2
      intro h
      simp only [Bool.and_eq_true, decide_eq_true_eq, List.nil_append, List.any_eq_true] at h
      obtain ⟨hw, p, hp, e⟩ := h
      have a := I.rdy _ r hr p hp (by rw [e]; exact hw)
      have b := G.ww hw
      rw [e] at a; omega
    · simp [dupA]
    · exact F.dup s h
  · rcases key s hs with ⟨r, hr, rfl, _⟩ | rfl | h
    · rcases List.mem_append.1 hp with hp | hp
      · exact F.ok r (List.mem_of_getElem? hr) p hp
      · rw [List.mem_singleton.1 hp]; exact ho
    · rw [List.mem_singleton.1 hp]; exact ho
    · exact F.ok s h p hp
theorem mk0_fit (many : Int) : MkFit many mk0 := ⟨fun r h => (by cases h), fun r h => (by cases h), fun r h => (by cases h), fun r h => (by cases h)⟩
theorem fold_all {many : Int} : ∀ (l : List Opx) (M : Mk), MkInv M → MkOk M → MkFit many M → (∀ o ∈ l, o.k < 26 ∧ o.k ≠ 0 ∧ opE o many = 0) → MkInv (l.foldl place M) ∧ MkOk (l.foldl place M) ∧ MkFit many (l.foldl place M)
  | [], M, I, K, F, _ => ⟨I, K, F⟩
  | o :: l, M, I, K, F, h => by
    obtain ⟨h1, h2, h3⟩ := h o (by simp)
    exact fold_all l (place M o) (place_inv I K h1 h2) (place_ok K o) (place_fit I K F h3) fun q hq => h q (by simp [hq])
theorem putR_perm {rs : List (List Opx)} {n : Nat} {o : Opx} : (putR rs n o).flatten.Perm (rs.flatten ++ [o]) := by
  unfold putR
  split
  · rename_i hn
    have hd : rs.drop n = rs[n] :: rs.drop (n + 1) := List.drop_eq_getElem_cons hn
    have hsp : rs = rs.take n ++ rs[n] :: rs.drop (n + 1) := by rw [← hd, List.take_append_drop]
    have e1 : (rs.modify n (· ++ [o])).flatten = (rs.take n).flatten ++ (rs[n] ++ ([o] ++ (rs.drop (n + 1)).flatten)) := by
      rw [List.modify_eq_take_cons_drop hn]; simp
    have e2 : rs.flatten ++ [o] = (rs.take n).flatten ++ (rs[n] ++ ((rs.drop (n + 1)).flatten ++ [o])) := by
      have e3 : rs.flatten = (rs.take n).flatten ++ (rs[n] ++ (rs.drop (n + 1)).flatten) := (congrArg List.flatten hsp).trans (by rw [List.flatten_append, List.flatten_cons])
      rw [e3, List.append_assoc, List.append_assoc]
    rw [e1, e2]
    exact (List.perm_append_comm.append_left _).append_left _
  · simp
theorem fold_perm : ∀ (l : List Opx) (M : Mk), (l.foldl place M).rows.flatten.Perm (M.rows.flatten ++ l)
  | [], M => by simp
  | o :: l, M => by
    have h := fold_perm l (place M o)
    have h2 : (place M o).rows.flatten.Perm (M.rows.flatten ++ [o]) := putR_perm
    have h3 := h.trans (h2.append_right l)
    simpa using h3
theorem make_perm (l : List Opx) : (makeP l).rows.flatten.Perm l := by
  have h := fold_perm l mk0
  rw [show mk0.rows.flatten ++ l = l from rfl] at h
  exact h
theorem fold_len : ∀ (l : List Opx) (M : Mk), (l.foldl place M).rows.length ≤ M.rows.length + l.length ∧ M.rows.length ≤ (l.foldl place M).rows.length
  | [], M => ⟨Nat.le_refl _, Nat.le_refl _⟩
  | o :: l, M => by
    have h := fold_len l (place M o)
    have h2 : (place M o).rows.length = if rowN M o < M.rows.length then M.rows.length else M.rows.length + 1 := putR_len _ _ _
    have h3 : ((o :: l).foldl place M).rows.length = (l.foldl place (place M o)).rows.length := rfl
    have h4 : (o :: l).length = l.length + 1 := rfl
    rw [h3, h4]
    split at h2 <;> omega
theorem make_len (l : List Opx) : (makeP l).rows.length ≤ l.length := by have := (fold_len l mk0).1; simpa [mk0, makeP] using this
theorem strR_flat (rs : List (List Opx)) : strR rs = strs rs.flatten := by
  unfold strR
  induction rs with
  | nil => rfl
  | cons r rs ih => rw [List.map_cons, List.sum_cons, ih]; unfold strs; simp
theorem strs_perm {a b : List Opx} (h : a.Perm b) : strs a = strs b := (h.filter _).length_eq
theorem outL_front {o : Opx} : ∀ {l : List Opx}, OutL (l ++ [o]) → ∀ p ∈ l, p.k < 26 ∧ p.k ≠ 0
  | [], _, p, hp => by cases hp
  | q :: l, h, p, hp => by
    obtain ⟨h1, h2, h3⟩ := h
    rcases List.mem_cons.1 hp with rfl | hp
    · exact ⟨h2 (by simp), h1⟩
    · exact outL_front h3 p hp
theorem fit_len {r : List Opx} (h : fitB r = true) : r.length ≤ 4 := by
  have := ctP_sum r
  unfold fitB fitC at h
  simp only [Bool.and_eq_true, decide_eq_true_eq] at h
  omega
/-- the plan is well -/
theorem make_fit {many : Int} {l : List Opx} (W : Well many l) : MkFit many (makeP l) := by
  obtain ⟨o, hlast, hout⟩ := W.last
  obtain ⟨l', rfl⟩ := List.getLast?_eq_some_iff.1 hlast
  have hall : ∀ p ∈ l', p.k < 26 ∧ p.k ≠ 0 ∧ opE p many = 0 := fun p hp => by
    have a := outL_front (outL_well W.ops) p hp
    exact ⟨a.1, a.2, wellL_mem W.ops p (by simp [hp])⟩
  have ho : opE o many = 0 := wellL_mem W.ops o (by simp)
  obtain ⟨I, K, F⟩ := fold_all l' mk0 mk0_inv mk0_ok (mk0_fit many) hall
  have eM : makeP (l' ++ [o]) = place (makeP l') o := by unfold makeP; rw [List.foldl_append]; rfl
  rw [eM]; exact place_fit I K F ho
theorem make_well {many : Int} {l : List Opx} (W : Well many l) : planF many (makeP l).rows = (0, -1) := by
  obtain ⟨o, hlast, hout⟩ := W.last
  obtain ⟨l', rfl⟩ := List.getLast?_eq_some_iff.1 hlast
  have hall : ∀ p ∈ l', p.k < 26 ∧ p.k ≠ 0 ∧ opE p many = 0 := fun p hp => by
    have a := outL_front (outL_well W.ops) p hp
    exact ⟨a.1, a.2, wellL_mem W.ops p (by simp [hp])⟩
  have ho : opE o many = 0 := wellL_mem W.ops o (by simp)
  obtain ⟨I, K, F⟩ := fold_all l' mk0 mk0_inv mk0_ok (mk0_fit many) hall
  have eM : makeP (l' ++ [o]) = place (makeP l') o := by unfold makeP; rw [List.foldl_append]; rfl
  have F2 := place_fit I K F ho
  have hn := rowN_le K o
  have G := rowN_ge (l'.foldl place mk0) o
  have hk : 26 ≤ o.k := by unfold outB at hout; simp at hout; omega
  have hlen := make_len (l' ++ [o])
  have hW := W.len
  have hrows : (makeP (l' ++ [o])).rows = putR (l'.foldl place mk0).rows (rowN (l'.foldl place mk0) o) o := by rw [eM]; rfl
  have hF : MkFit many (makeP (l' ++ [o])) := by rw [eM]; exact F2
  have hL := putR_len (l'.foldl place mk0).rows (rowN (l'.foldl place mk0) o) o
  rw [← hrows] at hL
  have hpos : (makeP (l' ++ [o])).rows ≠ [] := by
    intro e
    rw [e] at hL
    simp only [List.length_nil] at hL
    split at hL <;> omega
  have h5 := G.k5 (by omega)
  have hno : ∀ r ∈ (l'.foldl place mk0).rows, r.any outB = false := fun r hr => by
    apply Bool.eq_false_iff.2
    intro h
    obtain ⟨p, hp, h⟩ := List.any_eq_true.1 h
    have := (I.out r hr p hp).1
    unfold outB at h
    simp at h
    omega
  have hrowE : ∀ k q, (makeP (l' ++ [o])).rows[k]? = some q → rowE many (decide (k + 1 = (makeP (l' ++ [o])).rows.length)) q = 0 := fun k q hq => by
    have hm := List.mem_of_getElem? hq
    have hfit := hF.fit q hm
    have hl4 := fit_len hfit
    unfold rowE
    rw [if_neg (by intro h; rcases h with h | h; exact hF.ne q hm h; omega), firE_none many q (hF.ok q hm), if_neg (by simp), if_neg (by rw [hfit]; simp), if_neg (by rw [hF.dup q hm]; simp), if_neg ?_]
    intro h
    apply h
    rw [hL]
    rw [hrows] at hq
    rcases putR_rowW hn hq with ⟨e, hlt, r, hr, rfl⟩ | ⟨e, hlt, rfl⟩ | ⟨e, h⟩
    · rw [if_pos hlt, List.any_append]
      simp only [List.any_cons, hout, List.any_nil, Bool.or_false, Bool.or_true, decide_eq_true_eq]
      omega
    · rw [if_neg (by omega)]
      simp only [List.any_cons, hout, List.any_nil, Bool.or_false, decide_eq_true_eq]
      omega
    · rw [hno q (List.mem_of_getElem? h)]
      have hkl := (List.getElem?_eq_some_iff.1 h).1
      apply decide_eq_false
      split <;> omega
  unfold planF
  rw [if_neg (by have := W.m0; have := W.m1; omega), if_neg (by omega), if_neg hpos, rowsF_none many _ 0 hrowE, if_neg (by simp), if_neg]
  rw [strR_flat, strs_perm (make_perm _)]
  have := W.st
  omega
end Go.Proofs.YtjkencgcdlfjhaaGreatDoor
/-
  A plan that is made of a code is not loose, in whole numbers: of two plain rows, one behind the other, that would be one, one touches the other.
-/
namespace Go.Proofs.YtjkencgcdlfjhaaGreatDoor
open Num
set_option linter.unusedVariables false
def plB (o : Opx) : Bool := decide (1 ≤ o.k ∧ o.k ≤ 20)
/-- why an op opens a row behind the row r -/
def Tight (r : List Opx) (o : Opx) : Prop := (∃ p ∈ r, plB p = false) ∨ plB o = false ∨ 3 ≤ r.length ∨ ∃ p ∈ r, wrX p ≠ 0 ∧ ((wrX o ≠ 0 ∧ (wrX p).toNat = (wrX o).toNat) ∨ ∃ q ∈ rdX o, q.toNat = (wrX p).toNat)
theorem Tight.snoc {r : List Opx} {o : Opx} (h : Tight r o) (x : Opx) : Tight (r ++ [x]) o := by
  rcases h with ⟨p, hp, h⟩ | h | h | ⟨p, hp, h⟩
  · exact .inl ⟨p, by simp [hp], h⟩
  · exact .inr (.inl h)
  · exact .inr (.inr (.inl (by simp; omega)))
  · exact .inr (.inr (.inr ⟨p, by simp [hp], h⟩))
structure MkTt (M : Mk) : Prop where
  rdy : ∀ (t j : Nat), M.rdy t = j + 1 → ∃ r, M.rows[j]? = some r ∧ ∃ p ∈ r, wrX p ≠ 0 ∧ (wrX p).toNat = t
  ask : ∀ t, M.ask t = 0 ∨ M.ask t < M.rows.length
  bI : ∀ j, M.bI = j + 1 → ∃ r, M.rows[j]? = some r ∧ ∃ p ∈ r, p.k = 25
  tt : ∀ (j : Nat) (r s : List Opx), M.rows[j]? = some r → M.rows[j + 1]? = some s → ∃ o t, s = o :: t ∧ Tight r o
theorem mk0_tt : MkTt mk0 := ⟨fun t j h => by simp [mk0] at h, fun t => .inl rfl, fun j h => by simp [mk0] at h, fun j r s h => by simp [mk0] at h⟩
theorem putR_new {rs : List (List Opx)} {n : Nat} {o : Opx} (hn : n ≤ rs.length) : ∃ s, (putR rs n o)[n]? = some s ∧ o ∈ s := by
  unfold putR
  split
  · rename_i h
    exact ⟨rs[n] ++ [o], by rw [List.getElem?_modify, List.getElem?_eq_getElem h]; simp, by simp⟩
  · have e : n = rs.length := by omega
    exact ⟨[o], by rw [e]; simp, by simp⟩
theorem putR_old {rs : List (List Opx)} {n : Nat} {o : Opx} {j : Nat} {r : List Opx} (h : rs[j]? = some r) : ∃ s, (putR rs n o)[j]? = some s ∧ (s = r ∨ s = r ++ [o]) := by
  have hj := (List.getElem?_eq_some_iff.1 h).1
  unfold putR
  split
  · by_cases e : n = j
    · exact ⟨r ++ [o], by rw [List.getElem?_modify, h]; simp [e], .inr rfl⟩
    · exact ⟨r, by rw [List.getElem?_modify, h]; simp [e], .inl rfl⟩
  · exact ⟨r, by rw [List.getElem?_append_left hj]; exact h, .inl rfl⟩
theorem ntA_is (n : Nat) : ∀ (l : List Int) (f : Nat → Nat) (r : Nat), ntA f n l r = f r ∨ ntA f n l r = n
  | [], f, r => .inl rfl
  | q :: l, f, r => by
    have e : ntA f n (q :: l) r = ntA (setN f q.toNat (max (f q.toNat) n)) n l r := rfl
    rw [e]
    rcases ntA_is n l (setN f q.toNat (max (f q.toNat) n)) r with h | h
    · rw [h]
      unfold setN
      split
      · rename_i h2; rw [h2]; omega
      · exact .inl rfl
    · exact .inr h
theorem frA_lt (M : Mk) (k : Nat) : ∀ (l : List Int) (n : Nat), n ≤ k → (∀ r ∈ l, M.rdy r.toNat ≤ k) → frA M l n ≤ k
  | [], n, h, _ => h
  | q :: l, n, h, hr => by
    show frA M l (max n (M.rdy q.toNat)) ≤ k
    exact frA_lt M k l _ (by have := hr q (by simp); omega) fun r hr' => hr r (by simp [hr'])
theorem fit_plain {r : List Opx} {o : Opx} (hr : ∀ p ∈ r, plB p = true) (ho : plB o = true) (h : fitB (r ++ [o]) = false) : 3 ≤ r.length := by
  have hp : ∀ p, plB p = true → ptO p = 0 := fun p hp => by
    unfold plB at hp
    simp only [decide_eq_true_eq] at hp
    unfold ptO
    rw [if_neg (by omega), if_neg (by omega)]
  have hall : ∀ p ∈ r ++ [o], ptO p = 0 := fun p hp' => by
    rcases List.mem_append.1 hp' with h1 | h1
    · exact hp p (hr p h1)
    · rw [List.mem_singleton.1 h1]; exact hp o ho
  have c1 : ctP 1 (r ++ [o]) = 0 := by
    unfold ctP
    rw [List.length_eq_zero_iff, List.filter_eq_nil_iff]
    intro p hp'; rw [hall p hp']; decide
  have c2 : ctP 2 (r ++ [o]) = 0 := by
    unfold ctP
    rw [List.length_eq_zero_iff, List.filter_eq_nil_iff]
    intro p hp'; rw [hall p hp']; decide
  have cs := ctP_sum (r ++ [o])
  unfold fitB fitC at h
  rw [c1, c2] at h cs
  simp only [List.length_append, List.length_singleton] at cs
  by_cases h3 : 3 ≤ r.length
  · exact h3
  · have : ctP 0 (r ++ [o]) ≤ 3 := by omega
    simp [this] at h
    omega
/-- a new row is opened behind row j for a reason -/
theorem new_tight {M : Mk} (T : MkTt M) (K : MkOk M) {o : Opx} {j : Nat} {r : List Opx} (hn : rowN M o = M.rows.length) (hj : j + 1 = M.rows.length) (hr : M.rows[j]? = some r) : Tight r o := by
  by_cases hpl : ∃ p ∈ r, plB p = false
  · exact .inl hpl
  by_cases hpo : plB o = false
  · exact .inr (.inl hpo)
  have hrp : ∀ p ∈ r, plB p = true := fun p hp => by
    cases h : plB p with
    | true => rfl
    | false => exact absurd ⟨p, hp, h⟩ hpl
  have hop : plB o = true := by cases h : plB o with
    | true => rfl
    | false => exact absurd h hpo
  have hok : 1 ≤ o.k ∧ o.k ≤ 20 := by unfold plB at hop; simpa using hop
  have hfr := frR_le K o
  by_cases hlt : frR M o ≤ j
  · right; right; left
    refine fit_plain hrp hop ?_
    have hi : (M.rows.drop (frR M o)).findIdx (roomB o) = M.rows.length - frR M o := by
      have : rowN M o = frR M o + (M.rows.drop (frR M o)).findIdx (roomB o) := rfl
      omega
    have hidx : j - frR M o < (M.rows.drop (frR M o)).findIdx (roomB o) := by omega
    have h1 := List.not_of_lt_findIdx hidx
    have h2 : (M.rows.drop (frR M o))[j - frR M o]? = some r := by
      rw [List.getElem?_drop, show frR M o + (j - frR M o) = j by omega]; exact hr
    have h3 := (List.getElem?_eq_some_iff.1 h2).2
    rw [h3] at h1
    exact h1
  · right; right; right
    have back : ∀ t, M.rdy t = j + 1 → ∃ p ∈ r, wrX p ≠ 0 ∧ (wrX p).toNat = t := fun t ht => by
      obtain ⟨r', hr', p, hp, h1, h2⟩ := T.rdy t j ht
      rw [hr] at hr'
      obtain rfl := Option.some.inj hr'
      exact ⟨p, hp, h1, h2⟩
    have hbI : M.bI ≤ j := by
      by_cases h : M.bI ≤ j
      · exact h
      · obtain ⟨r', hr', p, hp, h1⟩ := T.bI j (by have := K.bI; omega)
        rw [hr] at hr'
        obtain rfl := Option.some.inj hr'
        have := hrp p hp
        unfold plB at this
        simp only [decide_eq_true_eq] at this
        omega
    by_cases hrd : ∃ q ∈ rdX o, M.rdy q.toNat = j + 1
    · obtain ⟨q, hq, h⟩ := hrd
      obtain ⟨p, hp, h1, h2⟩ := back _ h
      exact ⟨p, hp, h1, .inr ⟨q, hq, h2.symm⟩⟩
    have hrd' : ∀ q ∈ rdX o, M.rdy q.toNat ≤ j := fun q hq => by
      have := K.rdy q.toNat
      by_cases h : M.rdy q.toNat ≤ j
      · exact h
      · exact absurd ⟨q, hq, by omega⟩ hrd
    have hA := frA_lt M j (rdX o) M.bI hbI hrd'
    have hfK : ∀ n, frK M o n = n := fun n => by unfold frK; rw [if_neg (by omega), if_neg (by omega), if_neg (by omega)]
    have hf : frR M o = frW M o (frA M (rdX o) M.bI) := hfK _
    by_cases hw : wrX o = 0
    · have : frW M o (frA M (rdX o) M.bI) = frA M (rdX o) M.bI := by unfold frW; rw [if_neg (by simpa using hw)]
      omega
    · have e : frW M o (frA M (rdX o) M.bI) = max (max (frA M (rdX o) M.bI) (M.rdy (wrX o).toNat)) (M.ask (wrX o).toNat) := by unfold frW; rw [if_pos hw]
      have ha := T.ask (wrX o).toNat
      have hb := K.rdy (wrX o).toNat
      have hd : M.rdy (wrX o).toNat = j + 1 := by omega
      obtain ⟨p, hp, h1, h2⟩ := back _ hd
      exact ⟨p, hp, h1, .inl ⟨hw, h2⟩⟩
theorem place_tt {M : Mk} (T : MkTt M) (K : MkOk M) (hne : ∀ r ∈ M.rows, r ≠ []) (o : Opx) : MkTt (place M o) := by
  have hn := rowN_le K o
  obtain ⟨n, hN⟩ : ∃ n, rowN M o = n := ⟨_, rfl⟩
  rw [hN] at hn
  have hrows : (place M o).rows = putR M.rows n o := by show putR M.rows (rowN M o) o = _; rw [hN]
  have hrdy : (place M o).rdy = if wrX o ≠ 0 then setN M.rdy (wrX o).toNat (n + 1) else M.rdy := by show (if wrX o ≠ 0 then setN M.rdy (wrX o).toNat (rowN M o + 1) else M.rdy) = _; rw [hN]
  have hask : (place M o).ask = ntA M.ask n (rdX o) := by show ntA M.ask (rowN M o) (rdX o) = _; rw [hN]
  have hbI : (place M o).bI = if o.k = 25 then n + 1 else M.bI := by show (if o.k = 25 then rowN M o + 1 else M.bI) = _; rw [hN]
  have hL := putR_len M.rows n o
  obtain ⟨sn, hsn, hos⟩ := putR_new (rs := M.rows) (o := o) hn
  refine ⟨fun t j h => ?_, fun t => ?_, fun j h => ?_, fun j r s hr hs => ?_⟩
  · rw [hrdy] at h
    rw [hrows]
    have old : M.rdy t = j + 1 → ∃ r, (putR M.rows n o)[j]? = some r ∧ ∃ p ∈ r, wrX p ≠ 0 ∧ (wrX p).toNat = t := fun h => by
      obtain ⟨r, hr, p, hp, h1, h2⟩ := T.rdy t j h
      obtain ⟨s, hs, h3⟩ := putR_old (n := n) (o := o) hr
      exact ⟨s, hs, p, by rcases h3 with rfl | rfl <;> simp [hp], h1, h2⟩
    split at h
    · rename_i hw
      unfold setN at h
      split at h
      · rename_i e
        obtain rfl : n = j := by omega
        exact ⟨sn, hsn, o, hos, hw, e.symm⟩
      · exact old h
    · exact old h
  · rw [hask, hrows, hL]
    have h1 := T.ask t
    rcases ntA_is n (rdX o) M.ask t with h | h
    · rw [h]; split <;> omega
    · rw [h]; split <;> omega
  · rw [hbI] at h
    rw [hrows]
    split at h
    · rename_i hk
      obtain rfl : n = j := by omega
      exact ⟨sn, hsn, o, hos, hk⟩
    · obtain ⟨r, hr, p, hp, h1⟩ := T.bI j h
      obtain ⟨s, hs, h3⟩ := putR_old (n := n) (o := o) hr
      exact ⟨s, hs, p, by rcases h3 with rfl | rfl <;> simp [hp], h1⟩
  · rw [hrows] at hr hs
    have hr0 : ∃ r0, M.rows[j]? = some r0 ∧ (r = r0 ∨ r = r0 ++ [o]) := by
      rcases putR_rowW hn hr with ⟨e, hlt, r0, h0, rfl⟩ | ⟨e, hlt, rfl⟩ | ⟨e, h⟩
      · exact ⟨r0, by rw [e]; exact h0, .inr rfl⟩
      · have h5 := (List.getElem?_eq_some_iff.1 hs).1
        rw [hL, if_neg (by omega)] at h5
        omega
      · exact ⟨r, h, .inl rfl⟩
    obtain ⟨r0, h0, hr01⟩ := hr0
    have up : ∀ q, Tight r0 q → Tight r q := fun q h => by
      rcases hr01 with rfl | rfl
      · exact h
      · exact h.snoc o
    rcases putR_rowW hn hs with ⟨e, hlt, s0, hs0, rfl⟩ | ⟨e, hlt, rfl⟩ | ⟨e, h⟩
    · obtain ⟨q, t, rfl, hT⟩ := T.tt j r0 s0 h0 (by rw [e]; exact hs0)
      exact ⟨q, t ++ [o], rfl, up q hT⟩
    · exact ⟨o, [], rfl, up o (new_tight T K (by rw [hN]; exact hlt) (by omega) h0)⟩
    · obtain ⟨q, t, rfl, hT⟩ := T.tt j r0 s h0 h
      exact ⟨q, t, rfl, up q hT⟩
theorem fold_tt : ∀ (l : List Opx) (M : Mk), MkTt M → MkOk M → (∀ r ∈ M.rows, r ≠ []) → MkTt (l.foldl place M)
  | [], M, T, _, _ => T
  | o :: l, M, T, K, h => by
    refine fold_tt l (place M o) (place_tt T K h o) (place_ok K o) fun r hr => ?_
    obtain ⟨j, hj⟩ := List.getElem?_of_mem hr
    rcases putR_rowW (rowN_le K o) hj with ⟨e, hlt, r0, h0, rfl⟩ | ⟨e, hlt, rfl⟩ | ⟨e, h2⟩
    · simp
    · simp
    · exact h r (List.mem_of_getElem? h2)
theorem make_tight (l : List Opx) (j : Nat) (r s : List Opx) (hr : (makeP l).rows[j]? = some r) (hs : (makeP l).rows[j + 1]? = some s) : ∃ o t, s = o :: t ∧ Tight r o :=
  (fold_tt l mk0 mk0_tt mk0_ok fun r h => (by cases h)).tt j r s hr hs
end Go.Proofs.YtjkencgcdlfjhaaGreatDoor
