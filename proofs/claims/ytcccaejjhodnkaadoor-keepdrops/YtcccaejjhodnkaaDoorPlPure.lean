/-
  Plans in whole numbers: what is wrong with a row or a plan, and how a plan is made.
-/
import Derived.Test.YtcccaejjhodnkaaDoorOptPure2
namespace Go.Proofs.YtcccaejjhodnkaaDoor
open Num
set_option linter.unusedVariables false
/-- the part of a row in which an op stands: 0 sums, 1 memory, 2 what leaves -/
def ptO (o : Opx) : Nat := if o.k = 23 ∨ o.k = 24 then 1 else if 25 ≤ o.k then 2 else 0
theorem ptO_lt (o : Opx) : ptO o < 3 := by unfold ptO; split <;> (try split) <;> omega
def ctP (p : Nat) (l : List Opx) : Nat := (l.filter fun o => decide (ptO o = p)).length
theorem ctP_snoc (p : Nat) (l : List Opx) (o : Opx) : ctP p (l ++ [o]) = if p = ptO o then ctP p l + 1 else ctP p l := by
  unfold ctP
  rw [List.filter_append, List.length_append]
  by_cases h : p = ptO o
  · subst h; simp
  · rw [if_neg h]; simp [Ne.symm h]
theorem ctP_le (p : Nat) (l : List Opx) : ctP p l ≤ l.length := List.length_filter_le _ _
theorem ctP_sum (l : List Opx) : ctP 0 l + ctP 1 l + ctP 2 l = l.length := by
  unfold ctP
  induction l with
  | nil => rfl
  | cons o l ih =>
    have := ptO_lt o
    rw [List.filter_cons, List.filter_cons, List.filter_cons, List.length_cons]
    have : ptO o = 0 ∨ ptO o = 1 ∨ ptO o = 2 := by omega
    rcases this with h | h | h <;> simp [h] <;> omega
def fitC (a b c : Nat) : Bool := decide (a ≤ 3) && decide (b ≤ 1) && decide (c ≤ 1) && decide (a + b + c ≤ 4)
def fitB (l : List Opx) : Bool := fitC (ctP 0 l) (ctP 1 l) (ctP 2 l)
/-- does one write what one ahead of it wrote? -/
def dupA : List Opx → List Opx → Bool
  | _, [] => false
  | pre, o :: l => (decide (wrX o ≠ 0) && pre.any fun p => decide (wrX p = wrX o)) || dupA (pre ++ [o]) l
theorem dupA_snoc : ∀ (l pre : List Opx) (o : Opx), dupA pre (l ++ [o]) = (dupA pre l || (decide (wrX o ≠ 0) && (pre ++ l).any fun p => decide (wrX p = wrX o)))
  | [], pre, o => by simp [dupA]
  | q :: l, pre, o => by
    show (_ || dupA (pre ++ [q]) (l ++ [o])) = _
    rw [dupA_snoc l (pre ++ [q]) o]
    simp [dupA, Bool.or_assoc]
theorem dupA_take {l : List Opx} {j : Nat} {o : Opx} (h : l[j]? = some o) : dupA [] (l.take (j + 1)) = (dupA [] (l.take j) || (decide (wrX o ≠ 0) && (l.take j).any fun p => decide (wrX p = wrX o))) := by
  have e : l.take (j + 1) = l.take j ++ [o] := by
    rw [List.take_add_one, h]; rfl
  rw [e, dupA_snoc]; rfl
theorem dupA_mono (l pre : List Opx) (o : Opx) (h : dupA pre l = true) : dupA pre (l ++ [o]) = true := by rw [dupA_snoc, h]; rfl
theorem dupA_found {l : List Opx} {j : Nat} (h : dupA [] (l.take j) = true) : dupA [] l = true := by
  have : ∀ (a b pre : List Opx), dupA pre a = true → dupA pre (a ++ b) = true := by
    intro a b
    induction b generalizing a with
    | nil => intro pre h; simpa using h
    | cons o b ih => intro pre h; have := ih (a ++ [o]) pre (dupA_mono a pre o h); simpa using this
  have e := this (l.take j) (l.drop j) [] h
  rwa [List.take_append_drop] at e
/-- the first op's error -/
def firE (many : Int) : List Opx → Int
  | [] => 0
  | o :: l => if opE o many ≠ 0 then opE o many else firE many l
theorem firE_at (many : Int) : ∀ (l : List Opx) (j : Nat) (o : Opx), l[j]? = some o → (∀ k p, k < j → l[k]? = some p → opE p many = 0) → opE o many ≠ 0 → firE many l = opE o many
  | [], j, o, h, _, _ => by simp at h
  | q :: l, 0, o, h, _, h2 => by
    obtain rfl : q = o := by simpa using h
    unfold firE; rw [if_pos h2]
  | q :: l, j + 1, o, h, h1, h2 => by
    unfold firE
    rw [if_neg (by simpa using h1 0 q (by omega) rfl)]
    exact firE_at many l j o (by simpa using h) (fun k p hk hp => h1 (k + 1) p (by omega) (by simpa using hp)) h2
theorem firE_none (many : Int) : ∀ (l : List Opx), (∀ o ∈ l, opE o many = 0) → firE many l = 0
  | [], _ => rfl
  | q :: l, h => by
    unfold firE
    rw [if_neg (by simpa using h q (by simp))]
    exact firE_none many l fun o ho => h o (by simp [ho])
theorem firE_all (many : Int) : ∀ (l : List Opx), firE many l = 0 → ∀ o ∈ l, opE o many = 0
  | [], _, o, h => by cases h
  | q :: l, hf, o, h => by
    unfold firE at hf
    by_cases hq : opE q many ≠ 0
    · rw [if_pos hq] at hf; exact absurd hf hq
    · rw [if_neg hq] at hf
      rcases List.mem_cons.1 h with rfl | h
      · simpa using hq
      · exact firE_all many l hf o h
/-- what is wrong with a row -/
def rowE (many : Int) (last : Bool) (l : List Opx) : Int :=
  if l = [] ∨ 4 < l.length then 3 else if firE many l ≠ 0 then firE many l else if fitB l = false then 8 else if dupA [] l = true then 7 else if last ≠ l.any outB then 3 else 0
/-- the first row that is not well -/
def rowsF (many : Int) : Nat → List (List Opx) → Int × Int
  | _, [] => (0, -1)
  | n, r :: rs => if rowE many rs.isEmpty r ≠ 0 then (rowE many rs.isEmpty r, n) else rowsF many (n + 1) rs
def strR (rs : List (List Opx)) : Nat := (rs.map strs).sum
theorem strR_snoc (rs : List (List Opx)) (r : List Opx) : strR (rs ++ [r]) = strR rs + strs r := by simp [strR]
/-- what is wrong with a plan -/
def planF (many : Int) (rs : List (List Opx)) : Int × Int :=
  if many < 1 ∨ 24 < many then (2, -1) else if 200 < rs.length then (8, -1) else if rs = [] then (3, -1) else if (rowsF many 0 rs).1 ≠ 0 then rowsF many 0 rs else if 8 < strR rs then (8, -1) else (0, -1)
theorem rowsF_at (many : Int) : ∀ (rs : List (List Opx)) (n j : Nat) (r : List Opx), rs[j]? = some r → (∀ k q, k < j → rs[k]? = some q → rowE many false q = 0) → rowE many (decide (j + 1 = rs.length)) r ≠ 0 → rowsF many n rs = (rowE many (decide (j + 1 = rs.length)) r, ((n + j : Nat) : Int))
  | [], n, j, r, h, _, _ => by simp at h
  | q :: rs, n, 0, r, h, _, h2 => by
    obtain rfl : q = r := by simpa using h
    have e : rs.isEmpty = decide (0 + 1 = (q :: rs).length) := by cases rs <;> simp
    unfold rowsF
    rw [e, if_pos h2]; simp
  | q :: rs, n, j + 1, r, h, h1, h2 => by
    have hne : rs ≠ [] := by rintro rfl; simp at h
    have e : rs.isEmpty = false := by cases rs <;> simp_all
    have h0 := h1 0 q (by omega) rfl
    unfold rowsF
    rw [e, if_neg (by simpa using h0), rowsF_at many rs (n + 1) j r (by simpa using h) (fun k p hk hp => h1 (k + 1) p (by omega) (by simpa using hp)) (by simpa using h2)]
    simp; omega
theorem rowsF_none (many : Int) : ∀ (rs : List (List Opx)) (n : Nat), (∀ k q, rs[k]? = some q → rowE many (decide (k + 1 = rs.length)) q = 0) → rowsF many n rs = (0, -1)
  | [], n, _ => rfl
  | q :: rs, n, h => by
    have e : rs.isEmpty = decide (0 + 1 = (q :: rs).length) := by cases rs <;> simp
    unfold rowsF
    rw [e, if_neg (by simpa using h 0 q rfl)]
    exact rowsF_none many rs (n + 1) fun k p hp => by simpa using h (k + 1) p (by simpa using hp)
theorem opE_vals (o : Opx) (many : Int) : opE o many = 0 ∨ opE o many = 2 ∨ opE o many = 3 ∨ opE o many = 4 := by
  unfold opE
  split
  · omega
  · split
    · omega
    · split <;> omega
theorem firE_vals (many : Int) : ∀ l, firE many l = 0 ∨ firE many l = 2 ∨ firE many l = 3 ∨ firE many l = 4
  | [] => .inl rfl
  | o :: l => by
    unfold firE
    split
    · exact opE_vals o many
    · exact firE_vals many l
theorem rowE_vals (many : Int) (last : Bool) (l : List Opx) : rowE many last l = 0 ∨ rowE many last l = 2 ∨ rowE many last l = 3 ∨ rowE many last l = 4 ∨ rowE many last l = 7 ∨ rowE many last l = 8 := by
  have := firE_vals many l
  unfold rowE
  split
  · omega
  · split
    · omega
    · split
      · omega
      · split
        · omega
        · split <;> omega
theorem rowsF_vals (many : Int) : ∀ (rs : List (List Opx)) (n : Nat), rowsF many n rs = (0, -1) ∨ ∃ (k : Nat) (e : Int), (e = 2 ∨ e = 3 ∨ e = 4 ∨ e = 7 ∨ e = 8) ∧ n ≤ k ∧ k < n + rs.length ∧ rowsF many n rs = (e, (k : Int))
  | [], n => .inl rfl
  | r :: rs, n => by
    unfold rowsF
    by_cases h : rowE many rs.isEmpty r ≠ 0
    · rw [if_pos h]
      right
      refine ⟨n, _, ?_, Nat.le_refl _, by simp, rfl⟩
      have := rowE_vals many rs.isEmpty r
      omega
    · rw [if_neg h]
      rcases rowsF_vals many rs (n + 1) with h | ⟨k, e, h1, h2, h3, h4⟩
      · exact .inl h
      · exact .inr ⟨k, e, h1, by omega, by simp only [List.length_cons]; omega, h4⟩
theorem planF_vals (many : Int) (rs : List (List Opx)) : planF many rs = (0, -1) ∨ planF many rs = (2, -1) ∨ planF many rs = (3, -1) ∨ planF many rs = (8, -1) ∨ ∃ (k : Nat) (e : Int), (e = 2 ∨ e = 3 ∨ e = 4 ∨ e = 7 ∨ e = 8) ∧ k < rs.length ∧ planF many rs = (e, (k : Int)) := by
  unfold planF
  split
  · simp
  · split
    · simp
    · split
      · simp
      · rcases rowsF_vals many rs 0 with h | ⟨k, e, h1, h2, h3, h4⟩
        · rw [h]; split
          · simp_all
          · split <;> simp
        · rw [h4]
          rw [if_pos (by show e ≠ 0; omega)]
          exact .inr (.inr (.inr (.inr ⟨k, e, h1, by omega, rfl⟩)))
/-- a plan on its way: rows; the first row in which a register can be read; the last row that reads it; the first rows behind the last if, store, load or store -/
structure Mk where
  rows : List (List Opx)
  rdy : Nat → Nat
  ask : Nat → Nat
  bI : Nat
  bS : Nat
  bM : Nat
def mk0 : Mk := ⟨[], fun _ => 0, fun _ => 0, 0, 0, 0⟩
def frA (M : Mk) (l : List Int) (n : Nat) : Nat := l.foldl (fun n r => max n (M.rdy r.toNat)) n
def frW (M : Mk) (o : Opx) (n : Nat) : Nat := if wrX o ≠ 0 then max (max n (M.rdy (wrX o).toNat)) (M.ask (wrX o).toNat) else n
def frK (M : Mk) (o : Opx) (n : Nat) : Nat := if o.k = 23 then max n M.bS else if o.k = 24 then max n M.bM else if 25 ≤ o.k then max n (M.rows.length - 1) else n
/-- the first row in which an op may stand -/
def frR (M : Mk) (o : Opx) : Nat := frK M o (frW M o (frA M (rdX o) M.bI))
def roomB (o : Opx) (r : List Opx) : Bool := fitB (r ++ [o])
def rowN (M : Mk) (o : Opx) : Nat := frR M o + (M.rows.drop (frR M o)).findIdx (roomB o)
def putR (rs : List (List Opx)) (n : Nat) (o : Opx) : List (List Opx) := if n < rs.length then rs.modify n (· ++ [o]) else rs ++ [[o]]
def setN (f : Nat → Nat) (r n : Nat) : Nat → Nat := fun k => if k = r then n else f k
def ntA (f : Nat → Nat) (n : Nat) (l : List Int) : Nat → Nat := l.foldl (fun f r => setN f r.toNat (max (f r.toNat) n)) f
def note (M : Mk) (o : Opx) (n : Nat) : Mk where
  rows := M.rows
  rdy := if wrX o ≠ 0 then setN M.rdy (wrX o).toNat (n + 1) else M.rdy
  ask := ntA M.ask n (rdX o)
  bI := if o.k = 25 then n + 1 else M.bI
  bS := if o.k = 24 then n + 1 else M.bS
  bM := if o.k = 23 then max M.bM (n + 1) else if o.k = 24 then n + 1 else M.bM
def place (M : Mk) (o : Opx) : Mk := note { M with rows := putR M.rows (rowN M o) o } o (rowN M o)
def makeP (l : List Opx) : Mk := l.foldl place mk0
structure MkOk (M : Mk) : Prop where
  rdy : ∀ r, M.rdy r ≤ M.rows.length
  ask : ∀ r, M.ask r ≤ M.rows.length
  bI : M.bI ≤ M.rows.length
  bS : M.bS ≤ M.rows.length
  bM : M.bM ≤ M.rows.length
theorem mk0_ok : MkOk mk0 := ⟨fun _ => Nat.zero_le _, fun _ => Nat.zero_le _, Nat.zero_le _, Nat.zero_le _, Nat.zero_le _⟩
theorem frA_le {M : Mk} (H : MkOk M) : ∀ (l : List Int) (n : Nat), n ≤ M.rows.length → frA M l n ≤ M.rows.length
  | [], n, h => h
  | r :: l, n, h => by
    show frA M l (max n (M.rdy r.toNat)) ≤ _
    exact frA_le H l _ (by have := H.rdy r.toNat; omega)
theorem frR_le {M : Mk} (H : MkOk M) (o : Opx) : frR M o ≤ M.rows.length := by
  have h1 := frA_le H (rdX o) M.bI H.bI
  generalize hg : frA M (rdX o) M.bI = n at h1
  have h2 : frW M o n ≤ M.rows.length := by
    unfold frW
    have := H.rdy (wrX o).toNat
    have := H.ask (wrX o).toNat
    split <;> omega
  unfold frR
  rw [hg]
  generalize frW M o n = n at h2
  have := H.bS
  have := H.bM
  unfold frK
  split
  · omega
  · split
    · omega
    · split <;> omega
theorem rowN_le {M : Mk} (H : MkOk M) (o : Opx) : rowN M o ≤ M.rows.length := by
  have := frR_le H o
  have h := List.findIdx_le_length (p := roomB o) (xs := M.rows.drop (frR M o))
  rw [List.length_drop] at h
  unfold rowN; omega
theorem putR_len (rs : List (List Opx)) (n : Nat) (o : Opx) : (putR rs n o).length = if n < rs.length then rs.length else rs.length + 1 := by
  unfold putR; split <;> simp
theorem ntA_le (n L : Nat) (hn : n ≤ L) : ∀ (l : List Int) (f : Nat → Nat), (∀ r, f r ≤ L) → ∀ r, ntA f n l r ≤ L
  | [], f, h, r => h r
  | q :: l, f, h, r => by
    refine ntA_le n L hn l (setN f q.toNat (max (f q.toNat) n)) (fun k => ?_) r
    unfold setN
    have := h q.toNat
    have := h k
    split <;> omega
theorem place_ok {M : Mk} (H : MkOk M) (o : Opx) : MkOk (place M o) := by
  have hn := rowN_le H o
  have hL : (place M o).rows.length = if rowN M o < M.rows.length then M.rows.length else M.rows.length + 1 := putR_len _ _ _
  have h1 : rowN M o + 1 ≤ (place M o).rows.length := by rw [hL]; split <;> omega
  have h2 : M.rows.length ≤ (place M o).rows.length := by rw [hL]; split <;> omega
  obtain ⟨L, hLL⟩ : ∃ L, (place M o).rows.length = L := ⟨_, rfl⟩
  rw [hLL] at h1 h2
  have a1 := H.rdy
  have a2 := H.ask
  have a3 := H.bI
  have a4 := H.bS
  have a5 := H.bM
  refine ⟨fun r => ?_, fun r => ?_, ?_, ?_, ?_⟩
  all_goals rw [hLL]
  · show (if wrX o ≠ 0 then setN M.rdy (wrX o).toNat (rowN M o + 1) else M.rdy) r ≤ L
    have := a1 r
    split
    · unfold setN; split <;> omega
    · omega
  · exact ntA_le (rowN M o) L (by omega) (rdX o) M.ask (fun k => by have := a2 k; omega) r
  · show (if o.k = 25 then rowN M o + 1 else M.bI) ≤ L
    split <;> omega
  · show (if o.k = 24 then rowN M o + 1 else M.bS) ≤ L
    split <;> omega
  · show (if o.k = 23 then max M.bM (rowN M o + 1) else if o.k = 24 then rowN M o + 1 else M.bM) ≤ L
    split
    · omega
    · split <;> omega
end Go.Proofs.YtcccaejjhodnkaaDoor
