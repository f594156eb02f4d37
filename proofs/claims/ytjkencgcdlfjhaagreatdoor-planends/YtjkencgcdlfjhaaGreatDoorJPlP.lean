/-
  Plans in whole numbers: what is wrong with a row or a plan, and how a plan is made.
-/
import Derived.Test.YtjkencgcdlfjhaaGreatDoorJOptP
namespace Go.Proofs.YtjkencgcdlfjhaaGreatDoor
open Num
set_option linter.unusedVariables false
/-- the part of a row in which an op stands: 0 sums, 1 memory, 2 what leaves -/
def ptO (o : Opx) : Nat := if o.k = 23 ∨ o.k = 24 then 1 else if 25 ≤ o.k then 2 else 0
theorem ptO_lt (o : Opx) : ptO o < 3 := by unfold ptO; split <;> (try split) <;> omega
def ctP (p : Nat) (l : List Opx) : Nat := (l.filter fun o => decide (ptO o = p)).length
theorem ctP_snoc (p : Nat) (l : List Opx) (o : Opx) : ctP p (l ++ [o]) = if p = ptO o then ctP p l + 1 else ctP p l := by
  unfold ctP
  rw [List.filter_append, List.length_append]
  by_cases h : p = ptO o
  · subst h; simp
  · rw [if_neg h]; simp [Ne.symm h]
theorem ctP_le (p : Nat) (l : List Opx) : ctP p l ≤ l.length := List.length_filter_le _ _
theorem ctP_sum (l : List Opx) : ctP 0 l + ctP 1 l + ctP 2 l = l.length := by
  unfold ctP
  induction l with
  | nil => rfl
  | cons o l ih =>
    have := ptO_lt o
    rw [List.filter_cons, List.filter_cons, List.filter_cons, List.length_cons]
    have : ptO o = 0 ∨ ptO o = 1 ∨ ptO o = 2 := by omega
    rcases this with h | h | h <;> simp [h] <;> omega
def fitC (a b c : Nat) : Bool := decide (a ≤ 3) && decide (b ≤ 1) && decide (c ≤ 1) && decide (a + b + c ≤ 4)
def fitB (l : List Opx) : Bool := fitC (ctP 0 l) (ctP 1 l) (ctP 2 l)
/-- does one write what one ahead of it wrote? -/
def dupA : List Opx → List Opx → Bool
  | _, [] => false
  | pre, o :: l => (decide (wrX o ≠ 0) && pre.any fun p => decide (wrX p = wrX o)) || dupA (pre ++ [o]) l
theorem dupA_snoc : ∀ (l pre : List Opx) (o : Opx), dupA pre (l ++ [o]) = (dupA pre l || (decide (wrX o ≠ 0) && (pre ++ l).any fun p => decide (wrX p = wrX o)))
  | [], pre, o => by simp [dupA]
  | q :: l, pre, o => by
    show (_ || dupA (pre ++ [q]) (l ++ [o])) = _
    rw [dupA_snoc l (pre ++ [q]) o]
    simp [dupA, Bool.or_assoc]
theorem dupA_take {l : List Opx} {j : Nat} {o : Opx} (h : l[j]? = some o) : dupA [] (l.take (j + 1)) = (dupA [] (l.take j) || (decide (wrX o ≠ 0) && (l.take j).any fun p => decide (wrX p = wrX o))) := by
  have e : l.take (j + 1) = l.take j ++ [o] := by
    rw [List.take_add_one, h]; rfl
  rw [e, dupA_snoc]; rfl
theorem dupA_mono (l pre : List Opx) (o : Opx) (h : dupA pre l = true) : dupA pre (l ++ [o]) = true := by rw [dupA_snoc, h]; rfl
theorem dupA_found {l : List Opx} {j : Nat} (h : dupA [] (l.take j) = true) : dupA [] l = true := by
  have : ∀ (a b pre : List Opx), dupA pre a = true → dupA pre (a ++ b) = true := by
    intro a b
    induction b generalizing a with
    | nil => intro pre h; simpa using h
    | cons o b ih => intro pre h; have := ih (a ++ [o]) pre (dupA_mono a pre o h); simpa using this
  have e := this (l.take j) (l.drop j) [] h
  rwa [List.take_append_drop] at e
/-- the first op's error -/
def firE (many : Int) : List Opx → Int
  | [] => 0
  | o :: l => if opE o many ≠ 0 then opE o many else firE many l
theorem firE_at (many : Int) : ∀ (l : List Opx) (j : Nat) (o : Opx), l[j]? = some o → (∀ k p, k < j → l[k]? = some p → opE p many = 0) → opE o many ≠ 0 → firE many l = opE o many
  | [], j, o, h, _, _ => by simp at h
  | q :: l, 0, o, h, _, h2 => by
    obtain rfl : q = o := by simpa using h
    unfold firE; rw [if_pos h2]
  | q :: l, j + 1, o, h, h1, h2 => by
    unfold firE
    rw [if_neg (by simpa using h1 0 q (by omega) rfl)]
    exact firE_at many l j o (by simpa using h) (fun k p hk hp => h1 (k + 1) p (by omega) (by simpa using hp)) h2
theorem firE_none (many : Int) : ∀ (l : List Opx), (∀ o ∈ l, opE o many = 0) → firE many l = 0
  | [], _ => rfl
  | q :: l, h => by
    unfold firE
    rw [if_neg (by simpa using h q (by simp))]
    exact firE_none many l fun o ho => h o (by simp [ho])
theorem firE_all (many : Int) : ∀ (l : List Opx), firE many l = 0 → ∀ o ∈ l, opE o many = 0
  | [], _, o, h => by cases h
  | q :: l, hf, o, h => by
    unfold firE at hf
    by_cases hq : opE q many ≠ 0
    · rw [if_pos hq] at hf; exact absurd hf hq
    · rw [if_neg hq] at hf
      rcases List.mem_cons.1 h with rfl | h
      · simpa using hq
      · exact firE_all many l hf o h
/-- what is wrong with a row -/
def rowE (many : Int) (last : Bool) (l : List Opx) : Int :=
  if l = [] ∨ 4 < l.length then 3 else if firE many l ≠ 0 then firE many l else if fitB l = false then 8 else if dupA [] l = true then 7 else if last ≠ l.any outB then 3 else 0
/-- the first row that is not well -/
def rowsF (many : Int) : Nat → List (List Opx) → Int × Int
  | _, [] => (0, -1)
  | n, r :: rs => if rowE many rs.isEmpty r ≠ 0 then (rowE many rs.isEmpty r, n) else rowsF many (n + 1) rs
def strR (rs : List (List Opx)) : Nat := (rs.map strs).sum
theorem strR_snoc (rs : List (List Opx)) (r : List Opx) : strR (rs ++ [r]) = strR rs + strs r := by simp [strR]
/-- what is wrong with a plan -/
def planF (many : Int) (rs : List (List Opx)) : Int × Int :=
  if many < 1 ∨ 24 < many then (2, -1) else if 200 < rs.length then (8, -1) else if rs = [] then (3, -1) else if (rowsF many 0 rs).1 ≠ 0 then rowsF many 0 rs else if 8 < strR rs then (8, -1) else (0, -1)
theorem rowsF_at (many : Int) : ∀ (rs : List (List Opx)) (n j : Nat) (r : List Opx), rs[j]? = some r → (∀ k q, k < j → rs[k]? = some q → rowE many false q = 0) → rowE many (decide (j + 1 = rs.length)) r ≠ 0 → rowsF many n rs = (rowE many (decide (j + 1 = rs.length)) r, ((n + j : Nat) : Int))
  | [], n, j, r, h, _, _ => by simp at h
  | q :: rs, n, 0, r, h, _, h2 => by
    obtain rfl : q = r := by simpa using h
    have e : rs.isEmpty = decide (0 + 1 = (q :: rs).length) := by cases rs <;> simp
    unfold rowsF
    rw [e, if_pos h2]; simp
  | q :: rs, n, j + 1, r, h, h1, h2 => by
    have hne : rs ≠ [] := by rintro rfl; simp at h
    have e : rs.isEmpty = false := by cases rs <;> simp_all
    have h0 := h1 0 q (by omega) rfl
    unfold rowsF
    rw [e, if_neg (by simpa using h0), rowsF_at many rs (n + 1) j r (by simpa using h) (fun k p hk hp => h1 (k + 1) p (by omega) (by simpa using hp)) (by simpa using h2)]
    simp; omega
theorem rowsF_none (many : Int) : ∀ (rs : List (List Opx)) (n : Nat), (∀ k q, rs[k]? = some q → rowE many (decide (k + 1 = rs.length)) q = 0) → rowsF many n rs = (0, -1)
  | [], n, _ => rfl
  | q :: rs, n, h => by
    have e : rs.isEmpty = decide (0 + 1 = (q :: rs).length) := by cases rs <;> simp
    unfold rowsF
    rw [e, if_neg (by simpa using h 0 q rfl)]
    exact rowsF_none many rs (n + 1) fun k p hp => by simpa using h (k + 1) p (by simpa using hp)
theorem opE_vals (o : Opx) (many : Int) : opE o many = 0 ∨ opE o many = 2 ∨ opE o many = 3 ∨ opE o many = 4 := by
  unfold opE
  split
  · omega
  · split
    · omega
    · split <;> omega
theorem firE_vals (many : Int) : ∀ l, firE many l = 0 ∨ firE many l = 2 ∨ firE many l = 3 ∨ firE many l = 4
  | [] => .inl rfl
  | o :: l => by
    unfold firE
    split
    · exact opE_vals o many
    · exact firE_vals many l
theorem rowE_vals (many : Int) (last : Bool) (l : List Opx) : rowE many last l = 0 ∨ rowE many last l = 2 ∨ rowE many last l = 3 ∨ rowE many last l = 4 ∨ rowE many last l = 7 ∨ rowE many last l = 8 := by
  have := firE_vals many l
  unfold rowE
  split
  · omega
  · split
    · omega
    · split
      · omega
      · split
        · omega
        · split <;> omega
theorem rowsF_vals (many : Int) : ∀ (rs : List (List Opx)) (n : Nat), rowsF many n rs = (0, -1) ∨ ∃ (k : Nat) (e : Int), (e = 2 ∨ e = 3 ∨ e = 4 ∨ e = 7 ∨ e = 8) ∧ n ≤ k ∧ k < n + rs.length ∧ rowsF many n rs = (e, (k : Int))
  | [], n => .inl rfl
  | r :: rs, n => by
    unfold rowsF
    by_cases h : rowE many rs.isEmpty r ≠ 0
    · rw [if_pos h]
      right
      refine ⟨n, _, ?_, Nat.le_refl _, by simp, rfl⟩
      have := rowE_vals many rs.isEmpty r
      omega
    · rw [if_neg h]
      rcases rowsF_vals many rs (n + 1) with h | ⟨k, e, h1, h2, h3, h4⟩
      · exact .inl h
      · exact .inr ⟨k, e, h1, by omega, by simp only [List.length_cons]; omega, h4⟩
theorem planF_vals (many : Int) (rs : List (List Opx)) : planF many rs = (0, -1) ∨ planF many rs = (2, -1) ∨ planF many rs = (3, -1) ∨ planF many rs = (8, -1) ∨ ∃ (k : Nat) (e : Int), (e = 2 ∨ e = 3 ∨ e = 4 ∨ e = 7 ∨ e = 8) ∧ k < rs.length ∧ planF many rs = (e, (k : Int)) := by
  unfold planF
  split
  · simp
  · split
    · simp
    · split
      · simp
      · rcases rowsF_vals many rs 0 with h | ⟨k, e, h1, h2, h3, h4⟩
        · rw [h]; split
          · simp_all
          · split <;> simp
        · rw [h4]
          rw [if_pos (by show e ≠ 0; omega)]
          exact .inr (.inr (.inr (.inr ⟨k, e, h1, by omega, rfl⟩)))
/-- a plan on its way: rows; the first row in which a register can be read; the last row that reads it; the first rows behind the last if, store, load or store -/
structure Mk where
  rows : List (List Opx)
  rdy : Nat → Nat
  ask : Nat → Nat
  bI : Nat
  bS : Nat
  bM : Nat
def mk0 : Mk := ⟨[], fun _ => 0, fun _ => 0, 0, 0, 0⟩
def frA (M : Mk) (l : List Int) (n : Nat) : Nat := l.foldl (fun n r => max n (M.rdy r.toNat)) n
def frW (M : Mk) (o : Opx) (n : Nat) : Nat := if wrX o ≠ 0 then max (max n (M.rdy (wrX o).toNat)) (M.ask (wrX o).toNat) else n
def frK (M : Mk) (o : Opx) (n : Nat) : Nat := if o.k = 23 then max n M.bS else if o.k = 24 then max n M.bM else if 25 ≤ o.k then max n (M.rows.length - 1) else n
/-- the first row in which an op may stand -/
def frR (M : Mk) (o : Opx) : Nat := frK M o (frW M o (frA M (rdX o) M.bI))
def roomB (o : Opx) (r : List Opx) : Bool := fitB (r ++ [o])
def rowN (M : Mk) (o : Opx) : Nat := frR M o + (M.rows.drop (frR M o)).findIdx (roomB o)
def putR (rs : List (List Opx)) (n : Nat) (o : Opx) : List (List Opx) := if n < rs.length then rs.modify n (· ++ [o]) else rs ++ [[o]]
def setN (f : Nat → Nat) (r n : Nat) : Nat → Nat := fun k => if k = r then n else f k
def ntA (f : Nat → Nat) (n : Nat) (l : List Int) : Nat → Nat := l.foldl (fun f r => setN f r.toNat (max (f r.toNat) n)) f
def note (M : Mk) (o : Opx) (n : Nat) : Mk where
  rows := M.rows
  rdy := if wrX o ≠ 0 then setN M.rdy (wrX o).toNat (n + 1) else M.rdy
  ask := ntA M.ask n (rdX o)
  bI := if o.k = 25 then n + 1 else M.bI
  bS := if o.k = 24 then n + 1 else M.bS
  bM := if o.k = 23 then max M.bM (n + 1) else if o.k = 24 then n + 1 else M.bM
def place (M : Mk) (o : Opx) : Mk := note { M with rows := putR M.rows (rowN M o) o } o (rowN M o)
def makeP (l : List Opx) : Mk := l.foldl place mk0
structure MkOk (M : Mk) : Prop where
  rdy : ∀ r, M.rdy r ≤ M.rows.length
  ask : ∀ r, M.ask r ≤ M.rows.length
  bI : M.bI ≤ M.rows.length
  bS : M.bS ≤ M.rows.length
  bM : M.bM ≤ M.rows.length
theorem mk0_ok : MkOk mk0 := ⟨fun _ => Nat.zero_le _, fun _ => Nat.zero_le _, Nat.zero_le _, Nat.zero_le _, Nat.zero_le _⟩
theorem frA_le {M : Mk} (H : MkOk M) : ∀ (l : List Int) (n : Nat), n ≤ M.rows.length → frA M l n ≤ M.rows.length
  | [], n, h => h
  | r :: l, n, h => by
    show frA M l (max n (M.rdy r.toNat)) ≤ _
    exact frA_le H l _ (by have := H.rdy r.toNat; omega)
theorem frR_le {M : Mk} (H : MkOk M) (o : Opx) : frR M o ≤ M.rows.length := by
  have h1 := frA_le H (rdX o) M.bI H.bI
  generalize hg : frA M (rdX o) M.bI = n at h1
  have h2 : frW M o n ≤ M.rows.length := by
    unfold frW
    have := H.rdy (wrX o).toNat
    have := H.ask (wrX o).toNat
    split <;> omega
  unfold frR
  rw [hg]
  generalize frW M o n = n at h2
  have := H.bS
  have := H.bM
  unfold frK
  split
  · omega
  · split
    · omega
    · split <;> omega
theorem rowN_le {M : Mk} (H : MkOk M) (o : Opx) : rowN M o ≤ M.rows.length := by
  have := frR_le H o
  have h := List.findIdx_le_length (p := roomB o) (xs := M.rows.drop (frR M o))
  rw [List.length_drop] at h
  unfold rowN; omega
theorem putR_len (rs : List (List Opx)) (n : Nat) (o : Opx) : (putR rs n o).length = if n < rs.length then rs.length else rs.length + 1 := by
  unfold putR; split <;> simp
theorem ntA_le (n L : Nat) (hn : n ≤ L) : ∀ (l : List Int) (f : Nat → Nat), (∀ r, f r ≤ L) → ∀ r, ntA f n l r ≤ L
  | [], f, h, r => h r
  | q :: l, f, h, r => by
    refine ntA_le n L hn l (setN f q.toNat (max (f q.toNat) n)) (fun k => ?_) r
    unfold setN
    have := h q.toNat
    have := h k
    split <;> omega
theorem place_ok {M : Mk} (H : MkOk M) (o : Opx) : MkOk (place M o) := by
  have hn := rowN_le H o
  have hL : (place M o).rows.length = if rowN M o < M.rows.length then M.rows.length else M.rows.length + 1 := putR_len _ _ _
  have h1 : rowN M o + 1 ≤ (place M o).rows.length := by rw [hL]; split <;> omega
  have h2 : M.rows.length ≤ (place M o).rows.length := by rw [hL]; split <;> omega
  obtain ⟨L, hLL⟩ : ∃ L, (place M o).rows.length = L := ⟨_, rfl⟩
  rw [hLL] at h1 h2
  have a1 := H.rdy
  have a2 := H.ask
  have a3 := H.bI
  have a4 := H.bS
  have a5 := H.bM
  refine ⟨fun r => ?_, fun r => ?_, ?_, ?_, ?_⟩
  all_goals rw [hLL]
  · show (if wrX o ≠ 0 then setN M.rdy (wrX o).toNat (rowN M o + 1) else M.rdy) r ≤ L
    have := a1 r
    split
    · unfold setN; split <;> omega
    · omega
  · exact ntA_le (rowN M o) L (by omega) (rdX o) M.ask (fun k => by have := a2 k; omega) r
  · show (if o.k = 25 then rowN M o + 1 else M.bI) ≤ L
    split <;> omega
  · show (if o.k = 24 then rowN M o + 1 else M.bS) ≤ L
    split <;> omega
  · show (if o.k = 23 then max M.bM (rowN M o + 1) else if o.k = 24 then rowN M o + 1 else M.bM) ≤ L
    split
    · omega
    · split <;> omega
end Go.Proofs.YtjkencgcdlfjhaaGreatDoor
/-
  Rows of ops over registers and memory, as the document runs them, in whole numbers; better codes end alike.
-/
namespace Go.Proofs.YtjkencgcdlfjhaaGreatDoor
open Num
set_option linter.unusedVariables false
/-- what an op comes to: what it writes, an address, whether it traps, whether it leaves -/
structure Ro where
  v : Int
  a : Int
  trap : Bool
  leave : Bool
def resZ (wt : Int → Bool) (x m : Nat → Int) (o : Opx) : Ro :=
  if o.k = 21 then ⟨0, 0, ov (sg (x o.a.toNat) + sg (x o.b.toNat)), false⟩
  else if o.k = 22 then ⟨0, 0, ov (sg (x o.a.toNat) - sg (x o.b.toNat)), false⟩
  else if o.k = 23 then (if chk (lo (x o.a.toNat + o.i)) (if o.b < 0 then -o.b else o.b) = 0 then ⟨ld m (lo (x o.a.toNat + o.i)) (if o.b < 0 then -o.b else o.b) (decide (o.b < 0)), 0, false, false⟩ else ⟨0, 0, true, false⟩)
  else if o.k = 24 then (if chk (lo (x o.a.toNat + o.i)) o.d = 0 then ⟨x o.b.toNat, lo (x o.a.toNat + o.i), wt (lo (x o.a.toNat + o.i) / 256), false⟩ else ⟨0, 0, true, false⟩)
  else if o.k = 25 then ⟨0, o.i, false, decide (x o.a.toNat ≠ 0)⟩
  else if o.k = 26 then ⟨0, o.i, false, true⟩
  else if o.k = 27 then ⟨0, x o.a.toNat, false, true⟩
  else ⟨valV o.k (x o.a.toNat) (x o.b.toNat) (x o.d.toNat) o.i, 0, false, false⟩
/-- registers, memory, where it leaves for (-1: it does not) -/
structure Mz where
  x : Nat → Int
  m : Nat → Int
  lv : Int
def appZ (M : Mz) (o : Opx) (r : Ro) : Mz := ⟨if 0 < wrX o then setX M.x (wrX o) r.v else M.x, if o.k = 24 then upd M.m r.a o.d r.v else M.m, if r.leave = true then r.a else M.lv⟩
def rowZ (wt : Int → Bool) (x m : Nat → Int) (row : List Opx) : Mz := row.foldl (fun M o => appZ M o (resZ wt x m o)) ⟨x, m, -1⟩
def trapZ (wt : Int → Bool) (x m : Nat → Int) (row : List Opx) : Option Int := (row.find? fun o => (resZ wt x m o).trap).map (·.t)
inductive Oz where
  | trap (t : Int)
  | leave (M : Mz)
  | fell
def runZ (wt : Int → Bool) : List (List Opx) → (Nat → Int) → (Nat → Int) → Oz
  | [], _, _ => .fell
  | row :: rows, x, m => match trapZ wt x m row with
    | some t => .trap t
    | none => if (rowZ wt x m row).lv < 0 then runZ wt rows (rowZ wt x m row).x (rowZ wt x m row).m else .leave (rowZ wt x m row)
/-- one op a row -/
def eachL (l : List Opx) : List (List Opx) := l.map fun o => [o]
def run1 (wt : Int → Bool) (l : List Opx) (x m : Nat → Int) : Oz := runZ wt (eachL l) x m
theorem run1_nil (wt : Int → Bool) (x m : Nat → Int) : run1 wt [] x m = .fell := rfl
theorem run1_cons (wt : Int → Bool) (o : Opx) (l : List Opx) (x m : Nat → Int) : run1 wt (o :: l) x m = if (resZ wt x m o).trap = true then .trap o.t else if (appZ ⟨x, m, -1⟩ o (resZ wt x m o)).lv < 0 then run1 wt l (appZ ⟨x, m, -1⟩ o (resZ wt x m o)).x (appZ ⟨x, m, -1⟩ o (resZ wt x m o)).m else .leave (appZ ⟨x, m, -1⟩ o (resZ wt x m o)) := by
  show runZ wt ([o] :: eachL l) x m = _
  unfold runZ
  have e : trapZ wt x m [o] = if (resZ wt x m o).trap = true then some o.t else none := by
    unfold trapZ
    rw [List.find?_cons]
    cases h : (resZ wt x m o).trap <;> simp
  rw [e]
  by_cases h : (resZ wt x m o).trap = true
  · rw [if_pos h, if_pos h]
  · rw [if_neg h, if_neg h]; rfl
/-- two endings that are alike: registers up to Lo -/
def OzAlike : Oz → Oz → Prop
  | .trap t, .trap u => t = u
  | .leave M, .leave N => M.lv = N.lv ∧ M.m = N.m ∧ ∀ r : Nat, 1 ≤ r → r ≤ 33 → M.x r = N.x r
  | .fell, .fell => True
  | _, _ => False
theorem OzAlike.rfl' (z : Oz) : OzAlike z z := by cases z <;> simp [OzAlike]
theorem valV_free {k : Nat} (h : 3 ≤ k ∧ k ≤ 16) (a b d i d' i' : Int) : valV k a b d i = valV k a b d' i' := by
  have : k = 3 ∨ k = 4 ∨ k = 5 ∨ k = 6 ∨ k = 7 ∨ k = 8 ∨ k = 9 ∨ k = 10 ∨ k = 11 ∨ k = 12 ∨ k = 13 ∨ k = 14 ∨ k = 15 ∨ k = 16 := by omega
  rcases this with rfl | rfl | rfl | rfl | rfl | rfl | rfl | rfl | rfl | rfl | rfl | rfl | rfl | rfl <;> simp [valV]
theorem resZ_val {wt : Int → Bool} {x m : Nat → Int} {o : Opx} (h : o.k ≤ 20) : resZ wt x m o = ⟨valV o.k (x o.a.toNat) (x o.b.toNat) (x o.d.toNat) o.i, 0, false, false⟩ := by
  unfold resZ
  rw [if_neg (by omega), if_neg (by omega), if_neg (by omega), if_neg (by omega), if_neg (by omega), if_neg (by omega), if_neg (by omega)]
theorem appZ_val {M : Mz} {o : Opx} (h1 : 1 ≤ o.k) (h : o.k ≤ 20) (hd : 1 ≤ o.d) (v a : Int) : appZ M o ⟨v, a, false, false⟩ = ⟨setX M.x o.d v, M.m, M.lv⟩ := by
  unfold appZ
  have e : wrX o = o.d := by unfold wrX rD; rw [if_pos (by rw [if_pos (.inl ⟨h1, h⟩)])]
  rw [e, if_pos (by omega), if_neg (by omega)]; rfl
theorem well_d {o : Opx} {many : Int} (h : opE o many = 0) (hr : rD o.k = 2) : 1 ≤ o.d ∧ o.d < 64 := by
  obtain ⟨_, hb, _⟩ := opE_zero.1 h
  unfold bndB at hb
  simp only [Bool.and_eq_true] at hb
  rw [hr] at hb
  have := hb.1.1.1.1
  unfold alw at this; simp at this; omega
theorem well_wr {o : Opx} {many : Int} (h : opE o many = 0) : 0 ≤ wrX o ∧ wrX o < 64 := by
  unfold wrX
  split
  · rename_i hr; have := well_d h hr; omega
  · omega
/-- facts that hold -/
def FactsOf (f : Fx) (x : Nat → Int) : Prop := ∀ r v, f r = some v → 0 ≤ r ∧ x r.toNat = v
theorem FactsOf.zero {x : Nat → Int} (h : x 0 = 0) : FactsOf fx0 x := by
  intro r v e
  unfold fx0 at e
  split at e
  · rename_i h0; subst h0; cases e; exact ⟨by omega, h⟩
  · cases e
theorem FactsOf.learn {f : Fx} {x : Nat → Int} {o : Opx} {many : Int} (F : FactsOf f x) (hw : opE o many = 0) {wt : Int → Bool} {m : Nat → Int} {M : Mz} (hM : M.x = x) : FactsOf (learnF f o) (appZ M o (resZ wt x m o)).x := by
  intro r v e
  have hb := well_wr hw
  unfold learnF at e
  by_cases h0 : wrX o = 0
  · rw [if_pos h0] at e
    show 0 ≤ r ∧ (if 0 < wrX o then setX M.x (wrX o) (resZ wt x m o).v else M.x) r.toNat = v
    rw [if_neg (by omega), hM]; exact F r v e
  · rw [if_neg h0] at e
    show 0 ≤ r ∧ (if 0 < wrX o then setX M.x (wrX o) (resZ wt x m o).v else M.x) r.toNat = v
    rw [if_pos (by omega)]
    unfold putF at e
    by_cases h1 : r = wrX o
    · rw [if_pos h1] at e
      by_cases h2 : o.k = 1
      · rw [if_pos h2] at e
        cases e
        refine ⟨by omega, ?_⟩
        unfold setX; rw [if_pos (by rw [h1]), resZ_val (by omega)]
        show valV o.k _ _ _ _ = _
        rw [h2]; rfl
      · rw [if_neg h2] at e; cases e
    · rw [if_neg h1] at e
      obtain ⟨g1, g2⟩ := F r v e
      refine ⟨g1, ?_⟩
      unfold setX; rw [if_neg (by omega), hM]; exact g2
/-- what was told ends as it did -/
theorem run_work {many : Int} (wt : Int → Bool) : ∀ (l : List Opx) (ah : Int) (f : Fx) (x m : Nat → Int), wellL many ah l → FactsOf f x → run1 wt (workF f l) x m = run1 wt l x m
  | [], _, _, _, _, _, _ => rfl
  | o :: l, ah, f, x, m, hw, F => by
    show run1 wt (toldO f o :: workF (learnF f (toldO f o)) l) x m = _
    have hw' : opE (toldO f o) many = 0 := told_opE hw.1
    rw [run1_cons, run1_cons]
    have ih := fun (M : Mz) (hM : M.x = x) => run_work wt l o.t (learnF f (toldO f o)) (appZ M (toldO f o) (resZ wt x m (toldO f o))).x (appZ M (toldO f o) (resZ wt x m (toldO f o))).m hw.2.2.2 (F.learn hw' hM)
    rw [ih ⟨x, m, -1⟩ rfl]
    cases hr : resF f o with
    | none => rw [told_none hr]
    | some v =>
      have hk := res_kind hr
      have hd := well_d hw.1 (by unfold rD; rw [if_pos (by omega)])
      have ev : valV o.k (x o.a.toNat) (x o.b.toNat) (x o.d.toNat) o.i = v := by
        unfold resF at hr
        split at hr
        · rename_i h2
          have := (F _ _ hr).2
          rw [h2.1]; exact this
        · split at hr
          · rename_i h2
            unfold tellB at h2
            simp only [Bool.and_eq_true, decide_eq_true_eq, Option.isSome_iff_exists] at h2
            obtain ⟨⟨h3, a, ha⟩, b, hb⟩ := h2
            rw [ha, hb] at hr
            cases hr
            rw [(F _ _ ha).2, (F _ _ hb).2]
            exact valV_free h3 _ _ _ _ _ _
          · cases hr
      rw [told_some hr, resZ_val (o := o) (by omega), ev, resZ_val (o := ⟨kindS 1, o.d, 0, 0, v, o.t⟩) (by simp [Opx.k, kn_kind]), appZ_val (o := o) (by omega) (by omega) hd.1, appZ_val (o := ⟨kindS 1, o.d, 0, 0, v, o.t⟩) (by simp [Opx.k, kn_kind]) (by simp [Opx.k, kn_kind]) hd.1]
      have e1 : valV (Opx.k ⟨kindS 1, o.d, 0, 0, v, o.t⟩) (x (0 : Int).toNat) (x (0 : Int).toNat) (x o.d.toNat) v = v := by simp [Opx.k, kn_kind, valV]
      simp only [e1]
/-- what an op comes to hangs on what it reads -/
theorem resZ_reads {wt : Int → Bool} {x y m : Nat → Int} {o : Opx} (hk : o.k ≠ 0) (h : ∀ r, r ∈ rdX o → x r.toNat = y r.toNat) : resZ wt x m o = resZ wt y m o := by
  have hl := kn_lt o.s
  have ha : rA o.k = 1 → x o.a.toNat = y o.a.toNat := fun e => h _ (by unfold rdX; rw [if_pos e]; simp)
  have hb : rB o.k = 1 → x o.b.toNat = y o.b.toNat := fun e => h _ (by unfold rdX; rw [if_pos e]; simp)
  have hd : dvB o.k = true → x o.d.toNat = y o.d.toNat := fun e => h _ (by unfold rdX; rw [if_pos e]; simp)
  generalize hkk : o.k = k at *
  have hl : k < 28 := by rw [← hkk]; exact hl
  unfold resZ
  rw [hkk]
  have hc : k = 1 ∨ k = 2 ∨ (3 ≤ k ∧ k ≤ 16) ∨ (17 ≤ k ∧ k ≤ 20) ∨ k = 21 ∨ k = 22 ∨ k = 23 ∨ k = 24 ∨ k = 25 ∨ k = 26 ∨ k = 27 := by omega
  rcases hc with rfl | rfl | hc | hc | rfl | rfl | rfl | rfl | rfl | rfl | rfl
  · simp [valV]
  · rw [ha rfl]; simp [valV]
  · rw [ha (by unfold rA; rw [if_pos (by omega)]), hb (by unfold rB; rw [if_pos (by omega)]), valV_free hc _ _ (x o.d.toNat) o.i (y o.d.toNat) o.i]
  · rw [ha (by unfold rA; rw [if_pos (by omega)]), hb (by unfold rB; rw [if_pos (by omega)]), hd (by unfold dvB; simpa using hc)]
  · rw [ha rfl, hb rfl]; simp
  · rw [ha rfl, hb rfl]; simp
  · rw [ha rfl]; simp
  · rw [ha rfl, hb rfl]; simp
  · rw [ha rfl]; simp
  · simp
  · rw [ha rfl]; simp
theorem appZ_x {M N : Mz} {o : Opx} {r : Ro} {n : Int} (h0 : 0 ≤ wrX o) (hn : 0 ≤ n) (h : n ≠ wrX o ∨ wrX o = 0 → M.x n.toNat = N.x n.toNat) : (appZ M o r).x n.toNat = (appZ N o r).x n.toNat := by
  show (if 0 < wrX o then setX M.x (wrX o) r.v else M.x) n.toNat = (if 0 < wrX o then setX N.x (wrX o) r.v else N.x) n.toNat
  by_cases hz : 0 < wrX o
  · rw [if_pos hz, if_pos hz]
    unfold setX
    by_cases he : n.toNat = (wrX o).toNat
    · rw [if_pos he, if_pos he]
    · rw [if_neg he, if_neg he]; exact h (.inl (by intro e; rw [e] at he; exact he rfl))
  · rw [if_neg hz, if_neg hz]; exact h (.inr (by omega))
/-- without what is dead a code ends alike -/
theorem run_drop {many : Int} (wt : Int → Bool) : ∀ (l : List Opx) (ah : Int) (x y m : Nat → Int), wellL many ah l → x 0 = y 0 → (∀ r : Int, 0 ≤ r → needN (dropD l) r = true → x r.toNat = y r.toNat) → OzAlike (run1 wt (dropD l) x m) (run1 wt l y m)
  | [], _, _, _, _, _, _, _ => trivial
  | o :: l, ah, x, y, m, hw, h0, hn => by
    have hb := well_wr hw.1
    have hk0 := (opE_zero.1 hw.1).1
    unfold dropD at hn ⊢
    by_cases hs : spareB (needN (dropD l)) o = true
    · rw [if_pos hs] at hn ⊢
      unfold spareB at hs
      simp only [Bool.and_eq_true, decide_eq_true_eq, Bool.not_eq_true'] at hs
      obtain ⟨⟨hs1, hs2⟩, hs3⟩ := hs
      have hk : 1 ≤ o.k ∧ o.k ≤ 20 := by
        unfold wrX rD at hs1
        by_cases hc : 1 ≤ o.k ∧ o.k ≤ 20 ∨ o.k = 23
        · omega
        · rw [if_neg hc] at hs1
          by_cases h24 : o.k = 24
          · rw [if_pos h24] at hs1; simp at hs1
          · rw [if_neg h24] at hs1; simp at hs1
      have ew : wrX o = o.d := by unfold wrX rD; rw [if_pos (by rw [if_pos (.inl hk)])]
      have hd := well_d hw.1 (by unfold rD; rw [if_pos (.inl hk)])
      rw [run1_cons wt o l y m, resZ_val hk.2, if_neg (by simp), appZ_val hk.1 hk.2 hd.1, if_pos (by show (-1 : Int) < 0; omega)]
      refine run_drop wt l o.t x _ m hw.2.2.2 ?_ fun r hr hnr => ?_
      · show x 0 = setX y o.d _ 0
        unfold setX; rw [if_neg (by omega)]; exact h0
      · show x r.toNat = setX y o.d _ r.toNat
        have hne : r ≠ o.d := by intro e; rw [e, ← ew, hs3] at hnr; cases hnr
        unfold setX; rw [if_neg (by omega)]; exact hn r hr hnr
    · rw [if_neg hs] at hn ⊢
      have hrd : ∀ r, r ∈ rdX o → x r.toNat = y r.toNat := by
        intro r hr
        by_cases hneg : 0 ≤ r
        · exact hn r hneg (by show passN _ o r = true; unfold passN; rw [if_pos hr])
        · have : r.toNat = 0 := by omega
          rw [this]; exact h0
      rw [run1_cons, run1_cons, resZ_reads hk0 hrd]
      generalize hR : resZ wt y m o = R
      by_cases ht : R.trap = true
      · rw [if_pos ht, if_pos ht]; rfl
      rw [if_neg ht, if_neg ht]
      have elv : (appZ ⟨x, m, -1⟩ o R).lv = (appZ ⟨y, m, -1⟩ o R).lv := rfl
      have em : (appZ ⟨x, m, -1⟩ o R).m = (appZ ⟨y, m, -1⟩ o R).m := rfl
      rw [elv]
      by_cases hlv : (appZ ⟨y, m, -1⟩ o R).lv < 0
      · rw [if_pos hlv, if_pos hlv, em]
        refine run_drop wt l o.t _ _ _ hw.2.2.2 ?_ fun r hr hnr => ?_
        · exact appZ_x (n := 0) hb.1 (by omega) fun _ => h0
        · refine appZ_x hb.1 hr fun hne => ?_
          show x r.toNat = y r.toNat
          by_cases hr0 : r = 0
          · rw [hr0]; exact h0
          · refine hn r hr ?_
            show passN _ o r = true
            unfold passN
            by_cases h1 : r ∈ rdX o
            · rw [if_pos h1]
            · have h2 : r ≠ wrX o := by
                rcases hne with hne | hne
                · exact hne
                · rw [hne]; exact hr0
              rw [if_neg h1, if_neg h2]
              split
              · rfl
              · exact hnr
      · rw [if_neg hlv, if_neg hlv]
        refine ⟨elv, em, fun r hr1 hr2 => ?_⟩
        have hk : 25 ≤ o.k := by
          by_cases hk : 25 ≤ o.k
          · exact hk
          · exfalso
            apply hlv
            show (if R.leave = true then R.a else (-1 : Int)) < 0
            have : R.leave = false := by
              rw [← hR]; unfold resZ
              by_cases h21 : o.k = 21
              · rw [if_pos h21]
              rw [if_neg h21]
              by_cases h22 : o.k = 22
              · rw [if_pos h22]
              rw [if_neg h22]
              by_cases h23 : o.k = 23
              · rw [if_pos h23]
                generalize (if o.b < 0 then -o.b else o.b) = n
                split <;> rfl
              rw [if_neg h23]
              by_cases h24 : o.k = 24
              · rw [if_pos h24]; split <;> rfl
              rw [if_neg h24, if_neg (by omega), if_neg (by omega), if_neg (by omega)]
            rw [this]; simp
        have hwz : wrX o = 0 := by unfold wrX rD; rw [if_neg (by rw [if_neg (by omega), if_neg (by omega)]; omega)]
        have := appZ_x (M := ⟨x, m, -1⟩) (N := ⟨y, m, -1⟩) (o := o) (r := R) (n := (r : Int)) hb.1 (by omega) fun _ => hn r (by omega) (by
          show passN _ o r = true
          unfold passN
          split
          · rfl
          · rw [if_neg (by omega), if_pos ⟨hk, by omega, by omega⟩])
        simpa using this
theorem run_opt {many lev : Int} {l : List Opx} (W : Well many l) (wt : Int → Bool) (x m : Nat → Int) (h0 : x 0 = 0) : OzAlike (run1 wt (optL lev l) x m) (run1 wt l x m) := by
  unfold optL
  split
  · exact OzAlike.rfl' _
  · split
    · rw [run_work wt l 0 fx0 x m W.ops (FactsOf.zero h0)]; exact OzAlike.rfl' _
    · have := run_drop wt (workF fx0 l) 0 x x m (W.work fx0).ops rfl (fun _ _ _ => rfl)
      rw [run_work wt l 0 fx0 x m W.ops (FactsOf.zero h0)] at this
      exact this
end Go.Proofs.YtjkencgcdlfjhaaGreatDoor
