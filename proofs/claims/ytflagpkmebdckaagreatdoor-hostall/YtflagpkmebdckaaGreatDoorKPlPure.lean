/-
  Plans in whole numbers: what is wrong with a row or a plan, and how a plan is made.
-/
import Derived.Test.YtflagpkmebdckaaGreatDoorKOptPure
import Derived.Test.YtflagpkmebdckaaGreatDoorKIrChk2
import Derived.Test.YtflagpkmebdckaaGreatDoorKSerial
import Derived.Test.YtflagpkmebdckaaGreatDoorKOptFns
import Derived.Test.YtflagpkmebdckaaGreatDoorJDoc1
namespace Go.Proofs.YtflagpkmebdckaaGreatDoor
open Num
set_option linter.unusedVariables false
/-- the part of a row in which an op stands: 0 sums, 1 memory, 2 what leaves -/
def ptO (o : Opx) : Nat := if o.k = 23 ∨ o.k = 24 then 1 else if 25 ≤ o.k then 2 else 0
theorem ptO_lt (o : Opx) : ptO o < 3 := by unfold ptO; split <;> (try split) <;> omega
def ctP (p : Nat) (l : List Opx) : Nat := (l.filter fun o => decide (ptO o = p)).length
theorem ctP_snoc (p : Nat) (l : List Opx) (o : Opx) : ctP p (l ++ [o]) = if p = ptO o then ctP p l + 1 else ctP p l := by
  unfold ctP
  rw [List.filter_append, List.length_append]
  by_cases h : p = ptO o
  · subst h; simp
  · rw [if_neg h]; simp [Ne.symm h]
theorem ctP_le (p : Nat) (l : List Opx) : ctP p l ≤ l.length := List.length_filter_le _ _
theorem ctP_sum (l : List Opx) : ctP 0 l + ctP 1 l + ctP 2 l = l.length := by
  unfold ctP
  induction l with
  | nil => rfl
  | cons o l ih =>
    have := ptO_lt o
    rw [List.filter_cons, List.filter_cons, List.filter_cons, List.length_cons]
    have : ptO o = 0 ∨ ptO o = 1 ∨ ptO o = 2 := by omega
    rcases this with h | h | h <;> simp [h] <;> omega
def fitC (a b c : Nat) : Bool := decide (a ≤ 3) && decide (b ≤ 1) && decide (c ≤ 1) && decide (a + b + c ≤ 4)
def fitB (l : List Opx) : Bool := fitC (ctP 0 l) (ctP 1 l) (ctP 2 l)
/-- does one write what one ahead of it wrote? -/
def dupA : List Opx → List Opx → Bool
  | _, [] => false
  | pre, o :: l => (decide (wrX o ≠ 0) && pre.any fun p => decide (wrX p = wrX o)) || dupA (pre ++ [o]) l
theorem dupA_snoc : ∀ (l pre : List Opx) (o : Opx), dupA pre (l ++ [o]) = (dupA pre l || (decide (wrX o ≠ 0) && (pre ++ l).any fun p => decide (wrX p = wrX o)))
  | [], pre, o => by simp [dupA]
  | q :: l, pre, o => by
    show (_ || dupA (pre ++ [q]) (l ++ [o])) = _
    rw [dupA_snoc l (pre ++ [q]) o]
    simp [dupA, Bool.or_assoc]
theorem dupA_take {l : List Opx} {j : Nat} {o : Opx} (h : l[j]? = some o) : dupA [] (l.take (j + 1)) = (dupA [] (l.take j) || (decide (wrX o ≠ 0) && (l.take j).any fun p => decide (wrX p = wrX o))) := by
  have e : l.take (j + 1) = l.take j ++ [o] := by
    rw [List.take_add_one, h]; rfl
  rw [e, dupA_snoc]; rfl
theorem dupA_mono (l pre : List Opx) (o : Opx) (h : dupA pre l = true) : dupA pre (l ++ [o]) = true := by rw [dupA_snoc, h]; rfl
theorem dupA_found {l : List Opx} {j : Nat} (h : dupA [] (l.take j) = true) : dupA [] l = true := by
  have : ∀ (a b pre : List Opx), dupA pre a = true → dupA pre (a ++ b) = true := by
    intro a b
    induction b generalizing a with
    | nil => intro pre h; simpa using h
    | cons o b ih => intro pre h; have := ih (a ++ [o]) pre (dupA_mono a pre o h); simpa using this
  have e := this (l.take j) (l.drop j) [] h
  rwa [List.take_append_drop] at e
/-- the first op's error -/
def firE (many : Int) : List Opx → Int
  | [] => 0
  | o :: l => if opE o many ≠ 0 then opE o many else firE many l
theorem firE_at (many : Int) : ∀ (l : List Opx) (j : Nat) (o : Opx), l[j]? = some o → (∀ k p, k < j → l[k]? = some p → opE p many = 0) → opE o many ≠ 0 → firE many l = opE o many
  | [], j, o, h, _, _ => by simp at h
  | q :: l, 0, o, h, _, h2 => by
    obtain rfl : q = o := by simpa using h
    unfold firE; rw [if_pos h2]
  | q :: l, j + 1, o, h, h1, h2 => by
    unfold firE
    rw [if_neg (by simpa using h1 0 q (by omega) rfl)]
    exact firE_at many l j o (by simpa using h) (fun k p hk hp => h1 (k + 1) p (by omega) (by simpa using hp)) h2
theorem firE_none (many : Int) : ∀ (l : List Opx), (∀ o ∈ l, opE o many = 0) → firE many l = 0
  | [], _ => rfl
  | q :: l, h => by
    unfold firE
    rw [if_neg (by simpa using h q (by simp))]
    exact firE_none many l fun o ho => h o (by simp [ho])
theorem firE_all (many : Int) : ∀ (l : List Opx), firE many l = 0 → ∀ o ∈ l, opE o many = 0
  | [], _, o, h => by cases h
  | q :: l, hf, o, h => by
    unfold firE at hf
    by_cases hq : opE q many ≠ 0
    · rw [if_pos hq] at hf; exact absurd hf hq
    · rw [if_neg hq] at hf
      rcases List.mem_cons.1 h with rfl | h
      · simpa using hq
      · exact firE_all many l hf o h
/-- what is wrong with a row -/
def rowE (many : Int) (last : Bool) (l : List Opx) : Int :=
  if l = [] ∨ 4 < l.length then 3 else if firE many l ≠ 0 then firE many l else if fitB l = false then 8 else if dupA [] l = true then 7 else if last ≠ l.any outB then 3 else 0
/-- the first row that is not well -/
def rowsF (many : Int) : Nat → List (List Opx) → Int × Int
  | _, [] => (0, -1)
  | n, r :: rs => if rowE many rs.isEmpty r ≠ 0 then (rowE many rs.isEmpty r, n) else rowsF many (n + 1) rs
def strR (rs : List (List Opx)) : Nat := (rs.map strs).sum
theorem strR_snoc (rs : List (List Opx)) (r : List Opx) : strR (rs ++ [r]) = strR rs + strs r := by simp [strR]
/-- what is wrong with a plan -/
def planF (many : Int) (rs : List (List Opx)) : Int × Int :=
  if many < 1 ∨ 24 < many then (2, -1) else if 200 < rs.length then (8, -1) else if rs = [] then (3, -1) else if (rowsF many 0 rs).1 ≠ 0 then rowsF many 0 rs else if 8 < strR rs then (8, -1) else (0, -1)
theorem rowsF_at (many : Int) : ∀ (rs : List (List Opx)) (n j : Nat) (r : List Opx), rs[j]? = some r → (∀ k q, k < j → rs[k]? = some q → rowE many false q = 0) → rowE many (decide (j + 1 = rs.length)) r ≠ 0 → rowsF many n rs = (rowE many (decide (j + 1 = rs.length)) r, ((n + j : Nat) : Int))
  | [], n, j, r, h, _, _ => by simp at h
  | q :: rs, n, 0, r, h, _, h2 => by
    obtain rfl : q = r := by simpa using h
    have e : rs.isEmpty = decide (0 + 1 = (q :: rs).length) := by cases rs <;> simp
    unfold rowsF
    rw [e, if_pos h2]; simp
  | q :: rs, n, j + 1, r, h, h1, h2 => by
    have hne : rs ≠ [] := by rintro rfl; simp at h
    have e : rs.isEmpty = false := by cases rs <;> simp_all
    have h0 := h1 0 q (by omega) rfl
    unfold rowsF
    rw [e, if_neg (by simpa using h0), rowsF_at many rs (n + 1) j r (by simpa using h) (fun k p hk hp => h1 (k + 1) p (by omega) (by simpa using hp)) (by simpa using h2)]
    simp; omega
theorem rowsF_none (many : Int) : ∀ (rs : List (List Opx)) (n : Nat), (∀ k q, rs[k]? = some q → rowE many (decide (k + 1 = rs.length)) q = 0) → rowsF many n rs = (0, -1)
  | [], n, _ => rfl
  | q :: rs, n, h => by
    have e : rs.isEmpty = decide (0 + 1 = (q :: rs).length) := by cases rs <;> simp
    unfold rowsF
    rw [e, if_neg (by simpa using h 0 q rfl)]
    exact rowsF_none many rs (n + 1) fun k p hp => by simpa using h (k + 1) p (by simpa using hp)
/-- a plan on its way: rows; the first row in which a register can be read; the last row that reads it; the first rows behind the last if, store, load or store -/
structure Mk where
  rows : List (List Opx)
  rdy : Nat → Nat
  ask : Nat → Nat
  bI : Nat
  bS : Nat
  bM : Nat
def mk0 : Mk := ⟨[], fun _ => 0, fun _ => 0, 0, 0, 0⟩
def frA (M : Mk) (l : List Int) (n : Nat) : Nat := l.foldl (fun n r => max n (M.rdy r.toNat)) n
def frW (M : Mk) (o : Opx) (n : Nat) : Nat := if wrX o ≠ 0 then max (max n (M.rdy (wrX o).toNat)) (M.ask (wrX o).toNat) else n
def frK (M : Mk) (o : Opx) (n : Nat) : Nat := if o.k = 23 then max n M.bS else if o.k = 24 then max n M.bM else if 25 ≤ o.k then max n (M.rows.length - 1) else n
/-- the first row in which an op may stand -/
def frR (M : Mk) (o : Opx) : Nat := frK M o (frW M o (frA M (rdX o) M.bI))
def roomB (o : Opx) (r : List Opx) : Bool := fitB (r ++ [o])
def rowN (M : Mk) (o : Opx) : Nat := frR M o + (M.rows.drop (frR M o)).findIdx (roomB o)
def putR (rs : List (List Opx)) (n : Nat) (o : Opx) : List (List Opx) := if n < rs.length then rs.modify n (· ++ [o]) else rs ++ [[o]]
def setN (f : Nat → Nat) (r n : Nat) : Nat → Nat := fun k => if k = r then n else f k
def ntA (f : Nat → Nat) (n : Nat) (l : List Int) : Nat → Nat := l.foldl (fun f r => setN f r.toNat (max (f r.toNat) n)) f
def note (M : Mk) (o : Opx) (n : Nat) : Mk where
  rows := M.rows
  rdy := if wrX o ≠ 0 then setN M.rdy (wrX o).toNat (n + 1) else M.rdy
  ask := ntA M.ask n (rdX o)
  bI := if o.k = 25 then n + 1 else M.bI
  bS := if o.k = 24 then n + 1 else M.bS
  bM := if o.k = 23 then max M.bM (n + 1) else if o.k = 24 then n + 1 else M.bM
def place (M : Mk) (o : Opx) : Mk := note { M with rows := putR M.rows (rowN M o) o } o (rowN M o)
def makeP (l : List Opx) : Mk := l.foldl place mk0
structure MkOk (M : Mk) : Prop where
  rdy : ∀ r, M.rdy r ≤ M.rows.length
  ask : ∀ r, M.ask r ≤ M.rows.length
  bI : M.bI ≤ M.rows.length
  bS : M.bS ≤ M.rows.length
  bM : M.bM ≤ M.rows.length
theorem mk0_ok : MkOk mk0 := ⟨fun _ => Nat.zero_le _, fun _ => Nat.zero_le _, Nat.zero_le _, Nat.zero_le _, Nat.zero_le _⟩
theorem frA_le {M : Mk} (H : MkOk M) : ∀ (l : List Int) (n : Nat), n ≤ M.rows.length → frA M l n ≤ M.rows.length
  | [], n, h => h
  | r :: l, n, h => by
    show frA M l (max n (M.rdy r.toNat)) ≤ _
    exact frA_le H l _ (by have := H.rdy r.toNat; omega)
theorem frR_le {M : Mk} (H : MkOk M) (o : Opx) : frR M o ≤ M.rows.length := by
  have h1 := frA_le H (rdX o) M.bI H.bI
  generalize hg : frA M (rdX o) M.bI = n at h1
  have h2 : frW M o n ≤ M.rows.length := by
    unfold frW
    have := H.rdy (wrX o).toNat
    have := H.ask (wrX o).toNat
    split <;> omega
  unfold frR
  rw [hg]
  generalize frW M o n = n at h2
  have := H.bS
  have := H.bM
  unfold frK
  split
  · omega
  · split
    · omega
    · split <;> omega
theorem rowN_le {M : Mk} (H : MkOk M) (o : Opx) : rowN M o ≤ M.rows.length := by
  have := frR_le H o
  have h := List.findIdx_le_length (p := roomB o) (xs := M.rows.drop (frR M o))
  rw [List.length_drop] at h
  unfold rowN; omega
theorem putR_len (rs : List (List Opx)) (n : Nat) (o : Opx) : (putR rs n o).length = if n < rs.length then rs.length else rs.length + 1 := by
  unfold putR; split <;> simp
theorem ntA_le (n L : Nat) (hn : n ≤ L) : ∀ (l : List Int) (f : Nat → Nat), (∀ r, f r ≤ L) → ∀ r, ntA f n l r ≤ L
  | [], f, h, r => h r
  | q :: l, f, h, r => by
    refine ntA_le n L hn l (setN f q.toNat (max (f q.toNat) n)) (fun k => ?_) r
    unfold setN
    have := h q.toNat
    have := h k
    split <;> omega
theorem place_ok {M : Mk} (H : MkOk M) (o : Opx) : MkOk (place M o) := by
  have hn := rowN_le H o
  have hL : (place M o).rows.length = if rowN M o < M.rows.length then M.rows.length else M.rows.length + 1 := putR_len _ _ _
  have h1 : rowN M o + 1 ≤ (place M o).rows.length := by rw [hL]; split <;> omega
  have h2 : M.rows.length ≤ (place M o).rows.length := by rw [hL]; split <;> omega
  obtain ⟨L, hLL⟩ : ∃ L, (place M o).rows.length = L := ⟨_, rfl⟩
  rw [hLL] at h1 h2
  have a1 := H.rdy
  have a2 := H.ask
  have a3 := H.bI
  have a4 := H.bS
  have a5 := H.bM
  refine ⟨fun r => ?_, fun r => ?_, ?_, ?_, ?_⟩
  all_goals rw [hLL]
  · show (if wrX o ≠ 0 then setN M.rdy (wrX o).toNat (rowN M o + 1) else M.rdy) r ≤ L
    have := a1 r
    split
    · unfold setN; split <;> omega
    · omega
  · exact ntA_le (rowN M o) L (by omega) (rdX o) M.ask (fun k => by have := a2 k; omega) r
  · show (if o.k = 25 then rowN M o + 1 else M.bI) ≤ L
    split <;> omega
  · show (if o.k = 24 then rowN M o + 1 else M.bS) ≤ L
    split <;> omega
  · show (if o.k = 23 then max M.bM (rowN M o + 1) else if o.k = 24 then rowN M o + 1 else M.bM) ≤ L
    split
    · omega
    · split <;> omega
end Go.Proofs.YtflagpkmebdckaaGreatDoor
/-
  Rows of ops over registers and memory, as the document runs them, in whole numbers; better codes end alike.
-/
namespace Go.Proofs.YtflagpkmebdckaaGreatDoor
open Num
set_option linter.unusedVariables false
/-- what an op comes to: what it writes, an address, whether it traps, whether it leaves -/
structure Ro where
  v : Int
  a : Int
  trap : Bool
  leave : Bool
def resZ (wt : Int → Bool) (x m : Nat → Int) (o : Opx) : Ro :=
  if o.k = 21 then ⟨0, 0, ov (sg (x o.a.toNat) + sg (x o.b.toNat)), false⟩
  else if o.k = 22 then ⟨0, 0, ov (sg (x o.a.toNat) - sg (x o.b.toNat)), false⟩
  else if o.k = 23 then (if chk (lo (x o.a.toNat + o.i)) (if o.b < 0 then -o.b else o.b) = 0 then ⟨ld m (lo (x o.a.toNat + o.i)) (if o.b < 0 then -o.b else o.b) (decide (o.b < 0)), 0, false, false⟩ else ⟨0, 0, true, false⟩)
  else if o.k = 24 then (if chk (lo (x o.a.toNat + o.i)) o.d = 0 then ⟨x o.b.toNat, lo (x o.a.toNat + o.i), wt (lo (x o.a.toNat + o.i) / 256), false⟩ else ⟨0, 0, true, false⟩)
  else if o.k = 25 then ⟨0, o.i, false, decide (x o.a.toNat ≠ 0)⟩
  else if o.k = 26 then ⟨0, o.i, false, true⟩
  else if o.k = 27 then ⟨0, x o.a.toNat, false, true⟩
  else ⟨valV o.k (x o.a.toNat) (x o.b.toNat) (x o.d.toNat) o.i, 0, false, false⟩
/-- registers, memory, where it leaves for (-1: it does not) -/
structure Mz where
  x : Nat → Int
  m : Nat → Int
  lv : Int
def appZ (M : Mz) (o : Opx) (r : Ro) : Mz := ⟨if 0 < wrX o then setX M.x (wrX o) r.v else M.x, if o.k = 24 then upd M.m r.a o.d r.v else M.m, if r.leave = true then r.a else M.lv⟩
def rowZ (wt : Int → Bool) (x m : Nat → Int) (row : List Opx) : Mz := row.foldl (fun M o => appZ M o (resZ wt x m o)) ⟨x, m, -1⟩
def trapZ (wt : Int → Bool) (x m : Nat → Int) (row : List Opx) : Option Int := (row.find? fun o => (resZ wt x m o).trap).map (·.t)
inductive Oz where
  | trap (t : Int)
  | leave (M : Mz)
  | fell
def runZ (wt : Int → Bool) : List (List Opx) → (Nat → Int) → (Nat → Int) → Oz
  | [], _, _ => .fell
  | row :: rows, x, m => match trapZ wt x m row with
    | some t => .trap t
    | none => if (rowZ wt x m row).lv < 0 then runZ wt rows (rowZ wt x m row).x (rowZ wt x m row).m else .leave (rowZ wt x m row)
/-- one op a row -/
def eachL (l : List Opx) : List (List Opx) := l.map fun o => [o]
def run1 (wt : Int → Bool) (l : List Opx) (x m : Nat → Int) : Oz := runZ wt (eachL l) x m
theorem run1_cons (wt : Int → Bool) (o : Opx) (l : List Opx) (x m : Nat → Int) : run1 wt (o :: l) x m = if (resZ wt x m o).trap = true then .trap o.t else if (appZ ⟨x, m, -1⟩ o (resZ wt x m o)).lv < 0 then run1 wt l (appZ ⟨x, m, -1⟩ o (resZ wt x m o)).x (appZ ⟨x, m, -1⟩ o (resZ wt x m o)).m else .leave (appZ ⟨x, m, -1⟩ o (resZ wt x m o)) := by
  show runZ wt ([o] :: eachL l) x m = _
  unfold runZ
  have e : trapZ wt x m [o] = if (resZ wt x m o).trap = true then some o.t else none := by
    unfold trapZ
    rw [List.find?_cons]
    cases h : (resZ wt x m o).trap <;> simp
  rw [e]
  by_cases h : (resZ wt x m o).trap = true
  · rw [if_pos h, if_pos h]
  · rw [if_neg h, if_neg h]; rfl
/-- two endings that are alike: registers up to Lo -/
def OzAlike : Oz → Oz → Prop
  | .trap t, .trap u => t = u
  | .leave M, .leave N => M.lv = N.lv ∧ M.m = N.m ∧ ∀ r : Nat, 1 ≤ r → r ≤ 33 → M.x r = N.x r
  | .fell, .fell => True
  | _, _ => False
theorem OzAlike.rfl' (z : Oz) : OzAlike z z := by cases z <;> simp [OzAlike]
theorem valV_free {k : Nat} (h : 3 ≤ k ∧ k ≤ 16) (a b d i d' i' : Int) : valV k a b d i = valV k a b d' i' := by
  have : k = 3 ∨ k = 4 ∨ k = 5 ∨ k = 6 ∨ k = 7 ∨ k = 8 ∨ k = 9 ∨ k = 10 ∨ k = 11 ∨ k = 12 ∨ k = 13 ∨ k = 14 ∨ k = 15 ∨ k = 16 := by omega
  rcases this with rfl | rfl | rfl | rfl | rfl | rfl | rfl | rfl | rfl | rfl | rfl | rfl | rfl | rfl <;> simp [valV]
theorem resZ_val {wt : Int → Bool} {x m : Nat → Int} {o : Opx} (h : o.k ≤ 20) : resZ wt x m o = ⟨valV o.k (x o.a.toNat) (x o.b.toNat) (x o.d.toNat) o.i, 0, false, false⟩ := by
  unfold resZ
  rw [if_neg (by omega), if_neg (by omega), if_neg (by omega), if_neg (by omega), if_neg (by omega), if_neg (by omega), if_neg (by omega)]
theorem appZ_val {M : Mz} {o : Opx} (h1 : 1 ≤ o.k) (h : o.k ≤ 20) (hd : 1 ≤ o.d) (v a : Int) : appZ M o ⟨v, a, false, false⟩ = ⟨setX M.x o.d v, M.m, M.lv⟩ := by
  unfold appZ
  have e : wrX o = o.d := by unfold wrX rD; rw [if_pos (by rw [if_pos (.inl ⟨h1, h⟩)])]
  rw [e, if_pos (by omega), if_neg (by omega)]; rfl
theorem well_d {o : Opx} {many : Int} (h : opE o many = 0) (hr : rD o.k = 2) : 1 ≤ o.d ∧ o.d < 64 := by
  obtain ⟨_, hb, _⟩ := opE_zero.1 h
  unfold bndB at hb
  simp only [Bool.and_eq_true] at hb
  rw [hr] at hb
  have := hb.1.1.1.1
  unfold alw at this; simp at this; omega
theorem well_wr {o : Opx} {many : Int} (h : opE o many = 0) : 0 ≤ wrX o ∧ wrX o < 64 := by
  unfold wrX
  split
  · rename_i hr; have := well_d h hr; omega
  · omega
/-- facts that hold -/
def FactsOf (f : Fx) (x : Nat → Int) : Prop := ∀ r v, f r = some v → 0 ≤ r ∧ x r.toNat = v
theorem FactsOf.zero {x : Nat → Int} (h : x 0 = 0) : FactsOf fx0 x := by
  intro r v e
  unfold fx0 at e
  split at e
  · rename_i h0; subst h0; cases e; exact ⟨by omega, h⟩
  · cases e
theorem FactsOf.learn {f : Fx} {x : Nat → Int} {o : Opx} {many : Int} (F : FactsOf f x) (hw : opE o many = 0) {wt : Int → Bool} {m : Nat → Int} {M : Mz} (hM : M.x = x) : FactsOf (learnF f o) (appZ M o (resZ wt x m o)).x := by
  intro r v e
  have hb := well_wr hw
  unfold learnF at e
  by_cases h0 : wrX o = 0
  · rw [if_pos h0] at e
    show 0 ≤ r ∧ (if 0 < wrX o then setX M.x (wrX o) (resZ wt x m o).v else M.x) r.toNat = v
    rw [if_neg (by omega), hM]; exact F r v e
  · rw [if_neg h0] at e
    show 0 ≤ r ∧ (if 0 < wrX o then setX M.x (wrX o) (resZ wt x m o).v else M.x) r.toNat = v
    rw [if_pos (by omega)]
    unfold putF at e
    by_cases h1 : r = wrX o
    · rw [if_pos h1] at e
      by_cases h2 : o.k = 1
      · rw [if_pos h2] at e
        cases e
        refine ⟨by omega, ?_⟩
        unfold setX; rw [if_pos (by rw [h1]), resZ_val (by omega)]
        show valV o.k _ _ _ _ = _
        rw [h2]; rfl
      · rw [if_neg h2] at e; cases e
    · rw [if_neg h1] at e
      obtain ⟨g1, g2⟩ := F r v e
      refine ⟨g1, ?_⟩
      unfold setX; rw [if_neg (by omega), hM]; exact g2
/-- what was told ends as it did -/
theorem run_work {many : Int} (wt : Int → Bool) : ∀ (l : List Opx) (ah : Int) (f : Fx) (x m : Nat → Int), wellL many ah l → FactsOf f x → run1 wt (workF f l) x m = run1 wt l x m
  | [], _, _, _, _, _, _ => rfl
  | o :: l, ah, f, x, m, hw, F => by
    show run1 wt (toldO f o :: workF (learnF f (toldO f o)) l) x m = _
    have hw' : opE (toldO f o) many = 0 := told_opE hw.1
    rw [run1_cons, run1_cons]
    have ih := fun (M : Mz) (hM : M.x = x) => run_work wt l o.t (learnF f (toldO f o)) (appZ M (toldO f o) (resZ wt x m (toldO f o))).x (appZ M (toldO f o) (resZ wt x m (toldO f o))).m hw.2.2.2 (F.learn hw' hM)
    rw [ih ⟨x, m, -1⟩ rfl]
    cases hr : resF f o with
    | none => rw [told_none hr]
    | some v =>
      have hk := res_kind hr
      have hd := well_d hw.1 (by unfold rD; rw [if_pos (by omega)])
      have ev : valV o.k (x o.a.toNat) (x o.b.toNat) (x o.d.toNat) o.i = v := by
        unfold resF at hr
        split at hr
        · rename_i h2
          have := (F _ _ hr).2
          rw [h2.1]; exact this
        · split at hr
          · rename_i h2
            unfold tellB at h2
            simp only [Bool.and_eq_true, decide_eq_true_eq, Option.isSome_iff_exists] at h2
            obtain ⟨⟨h3, a, ha⟩, b, hb⟩ := h2
            rw [ha, hb] at hr
            cases hr
            rw [(F _ _ ha).2, (F _ _ hb).2]
            exact valV_free h3 _ _ _ _ _ _
          · cases hr
      rw [told_some hr, resZ_val (o := o) (by omega), ev, resZ_val (o := ⟨kindS 1, o.d, 0, 0, v, o.t⟩) (by simp [Opx.k, kn_kind]), appZ_val (o := o) (by omega) (by omega) hd.1, appZ_val (o := ⟨kindS 1, o.d, 0, 0, v, o.t⟩) (by simp [Opx.k, kn_kind]) (by simp [Opx.k, kn_kind]) hd.1]
      have e1 : valV (Opx.k ⟨kindS 1, o.d, 0, 0, v, o.t⟩) (x (0 : Int).toNat) (x (0 : Int).toNat) (x o.d.toNat) v = v := by simp [Opx.k, kn_kind, valV]
      simp only [e1]
/-- what an op comes to hangs on what it reads -/
theorem resZ_reads {wt : Int → Bool} {x y m : Nat → Int} {o : Opx} (hk : o.k ≠ 0) (h : ∀ r, r ∈ rdX o → x r.toNat = y r.toNat) : resZ wt x m o = resZ wt y m o := by
  have hl := kn_lt o.s
  have ha : rA o.k = 1 → x o.a.toNat = y o.a.toNat := fun e => h _ (by unfold rdX; rw [if_pos e]; simp)
  have hb : rB o.k = 1 → x o.b.toNat = y o.b.toNat := fun e => h _ (by unfold rdX; rw [if_pos e]; simp)
  have hd : dvB o.k = true → x o.d.toNat = y o.d.toNat := fun e => h _ (by unfold rdX; rw [if_pos e]; simp)
  generalize hkk : o.k = k at *
  have hl : k < 28 := by rw [← hkk]; exact hl
  unfold resZ
  rw [hkk]
  have hc : k = 1 ∨ k = 2 ∨ (3 ≤ k ∧ k ≤ 16) ∨ (17 ≤ k ∧ k ≤ 20) ∨ k = 21 ∨ k = 22 ∨ k = 23 ∨ k = 24 ∨ k = 25 ∨ k = 26 ∨ k = 27 := by omega
  rcases hc with rfl | rfl | hc | hc | rfl | rfl | rfl | rfl | rfl | rfl | rfl
  · simp [valV]
  · rw [ha rfl]; simp [valV]
  · rw [ha (by unfold rA; rw [if_pos (by omega)]), hb (by unfold rB; rw [if_pos (by omega)]), valV_free hc _ _ (x o.d.toNat) o.i (y o.d.toNat) o.i]
  · rw [ha (by unfold rA; rw [if_pos (by omega)]), hb (by unfold rB; rw [if_pos (by omega)]), hd (by unfold dvB; simpa using hc)]
  · rw [ha rfl, hb rfl]; simp
  · rw [ha rfl, hb rfl]; simp
  · rw [ha rfl]; simp
  · rw [ha rfl, hb rfl]; simp
  · rw [ha rfl]; simp
  · simp
  · rw [ha rfl]; simp
theorem appZ_x {M N : Mz} {o : Opx} {r : Ro} {n : Int} (h0 : 0 ≤ wrX o) (hn : 0 ≤ n) (h : n ≠ wrX o ∨ wrX o = 0 → M.x n.toNat = N.x n.toNat) : (appZ M o r).x n.toNat = (appZ N o r).x n.toNat := by
  show (if 0 < wrX o then setX M.x (wrX o) r.v else M.x) n.toNat = (if 0 < wrX o then setX N.x (wrX o) r.v else N.x) n.toNat
  by_cases hz : 0 < wrX o
  · rw [if_pos hz, if_pos hz]
    unfold setX
    by_cases he : n.toNat = (wrX o).toNat
    · rw [if_pos he, if_pos he]
    · rw [if_neg he, if_neg he]; exact h (.inl (by intro e; rw [e] at he; exact he rfl))
  · rw [if_neg hz, if_neg hz]; exact h (.inr (by omega))
/-- without what is dead a code ends alike -/
theorem run_drop {many : Int} (wt : Int → Bool) : ∀ (l : List Opx) (ah : Int) (x y m : Nat → Int), wellL many ah l → x 0 = y 0 → (∀ r : Int, 0 ≤ r → needN (dropD l) r = true → x r.toNat = y r.toNat) → OzAlike (run1 wt (dropD l) x m) (run1 wt l y m)
  | [], _, _, _, _, _, _, _ => trivial
  | o :: l, ah, x, y, m, hw, h0, hn => by
    have hb := well_wr hw.1
    have hk0 := (opE_zero.1 hw.1).1
    unfold dropD at hn ⊢
    by_cases hs : spareB (needN (dropD l)) o = true
    · rw [if_pos hs] at hn ⊢
      unfold spareB at hs
      simp only [Bool.and_eq_true, decide_eq_true_eq, Bool.not_eq_true'] at hs
      obtain ⟨⟨hs1, hs2⟩, hs3⟩ := hs
      have hk : 1 ≤ o.k ∧ o.k ≤ 20 := by
        unfold wrX rD at hs1
        by_cases hc : 1 ≤ o.k ∧ o.k ≤ 20 ∨ o.k = 23
        · omega
        · rw [if_neg hc] at hs1
          by_cases h24 : o.k = 24
          · rw [if_pos h24] at hs1; simp at hs1
          · rw [if_neg h24] at hs1; simp at hs1
      have ew : wrX o = o.d := by unfold wrX rD; rw [if_pos (by rw [if_pos (.inl hk)])]
      have hd := well_d hw.1 (by unfold rD; rw [if_pos (.inl hk)])
      rw [run1_cons wt o l y m, resZ_val hk.2, if_neg (by simp), appZ_val hk.1 hk.2 hd.1, if_pos (by show (-1 : Int) < 0; omega)]
      refine run_drop wt l o.t x _ m hw.2.2.2 ?_ fun r hr hnr => ?_
      · show x 0 = setX y o.d _ 0
        unfold setX; rw [if_neg (by omega)]; exact h0
      · show x r.toNat = setX y o.d _ r.toNat
        have hne : r ≠ o.d := by intro e; rw [e, ← ew, hs3] at hnr; cases hnr
        unfold setX; rw [if_neg (by omega)]; exact hn r hr hnr
    · rw [if_neg hs] at hn ⊢
      have hrd : ∀ r, r ∈ rdX o → x r.toNat = y r.toNat := by
        intro r hr
        by_cases hneg : 0 ≤ r
        · exact hn r hneg (by show passN _ o r = true; unfold passN; rw [if_pos hr])
        · have : r.toNat = 0 := by omega
          rw [this]; exact h0
      rw [run1_cons, run1_cons, resZ_reads hk0 hrd]
      generalize hR : resZ wt y m o = R
      by_cases ht : R.trap = true
      · rw [if_pos ht, if_pos ht]; rfl
      rw [if_neg ht, if_neg ht]
      have elv : (appZ ⟨x, m, -1⟩ o R).lv = (appZ ⟨y, m, -1⟩ o R).lv := rfl
      have em : (appZ ⟨x, m, -1⟩ o R).m = (appZ ⟨y, m, -1⟩ o R).m := rfl
      rw [elv]
      by_cases hlv : (appZ ⟨y, m, -1⟩ o R).lv < 0
      · rw [if_pos hlv, if_pos hlv, em]
        refine run_drop wt l o.t _ _ _ hw.2.2.2 ?_ fun r hr hnr => ?_
        · exact appZ_x (n := 0) hb.1 (by omega) fun _ => h0
        · refine appZ_x hb.1 hr fun hne => ?_
          show x r.toNat = y r.toNat
          by_cases hr0 : r = 0
          · rw [hr0]; exact h0
          · refine hn r hr ?_
            show passN _ o r = true
            unfold passN
            by_cases h1 : r ∈ rdX o
            · rw [if_pos h1]
            · have h2 : r ≠ wrX o := by
                rcases hne with hne | hne
                · exact hne
                · rw [hne]; exact hr0
              rw [if_neg h1, if_neg h2]
              split
              · rfl
              · exact hnr
      · rw [if_neg hlv, if_neg hlv]
        refine ⟨elv, em, fun r hr1 hr2 => ?_⟩
        have hk : 25 ≤ o.k := by
          by_cases hk : 25 ≤ o.k
          · exact hk
          · exfalso
            apply hlv
            show (if R.leave = true then R.a else (-1 : Int)) < 0
            have : R.leave = false := by
              rw [← hR]; unfold resZ
              by_cases h21 : o.k = 21
              · rw [if_pos h21]
              rw [if_neg h21]
              by_cases h22 : o.k = 22
              · rw [if_pos h22]
              rw [if_neg h22]
              by_cases h23 : o.k = 23
              · rw [if_pos h23]
                generalize (if o.b < 0 then -o.b else o.b) = n
                split <;> rfl
              rw [if_neg h23]
              by_cases h24 : o.k = 24
              · rw [if_pos h24]; split <;> rfl
              rw [if_neg h24, if_neg (by omega), if_neg (by omega), if_neg (by omega)]
            rw [this]; simp
        have hwz : wrX o = 0 := by unfold wrX rD; rw [if_neg (by rw [if_neg (by omega), if_neg (by omega)]; omega)]
        have := appZ_x (M := ⟨x, m, -1⟩) (N := ⟨y, m, -1⟩) (o := o) (r := R) (n := (r : Int)) hb.1 (by omega) fun _ => hn r (by omega) (by
          show passN _ o r = true
          unfold passN
          split
          · rfl
          · rw [if_neg (by omega), if_pos ⟨hk, by omega, by omega⟩])
        simpa using this
theorem run_opt {many lev : Int} {l : List Opx} (W : Well many l) (wt : Int → Bool) (x m : Nat → Int) (h0 : x 0 = 0) : OzAlike (run1 wt (optL lev l) x m) (run1 wt l x m) := by
  unfold optL
  split
  · exact OzAlike.rfl' _
  · split
    · rw [run_work wt l 0 fx0 x m W.ops (FactsOf.zero h0)]; exact OzAlike.rfl' _
    · have := run_drop wt (workF fx0 l) 0 x x m (W.work fx0).ops rfl (fun _ _ _ => rfl)
      rw [run_work wt l 0 fx0 x m W.ops (FactsOf.zero h0)] at this
      exact this
end Go.Proofs.YtflagpkmebdckaaGreatDoor
/-
  Package opt: which registers are still asked for.
-/
namespace Go.Proofs.YtflagpkmebdckaaGreatDoor
open Go.RowKit Go.Maps
open Num
set_option linter.unusedVariables false
/-- block b holds what is asked for -/
def NeedAt (w : World) (b : Nat) (n : Nx) : Prop := RowIs w b 226 64 (fun j => .bool (n j))
theorem NeedAt.congr {w : World} {b : Nat} {n n' : Nx} (N : NeedAt w b n) (h : ∀ j : Nat, j < 64 → n' j = n j) : NeedAt w b n' := by
  obtain ⟨cur, h1, h2, h3⟩ := N
  exact ⟨cur, h1, h2, fun j hj => by rw [h3 j hj]; show some (Value.bool (n j)) = some (Value.bool (n' j)); rw [h j hj]⟩
theorem grown_set {w : World} (a : Addr) (v : Value) : w.grownBy (w.setCell a v) (some a.block) := ⟨rfl, rfl, rfl, by simp [World.setCell], fun k hk hn => Below.heap_setCell _ _ _ _ (by intro e; exact hn (by rw [e]))⟩
theorem grown_trans {w w1 w2 : World} {g : Option Nat} (a : w.grownBy w1 g) (b : w1.grownBy w2 g) : w.grownBy w2 g :=
  ⟨b.os.trans a.os, b.tape.trans a.tape, b.output.trans a.output, Nat.le_trans a.size b.size, fun k hk hn => (b.block k (Nat.lt_of_lt_of_le hk a.size) hn).trans (a.block k hk hn)⟩
theorem grown_below {w w' : World} {g : Option Nat} (h : Below w.heap.size w w') : w.grownBy w' g := ⟨h.os, h.tape, h.output, h.size, fun k hk _ => h.block k hk⟩
theorem grown_refl (w : World) (g : Option Nat) : w.grownBy w g := ⟨rfl, rfl, rfl, Nat.le_refl _, fun _ _ _ => rfl⟩
theorem below_of_grown {B : Nat} {w w' w'' : World} {b : Nat} (h : Below B w w') (g : w'.grownBy w'' (some b)) (hB : B ≤ w.heap.size) (hb : B ≤ b) : Below B w w'' := h.grown g (Nat.le_trans hB h.size) (fun k e => by cases e; exact hb)
set_option maxRecDepth 100000 in
set_option maxHeartbeats 2000000 in
theorem leaveN_any {w : World} {b : Nat} {n : Nx} (N : NeedAt w b n) : Calls Tryz.prog 203 #[.pointer (some ⟨b, 0, none⟩)] w fun e w' => e = .returned (.tuple #[]) ∧ NeedAt w' b (fun r => if 0 ≤ r ∧ r ≤ 33 then true else n r) ∧ w.grownBy w' (some b) := by
  have NH : Hid (NeedAt w b n) := N
  clear N
  go_enter Tryz.func203, Tryz.ntmps203
  go_wp2
  go_loopw [2, 3] (fun _ i wr => ∃ j : Nat, j ≤ 34 ∧ i = .int .i64 j ∧ NeedAt wr b (fun r => if 0 ≤ r ∧ r < j then true else n r) ∧ w.grownBy wr (some b)) (fun _ i _ => 34 - (intOf i).toNat)
  case atStart => exact ⟨0, by omega, rfl, NH.out.congr (fun j _ => by rw [if_neg (by omega)]), grown_refl _ _⟩
  case round =>
    obtain ⟨j, hj, rfl, hN, hg⟩ := hrel
    have HN : Hid (NeedAt wr b (fun r => if 0 ≤ r ∧ r < (j : Int) then true else n r)) := hN
    have HG : Hid (w.grownBy wr (some b)) := hg
    clear hg NH
    by_cases hlt : j < 34
    · have c := RowIs.cell HN.out (j := j) (by omega)
      have f := RowIs.fz HN.out j
      have hz := RowIs.lt HN.out
      have hj' : (j : Int) < 34 := by omega
      have hj2 : (j : Int) < 64 := by omega
      clear hN
      go_wp2
      go_roundw
      case rel =>
        refine ⟨j + 1, by omega, by go_num, ?_, grown_trans HG.out (grown_set _ _)⟩
        refine RowIs.put HN.out j (.bool true) _ ?_ ?_
        · simp only [Value.bool.injEq]; rw [if_pos (by omega)]
        · intro k hk hne
          simp only [Value.bool.injEq]
          by_cases h : (k : Int) < j
          · rw [if_pos (by omega), if_pos (by omega)]
          · rw [if_neg (by omega), if_neg (by omega)]
      case measure => simp [intOf]; omega
    · obtain rfl : j = 34 := by omega
      go_wp2
      go_end0
      refine ⟨rfl, HN.out.congr fun k _ => ?_, HG.out⟩
      by_cases h : (k : Int) ≤ 33
      · rw [if_pos (by omega), if_pos (by omega)]
      · rw [if_neg (by omega), if_neg (by omega)]
set_option maxRecDepth 100000 in
set_option maxHeartbeats 2000000 in
theorem spare_any {w : World} {b : Nat} {n : Nx} (N : NeedAt w b n) (o : Opx) (h0 : 0 ≤ wrX o) (h1 : wrX o < 64) : Calls Tryz.prog 136 #[.pointer (some ⟨b, 0, none⟩), opV o] w fun e w' => e = .returned (.bool (spareB n o)) ∧ Below w.heap.size w w' := by
  have hwr := fun w => writes_any o w
  have h23 := kn_eq o.s 23 (by omega) (by omega)
  have hB0 : Below w.heap.size w (w.alloc (.cells #[.string o.s, .int .i64 o.d, .int .i64 o.a, .int .i64 o.b, .int .u32 o.i, .int .i64 o.t] 139)) := (Below.refl _ _).alloc (Nat.le_refl _) _
  have HS : Hid (spareB n o = (decide (wrX o ≠ 0) && decide (o.k ≠ 23) && !n (wrX o))) := rfl
  have NH : Hid (NeedAt w b n) := N
  obtain ⟨r, hr⟩ : ∃ r, spareB n o = r := ⟨_, rfl⟩
  rw [hr] at HS ⊢
  clear N hr
  unfold opV at *
  generalize wrX o = d at *
  by_cases hd : d = 0
  · have HR : Hid (r = false) := by show _ = _; rw [HS.out]; simp [hd]
    subst hd
    go_enter Tryz.func136, Tryz.ntmps136
    go_wp2_with fail
    refine (hwr _).mono ?_
    rintro e w3 ⟨rfl, hb3⟩
    have HB3 : Hid (Below w.heap.size w w3) := hB0.trans (hb3.mono (by simp))
    clear hwr hb3
    go_wp2
    go_ret
    exact ⟨by rw [HR.out]; rfl, HB3.out⟩
  · have hd' : (d != 0) = true := by simpa using hd
    by_cases hk : o.k = 23
    · have h23' : (o.s.toList == [108, 111, 97, 100]) = true := by rw [show (o.s.toList == [108, 111, 97, 100]) = _ from h23]; simpa [Opx.k] using hk
      have HR : Hid (r = false) := by show _ = _; rw [HS.out]; simp [hk]
      clear h23 hk HS hd
      go_enter Tryz.func136, Tryz.ntmps136
      go_wp2_with fail
      refine (hwr _).mono ?_
      rintro e w3 ⟨rfl, hb3⟩
      obtain ⟨c, hf⟩ := bcellO hb3
      have HB3 : Hid (Below w.heap.size w w3) := hB0.trans (hb3.mono (by simp))
      have hz3 : w.heap.size < w3.heap.size := by have := hb3.size; simp at this; omega
      clear hwr hb3
      go_wp2
      go_ret
      exact ⟨by rw [HR.out]; rfl, HB3.out⟩
    · have h23' : (o.s.toList == [108, 111, 97, 100]) = false := by rw [show (o.s.toList == [108, 111, 97, 100]) = _ from h23]; simpa [Opx.k] using hk
      have HR : Hid (r = !n d) := by show _ = _; rw [HS.out]; simp [hk, hd]
      obtain ⟨d, rfl⟩ : ∃ j : Nat, d = j := ⟨d.toNat, by omega⟩
      clear h23 hk HS hd
      go_enter Tryz.func136, Tryz.ntmps136
      go_wp2_with fail
      refine (hwr _).mono ?_
      rintro e w3 ⟨rfl, hb3⟩
      obtain ⟨c, hf⟩ := bcellO hb3
      have HB3 : Hid (Below w.heap.size w w3) := hB0.trans (hb3.mono (by simp))
      have hz3 : w.heap.size < w3.heap.size := by have := hb3.size; simp at this; omega
      have hc := RowIs.cell (RowIs.stays NH.out HB3.out) (j := d) (by omega)
      have hbz := RowIs.lt (RowIs.stays NH.out HB3.out)
      generalize n d = nd at *
      clear hwr hb3
      go_wp2
      go_ret
      exact ⟨by rw [HR.out]; cases nd <;> rfl, HB3.out⟩
/-- a row of whole numbers, cell by cell -/
theorem ints_cell {w : World} {base : Nat} {v : Value} {l : List Int} (h : w.ownsRow base 3 1 v l.length (l.map (Value.int .i64))) : ∃ ao cap, v = .slice ao l.length cap ∧ l.length ≤ cap ∧ (0 < l.length → ∃ g, ao = some ⟨g, 0, none⟩ ∧ base ≤ g ∧ ∀ (i : Nat) (x : Int), l[i]? = some x → w.cell? ⟨g, i, none⟩ = some (.int .i64 x)) := by
  obtain ⟨h1, h2⟩ := h
  rcases h2 with ⟨hv, hn⟩ | ⟨g, cap, cur, hv, hb, hg, hr⟩
  · refine ⟨none, 0, by rw [hv, hn], by omega, fun hp => by omega⟩
  · obtain ⟨r1, r2, r3, r4⟩ := hr
    refine ⟨_, cap, hv, r1, fun _ => ⟨g, rfl, hb, fun i x hx => ?_⟩⟩
    rw [cell_of_row _ _ _ _ _ _ hg]
    have hi : i < l.length := (List.getElem?_eq_some_iff.1 hx).1
    have : (cur.toList.take (l.length * 1))[i]? = some (.int .i64 x) := by rw [r4, List.getElem?_map, hx]; rfl
    rw [List.getElem?_take, if_pos (by omega)] at this
    rw [← Array.getElem?_toList]; exact this
end Go.Proofs.YtflagpkmebdckaaGreatDoor
/-
  Package opt: an op that is passed.
-/
namespace Go.Proofs.YtflagpkmebdckaaGreatDoor
open Go.RowKit Go.Maps
open Num
set_option linter.unusedVariables false
/-- six cells of an op in a box -/
structure BoxO (W : World) (x : Nat) (o : Opx) : Prop where
  c0 : W.cell? ⟨x, 0, none⟩ = some (.string o.s)
  c1 : W.cell? ⟨x, 1, none⟩ = some (.int .i64 o.d)
  c2 : W.cell? ⟨x, 2, none⟩ = some (.int .i64 o.a)
  c3 : W.cell? ⟨x, 3, none⟩ = some (.int .i64 o.b)
  c4 : W.cell? ⟨x, 4, none⟩ = some (.int .u32 o.i)
  c5 : W.cell? ⟨x, 5, none⟩ = some (.int .i64 o.t)
theorem BoxO.lt {W : World} {x : Nat} {o : Opx} (B : BoxO W x o) : x < W.heap.size := World.block_lt_of_cell? _ _ B.c0
theorem BoxO.block {W W' : World} {x : Nat} {o : Opx} (B : BoxO W x o) (h : W'.heap[x]? = W.heap[x]?) : BoxO W' x o := by
  have c : ∀ j, W'.cell? ⟨x, j, none⟩ = W.cell? ⟨x, j, none⟩ := fun j => World.cell?_of_block (a := ⟨x, j, none⟩) h
  exact ⟨(c 0).trans B.c0, (c 1).trans B.c1, (c 2).trans B.c2, (c 3).trans B.c3, (c 4).trans B.c4, (c 5).trans B.c5⟩
theorem BoxO.new (w : World) (o : Opx) : BoxO (w.alloc (.cells #[.string o.s, .int .i64 o.d, .int .i64 o.a, .int .i64 o.b, .int .u32 o.i, .int .i64 o.t] 139)) w.heap.size o := by
  have c : ∀ j, (w.alloc (.cells #[.string o.s, .int .i64 o.d, .int .i64 o.a, .int .i64 o.b, .int .u32 o.i, .int .i64 o.t] 139)).cell? ⟨w.heap.size, j, none⟩ = (#[.string o.s, .int .i64 o.d, .int .i64 o.a, .int .i64 o.b, .int .u32 o.i, .int .i64 o.t] : Array Value)[j]? := fun j => cell_of_row _ _ _ _ _ _ (heap_alloc_new w _)
  exact ⟨c 0, c 1, c 2, c 3, c 4, c 5⟩
/-- pass, on its way: w as it began, W now -/
structure PsAt (w W : World) (b : Nat) (o : Opx) (n : Nx) : Prop where
  g : w.grownBy W (some b)
  nd : NeedAt W b n
  bx : BoxO W w.heap.size o
  hb : b < w.heap.size
theorem PsAt.stays {w W W' : World} {b : Nat} {o : Opx} {n : Nx} (P : PsAt w W b o n) (h : Below W.heap.size W W') : PsAt w W' b o n :=
  ⟨grown_trans P.g (grown_below h), RowIs.stays P.nd h, P.bx.block (h.block _ P.bx.lt), P.hb⟩
theorem PsAt.turn {w W W' : World} {b : Nat} {o : Opx} {n n' : Nx} (P : PsAt w W b o n) (h : W.grownBy W' (some b)) (hn : NeedAt W' b n') : PsAt w W' b o n' :=
  ⟨grown_trans P.g h, hn, P.bx.block (h.block _ P.bx.lt (by intro e; have := Option.some.inj e; have := P.hb; omega)), P.hb⟩
theorem PsAt.drew {w W : World} {b : Nat} {o : Opx} {n : Nx} (P : PsAt w W b o n) : PsAt w W.drew b o n := ⟨⟨P.g.os, P.g.tape, P.g.output, P.g.size, P.g.block⟩, P.nd, ⟨P.bx.c0, P.bx.c1, P.bx.c2, P.bx.c3, P.bx.c4, P.bx.c5⟩, P.hb⟩
theorem PsAt.put {w W : World} {b : Nat} {o : Opx} {n : Nx} (P : PsAt w W b o n) (i : Nat) (v : Bool) : PsAt w (W.setCell ⟨b, i, none⟩ (.bool v)) b o (fun r => if r = i then v else n r) := by
  refine P.turn (grown_set ⟨b, i, none⟩ _) (RowIs.put P.nd i (.bool v) _ ?_ ?_)
  · simp
  · intro j hj hne
    simp only [Value.bool.injEq]
    rw [if_neg (by omega)]
set_option maxRecDepth 100000 in
set_option maxHeartbeats 4000000 in
theorem pass_0 {w : World} {b : Nat} {n : Nx} (N : NeedAt w b n) (o : Opx) (d : Nat) (hd : wrX o = d) (h1 : d < 64) (hr : ∀ r ∈ rdX o, 0 ≤ r ∧ r < 64) (hk : o.k < 25) : Calls Tryz.prog 137 #[.pointer (some ⟨b, 0, none⟩), opV o] w fun e w' => e = .returned (.tuple #[]) ∧ NeedAt w' b (passN n o) ∧ w.grownBy w' (some b) := by
  have hwr := fun w => writes_any o w
  have hrd := fun w => reads_any o w
  rw [hd] at hwr
  obtain ⟨L, hL⟩ : ∃ L, rdX o = L := ⟨_, rfl⟩
  rw [hL] at hrd hr
  have hl3 : (L.length : Int) ≤ 3 := by rw [← hL]; rcases rd_ways o with ⟨_, _, _, h⟩ | ⟨_, _, _, h⟩ | ⟨_, _, _, h⟩ | ⟨_, _, _, h⟩ <;> rw [h] <;> simp
  have P0 : PsAt w (w.alloc (.cells #[.string o.s, .int .i64 o.d, .int .i64 o.a, .int .i64 o.b, .int .u32 o.i, .int .i64 o.t] 139)) b o n := ⟨grown_below ((Below.refl _ _).alloc (Nat.le_refl _) _), RowIs.stays N ((Below.refl _ _).alloc (Nat.le_refl _) _), BoxO.new w o, RowIs.lt N⟩
  obtain ⟨nz, hnz⟩ : ∃ nz : Nx, nz = fun r => if 25 ≤ o.k ∧ 0 ≤ r ∧ r ≤ 33 then true else n r := ⟨_, rfl⟩
  have HP : Hid (passN n o = fun r => if r ∈ L then true else if r = d then false else nz r) := by
    show _ = _; funext r; unfold passN; rw [hL, hd, hnz]
  have HNZ : Hid (nz = fun r => if 25 ≤ o.k ∧ 0 ≤ r ∧ r ≤ 33 then true else n r) := hnz
  have HR : Hid (∀ r ∈ L, 0 ≤ r ∧ r < 64) := hr
  have h1' : (d : Int) < 64 := by omega
  have hbx := P0.hb
  have e25 : (o.s.toList == [105, 102]) = false := by rw [show (o.s.toList == [105, 102]) = _ from kn_eq o.s 25 (by omega) (by omega)]; simp; unfold Opx.k at hk; omega
  have e26 : (o.s.toList == [111, 117, 116]) = false := by rw [show (o.s.toList == [111, 117, 116]) = _ from kn_eq o.s 26 (by omega) (by omega)]; simp; unfold Opx.k at hk; omega
  have e27 : (o.s.toList == [111, 117, 116, 114]) = false := by rw [show (o.s.toList == [111, 117, 116, 114]) = _ from kn_eq o.s 27 (by omega) (by omega)]; simp; unfold Opx.k at hk; omega
  have HK : Hid (o.k < 25) := hk
  clear hk
  clear N hd hL hnz hr
  unfold opV at *
  go_enter Tryz.func137, Tryz.ntmps137
  go_upto_region 6 with fail
  have P1 : Hid (PsAt w (w.alloc (.cells #[.string o.s, .int .i64 o.d, .int .i64 o.a, .int .i64 o.b, .int .u32 o.i, .int .i64 o.t] 139)) b o nz) := by
    rw [show nz = n by rw [HNZ.out]; funext r; rw [if_neg (by have := HK.out; omega)]]
    exact P0
  clear P0
  generalize w.alloc (.cells #[.string o.s, .int .i64 o.d, .int .i64 o.a, .int .i64 o.b, .int .u32 o.i, .int .i64 o.t] 139) = V at *
  obtain ⟨k0, k1, k2, k3, k4, k5⟩ := P1.out.bx
  refine wp_region_phase 5 [(0, 0), (1, 1), (3, 0), (2, 2), (4, 0), (5, 2)] (fun W => BoxO W w.heap.size o) (by kernel_rfl) (by kernel_rfl) (fun _ _ _ d _ h => by cases d <;> exact h) ⟨by simpa using k0, by simpa using k1, by simpa using k2, by simpa using k3, by simpa using k4, by simpa using k5⟩ ?_
  repeat (first | (refine wpPlanZ_free (by rfl) (by rfl) (fun W => by (go_simp; try with_reducible rfl)) (fun K hK => ?_); go_simp; refine hK _ ?_; clear hK K) | (refine wpPlanZ_quiet (by rfl) (by rfl) (fun W hW => by (obtain ⟨z0, z1, z2, z3, z4, z5⟩ := hW; go_simp; try with_reducible rfl)) (fun K hK => ?_); go_simp; refine hK _ ?_; clear hK K))
  refine wpPlanZ_serial (by rfl) (by rfl) (fun K hK => ?_)
  go_simp
  refine (hwr _).mono ?_
  rintro e w3 ⟨rfl, hb3⟩
  have P2 : PsAt w w3 b o nz := P1.out.drew.stays hb3
  have P2H : Hid (PsAt w w3 b o nz) := P2
  refine hK _ _ (fun _ => ⟨P2.bx.c0, P2.bx.c1, P2.bx.c2, P2.bx.c3, P2.bx.c4, P2.bx.c5⟩) ?_
  have c := RowIs.cell P2.nd (j := d) h1
  have f := RowIs.fz P2.nd d
  have hbz := RowIs.lt P2.nd
  clear hK K hwr hb3 P2 k0 k1 k2 k3 k4 k5 P1
  repeat (refine wpPlanZ_free (by rfl) (by rfl) (fun W => by (go_simp; try with_reducible rfl)) (fun K hK => ?_); go_simp; refine hK _ ?_; clear hK K)
  refine wpPlanZ_serial (by rfl) (by rfl) (fun K hK => ?_)
  go_simp
  refine hK _ _ (fun h => absurd h (by decide)) ?_
  clear hK K
  refine wpPlanZ_nil ?_
  have P3 : PsAt w (w3.setCell ⟨b, d, none⟩ (.bool false)) b o (fun r => if r = d then false else nz r) := P2H.out.put d false
  clear c f hbz P2H
  generalize w3.setCell ⟨b, d, none⟩ (.bool false) = U at *
  have P3H : Hid (PsAt w U b o (fun r => if r = d then false else nz r)) := P3
  obtain ⟨k0, k1, k2, k3, k4, k5⟩ := P3.bx
  have hxz := P3.bx.lt
  clear P3
  go_wp2_with fail
  refine (hrd _).mono ?_
  rintro e w4 ⟨v, rfl, ho, hb4⟩
  obtain ⟨ao, cap, rfl, hcap, hcl⟩ := ints_cell ho
  have P4 : Hid (PsAt w w4 b o (fun r => if r = d then false else nz r)) := P3H.out.stays hb4
  have HC : Hid (0 < L.length → ∃ g, ao = some ⟨g, 0, none⟩ ∧ U.heap.size ≤ g ∧ ∀ (i : Nat) (x : Int), L[i]? = some x → w4.cell? ⟨g, i, none⟩ = some (.int .i64 x)) := hcl
  have hUz : Hid (w.heap.size ≤ U.heap.size) := P3H.out.g.size
  clear hrd hb4 ho hcl k0 k1 k2 k3 k4 k5 P3H
  go_wp2
  go_loopw [5, 22] (fun _ i wr => ∃ j : Nat, j ≤ L.length ∧ i = .int .i64 j ∧ PsAt w wr b o (fun r => if r ∈ L.take j then true else if r = d then false else nz r) ∧ w4.grownBy wr (some b)) (fun _ i _ => L.length - (intOf i).toNat)
  case atStart => exact ⟨0, Nat.zero_le _, rfl, by simpa using P4.out, grown_refl _ _⟩
  case round =>
    obtain ⟨j, hj, rfl, hP, hG⟩ := hrel
    have HG : Hid (w4.grownBy wr (some b)) := hG
    have HPs : Hid (PsAt w wr b o (fun r => if r ∈ L.take j then true else if r = d then false else nz r)) := hP
    clear hG hP P4
    by_cases hlt : j < L.length
    · obtain ⟨x, hx, hxm⟩ : ∃ x, L[j]? = some x ∧ x ∈ L := ⟨L[j], List.getElem?_eq_getElem hlt, List.getElem_mem hlt⟩
      obtain ⟨g, rfl, hgU, hcell⟩ := HC.out (by omega)
      have hc4 := hcell j x hx
      have hcx : wr.cell? ⟨g, j, none⟩ = some (.int .i64 x) := (World.cell?_of_block (a := ⟨g, j, none⟩) (HG.out.block g (World.block_lt_of_cell? _ _ hc4) (by intro e; have := Option.some.inj e; have := hUz.out; omega))).trans hc4
      obtain ⟨x0, x1⟩ := HR.out x hxm
      obtain ⟨x, rfl⟩ : ∃ y : Nat, x = y := ⟨x.toNat, by omega⟩
      have c := RowIs.cell HPs.out.nd (j := x) (by omega)
      have f := RowIs.fz HPs.out.nd x
      have hbz := RowIs.lt HPs.out.nd
      have hlt' : (j : Int) < L.length := by omega
      have HX : Hid (L[j]? = some (x : Int)) := hx
      have hgz := World.block_lt_of_cell? _ _ hcx
      clear hx hxm hcell hc4
      go_wp2
      go_roundw
      case rel =>
        refine ⟨j + 1, by omega, by go_num, ?_, grown_trans HG.out (grown_set ⟨b, x, none⟩ _)⟩
        have := HPs.out.put x true
        refine ⟨this.g, this.nd.congr fun r hr => ?_, this.bx, this.hb⟩
        rw [List.take_add_one, HX.out]
        simp only [Option.toList_some, List.mem_append, List.mem_singleton]
        by_cases hrx : (r : Int) = x
        · rw [if_pos (.inr hrx), if_pos hrx]
        · by_cases hm : (r : Int) ∈ L.take j
          · rw [if_pos (.inl hm), if_neg hrx, if_pos hm]
          · rw [if_neg (by intro h; rcases h with h | h; exact hm h; exact hrx h), if_neg hrx, if_neg hm]
      case measure => simp [intOf]; omega
    · obtain rfl : j = L.length := by omega
      go_wp2
      go_end0
      refine ⟨rfl, ?_, HPs.out.g⟩
      rw [HP.out]
      have := HPs.out.nd
      rw [List.take_length] at this
      exact this
set_option maxRecDepth 100000 in
set_option maxHeartbeats 4000000 in
theorem pass_25 {w : World} {b : Nat} {n : Nx} (N : NeedAt w b n) (o : Opx) (d : Nat) (hd : wrX o = d) (h1 : d < 64) (hr : ∀ r ∈ rdX o, 0 ≤ r ∧ r < 64) (hk : o.k = 25) : Calls Tryz.prog 137 #[.pointer (some ⟨b, 0, none⟩), opV o] w fun e w' => e = .returned (.tuple #[]) ∧ NeedAt w' b (passN n o) ∧ w.grownBy w' (some b) := by
  have hwr := fun w => writes_any o w
  have hrd := fun w => reads_any o w
  rw [hd] at hwr
  obtain ⟨L, hL⟩ : ∃ L, rdX o = L := ⟨_, rfl⟩
  rw [hL] at hrd hr
  have hl3 : (L.length : Int) ≤ 3 := by rw [← hL]; rcases rd_ways o with ⟨_, _, _, h⟩ | ⟨_, _, _, h⟩ | ⟨_, _, _, h⟩ | ⟨_, _, _, h⟩ <;> rw [h] <;> simp
  have P0 : PsAt w (w.alloc (.cells #[.string o.s, .int .i64 o.d, .int .i64 o.a, .int .i64 o.b, .int .u32 o.i, .int .i64 o.t] 139)) b o n := ⟨grown_below ((Below.refl _ _).alloc (Nat.le_refl _) _), RowIs.stays N ((Below.refl _ _).alloc (Nat.le_refl _) _), BoxO.new w o, RowIs.lt N⟩
  obtain ⟨nz, hnz⟩ : ∃ nz : Nx, nz = fun r => if 25 ≤ o.k ∧ 0 ≤ r ∧ r ≤ 33 then true else n r := ⟨_, rfl⟩
  have HP : Hid (passN n o = fun r => if r ∈ L then true else if r = d then false else nz r) := by
    show _ = _; funext r; unfold passN; rw [hL, hd, hnz]
  have HNZ : Hid (nz = fun r => if 25 ≤ o.k ∧ 0 ≤ r ∧ r ≤ 33 then true else n r) := hnz
  have HR : Hid (∀ r ∈ L, 0 ≤ r ∧ r < 64) := hr
  have h1' : (d : Int) < 64 := by omega
  have hbx := P0.hb
  have e25 : (o.s.toList == [105, 102]) = true := by rw [show (o.s.toList == [105, 102]) = _ from kn_eq o.s 25 (by omega) (by omega)]; simp; unfold Opx.k at hk; omega
  have e26 : (o.s.toList == [111, 117, 116]) = false := by rw [show (o.s.toList == [111, 117, 116]) = _ from kn_eq o.s 26 (by omega) (by omega)]; simp; unfold Opx.k at hk; omega
  have e27 : (o.s.toList == [111, 117, 116, 114]) = false := by rw [show (o.s.toList == [111, 117, 116, 114]) = _ from kn_eq o.s 27 (by omega) (by omega)]; simp; unfold Opx.k at hk; omega
  have HK : Hid (o.k = 25) := hk
  clear hk
  clear N hd hL hnz hr
  unfold opV at *
  go_enter Tryz.func137, Tryz.ntmps137
  go_wp2_with fail
  generalize w.alloc (.cells #[.string o.s, .int .i64 o.d, .int .i64 o.a, .int .i64 o.b, .int .u32 o.i, .int .i64 o.t] 139) = V0 at *
  refine (leaveN_any P0.nd).mono ?_
  rintro e V ⟨rfl, hN, hg⟩
  have P1 : Hid (PsAt w V b o nz) := by
    have := P0.turn hg hN
    rw [show nz = fun r => if 0 ≤ r ∧ r ≤ 33 then true else n r by rw [HNZ.out]; funext r; rw [HK.out]; simp]
    exact this
  clear hN hg P0
  go_upto_region 6 with fail
  obtain ⟨k0, k1, k2, k3, k4, k5⟩ := P1.out.bx
  refine wp_region_phase 5 [(0, 0), (1, 1), (3, 0), (2, 2), (4, 0), (5, 2)] (fun W => BoxO W w.heap.size o) (by kernel_rfl) (by kernel_rfl) (fun _ _ _ d _ h => by cases d <;> exact h) ⟨by simpa using k0, by simpa using k1, by simpa using k2, by simpa using k3, by simpa using k4, by simpa using k5⟩ ?_
  repeat (first | (refine wpPlanZ_free (by rfl) (by rfl) (fun W => by (go_simp; try with_reducible rfl)) (fun K hK => ?_); go_simp; refine hK _ ?_; clear hK K) | (refine wpPlanZ_quiet (by rfl) (by rfl) (fun W hW => by (obtain ⟨z0, z1, z2, z3, z4, z5⟩ := hW; go_simp; try with_reducible rfl)) (fun K hK => ?_); go_simp; refine hK _ ?_; clear hK K))
  refine wpPlanZ_serial (by rfl) (by rfl) (fun K hK => ?_)
  go_simp
  refine (hwr _).mono ?_
  rintro e w3 ⟨rfl, hb3⟩
  have P2 : PsAt w w3 b o nz := P1.out.drew.stays hb3
  have P2H : Hid (PsAt w w3 b o nz) := P2
  refine hK _ _ (fun _ => ⟨P2.bx.c0, P2.bx.c1, P2.bx.c2, P2.bx.c3, P2.bx.c4, P2.bx.c5⟩) ?_
  have c := RowIs.cell P2.nd (j := d) h1
  have f := RowIs.fz P2.nd d
  have hbz := RowIs.lt P2.nd
  clear hK K hwr hb3 P2 k0 k1 k2 k3 k4 k5 P1
  repeat (refine wpPlanZ_free (by rfl) (by rfl) (fun W => by (go_simp; try with_reducible rfl)) (fun K hK => ?_); go_simp; refine hK _ ?_; clear hK K)
  refine wpPlanZ_serial (by rfl) (by rfl) (fun K hK => ?_)
  go_simp
  refine hK _ _ (fun h => absurd h (by decide)) ?_
  clear hK K
  refine wpPlanZ_nil ?_
  have P3 : PsAt w (w3.setCell ⟨b, d, none⟩ (.bool false)) b o (fun r => if r = d then false else nz r) := P2H.out.put d false
  clear c f hbz P2H
  generalize w3.setCell ⟨b, d, none⟩ (.bool false) = U at *
  have P3H : Hid (PsAt w U b o (fun r => if r = d then false else nz r)) := P3
  obtain ⟨k0, k1, k2, k3, k4, k5⟩ := P3.bx
  have hxz := P3.bx.lt
  clear P3
  go_wp2_with fail
  refine (hrd _).mono ?_
  rintro e w4 ⟨v, rfl, ho, hb4⟩
  obtain ⟨ao, cap, rfl, hcap, hcl⟩ := ints_cell ho
  have P4 : Hid (PsAt w w4 b o (fun r => if r = d then false else nz r)) := P3H.out.stays hb4
  have HC : Hid (0 < L.length → ∃ g, ao = some ⟨g, 0, none⟩ ∧ U.heap.size ≤ g ∧ ∀ (i : Nat) (x : Int), L[i]? = some x → w4.cell? ⟨g, i, none⟩ = some (.int .i64 x)) := hcl
  have hUz : Hid (w.heap.size ≤ U.heap.size) := P3H.out.g.size
  clear hrd hb4 ho hcl k0 k1 k2 k3 k4 k5 P3H
  go_wp2
  go_loopw [5, 22] (fun _ i wr => ∃ j : Nat, j ≤ L.length ∧ i = .int .i64 j ∧ PsAt w wr b o (fun r => if r ∈ L.take j then true else if r = d then false else nz r) ∧ w4.grownBy wr (some b)) (fun _ i _ => L.length - (intOf i).toNat)
  case atStart => exact ⟨0, Nat.zero_le _, rfl, by simpa using P4.out, grown_refl _ _⟩
  case round =>
    obtain ⟨j, hj, rfl, hP, hG⟩ := hrel
    have HG : Hid (w4.grownBy wr (some b)) := hG
    have HPs : Hid (PsAt w wr b o (fun r => if r ∈ L.take j then true else if r = d then false else nz r)) := hP
    clear hG hP P4
    by_cases hlt : j < L.length
    · obtain ⟨x, hx, hxm⟩ : ∃ x, L[j]? = some x ∧ x ∈ L := ⟨L[j], List.getElem?_eq_getElem hlt, List.getElem_mem hlt⟩
      obtain ⟨g, rfl, hgU, hcell⟩ := HC.out (by omega)
      have hc4 := hcell j x hx
      have hcx : wr.cell? ⟨g, j, none⟩ = some (.int .i64 x) := (World.cell?_of_block (a := ⟨g, j, none⟩) (HG.out.block g (World.block_lt_of_cell? _ _ hc4) (by intro e; have := Option.some.inj e; have := hUz.out; omega))).trans hc4
      obtain ⟨x0, x1⟩ := HR.out x hxm
      obtain ⟨x, rfl⟩ : ∃ y : Nat, x = y := ⟨x.toNat, by omega⟩
      have c := RowIs.cell HPs.out.nd (j := x) (by omega)
      have f := RowIs.fz HPs.out.nd x
      have hbz := RowIs.lt HPs.out.nd
      have hlt' : (j : Int) < L.length := by omega
      have HX : Hid (L[j]? = some (x : Int)) := hx
      have hgz := World.block_lt_of_cell? _ _ hcx
      clear hx hxm hcell hc4
      go_wp2
      go_roundw
      case rel =>
        refine ⟨j + 1, by omega, by go_num, ?_, grown_trans HG.out (grown_set ⟨b, x, none⟩ _)⟩
        have := HPs.out.put x true
        refine ⟨this.g, this.nd.congr fun r hr => ?_, this.bx, this.hb⟩
        rw [List.take_add_one, HX.out]
        simp only [Option.toList_some, List.mem_append, List.mem_singleton]
        by_cases hrx : (r : Int) = x
        · rw [if_pos (.inr hrx), if_pos hrx]
        · by_cases hm : (r : Int) ∈ L.take j
          · rw [if_pos (.inl hm), if_neg hrx, if_pos hm]
          · rw [if_neg (by intro h; rcases h with h | h; exact hm h; exact hrx h), if_neg hrx, if_neg hm]
      case measure => simp [intOf]; omega
    · obtain rfl : j = L.length := by omega
      go_wp2
      go_end0
      refine ⟨rfl, ?_, HPs.out.g⟩
      rw [HP.out]
      have := HPs.out.nd
      rw [List.take_length] at this
      exact this
set_option maxRecDepth 100000 in
set_option maxHeartbeats 4000000 in
theorem pass_26 {w : World} {b : Nat} {n : Nx} (N : NeedAt w b n) (o : Opx) (d : Nat) (hd : wrX o = d) (h1 : d < 64) (hr : ∀ r ∈ rdX o, 0 ≤ r ∧ r < 64) (hk : o.k = 26) : Calls Tryz.prog 137 #[.pointer (some ⟨b, 0, none⟩), opV o] w fun e w' => e = .returned (.tuple #[]) ∧ NeedAt w' b (passN n o) ∧ w.grownBy w' (some b) := by
  have hwr := fun w => writes_any o w
  have hrd := fun w => reads_any o w
  rw [hd] at hwr
  obtain ⟨L, hL⟩ : ∃ L, rdX o = L := ⟨_, rfl⟩
  rw [hL] at hrd hr
  have hl3 : (L.length : Int) ≤ 3 := by rw [← hL]; rcases rd_ways o with ⟨_, _, _, h⟩ | ⟨_, _, _, h⟩ | ⟨_, _, _, h⟩ | ⟨_, _, _, h⟩ <;> rw [h] <;> simp
  have P0 : PsAt w (w.alloc (.cells #[.string o.s, .int .i64 o.d, .int .i64 o.a, .int .i64 o.b, .int .u32 o.i, .int .i64 o.t] 139)) b o n := ⟨grown_below ((Below.refl _ _).alloc (Nat.le_refl _) _), RowIs.stays N ((Below.refl _ _).alloc (Nat.le_refl _) _), BoxO.new w o, RowIs.lt N⟩
  obtain ⟨nz, hnz⟩ : ∃ nz : Nx, nz = fun r => if 25 ≤ o.k ∧ 0 ≤ r ∧ r ≤ 33 then true else n r := ⟨_, rfl⟩
  have HP : Hid (passN n o = fun r => if r ∈ L then true else if r = d then false else nz r) := by
    show _ = _; funext r; unfold passN; rw [hL, hd, hnz]
  have HNZ : Hid (nz = fun r => if 25 ≤ o.k ∧ 0 ≤ r ∧ r ≤ 33 then true else n r) := hnz
  have HR : Hid (∀ r ∈ L, 0 ≤ r ∧ r < 64) := hr
  have h1' : (d : Int) < 64 := by omega
  have hbx := P0.hb
  have e25 : (o.s.toList == [105, 102]) = false := by rw [show (o.s.toList == [105, 102]) = _ from kn_eq o.s 25 (by omega) (by omega)]; simp; unfold Opx.k at hk; omega
  have e26 : (o.s.toList == [111, 117, 116]) = true := by rw [show (o.s.toList == [111, 117, 116]) = _ from kn_eq o.s 26 (by omega) (by omega)]; simp; unfold Opx.k at hk; omega
  have e27 : (o.s.toList == [111, 117, 116, 114]) = false := by rw [show (o.s.toList == [111, 117, 116, 114]) = _ from kn_eq o.s 27 (by omega) (by omega)]; simp; unfold Opx.k at hk; omega
  have HK : Hid (o.k = 26) := hk
  clear hk
  clear N hd hL hnz hr
  unfold opV at *
  go_enter Tryz.func137, Tryz.ntmps137
  go_wp2_with fail
  generalize w.alloc (.cells #[.string o.s, .int .i64 o.d, .int .i64 o.a, .int .i64 o.b, .int .u32 o.i, .int .i64 o.t] 139) = V0 at *
  refine (leaveN_any P0.nd).mono ?_
  rintro e V ⟨rfl, hN, hg⟩
  have P1 : Hid (PsAt w V b o nz) := by
    have := P0.turn hg hN
    rw [show nz = fun r => if 0 ≤ r ∧ r ≤ 33 then true else n r by rw [HNZ.out]; funext r; rw [HK.out]; simp]
    exact this
  clear hN hg P0
  go_upto_region 6 with fail
  obtain ⟨k0, k1, k2, k3, k4, k5⟩ := P1.out.bx
  refine wp_region_phase 5 [(0, 0), (1, 1), (3, 0), (2, 2), (4, 0), (5, 2)] (fun W => BoxO W w.heap.size o) (by kernel_rfl) (by kernel_rfl) (fun _ _ _ d _ h => by cases d <;> exact h) ⟨by simpa using k0, by simpa using k1, by simpa using k2, by simpa using k3, by simpa using k4, by simpa using k5⟩ ?_
  repeat (first | (refine wpPlanZ_free (by rfl) (by rfl) (fun W => by (go_simp; try with_reducible rfl)) (fun K hK => ?_); go_simp; refine hK _ ?_; clear hK K) | (refine wpPlanZ_quiet (by rfl) (by rfl) (fun W hW => by (obtain ⟨z0, z1, z2, z3, z4, z5⟩ := hW; go_simp; try with_reducible rfl)) (fun K hK => ?_); go_simp; refine hK _ ?_; clear hK K))
  refine wpPlanZ_serial (by rfl) (by rfl) (fun K hK => ?_)
  go_simp
  refine (hwr _).mono ?_
  rintro e w3 ⟨rfl, hb3⟩
  have P2 : PsAt w w3 b o nz := P1.out.drew.stays hb3
  have P2H : Hid (PsAt w w3 b o nz) := P2
  refine hK _ _ (fun _ => ⟨P2.bx.c0, P2.bx.c1, P2.bx.c2, P2.bx.c3, P2.bx.c4, P2.bx.c5⟩) ?_
  have c := RowIs.cell P2.nd (j := d) h1
  have f := RowIs.fz P2.nd d
  have hbz := RowIs.lt P2.nd
  clear hK K hwr hb3 P2 k0 k1 k2 k3 k4 k5 P1
  repeat (refine wpPlanZ_free (by rfl) (by rfl) (fun W => by (go_simp; try with_reducible rfl)) (fun K hK => ?_); go_simp; refine hK _ ?_; clear hK K)
  refine wpPlanZ_serial (by rfl) (by rfl) (fun K hK => ?_)
  go_simp
  refine hK _ _ (fun h => absurd h (by decide)) ?_
  clear hK K
  refine wpPlanZ_nil ?_
  have P3 : PsAt w (w3.setCell ⟨b, d, none⟩ (.bool false)) b o (fun r => if r = d then false else nz r) := P2H.out.put d false
  clear c f hbz P2H
  generalize w3.setCell ⟨b, d, none⟩ (.bool false) = U at *
  have P3H : Hid (PsAt w U b o (fun r => if r = d then false else nz r)) := P3
  obtain ⟨k0, k1, k2, k3, k4, k5⟩ := P3.bx
  have hxz := P3.bx.lt
  clear P3
  go_wp2_with fail
  refine (hrd _).mono ?_
  rintro e w4 ⟨v, rfl, ho, hb4⟩
  obtain ⟨ao, cap, rfl, hcap, hcl⟩ := ints_cell ho
  have P4 : Hid (PsAt w w4 b o (fun r => if r = d then false else nz r)) := P3H.out.stays hb4
  have HC : Hid (0 < L.length → ∃ g, ao = some ⟨g, 0, none⟩ ∧ U.heap.size ≤ g ∧ ∀ (i : Nat) (x : Int), L[i]? = some x → w4.cell? ⟨g, i, none⟩ = some (.int .i64 x)) := hcl
  have hUz : Hid (w.heap.size ≤ U.heap.size) := P3H.out.g.size
  clear hrd hb4 ho hcl k0 k1 k2 k3 k4 k5 P3H
  go_wp2
  go_loopw [5, 22] (fun _ i wr => ∃ j : Nat, j ≤ L.length ∧ i = .int .i64 j ∧ PsAt w wr b o (fun r => if r ∈ L.take j then true else if r = d then false else nz r) ∧ w4.grownBy wr (some b)) (fun _ i _ => L.length - (intOf i).toNat)
  case atStart => exact ⟨0, Nat.zero_le _, rfl, by simpa using P4.out, grown_refl _ _⟩
  case round =>
    obtain ⟨j, hj, rfl, hP, hG⟩ := hrel
    have HG : Hid (w4.grownBy wr (some b)) := hG
    have HPs : Hid (PsAt w wr b o (fun r => if r ∈ L.take j then true else if r = d then false else nz r)) := hP
    clear hG hP P4
    by_cases hlt : j < L.length
    · obtain ⟨x, hx, hxm⟩ : ∃ x, L[j]? = some x ∧ x ∈ L := ⟨L[j], List.getElem?_eq_getElem hlt, List.getElem_mem hlt⟩
      obtain ⟨g, rfl, hgU, hcell⟩ := HC.out (by omega)
      have hc4 := hcell j x hx
      have hcx : wr.cell? ⟨g, j, none⟩ = some (.int .i64 x) := (World.cell?_of_block (a := ⟨g, j, none⟩) (HG.out.block g (World.block_lt_of_cell? _ _ hc4) (by intro e; have := Option.some.inj e; have := hUz.out; omega))).trans hc4
      obtain ⟨x0, x1⟩ := HR.out x hxm
      obtain ⟨x, rfl⟩ : ∃ y : Nat, x = y := ⟨x.toNat, by omega⟩
      have c := RowIs.cell HPs.out.nd (j := x) (by omega)
      have f := RowIs.fz HPs.out.nd x
      have hbz := RowIs.lt HPs.out.nd
      have hlt' : (j : Int) < L.length := by omega
      have HX : Hid (L[j]? = some (x : Int)) := hx
      have hgz := World.block_lt_of_cell? _ _ hcx
      clear hx hxm hcell hc4
      go_wp2
      go_roundw
      case rel =>
        refine ⟨j + 1, by omega, by go_num, ?_, grown_trans HG.out (grown_set ⟨b, x, none⟩ _)⟩
        have := HPs.out.put x true
        refine ⟨this.g, this.nd.congr fun r hr => ?_, this.bx, this.hb⟩
        rw [List.take_add_one, HX.out]
        simp only [Option.toList_some, List.mem_append, List.mem_singleton]
        by_cases hrx : (r : Int) = x
        · rw [if_pos (.inr hrx), if_pos hrx]
        · by_cases hm : (r : Int) ∈ L.take j
          · rw [if_pos (.inl hm), if_neg hrx, if_pos hm]
          · rw [if_neg (by intro h; rcases h with h | h; exact hm h; exact hrx h), if_neg hrx, if_neg hm]
      case measure => simp [intOf]; omega
    · obtain rfl : j = L.length := by omega
      go_wp2
      go_end0
      refine ⟨rfl, ?_, HPs.out.g⟩
      rw [HP.out]
      have := HPs.out.nd
      rw [List.take_length] at this
      exact this
set_option maxRecDepth 100000 in
set_option maxHeartbeats 4000000 in
theorem pass_27 {w : World} {b : Nat} {n : Nx} (N : NeedAt w b n) (o : Opx) (d : Nat) (hd : wrX o = d) (h1 : d < 64) (hr : ∀ r ∈ rdX o, 0 ≤ r ∧ r < 64) (hk : o.k = 27) : Calls Tryz.prog 137 #[.pointer (some ⟨b, 0, none⟩), opV o] w fun e w' => e = .returned (.tuple #[]) ∧ NeedAt w' b (passN n o) ∧ w.grownBy w' (some b) := by
  have hwr := fun w => writes_any o w
  have hrd := fun w => reads_any o w
  rw [hd] at hwr
  obtain ⟨L, hL⟩ : ∃ L, rdX o = L := ⟨_, rfl⟩
  rw [hL] at hrd hr
  have hl3 : (L.length : Int) ≤ 3 := by rw [← hL]; rcases rd_ways o with ⟨_, _, _, h⟩ | ⟨_, _, _, h⟩ | ⟨_, _, _, h⟩ | ⟨_, _, _, h⟩ <;> rw [h] <;> simp
  have P0 : PsAt w (w.alloc (.cells #[.string o.s, .int .i64 o.d, .int .i64 o.a, .int .i64 o.b, .int .u32 o.i, .int .i64 o.t] 139)) b o n := ⟨grown_below ((Below.refl _ _).alloc (Nat.le_refl _) _), RowIs.stays N ((Below.refl _ _).alloc (Nat.le_refl _) _), BoxO.new w o, RowIs.lt N⟩
  obtain ⟨nz, hnz⟩ : ∃ nz : Nx, nz = fun r => if 25 ≤ o.k ∧ 0 ≤ r ∧ r ≤ 33 then true else n r := ⟨_, rfl⟩
  have HP : Hid (passN n o = fun r => if r ∈ L then true else if r = d then false else nz r) := by
    show _ = _; funext r; unfold passN; rw [hL, hd, hnz]
  have HNZ : Hid (nz = fun r => if 25 ≤ o.k ∧ 0 ≤ r ∧ r ≤ 33 then true else n r) := hnz
  have HR : Hid (∀ r ∈ L, 0 ≤ r ∧ r < 64) := hr
  have h1' : (d : Int) < 64 := by omega
  have hbx := P0.hb
  have e25 : (o.s.toList == [105, 102]) = false := by rw [show (o.s.toList == [105, 102]) = _ from kn_eq o.s 25 (by omega) (by omega)]; simp; unfold Opx.k at hk; omega
  have e26 : (o.s.toList == [111, 117, 116]) = false := by rw [show (o.s.toList == [111, 117, 116]) = _ from kn_eq o.s 26 (by omega) (by omega)]; simp; unfold Opx.k at hk; omega
  have e27 : (o.s.toList == [111, 117, 116, 114]) = true := by rw [show (o.s.toList == [111, 117, 116, 114]) = _ from kn_eq o.s 27 (by omega) (by omega)]; simp; unfold Opx.k at hk; omega
  have HK : Hid (o.k = 27) := hk
  clear hk
  clear N hd hL hnz hr
  unfold opV at *
  go_enter Tryz.func137, Tryz.ntmps137
  go_wp2_with fail
  generalize w.alloc (.cells #[.string o.s, .int .i64 o.d, .int .i64 o.a, .int .i64 o.b, .int .u32 o.i, .int .i64 o.t] 139) = V0 at *
  refine (leaveN_any P0.nd).mono ?_
  rintro e V ⟨rfl, hN, hg⟩
  have P1 : Hid (PsAt w V b o nz) := by
    have := P0.turn hg hN
    rw [show nz = fun r => if 0 ≤ r ∧ r ≤ 33 then true else n r by rw [HNZ.out]; funext r; rw [HK.out]; simp]
    exact this
  clear hN hg P0
  go_upto_region 6 with fail
  obtain ⟨k0, k1, k2, k3, k4, k5⟩ := P1.out.bx
  refine wp_region_phase 5 [(0, 0), (1, 1), (3, 0), (2, 2), (4, 0), (5, 2)] (fun W => BoxO W w.heap.size o) (by kernel_rfl) (by kernel_rfl) (fun _ _ _ d _ h => by cases d <;> exact h) ⟨by simpa using k0, by simpa using k1, by simpa using k2, by simpa using k3, by simpa using k4, by simpa using k5⟩ ?_
  repeat (first | (refine wpPlanZ_free (by rfl) (by rfl) (fun W => by (go_simp; try with_reducible rfl)) (fun K hK => ?_); go_simp; refine hK _ ?_; clear hK K) | (refine wpPlanZ_quiet (by rfl) (by rfl) (fun W hW => by (obtain ⟨z0, z1, z2, z3, z4, z5⟩ := hW; go_simp; try with_reducible rfl)) (fun K hK => ?_); go_simp; refine hK _ ?_; clear hK K))
  refine wpPlanZ_serial (by rfl) (by rfl) (fun K hK => ?_)
  go_simp
  refine (hwr _).mono ?_
  rintro e w3 ⟨rfl, hb3⟩
  have P2 : PsAt w w3 b o nz := P1.out.drew.stays hb3
  have P2H : Hid (PsAt w w3 b o nz) := P2
  refine hK _ _ (fun _ => ⟨P2.bx.c0, P2.bx.c1, P2.bx.c2, P2.bx.c3, P2.bx.c4, P2.bx.c5⟩) ?_
  have c := RowIs.cell P2.nd (j := d) h1
  have f := RowIs.fz P2.nd d
  have hbz := RowIs.lt P2.nd
  clear hK K hwr hb3 P2 k0 k1 k2 k3 k4 k5 P1
  repeat (refine wpPlanZ_free (by rfl) (by rfl) (fun W => by (go_simp; try with_reducible rfl)) (fun K hK => ?_); go_simp; refine hK _ ?_; clear hK K)
  refine wpPlanZ_serial (by rfl) (by rfl) (fun K hK => ?_)
  go_simp
  refine hK _ _ (fun h => absurd h (by decide)) ?_
  clear hK K
  refine wpPlanZ_nil ?_
  have P3 : PsAt w (w3.setCell ⟨b, d, none⟩ (.bool false)) b o (fun r => if r = d then false else nz r) := P2H.out.put d false
  clear c f hbz P2H
  generalize w3.setCell ⟨b, d, none⟩ (.bool false) = U at *
  have P3H : Hid (PsAt w U b o (fun r => if r = d then false else nz r)) := P3
  obtain ⟨k0, k1, k2, k3, k4, k5⟩ := P3.bx
  have hxz := P3.bx.lt
  clear P3
  go_wp2_with fail
  refine (hrd _).mono ?_
  rintro e w4 ⟨v, rfl, ho, hb4⟩
  obtain ⟨ao, cap, rfl, hcap, hcl⟩ := ints_cell ho
  have P4 : Hid (PsAt w w4 b o (fun r => if r = d then false else nz r)) := P3H.out.stays hb4
  have HC : Hid (0 < L.length → ∃ g, ao = some ⟨g, 0, none⟩ ∧ U.heap.size ≤ g ∧ ∀ (i : Nat) (x : Int), L[i]? = some x → w4.cell? ⟨g, i, none⟩ = some (.int .i64 x)) := hcl
  have hUz : Hid (w.heap.size ≤ U.heap.size) := P3H.out.g.size
  clear hrd hb4 ho hcl k0 k1 k2 k3 k4 k5 P3H
  go_wp2
  go_loopw [5, 22] (fun _ i wr => ∃ j : Nat, j ≤ L.length ∧ i = .int .i64 j ∧ PsAt w wr b o (fun r => if r ∈ L.take j then true else if r = d then false else nz r) ∧ w4.grownBy wr (some b)) (fun _ i _ => L.length - (intOf i).toNat)
  case atStart => exact ⟨0, Nat.zero_le _, rfl, by simpa using P4.out, grown_refl _ _⟩
  case round =>
    obtain ⟨j, hj, rfl, hP, hG⟩ := hrel
    have HG : Hid (w4.grownBy wr (some b)) := hG
    have HPs : Hid (PsAt w wr b o (fun r => if r ∈ L.take j then true else if r = d then false else nz r)) := hP
    clear hG hP P4
    by_cases hlt : j < L.length
    · obtain ⟨x, hx, hxm⟩ : ∃ x, L[j]? = some x ∧ x ∈ L := ⟨L[j], List.getElem?_eq_getElem hlt, List.getElem_mem hlt⟩
      obtain ⟨g, rfl, hgU, hcell⟩ := HC.out (by omega)
      have hc4 := hcell j x hx
      have hcx : wr.cell? ⟨g, j, none⟩ = some (.int .i64 x) := (World.cell?_of_block (a := ⟨g, j, none⟩) (HG.out.block g (World.block_lt_of_cell? _ _ hc4) (by intro e; have := Option.some.inj e; have := hUz.out; omega))).trans hc4
      obtain ⟨x0, x1⟩ := HR.out x hxm
      obtain ⟨x, rfl⟩ : ∃ y : Nat, x = y := ⟨x.toNat, by omega⟩
      have c := RowIs.cell HPs.out.nd (j := x) (by omega)
      have f := RowIs.fz HPs.out.nd x
      have hbz := RowIs.lt HPs.out.nd
      have hlt' : (j : Int) < L.length := by omega
      have HX : Hid (L[j]? = some (x : Int)) := hx
      have hgz := World.block_lt_of_cell? _ _ hcx
      clear hx hxm hcell hc4
      go_wp2
      go_roundw
      case rel =>
        refine ⟨j + 1, by omega, by go_num, ?_, grown_trans HG.out (grown_set ⟨b, x, none⟩ _)⟩
        have := HPs.out.put x true
        refine ⟨this.g, this.nd.congr fun r hr => ?_, this.bx, this.hb⟩
        rw [List.take_add_one, HX.out]
        simp only [Option.toList_some, List.mem_append, List.mem_singleton]
        by_cases hrx : (r : Int) = x
        · rw [if_pos (.inr hrx), if_pos hrx]
        · by_cases hm : (r : Int) ∈ L.take j
          · rw [if_pos (.inl hm), if_neg hrx, if_pos hm]
          · rw [if_neg (by intro h; rcases h with h | h; exact hm h; exact hrx h), if_neg hrx, if_neg hm]
      case measure => simp [intOf]; omega
    · obtain rfl : j = L.length := by omega
      go_wp2
      go_end0
      refine ⟨rfl, ?_, HPs.out.g⟩
      rw [HP.out]
      have := HPs.out.nd
      rw [List.take_length] at this
      exact this
theorem pass_any {w : World} {b : Nat} {n : Nx} (N : NeedAt w b n) (o : Opx) (h0 : 0 ≤ wrX o) (h1 : wrX o < 64) (hr : ∀ r ∈ rdX o, 0 ≤ r ∧ r < 64) : Calls Tryz.prog 137 #[.pointer (some ⟨b, 0, none⟩), opV o] w fun e w' => e = .returned (.tuple #[]) ∧ NeedAt w' b (passN n o) ∧ w.grownBy w' (some b) := by
  have hl := kn_lt o.s
  have hd : wrX o = ((wrX o).toNat : Int) := by omega
  have hk : o.k < 25 ∨ o.k = 25 ∨ o.k = 26 ∨ o.k = 27 := by unfold Opx.k; omega
  rcases hk with hk | hk | hk | hk
  · exact pass_0 N o _ hd (by omega) hr hk
  · exact pass_25 N o _ hd (by omega) hr hk
  · exact pass_26 N o _ hd (by omega) hr hk
  · exact pass_27 N o _ hd (by omega) hr hk
end Go.Proofs.YtflagpkmebdckaaGreatDoor
/-
  A plan that is made of a code runs as the code does, in whole numbers.
-/
namespace Go.Proofs.YtflagpkmebdckaaGreatDoor
open Num
set_option linter.unusedVariables false
/-- how rows end, with what they have become -/
inductive Gz where
  | trap
  | leave (M : Mz)
  | on (x m : Nat → Int)
def Gz.go : Gz → ((Nat → Int) → (Nat → Int) → Gz) → Gz
  | .on x m, f => f x m
  | .trap, _ => .trap
  | .leave M, _ => .leave M
def trB (wt : Int → Bool) (x m : Nat → Int) (row : List Opx) : Bool := row.any fun o => (resZ wt x m o).trap
def goR (wt : Int → Bool) (row : List Opx) (x m : Nat → Int) : Gz := if trB wt x m row = true then .trap else if (rowZ wt x m row).lv < 0 then .on (rowZ wt x m row).x (rowZ wt x m row).m else .leave (rowZ wt x m row)
def goZ (wt : Int → Bool) : List (List Opx) → (Nat → Int) → (Nat → Int) → Gz
  | [], x, m => .on x m
  | r :: rs, x, m => (goR wt r x m).go (goZ wt rs)
theorem Gz.go_go (g : Gz) (f h : (Nat → Int) → (Nat → Int) → Gz) : (g.go f).go h = g.go fun x m => (f x m).go h := by cases g <;> rfl
theorem goZ_append (wt : Int → Bool) : ∀ (a b : List (List Opx)) (x m : Nat → Int), goZ wt (a ++ b) x m = (goZ wt a x m).go (goZ wt b)
  | [], b, x, m => rfl
  | r :: a, b, x, m => by
    show (goR wt r x m).go (goZ wt (a ++ b)) = ((goR wt r x m).go (goZ wt a)).go (goZ wt b)
    rw [Gz.go_go]
    congr 1
    funext x m
    exact goZ_append wt a b x m
theorem trapZ_some (wt : Int → Bool) (x m : Nat → Int) (row : List Opx) : (trapZ wt x m row).isSome = trB wt x m row := by
  unfold trapZ trB
  rw [Option.isSome_map]
  induction row with
  | nil => rfl
  | cons o l ih => rw [List.find?_cons, List.any_cons]; cases h : (resZ wt x m o).trap <;> simp [ih]
/-- the document's run, told by goZ -/
theorem runZ_goZ (wt : Int → Bool) : ∀ (rs : List (List Opx)) (x m : Nat → Int), (goZ wt rs x m = .trap → ∃ t, runZ wt rs x m = .trap t) ∧ (∀ M, goZ wt rs x m = .leave M → runZ wt rs x m = .leave M) ∧ (∀ y n, goZ wt rs x m = .on y n → runZ wt rs x m = .fell)
  | [], x, m => ⟨fun h => by simp [goZ] at h, fun M h => by simp [goZ] at h, fun _ _ _ => rfl⟩
  | r :: rs, x, m => by
    have hg : goZ wt (r :: rs) x m = (goR wt r x m).go (goZ wt rs) := rfl
    have hs := trapZ_some wt x m r
    have hr : runZ wt (r :: rs) x m = match trapZ wt x m r with
      | some t => .trap t
      | none => if (rowZ wt x m r).lv < 0 then runZ wt rs (rowZ wt x m r).x (rowZ wt x m r).m else .leave (rowZ wt x m r) := rfl
    rw [hg, hr]
    unfold goR
    cases ht : trapZ wt x m r with
    | some t =>
      rw [ht] at hs
      rw [if_pos (show trB wt x m r = true from hs.symm)]
      exact ⟨fun _ => ⟨t, rfl⟩, fun M h => by simp [Gz.go] at h, fun y n h => by simp [Gz.go] at h⟩
    | none =>
      rw [ht] at hs
      rw [if_neg (by rw [← hs]; simp)]
      by_cases hl : (rowZ wt x m r).lv < 0
      · rw [if_pos hl]
        simp only [if_pos hl]
        exact runZ_goZ wt rs _ _
      · rw [if_neg hl]
        simp only [if_neg hl]
        exact ⟨fun h => by simp [Gz.go] at h, fun M h => by simpa [Gz.go] using h, fun y n h => by simp [Gz.go] at h⟩
/-- o may stand in the row in which p stands, behind it -/
structure Aft (o p : Opx) : Prop where
  rw : ∀ r ∈ rdX o, 0 < wrX p → r.toNat ≠ (wrX p).toNat
  ww : 0 < wrX o → 0 < wrX p → (wrX o).toNat ≠ (wrX p).toNat
  m1 : o.k = 24 → p.k ≠ 24
  m2 : o.k = 23 → p.k ≠ 24
  lv : p.k < 25
structure Com (o p : Opx) : Prop extends Aft o p where
  wr : ∀ r ∈ rdX p, 0 < wrX o → r.toNat ≠ (wrX o).toNat
  m3 : o.k = 24 → p.k ≠ 23
theorem resZ_mem {wt : Int → Bool} {x m n : Nat → Int} {o : Opx} (h : o.k = 23 → m = n) : resZ wt x m o = resZ wt x n o := by
  by_cases hk : o.k = 23
  · rw [h hk]
  · unfold resZ; rw [if_neg hk, if_neg hk]
theorem resZ_same {wt : Int → Bool} {x y m n : Nat → Int} {o : Opx} (hk : o.k ≠ 0) (hx : ∀ r ∈ rdX o, x r.toNat = y r.toNat) (hm : o.k = 23 → m = n) : resZ wt x m o = resZ wt y n o :=
  (resZ_mem hm).trans (resZ_reads hk hx)
theorem ite_lv {c : Prop} [Decidable c] {a b : Ro} (h1 : a.leave = false) (h2 : b.leave = false) : (if c then a else b).leave = false := by split <;> assumption
theorem resZ_lv {wt : Int → Bool} {x m : Nat → Int} {o : Opx} (h : o.k < 25) : (resZ wt x m o).leave = false := by
  unfold resZ
  refine ite_lv rfl (ite_lv rfl (ite_lv (ite_lv rfl rfl) (ite_lv (ite_lv rfl rfl) ?_)))
  rw [if_neg (by omega), if_neg (by omega), if_neg (by omega)]
/-- what a row leaves as it was -/
theorem fold_x (wt : Int → Bool) (x m : Nat → Int) (n : Nat) : ∀ (l : List Opx) (M : Mz), (∀ p ∈ l, 0 < wrX p → n ≠ (wrX p).toNat) → (l.foldl (fun M o => appZ M o (resZ wt x m o)) M).x n = M.x n
  | [], M, _ => rfl
  | p :: l, M, h => by
    show (l.foldl _ (appZ M p (resZ wt x m p))).x n = _
    rw [fold_x wt x m n l _ fun q hq => h q (by simp [hq])]
    show (if 0 < wrX p then setX M.x (wrX p) _ else M.x) n = _
    split
    · rename_i h0
      show (if n = (wrX p).toNat then _ else M.x n) = _
      rw [if_neg (h p (by simp) h0)]
    · rfl
theorem fold_m (wt : Int → Bool) (x m : Nat → Int) : ∀ (l : List Opx) (M : Mz), (∀ p ∈ l, p.k ≠ 24) → (l.foldl (fun M o => appZ M o (resZ wt x m o)) M).m = M.m
  | [], M, _ => rfl
  | p :: l, M, h => by
    show (l.foldl _ (appZ M p (resZ wt x m p))).m = _
    rw [fold_m wt x m l _ fun q hq => h q (by simp [hq])]
    show (if p.k = 24 then _ else M.m) = _
    rw [if_neg (h p (by simp))]
theorem fold_lv (wt : Int → Bool) (x m : Nat → Int) : ∀ (l : List Opx) (M : Mz), (∀ p ∈ l, p.k < 25) → (l.foldl (fun M o => appZ M o (resZ wt x m o)) M).lv = M.lv
  | [], M, _ => rfl
  | p :: l, M, h => by
    show (l.foldl _ (appZ M p (resZ wt x m p))).lv = _
    rw [fold_lv wt x m l _ fun q hq => h q (by simp [hq])]
    show (if (resZ wt x m p).leave = true then _ else M.lv) = _
    rw [resZ_lv (h p (by simp))]; rfl
/-- the last op of a row may as well stand in a row of its own behind it -/
theorem goR_snoc {wt : Int → Bool} {r : List Opx} {o : Opx} (ho : o.k ≠ 0) (h : ∀ p ∈ r, Aft o p) : goR wt (r ++ [o]) = fun x m => (goR wt r x m).go (goR wt [o]) := by
  funext x m
  have hlv : (rowZ wt x m r).lv = -1 := fold_lv wt x m r _ fun p hp => (h p hp).lv
  have hx : ∀ q ∈ rdX o, (rowZ wt x m r).x q.toNat = x q.toNat := fun q hq => fold_x wt x m q.toNat r _ fun p hp h0 => (h p hp).rw q hq h0
  have hm : o.k = 23 → (rowZ wt x m r).m = m := fun hk => fold_m wt x m r _ fun p hp => (h p hp).m2 hk
  have hres : resZ wt (rowZ wt x m r).x (rowZ wt x m r).m o = resZ wt x m o := resZ_same ho hx hm
  have hrow : rowZ wt x m (r ++ [o]) = appZ (rowZ wt x m r) o (resZ wt x m o) := by unfold rowZ; rw [List.foldl_append]; rfl
  have hone : rowZ wt (rowZ wt x m r).x (rowZ wt x m r).m [o] = appZ (rowZ wt x m r) o (resZ wt x m o) := by
    show appZ ⟨_, _, -1⟩ o (resZ wt (rowZ wt x m r).x (rowZ wt x m r).m o) = _
    rw [hres, ← hlv]
  have ht : trB wt x m (r ++ [o]) = (trB wt x m r || (resZ wt x m o).trap) := by unfold trB; rw [List.any_append]; simp
  have ht1 : trB wt (rowZ wt x m r).x (rowZ wt x m r).m [o] = (resZ wt x m o).trap := by unfold trB; simp [hres]
  have e2 : goR wt r x m = if trB wt x m r = true then .trap else .on (rowZ wt x m r).x (rowZ wt x m r).m := by
    unfold goR; rw [if_pos (show (rowZ wt x m r).lv < 0 by rw [hlv]; decide)]
  have e3 : goR wt (r ++ [o]) x m = if (trB wt x m r || (resZ wt x m o).trap) = true then .trap else if (appZ (rowZ wt x m r) o (resZ wt x m o)).lv < 0 then .on (appZ (rowZ wt x m r) o (resZ wt x m o)).x (appZ (rowZ wt x m r) o (resZ wt x m o)).m else .leave (appZ (rowZ wt x m r) o (resZ wt x m o)) := by
    unfold goR; rw [ht, hrow]
  have e4 : goR wt [o] (rowZ wt x m r).x (rowZ wt x m r).m = if (resZ wt x m o).trap = true then .trap else if (appZ (rowZ wt x m r) o (resZ wt x m o)).lv < 0 then .on (appZ (rowZ wt x m r) o (resZ wt x m o)).x (appZ (rowZ wt x m r) o (resZ wt x m o)).m else .leave (appZ (rowZ wt x m r) o (resZ wt x m o)) := by
    unfold goR; rw [ht1, hone]
  show goR wt (r ++ [o]) x m = (goR wt r x m).go (goR wt [o])
  rw [e3, e2]
  by_cases h1 : trB wt x m r = true
  · rw [if_pos h1, if_pos (by rw [h1]; rfl)]; rfl
  · rw [if_neg h1]
    show _ = goR wt [o] (rowZ wt x m r).x (rowZ wt x m r).m
    rw [e4, Bool.eq_false_iff.2 h1, Bool.false_or]
theorem app_com {M : Mz} {o p : Opx} {a b : Ro} (ww : 0 < wrX o → 0 < wrX p → (wrX o).toNat ≠ (wrX p).toNat) (mm : o.k = 24 → p.k ≠ 24) (l1 : a.leave = false) (l2 : b.leave = false) : appZ (appZ M o a) p b = appZ (appZ M p b) o a := by
  unfold appZ
  simp only [l1, l2, Bool.false_eq_true, if_false]
  congr 1
  · by_cases h1 : 0 < wrX o
    · by_cases h2 : 0 < wrX p
      · simp only [if_pos h1, if_pos h2]
        funext n
        have := ww h1 h2
        unfold setX
        split <;> split <;> (try rfl)
        omega
      · simp only [if_pos h1, if_neg h2]
    · simp only [if_neg h1]
  · by_cases h1 : o.k = 24
    · simp only [if_pos h1, if_neg (mm h1)]
    · simp only [if_neg h1]
theorem fold_com (wt : Int → Bool) (x m : Nat → Int) (o : Opx) (a : Ro) (la : a.leave = false) : ∀ (l : List Opx) (M : Mz), (∀ p ∈ l, Aft o p) → l.foldl (fun M o => appZ M o (resZ wt x m o)) (appZ M o a) = appZ (l.foldl (fun M o => appZ M o (resZ wt x m o)) M) o a
  | [], M, _ => rfl
  | p :: l, M, h => by
    have hp := h p (by simp)
    show l.foldl _ (appZ (appZ M o a) p (resZ wt x m p)) = appZ (l.foldl _ (appZ M p (resZ wt x m p))) o a
    rw [app_com hp.ww hp.m1 la (resZ_lv hp.lv)]
    exact fold_com wt x m o a la l _ fun q hq => h q (by simp [hq])
theorem foldl_res {wt : Int → Bool} {x m y n : Nat → Int} : ∀ (l : List Opx) (M : Mz), (∀ p ∈ l, resZ wt x m p = resZ wt y n p) → l.foldl (fun M o => appZ M o (resZ wt x m o)) M = l.foldl (fun M o => appZ M o (resZ wt y n o)) M
  | [], M, _ => rfl
  | p :: l, M, h => by
    show l.foldl _ (appZ M p (resZ wt x m p)) = l.foldl _ (appZ M p (resZ wt y n p))
    rw [h p (by simp)]
    exact foldl_res l _ fun q hq => h q (by simp [hq])
/-- an op and a row that have nothing to do with one another -/
theorem goR_swap {wt : Int → Bool} {r : List Opx} {o : Opx} (ho : o.k ≠ 0) (ho2 : o.k < 25) (hr : ∀ p ∈ r, p.k ≠ 0) (h : ∀ p ∈ r, Com o p) (x m : Nat → Int) : (goR wt [o] x m).go (goR wt r) = (goR wt r x m).go (goR wt [o]) := by
  have hA : ∀ p ∈ r, Aft o p := fun p hp => (h p hp).toAft
  have la : (resZ wt x m o).leave = false := resZ_lv ho2
  have hx : ∀ q ∈ rdX o, (rowZ wt x m r).x q.toNat = x q.toNat := fun q hq => fold_x wt x m q.toNat r _ fun p hp h0 => (h p hp).rw q hq h0
  have hm : o.k = 23 → (rowZ wt x m r).m = m := fun hk => fold_m wt x m r _ fun p hp => (h p hp).m2 hk
  have hres : resZ wt (rowZ wt x m r).x (rowZ wt x m r).m o = resZ wt x m o := resZ_same ho hx hm
  have hlv : (rowZ wt x m r).lv = -1 := fold_lv wt x m r _ fun p hp => (h p hp).lv
  obtain ⟨N, hN⟩ : ∃ N, N = appZ ⟨x, m, -1⟩ o (resZ wt x m o) := ⟨_, rfl⟩
  have hNl : N.lv = -1 := by rw [hN]; show (if (resZ wt x m o).leave = true then _ else (-1 : Int)) = -1; rw [la]; rfl
  have hN1 : rowZ wt x m [o] = N := hN.symm
  have hresp : ∀ p ∈ r, resZ wt N.x N.m p = resZ wt x m p := fun p hp => by
    refine resZ_same (hr p hp) (fun q hq => ?_) (fun hk => ?_)
    · rw [hN]
      show (if 0 < wrX o then setX x (wrX o) _ else x) q.toNat = _
      split
      · rename_i h0
        show (if q.toNat = (wrX o).toNat then _ else x q.toNat) = _
        rw [if_neg ((h p hp).wr q hq h0)]
      · rfl
    · rw [hN]
      show (if o.k = 24 then _ else m) = m
      rw [if_neg fun e => (h p hp).m3 e hk]
  have ht0 : trB wt x m [o] = (resZ wt x m o).trap := by unfold trB; simp
  have ht1 : trB wt (rowZ wt x m r).x (rowZ wt x m r).m [o] = (resZ wt x m o).trap := by unfold trB; simp [hres]
  have ht2 : trB wt N.x N.m r = trB wt x m r := by
    unfold trB
    apply Bool.eq_iff_iff.2
    simp only [List.any_eq_true]
    constructor
    · rintro ⟨p, hp, h1⟩; exact ⟨p, hp, by rw [← hresp p hp]; exact h1⟩
    · rintro ⟨p, hp, h1⟩; exact ⟨p, hp, by rw [hresp p hp]; exact h1⟩
  have hrow : rowZ wt N.x N.m r = appZ (rowZ wt x m r) o (resZ wt x m o) := by
    show r.foldl (fun M o => appZ M o (resZ wt N.x N.m o)) ⟨N.x, N.m, -1⟩ = _
    rw [foldl_res r _ hresp, ← hNl]
    show r.foldl _ N = _
    rw [hN]
    exact fold_com wt x m o _ la r _ hA
  have hone : rowZ wt (rowZ wt x m r).x (rowZ wt x m r).m [o] = appZ (rowZ wt x m r) o (resZ wt x m o) := by
    show appZ ⟨_, _, -1⟩ o (resZ wt (rowZ wt x m r).x (rowZ wt x m r).m o) = _
    rw [hres, ← hlv]
  have e1 : goR wt [o] x m = if (resZ wt x m o).trap = true then .trap else .on N.x N.m := by
    unfold goR; rw [ht0, hN1, if_pos (show N.lv < 0 by rw [hNl]; decide)]
  have e2 : goR wt r x m = if trB wt x m r = true then .trap else .on (rowZ wt x m r).x (rowZ wt x m r).m := by
    unfold goR; rw [if_pos (show (rowZ wt x m r).lv < 0 by rw [hlv]; decide)]
  rw [e1, e2]
  by_cases t1 : (resZ wt x m o).trap = true
  · rw [if_pos t1]
    by_cases t2 : trB wt x m r = true
    · rw [if_pos t2]; rfl
    · rw [if_neg t2]
      show Gz.trap = goR wt [o] _ _
      unfold goR; rw [ht1, if_pos t1]
  · rw [if_neg t1]
    by_cases t2 : trB wt x m r = true
    · rw [if_pos t2]
      show goR wt r N.x N.m = Gz.trap
      unfold goR; rw [ht2, if_pos t2]
    · rw [if_neg t2]
      show goR wt r N.x N.m = goR wt [o] _ _
      unfold goR
      rw [ht2, if_neg t2, ht1, if_neg t1, hrow, hone]
theorem goZ_swap {wt : Int → Bool} {o : Opx} (ho : o.k ≠ 0) (ho2 : o.k < 25) : ∀ (B : List (List Opx)), (∀ r ∈ B, ∀ p ∈ r, p.k ≠ 0 ∧ Com o p) → goZ wt ([o] :: B) = goZ wt (B ++ [[o]])
  | [], _ => rfl
  | r :: B, h => by
    funext x m
    show (goR wt [o] x m).go (goZ wt (r :: B)) = (goR wt r x m).go (goZ wt (B ++ [[o]]))
    rw [← goZ_swap ho ho2 B fun q hq => h q (by simp [hq])]
    have e : ∀ (g : Gz) (s : List Opx), g.go (goZ wt (s :: B)) = (g.go (goR wt s)).go (goZ wt B) := fun g s => by rw [Gz.go_go]; rfl
    rw [e, e, goR_swap ho ho2 (fun p hp => (h r (by simp) p hp).1) (fun p hp => (h r (by simp) p hp).2)]
/-- what a plan on its way keeps of the ops that it has -/
structure MkInv (M : Mk) : Prop where
  rdy : ∀ (j : Nat) (r : List Opx), M.rows[j]? = some r → ∀ p ∈ r, wrX p ≠ 0 → j + 1 ≤ M.rdy (wrX p).toNat
  ask : ∀ (j : Nat) (r : List Opx), M.rows[j]? = some r → ∀ p ∈ r, ∀ q ∈ rdX p, j ≤ M.ask q.toNat
  bI : ∀ (j : Nat) (r : List Opx), M.rows[j]? = some r → ∀ p ∈ r, p.k = 25 → j + 1 ≤ M.bI
  bS : ∀ (j : Nat) (r : List Opx), M.rows[j]? = some r → ∀ p ∈ r, p.k = 24 → j + 1 ≤ M.bS
  bM : ∀ (j : Nat) (r : List Opx), M.rows[j]? = some r → ∀ p ∈ r, p.k = 23 ∨ p.k = 24 → j + 1 ≤ M.bM
  out : ∀ r ∈ M.rows, ∀ p ∈ r, p.k < 26 ∧ p.k ≠ 0
  sm : M.bS ≤ M.bM
theorem mk0_inv : MkInv mk0 := ⟨fun j r h => by simp [mk0] at h, fun j r h => by simp [mk0] at h, fun j r h => by simp [mk0] at h, fun j r h => by simp [mk0] at h, fun j r h => by simp [mk0] at h, fun r h => by simp [mk0] at h, Nat.le_refl _⟩
theorem frA_ge (M : Mk) : ∀ (l : List Int) (n : Nat), n ≤ frA M l n ∧ ∀ r ∈ l, M.rdy r.toNat ≤ frA M l n
  | [], n => ⟨Nat.le_refl _, fun r h => by cases h⟩
  | q :: l, n => by
    have ih := frA_ge M l (max n (M.rdy q.toNat))
    show n ≤ frA M l (max n (M.rdy q.toNat)) ∧ ∀ r ∈ q :: l, M.rdy r.toNat ≤ frA M l (max n (M.rdy q.toNat))
    refine ⟨by omega, fun r hr => ?_⟩
    rcases List.mem_cons.1 hr with rfl | hr
    · omega
    · exact ih.2 r hr
theorem frW_ge (M : Mk) (o : Opx) (n : Nat) : n ≤ frW M o n ∧ (wrX o ≠ 0 → M.rdy (wrX o).toNat ≤ frW M o n ∧ M.ask (wrX o).toNat ≤ frW M o n) := by
  unfold frW
  split <;> rename_i h
  · exact ⟨by omega, fun _ => ⟨by omega, by omega⟩⟩
  · exact ⟨Nat.le_refl _, fun h' => absurd h' h⟩
theorem frK_ge (M : Mk) (o : Opx) (n : Nat) : n ≤ frK M o n ∧ (o.k = 23 → M.bS ≤ frK M o n) ∧ (o.k = 24 → M.bM ≤ frK M o n) ∧ (25 ≤ o.k → M.rows.length - 1 ≤ frK M o n) := by
  unfold frK
  split
  · exact ⟨by omega, fun _ => by omega, fun _ => by omega, fun _ => by omega⟩
  · split
    · exact ⟨by omega, fun _ => by omega, fun _ => by omega, fun _ => by omega⟩
    · split
      · exact ⟨by omega, fun _ => by omega, fun _ => by omega, fun _ => by omega⟩
      · exact ⟨by omega, fun _ => by omega, fun _ => by omega, fun _ => by omega⟩
structure Ge (M : Mk) (o : Opx) (n : Nat) : Prop where
  bI : M.bI ≤ n
  rd : ∀ r ∈ rdX o, M.rdy r.toNat ≤ n
  ww : wrX o ≠ 0 → M.rdy (wrX o).toNat ≤ n
  wa : wrX o ≠ 0 → M.ask (wrX o).toNat ≤ n
  k3 : o.k = 23 → M.bS ≤ n
  k4 : o.k = 24 → M.bM ≤ n
  k5 : 25 ≤ o.k → M.rows.length - 1 ≤ n
theorem rowN_ge (M : Mk) (o : Opx) : Ge M o (rowN M o) := by
  have h1 := frA_ge M (rdX o) M.bI
  have h2 := frW_ge M o (frA M (rdX o) M.bI)
  have h3 := frK_ge M o (frW M o (frA M (rdX o) M.bI))
  have h4 : frR M o ≤ rowN M o := Nat.le_add_right _ _
  have e : frR M o = frK M o (frW M o (frA M (rdX o) M.bI)) := rfl
  rw [← e] at h3
  exact ⟨by omega, fun r hr => by have := h1.2 r hr; omega, fun h => by have := h2.2 h; omega, fun h => by have := h2.2 h; omega, fun h => by have := h3.2.1 h; omega, fun h => by have := h3.2.2.1 h; omega, fun h => by have := h3.2.2.2 h; omega⟩
theorem MkInv.aft {M : Mk} (I : MkInv M) {o : Opx} {n j : Nat} {r : List Opx} (G : Ge M o n) (hj : n ≤ j) (hr : M.rows[j]? = some r) {p : Opx} (hp : p ∈ r) : Aft o p := by
  have hout := I.out r (List.mem_of_getElem? hr) p hp
  refine ⟨fun q hq h0 e => ?_, fun h1 h0 e => ?_, fun hk h4 => ?_, fun hk h4 => ?_, ?_⟩
  · have a := I.rdy j r hr p hp (by omega)
    have b := G.rd q hq
    rw [e] at b; omega
  · have a := I.rdy j r hr p hp (by omega)
    have b := G.ww (by omega)
    rw [e] at b; omega
  · have a := I.bM j r hr p hp (.inr h4)
    have b := G.k4 hk
    omega
  · have a := I.bS j r hr p hp h4
    have b := G.k3 hk
    omega
  · by_cases h5 : p.k = 25
    · have a := I.bI j r hr p hp h5
      have b := G.bI
      omega
    · omega
theorem MkInv.com {M : Mk} (I : MkInv M) {o : Opx} {n j : Nat} {r : List Opx} (G : Ge M o n) (hj : n < j) (hr : M.rows[j]? = some r) {p : Opx} (hp : p ∈ r) : Com o p := by
  refine ⟨I.aft G (Nat.le_of_lt hj) hr hp, fun q hq h0 e => ?_, fun hk h3 => ?_⟩
  · have a := I.ask j r hr p hp q hq
    have b := G.wa (by omega)
    rw [← e] at b; omega
  · have a := I.bM j r hr p hp (.inl h3)
    have b := G.k4 hk
    omega
/-- an op that is put into its row runs as it would behind all rows -/
theorem goZ_put {wt : Int → Bool} {M : Mk} (I : MkInv M) {o : Opx} (ho : o.k ≠ 0) {n : Nat} (G : Ge M o n) : goZ wt (putR M.rows n o) = goZ wt (M.rows ++ [[o]]) := by
  unfold putR
  split
  · rename_i hn
    obtain ⟨r, hr⟩ : ∃ r, M.rows[n]? = some r := ⟨_, List.getElem?_eq_getElem hn⟩
    have hd : M.rows.drop n = r :: M.rows.drop (n + 1) := by rw [List.drop_eq_getElem_cons hn, (List.getElem_eq_iff hn).2 hr]
    have hsp : M.rows = M.rows.take n ++ r :: M.rows.drop (n + 1) := by rw [← hd, List.take_append_drop]
    have hmod : M.rows.modify n (· ++ [o]) = M.rows.take n ++ (r ++ [o]) :: M.rows.drop (n + 1) := by
      rw [List.modify_eq_take_cons_drop hn, (List.getElem_eq_iff hn).2 hr]
    rw [hmod]
    have hB : ∀ s ∈ M.rows.drop (n + 1), ∀ p ∈ s, p.k ≠ 0 ∧ Com o p := fun s hs p hp => by
      obtain ⟨i, hi⟩ := List.getElem?_of_mem hs
      rw [List.getElem?_drop] at hi
      exact ⟨(I.out s (List.mem_of_getElem? hi) p hp).2, I.com G (by omega) hi hp⟩
    have hm : goZ wt ((r ++ [o]) :: M.rows.drop (n + 1)) = goZ wt (r :: (M.rows.drop (n + 1) ++ [[o]])) := by
      funext x m
      show (goR wt (r ++ [o]) x m).go (goZ wt (M.rows.drop (n + 1))) = (goR wt r x m).go (goZ wt (M.rows.drop (n + 1) ++ [[o]]))
      rw [goR_snoc ho fun p hp => I.aft G (Nat.le_refl n) hr hp, Gz.go_go]
      congr 1
      by_cases h25 : o.k < 25
      · rw [← goZ_swap ho h25 _ hB]; rfl
      · have hl := G.k5 (by omega)
        have : M.rows.drop (n + 1) = [] := List.drop_eq_nil_of_le (by omega)
        rw [this]; rfl
    funext x m
    conv => rhs; rw [hsp, List.append_assoc, List.cons_append]
    rw [goZ_append, goZ_append, hm]
  · rfl
end Go.Proofs.YtflagpkmebdckaaGreatDoor
/-
  A plan that is made of a code runs as the code does, op by op, in whole numbers.
-/
namespace Go.Proofs.YtflagpkmebdckaaGreatDoor
open Num
set_option linter.unusedVariables false
theorem putR_at {rs : List (List Opx)} {n : Nat} {o : Opx} {j : Nat} {s : List Opx} (hn : n ≤ rs.length) (h : (putR rs n o)[j]? = some s) {p : Opx} (hp : p ∈ s) : (p = o ∧ j = n) ∨ ∃ r, rs[j]? = some r ∧ p ∈ r := by
  unfold putR at h
  split at h
  · rename_i hlt
    by_cases e : j = n
    · subst e
      obtain ⟨r, hr⟩ : ∃ r, rs[j]? = some r := ⟨_, List.getElem?_eq_getElem hlt⟩
      rw [List.getElem?_modify, hr] at h
      obtain rfl : r ++ [o] = s := by simpa using h
      rcases List.mem_append.1 hp with hp | hp
      · exact .inr ⟨r, hr, hp⟩
      · exact .inl ⟨List.mem_singleton.1 hp, rfl⟩
    · rw [List.getElem?_modify] at h
      exact .inr ⟨s, by simpa [Ne.symm e] using h, hp⟩
  · have e : n = rs.length := by omega
    by_cases hj : j < rs.length
    · rw [List.getElem?_append_left hj] at h
      exact .inr ⟨s, h, hp⟩
    · rw [List.getElem?_append_right (by omega)] at h
      have h0 : j - rs.length = 0 := by
        rcases Nat.eq_zero_or_pos (j - rs.length) with h0 | h0
        · exact h0
        · rw [List.getElem?_eq_none (by simp; omega)] at h; cases h
      rw [h0] at h
      obtain rfl : [o] = s := by simpa using h
      exact .inl ⟨List.mem_singleton.1 hp, by omega⟩
theorem ntA_ge (n : Nat) : ∀ (l : List Int) (f : Nat → Nat) (r : Nat), f r ≤ ntA f n l r ∧ (∀ q ∈ l, q.toNat = r → n ≤ ntA f n l r)
  | [], f, r => ⟨Nat.le_refl _, fun q h => by cases h⟩
  | q :: l, f, r => by
    have ih := ntA_ge n l (setN f q.toNat (max (f q.toNat) n)) r
    have e : ntA f n (q :: l) r = ntA (setN f q.toNat (max (f q.toNat) n)) n l r := rfl
    rw [e]
    have h1 : f r ≤ setN f q.toNat (max (f q.toNat) n) r := by
      unfold setN
      split
      · rename_i h; rw [h]; omega
      · exact Nat.le_refl _
    refine ⟨by omega, fun p hp hpr => ?_⟩
    rcases List.mem_cons.1 hp with rfl | hp
    · have h2 : n ≤ setN f p.toNat (max (f p.toNat) n) r := by
        unfold setN
        rw [if_pos hpr.symm]; omega
      omega
    · exact ih.2 p hp hpr
theorem place_inv {M : Mk} (I : MkInv M) (K : MkOk M) {o : Opx} (h26 : o.k < 26) (h0 : o.k ≠ 0) : MkInv (place M o) := by
  have hn := rowN_le K o
  have G := rowN_ge M o
  obtain ⟨n, hN⟩ : ∃ n, rowN M o = n := ⟨_, rfl⟩
  rw [hN] at hn G
  have hrows : (place M o).rows = putR M.rows n o := by show putR M.rows (rowN M o) o = _; rw [hN]
  have hrdy : (place M o).rdy = if wrX o ≠ 0 then setN M.rdy (wrX o).toNat (n + 1) else M.rdy := by show (if wrX o ≠ 0 then setN M.rdy (wrX o).toNat (rowN M o + 1) else M.rdy) = _; rw [hN]
  have hask : (place M o).ask = ntA M.ask n (rdX o) := by show ntA M.ask (rowN M o) (rdX o) = _; rw [hN]
  have hbI : (place M o).bI = if o.k = 25 then n + 1 else M.bI := by show (if o.k = 25 then rowN M o + 1 else M.bI) = _; rw [hN]
  have hbS : (place M o).bS = if o.k = 24 then n + 1 else M.bS := by show (if o.k = 24 then rowN M o + 1 else M.bS) = _; rw [hN]
  have hbM : (place M o).bM = if o.k = 23 then max M.bM (n + 1) else if o.k = 24 then n + 1 else M.bM := by show (if o.k = 23 then max M.bM (rowN M o + 1) else if o.k = 24 then rowN M o + 1 else M.bM) = _; rw [hN]
  refine ⟨?_, ?_, ?_, ?_, ?_, ?_, ?_⟩
  · intro j s hs p hp hw
    rw [hrows] at hs
    rw [hrdy]
    rcases putR_at hn hs hp with ⟨rfl, rfl⟩ | ⟨r, hr, hpr⟩
    · rw [if_pos hw]; unfold setN; rw [if_pos rfl]; exact Nat.le_refl _
    · have a := I.rdy j r hr p hpr hw
      split
      · rename_i ho
        unfold setN
        split
        · rename_i e
          have b := G.ww ho
          rw [← e] at b; omega
        · exact a
      · exact a
  · intro j s hs p hp q hq
    rw [hrows] at hs
    rw [hask]
    rcases putR_at hn hs hp with ⟨rfl, rfl⟩ | ⟨r, hr, hpr⟩
    · exact (ntA_ge j (rdX p) M.ask q.toNat).2 q hq rfl
    · have a := I.ask j r hr p hpr q hq
      have b := (ntA_ge n (rdX o) M.ask q.toNat).1
      omega
  · intro j s hs p hp hk
    rw [hrows] at hs
    rw [hbI]
    rcases putR_at hn hs hp with ⟨rfl, rfl⟩ | ⟨r, hr, hpr⟩
    · rw [if_pos hk]; exact Nat.le_refl _
    · have a := I.bI j r hr p hpr hk
      have b := G.bI
      split <;> omega
  · intro j s hs p hp hk
    rw [hrows] at hs
    rw [hbS]
    rcases putR_at hn hs hp with ⟨rfl, rfl⟩ | ⟨r, hr, hpr⟩
    · rw [if_pos hk]; exact Nat.le_refl _
    · have a := I.bS j r hr p hpr hk
      have c := I.sm
      split
      · rename_i e; have b := G.k4 e; omega
      · omega
  · intro j s hs p hp hk
    rw [hrows] at hs
    rw [hbM]
    rcases putR_at hn hs hp with ⟨rfl, rfl⟩ | ⟨r, hr, hpr⟩
    · rcases hk with hk | hk
      · rw [if_pos hk]; omega
      · rw [if_neg (by omega), if_pos hk]; exact Nat.le_refl _
    · have a := I.bM j r hr p hpr hk
      split
      · omega
      · split
        · rename_i e; have b := G.k4 e; omega
        · omega
  · intro s hs p hp
    obtain ⟨j, hj⟩ := List.getElem?_of_mem hs
    rw [hrows] at hj
    rcases putR_at hn hj hp with ⟨rfl, rfl⟩ | ⟨r, hr, hpr⟩
    · exact ⟨h26, h0⟩
    · exact I.out r (List.mem_of_getElem? hr) p hpr
  · rw [hbS, hbM]
    have c := I.sm
    split
    · rename_i e; rw [if_neg (by omega)]; exact Nat.le_refl _
    · split <;> omega
/-- outs stand last alone -/
def OutL : List Opx → Prop
  | [] => True
  | o :: l => o.k ≠ 0 ∧ (l ≠ [] → o.k < 26) ∧ OutL l
theorem goZ_fold (wt : Int → Bool) : ∀ (l : List Opx) (M : Mk), MkInv M → MkOk M → OutL l → goZ wt (l.foldl place M).rows = goZ wt (M.rows ++ eachL l)
  | [], M, _, _, _ => by show goZ wt M.rows = goZ wt (M.rows ++ []); rw [List.append_nil]
  | o :: l, M, I, K, h => by
    obtain ⟨h0, h26, hl⟩ := h
    have hput : goZ wt (place M o).rows = goZ wt (M.rows ++ [[o]]) := goZ_put I h0 (rowN_ge M o)
    have hR : M.rows ++ eachL (o :: l) = (M.rows ++ [[o]]) ++ eachL l := by rw [List.append_assoc]; rfl
    have happ : goZ wt ((place M o).rows ++ eachL l) = goZ wt ((M.rows ++ [[o]]) ++ eachL l) := by
      funext x m
      rw [goZ_append, goZ_append, hput]
    rw [hR, ← happ]
    show goZ wt (l.foldl place (place M o)).rows = _
    cases l with
    | nil => show goZ wt (place M o).rows = goZ wt ((place M o).rows ++ []); rw [List.append_nil]
    | cons q l => exact goZ_fold wt (q :: l) (place M o) (place_inv I K (h26 (by simp)) h0) (place_ok K o) hl
theorem make_go (wt : Int → Bool) {l : List Opx} (h : OutL l) : goZ wt (makeP l).rows = goZ wt (eachL l) := goZ_fold wt l mk0 mk0_inv mk0_ok h
theorem outL_well {many : Int} : ∀ {l : List Opx} {ah : Int}, wellL many ah l → OutL l
  | [], _, _ => trivial
  | o :: l, ah, h => by
    obtain ⟨h1, h2, h3, h4⟩ := h
    have hk := (opE_zero.1 h1).1
    refine ⟨hk, fun hne => ?_, outL_well h4⟩
    by_cases h26 : o.k < 26
    · exact h26
    · exact absurd (h3 (by have hk28 : o.k < 28 := kn_lt o.s; unfold outB; simp; omega)) hne
end Go.Proofs.YtflagpkmebdckaaGreatDoor
/-
  A plan that is made of a code is well and has the code's ops, in whole numbers.
-/
namespace Go.Proofs.YtflagpkmebdckaaGreatDoor
open Num
set_option linter.unusedVariables false
theorem putR_rowW {rs : List (List Opx)} {n : Nat} {o : Opx} {j : Nat} {s : List Opx} (hn : n ≤ rs.length) (h : (putR rs n o)[j]? = some s) : (j = n ∧ n < rs.length ∧ ∃ r, rs[n]? = some r ∧ s = r ++ [o]) ∨ (j = n ∧ n = rs.length ∧ s = [o]) ∨ (j ≠ n ∧ rs[j]? = some s) := by
  unfold putR at h
  split at h
  · rename_i hlt
    by_cases e : j = n
    · subst e
      obtain ⟨r, hr⟩ : ∃ r, rs[j]? = some r := ⟨_, List.getElem?_eq_getElem hlt⟩
      rw [List.getElem?_modify, hr] at h
      obtain rfl : r ++ [o] = s := by simpa using h
      exact .inl ⟨rfl, hlt, r, hr, rfl⟩
    · rw [List.getElem?_modify] at h
      exact .inr (.inr ⟨e, by simpa [Ne.symm e] using h⟩)
  · have e : n = rs.length := by omega
    by_cases hj : j < rs.length
    · rw [List.getElem?_append_left hj] at h
      exact .inr (.inr ⟨by omega, h⟩)
    · rw [List.getElem?_append_right (by omega)] at h
      have h0 : j - rs.length = 0 := by
        rcases Nat.eq_zero_or_pos (j - rs.length) with h0 | h0
        · exact h0
        · rw [List.getElem?_eq_none (by simp; omega)] at h; cases h
      rw [h0] at h
      obtain rfl : [o] = s := by simpa using h
      exact .inr (.inl ⟨by omega, e, rfl⟩)
structure MkFit (many : Int) (M : Mk) : Prop where
  ne : ∀ r ∈ M.rows, r ≠ []
  fit : ∀ r ∈ M.rows, fitB r = true
  dup : ∀ r ∈ M.rows, dupA [] r = false
  ok : ∀ r ∈ M.rows, ∀ p ∈ r, opE p many = 0
theorem fit_one (o : Opx) : fitB [o] = true := by
  have := ptO_lt o
  have : ptO o = 0 ∨ ptO o = 1 ∨ ptO o = 2 := by omega
  rcases this with h | h | h <;> simp [fitB, fitC, ctP, h]
theorem room_of {M : Mk} {o : Opx} {r : List Opx} (h : rowN M o < M.rows.length) (hr : M.rows[rowN M o]? = some r) : fitB (r ++ [o]) = true := by
  have hlt : (M.rows.drop (frR M o)).findIdx (roomB o) < (M.rows.drop (frR M o)).length := by
    rw [List.length_drop]
    have : rowN M o = frR M o + (M.rows.drop (frR M o)).findIdx (roomB o) := rfl
    omega
  have h1 := List.findIdx_getElem (w := hlt)
  have h2 : (M.rows.drop (frR M o))[(M.rows.drop (frR M o)).findIdx (roomB o)]? = some r := by
    rw [List.getElem?_drop]; exact hr
  rw [List.getElem?_eq_getElem hlt] at h2
  have h3 := Option.some.inj h2
  rw [h3] at h1
  exact h1
theorem place_fit {many : Int} {M : Mk} (I : MkInv M) (K : MkOk M) (F : MkFit many M) {o : Opx} (ho : opE o many = 0) : MkFit many (place M o) := by
  have hn := rowN_le K o
  have G := rowN_ge M o
  have hrows : (place M o).rows = putR M.rows (rowN M o) o := rfl
  have key : ∀ s ∈ (place M o).rows, (∃ r, M.rows[rowN M o]? = some r ∧ s = r ++ [o] ∧ fitB s = true) ∨ s = [o] ∨ s ∈ M.rows := fun s hs => by
    obtain ⟨j, hj⟩ := List.getElem?_of_mem hs
    rw [hrows] at hj
    rcases putR_rowW hn hj with ⟨e, hlt, r, hr, rfl⟩ | ⟨e, hlt, rfl⟩ | ⟨e, h⟩
    · exact .inl ⟨r, hr, rfl, room_of hlt hr⟩
    · exact .inr (.inl rfl)
    · exact .inr (.inr (List.mem_of_getElem? h))
  refine ⟨fun s hs => ?_, fun s hs => ?_, fun s hs => ?_, fun s hs p hp => ?_⟩
  · rcases key s hs with ⟨r, hr, rfl, _⟩ | rfl | h
    · simp
    · simp
    · exact F.ne s h
  · rcases key s hs with ⟨r, hr, rfl, h⟩ | rfl | h
    · exact h
    · exact fit_one o
    · exact F.fit s h
  · rcases key s hs with ⟨r, hr, rfl, _⟩ | rfl | h
    · rw [dupA_snoc, F.dup r (List.mem_of_getElem? hr), Bool.false_or]
      apply Bool.eq_false_iff.2
      intro h
      simp only [Bool.and_eq_true, decide_eq_true_eq, List.nil_append, List.any_eq_true] at h
      obtain ⟨hw, p, hp, e⟩ := h
      have a := I.rdy _ r hr p hp (by rw [e]; exact hw)
      have b := G.ww hw
      rw [e] at a; omega
    · simp [dupA]
    · exact F.dup s h
  · rcases key s hs with ⟨r, hr, rfl, _⟩ | rfl | h
    · rcases List.mem_append.1 hp with hp | hp
      · exact F.ok r (List.mem_of_getElem? hr) p hp
      · rw [List.mem_singleton.1 hp]; exact ho
    · rw [List.mem_singleton.1 hp]; exact ho
    · exact F.ok s h p hp
theorem mk0_fit (many : Int) : MkFit many mk0 := ⟨fun r h => (by cases h), fun r h => (by cases h), fun r h => (by cases h), fun r h => (by cases h)⟩
theorem fold_all {many : Int} : ∀ (l : List Opx) (M : Mk), MkInv M → MkOk M → MkFit many M → (∀ o ∈ l, o.k < 26 ∧ o.k ≠ 0 ∧ opE o many = 0) → MkInv (l.foldl place M) ∧ MkOk (l.foldl place M) ∧ MkFit many (l.foldl place M)
  | [], M, I, K, F, _ => ⟨I, K, F⟩
  | o :: l, M, I, K, F, h => by
    obtain ⟨h1, h2, h3⟩ := h o (by simp)
    exact fold_all l (place M o) (place_inv I K h1 h2) (place_ok K o) (place_fit I K F h3) fun q hq => h q (by simp [hq])
theorem putR_perm {rs : List (List Opx)} {n : Nat} {o : Opx} : (putR rs n o).flatten.Perm (rs.flatten ++ [o]) := by
  unfold putR
  split
  · rename_i hn
    have hd : rs.drop n = rs[n] :: rs.drop (n + 1) := List.drop_eq_getElem_cons hn
    have hsp : rs = rs.take n ++ rs[n] :: rs.drop (n + 1) := by rw [← hd, List.take_append_drop]
    have e1 : (rs.modify n (· ++ [o])).flatten = (rs.take n).flatten ++ (rs[n] ++ ([o] ++ (rs.drop (n + 1)).flatten)) := by
      rw [List.modify_eq_take_cons_drop hn]; simp
    have e2 : rs.flatten ++ [o] = (rs.take n).flatten ++ (rs[n] ++ ((rs.drop (n + 1)).flatten ++ [o])) := by
      have e3 : rs.flatten = (rs.take n).flatten ++ (rs[n] ++ (rs.drop (n + 1)).flatten) := (congrArg List.flatten hsp).trans (by rw [List.flatten_append, List.flatten_cons])
      rw [e3, List.append_assoc, List.append_assoc]
    rw [e1, e2]
    exact (List.perm_append_comm.append_left _).append_left _
  · simp
theorem fold_perm : ∀ (l : List Opx) (M : Mk), (l.foldl place M).rows.flatten.Perm (M.rows.flatten ++ l)
  | [], M => by simp
  | o :: l, M => by
    have h := fold_perm l (place M o)
    have h2 : (place M o).rows.flatten.Perm (M.rows.flatten ++ [o]) := putR_perm
    have h3 := h.trans (h2.append_right l)
    simpa using h3
theorem make_perm (l : List Opx) : (makeP l).rows.flatten.Perm l := by
  have h := fold_perm l mk0
  rw [show mk0.rows.flatten ++ l = l from rfl] at h
  exact h
theorem fold_len : ∀ (l : List Opx) (M : Mk), (l.foldl place M).rows.length ≤ M.rows.length + l.length ∧ M.rows.length ≤ (l.foldl place M).rows.length
  | [], M => ⟨Nat.le_refl _, Nat.le_refl _⟩
  | o :: l, M => by
    have h := fold_len l (place M o)
    have h2 : (place M o).rows.length = if rowN M o < M.rows.length then M.rows.length else M.rows.length + 1 := putR_len _ _ _
    have h3 : ((o :: l).foldl place M).rows.length = (l.foldl place (place M o)).rows.length := rfl
    have h4 : (o :: l).length = l.length + 1 := rfl
    rw [h3, h4]
    split at h2 <;> omega
theorem make_len (l : List Opx) : (makeP l).rows.length ≤ l.length := by have := (fold_len l mk0).1; simpa [mk0, makeP] using this
theorem strR_flat (rs : List (List Opx)) : strR rs = strs rs.flatten := by
  unfold strR
  induction rs with
  | nil => rfl
  | cons r rs ih => rw [List.map_cons, List.sum_cons, ih]; unfold strs; simp
theorem strs_perm {a b : List Opx} (h : a.Perm b) : strs a = strs b := (h.filter _).length_eq
theorem outL_front {o : Opx} : ∀ {l : List Opx}, OutL (l ++ [o]) → ∀ p ∈ l, p.k < 26 ∧ p.k ≠ 0
  | [], _, p, hp => by cases hp
  | q :: l, h, p, hp => by
    obtain ⟨h1, h2, h3⟩ := h
    rcases List.mem_cons.1 hp with rfl | hp
    · exact ⟨h2 (by simp), h1⟩
    · exact outL_front h3 p hp
theorem fit_len {r : List Opx} (h : fitB r = true) : r.length ≤ 4 := by
  have := ctP_sum r
  unfold fitB fitC at h
  simp only [Bool.and_eq_true, decide_eq_true_eq] at h
  omega
theorem make_well {many : Int} {l : List Opx} (W : Well many l) : planF many (makeP l).rows = (0, -1) := by
  obtain ⟨o, hlast, hout⟩ := W.last
  obtain ⟨l', rfl⟩ := List.getLast?_eq_some_iff.1 hlast
  have hall : ∀ p ∈ l', p.k < 26 ∧ p.k ≠ 0 ∧ opE p many = 0 := fun p hp => by
    have a := outL_front (outL_well W.ops) p hp
    exact ⟨a.1, a.2, wellL_mem W.ops p (by simp [hp])⟩
  have ho : opE o many = 0 := wellL_mem W.ops o (by simp)
  obtain ⟨I, K, F⟩ := fold_all l' mk0 mk0_inv mk0_ok (mk0_fit many) hall
  have eM : makeP (l' ++ [o]) = place (makeP l') o := by unfold makeP; rw [List.foldl_append]; rfl
  have F2 := place_fit I K F ho
  have hn := rowN_le K o
  have G := rowN_ge (l'.foldl place mk0) o
  have hk : 26 ≤ o.k := by unfold outB at hout; simp at hout; omega
  have hlen := make_len (l' ++ [o])
  have hW := W.len
  have hrows : (makeP (l' ++ [o])).rows = putR (l'.foldl place mk0).rows (rowN (l'.foldl place mk0) o) o := by rw [eM]; rfl
  have hF : MkFit many (makeP (l' ++ [o])) := by rw [eM]; exact F2
  have hL := putR_len (l'.foldl place mk0).rows (rowN (l'.foldl place mk0) o) o
  rw [← hrows] at hL
  have hpos : (makeP (l' ++ [o])).rows ≠ [] := by
    intro e
    rw [e] at hL
    simp only [List.length_nil] at hL
    split at hL <;> omega
  have h5 := G.k5 (by omega)
  have hno : ∀ r ∈ (l'.foldl place mk0).rows, r.any outB = false := fun r hr => by
    apply Bool.eq_false_iff.2
    intro h
    obtain ⟨p, hp, h⟩ := List.any_eq_true.1 h
    have := (I.out r hr p hp).1
    unfold outB at h
    simp at h
    omega
  have hrowE : ∀ k q, (makeP (l' ++ [o])).rows[k]? = some q → rowE many (decide (k + 1 = (makeP (l' ++ [o])).rows.length)) q = 0 := fun k q hq => by
    have hm := List.mem_of_getElem? hq
    have hfit := hF.fit q hm
    have hl4 := fit_len hfit
    unfold rowE
    rw [if_neg (by intro h; rcases h with h | h; exact hF.ne q hm h; omega), firE_none many q (hF.ok q hm), if_neg (by simp), if_neg (by rw [hfit]; simp), if_neg (by rw [hF.dup q hm]; simp), if_neg ?_]
    intro h
    apply h
    rw [hL]
    rw [hrows] at hq
    rcases putR_rowW hn hq with ⟨e, hlt, r, hr, rfl⟩ | ⟨e, hlt, rfl⟩ | ⟨e, h⟩
    · rw [if_pos hlt, List.any_append]
      simp only [List.any_cons, hout, List.any_nil, Bool.or_false, Bool.or_true, decide_eq_true_eq]
      omega
    · rw [if_neg (by omega)]
      simp only [List.any_cons, hout, List.any_nil, Bool.or_false, decide_eq_true_eq]
      omega
    · rw [hno q (List.mem_of_getElem? h)]
      have hkl := (List.getElem?_eq_some_iff.1 h).1
      apply decide_eq_false
      split <;> omega
  unfold planF
  rw [if_neg (by have := W.m0; have := W.m1; omega), if_neg (by omega), if_neg hpos, rowsF_none many _ 0 hrowE, if_neg (by simp), if_neg]
  rw [strR_flat, strs_perm (make_perm _)]
  have := W.st
  omega
end Go.Proofs.YtflagpkmebdckaaGreatDoor
/-
  A plan that is made of a code is not loose, in whole numbers: of two plain rows, one behind the other, that would be one, one touches the other.
-/
namespace Go.Proofs.YtflagpkmebdckaaGreatDoor
open Num
set_option linter.unusedVariables false
def plB (o : Opx) : Bool := decide (1 ≤ o.k ∧ o.k ≤ 20)
/-- why an op opens a row behind the row r -/
def Tight (r : List Opx) (o : Opx) : Prop := (∃ p ∈ r, plB p = false) ∨ plB o = false ∨ 3 ≤ r.length ∨ ∃ p ∈ r, wrX p ≠ 0 ∧ ((wrX o ≠ 0 ∧ (wrX p).toNat = (wrX o).toNat) ∨ ∃ q ∈ rdX o, q.toNat = (wrX p).toNat)
theorem Tight.snoc {r : List Opx} {o : Opx} (h : Tight r o) (x : Opx) : Tight (r ++ [x]) o := by
  rcases h with ⟨p, hp, h⟩ | h | h | ⟨p, hp, h⟩
  · exact .inl ⟨p, by simp [hp], h⟩
  · exact .inr (.inl h)
  · exact .inr (.inr (.inl (by simp; omega)))
  · exact .inr (.inr (.inr ⟨p, by simp [hp], h⟩))
end Go.Proofs.YtflagpkmebdckaaGreatDoor
/-
  The document's isPlain.
-/
namespace Go.Proofs.YtflagpkmebdckaaGreatDoor
open Go.RowKit Go.Maps
open Num
set_option linter.unusedVariables false
end Go.Proofs.YtflagpkmebdckaaGreatDoor
/-
  The document's isKnown and KnownOf.
-/
namespace Go.Proofs.YtflagpkmebdckaaGreatDoor
open Go.RowKit Go.Maps
open Num
set_option linter.unusedVariables false
theorem OpsIn.take {w : World} {b off cap : Nat} {l : List Opx} (C : ∀ (i : Nat) (o : Opx), l[i]? = some o → ∀ (j : Nat) (u : Value), (opC o)[j]? = some u → w.cell? ⟨b, off + i * 6 + j, none⟩ = some u) (ok : ∀ o ∈ l, o.ok) (j : Nat) (hj : j ≤ l.length) (hc : l.length ≤ cap) : OpsIn w (.slice (some ⟨b, off, none⟩) j cap) (l.take j) := by
  have hlen : (l.take j).length = j := by rw [List.length_take]; omega
  refine ⟨⟨some ⟨b, off, none⟩, cap, by rw [hlen], by omega, fun _ => ⟨b, off, rfl, fun i o hi k u hk => C i o ?_ k u hk⟩⟩, fun o ho => ok o (List.mem_of_mem_take ho)⟩
  rw [List.getElem?_take] at hi
  split at hi
  · exact hi
  · cases hi
end Go.Proofs.YtflagpkmebdckaaGreatDoor
