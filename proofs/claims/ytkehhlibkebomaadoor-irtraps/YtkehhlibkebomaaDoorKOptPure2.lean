/-
  Better codes in whole numbers: what is known and what is dead as the document counts them.
-/
import Derived.Test.YtkehhlibkebomaaDoorKPure
namespace Go.Proofs.YtkehhlibkebomaaDoor
open Num
set_option linter.unusedVariables false
end Go.Proofs.YtkehhlibkebomaaDoor
/-
  Plans in whole numbers: what is wrong with a row or a plan, and how a plan is made.
-/
namespace Go.Proofs.YtkehhlibkebomaaDoor
open Num
set_option linter.unusedVariables false
/-- the part of a row in which an op stands: 0 sums, 1 memory, 2 what leaves -/
def ptO (o : Opx) : Nat := if o.k = 23 ∨ o.k = 24 then 1 else if 25 ≤ o.k then 2 else 0
def ctP (p : Nat) (l : List Opx) : Nat := (l.filter fun o => decide (ptO o = p)).length
def fitC (a b c : Nat) : Bool := decide (a ≤ 3) && decide (b ≤ 1) && decide (c ≤ 1) && decide (a + b + c ≤ 4)
def fitB (l : List Opx) : Bool := fitC (ctP 0 l) (ctP 1 l) (ctP 2 l)
/-- a plan on its way: rows; the first row in which a register can be read; the last row that reads it; the first rows behind the last if, store, load or store -/
structure Mk where
  rows : List (List Opx)
  rdy : Nat → Nat
  ask : Nat → Nat
  bI : Nat
  bS : Nat
  bM : Nat
def frA (M : Mk) (l : List Int) (n : Nat) : Nat := l.foldl (fun n r => max n (M.rdy r.toNat)) n
def frW (M : Mk) (o : Opx) (n : Nat) : Nat := if wrX o ≠ 0 then max (max n (M.rdy (wrX o).toNat)) (M.ask (wrX o).toNat) else n
def frK (M : Mk) (o : Opx) (n : Nat) : Nat := if o.k = 23 then max n M.bS else if o.k = 24 then max n M.bM else if 25 ≤ o.k then max n (M.rows.length - 1) else n
/-- the first row in which an op may stand -/
def frR (M : Mk) (o : Opx) : Nat := frK M o (frW M o (frA M (rdX o) M.bI))
def roomB (o : Opx) (r : List Opx) : Bool := fitB (r ++ [o])
def rowN (M : Mk) (o : Opx) : Nat := frR M o + (M.rows.drop (frR M o)).findIdx (roomB o)
def putR (rs : List (List Opx)) (n : Nat) (o : Opx) : List (List Opx) := if n < rs.length then rs.modify n (· ++ [o]) else rs ++ [[o]]
def setN (f : Nat → Nat) (r n : Nat) : Nat → Nat := fun k => if k = r then n else f k
def ntA (f : Nat → Nat) (n : Nat) (l : List Int) : Nat → Nat := l.foldl (fun f r => setN f r.toNat (max (f r.toNat) n)) f
def note (M : Mk) (o : Opx) (n : Nat) : Mk where
  rows := M.rows
  rdy := if wrX o ≠ 0 then setN M.rdy (wrX o).toNat (n + 1) else M.rdy
  ask := ntA M.ask n (rdX o)
  bI := if o.k = 25 then n + 1 else M.bI
  bS := if o.k = 24 then n + 1 else M.bS
  bM := if o.k = 23 then max M.bM (n + 1) else if o.k = 24 then n + 1 else M.bM
def place (M : Mk) (o : Opx) : Mk := note { M with rows := putR M.rows (rowN M o) o } o (rowN M o)
end Go.Proofs.YtkehhlibkebomaaDoor
/-
  Rows of ops over registers and memory, as the document runs them, in whole numbers; better codes end alike.
-/
namespace Go.Proofs.YtkehhlibkebomaaDoor
open Num
set_option linter.unusedVariables false
/-- what an op comes to: what it writes, an address, whether it traps, whether it leaves -/
structure Ro where
  v : Int
  a : Int
  trap : Bool
  leave : Bool
def resZ (wt : Int → Bool) (x m : Nat → Int) (o : Opx) : Ro :=
  if o.k = 21 then ⟨0, 0, ov (sg (x o.a.toNat) + sg (x o.b.toNat)), false⟩
  else if o.k = 22 then ⟨0, 0, ov (sg (x o.a.toNat) - sg (x o.b.toNat)), false⟩
  else if o.k = 23 then (if chk (lo (x o.a.toNat + o.i)) (if o.b < 0 then -o.b else o.b) = 0 then ⟨ld m (lo (x o.a.toNat + o.i)) (if o.b < 0 then -o.b else o.b) (decide (o.b < 0)), 0, false, false⟩ else ⟨0, 0, true, false⟩)
  else if o.k = 24 then (if chk (lo (x o.a.toNat + o.i)) o.d = 0 then ⟨x o.b.toNat, lo (x o.a.toNat + o.i), wt (lo (x o.a.toNat + o.i) / 256), false⟩ else ⟨0, 0, true, false⟩)
  else if o.k = 25 then ⟨0, o.i, false, decide (x o.a.toNat ≠ 0)⟩
  else if o.k = 26 then ⟨0, o.i, false, true⟩
  else if o.k = 27 then ⟨0, x o.a.toNat, false, true⟩
  else ⟨valV o.k (x o.a.toNat) (x o.b.toNat) (x o.d.toNat) o.i, 0, false, false⟩
/-- registers, memory, where it leaves for (-1: it does not) -/
structure Mz where
  x : Nat → Int
  m : Nat → Int
  lv : Int
def appZ (M : Mz) (o : Opx) (r : Ro) : Mz := ⟨if 0 < wrX o then setX M.x (wrX o) r.v else M.x, if o.k = 24 then upd M.m r.a o.d r.v else M.m, if r.leave = true then r.a else M.lv⟩
def rowZ (wt : Int → Bool) (x m : Nat → Int) (row : List Opx) : Mz := row.foldl (fun M o => appZ M o (resZ wt x m o)) ⟨x, m, -1⟩
def trapZ (wt : Int → Bool) (x m : Nat → Int) (row : List Opx) : Option Int := (row.find? fun o => (resZ wt x m o).trap).map (·.t)
inductive Oz where
  | trap (t : Int)
  | leave (M : Mz)
  | fell
def runZ (wt : Int → Bool) : List (List Opx) → (Nat → Int) → (Nat → Int) → Oz
  | [], _, _ => .fell
  | row :: rows, x, m => match trapZ wt x m row with
    | some t => .trap t
    | none => if (rowZ wt x m row).lv < 0 then runZ wt rows (rowZ wt x m row).x (rowZ wt x m row).m else .leave (rowZ wt x m row)
/-- one op a row -/
def eachL (l : List Opx) : List (List Opx) := l.map fun o => [o]
def run1 (wt : Int → Bool) (l : List Opx) (x m : Nat → Int) : Oz := runZ wt (eachL l) x m
theorem run1_cons (wt : Int → Bool) (o : Opx) (l : List Opx) (x m : Nat → Int) : run1 wt (o :: l) x m = if (resZ wt x m o).trap = true then .trap o.t else if (appZ ⟨x, m, -1⟩ o (resZ wt x m o)).lv < 0 then run1 wt l (appZ ⟨x, m, -1⟩ o (resZ wt x m o)).x (appZ ⟨x, m, -1⟩ o (resZ wt x m o)).m else .leave (appZ ⟨x, m, -1⟩ o (resZ wt x m o)) := by
  show runZ wt ([o] :: eachL l) x m = _
  unfold runZ
  have e : trapZ wt x m [o] = if (resZ wt x m o).trap = true then some o.t else none := by
    unfold trapZ
    rw [List.find?_cons]
    cases h : (resZ wt x m o).trap <;> simp
  rw [e]
  by_cases h : (resZ wt x m o).trap = true
  · rw [if_pos h, if_pos h]
  · rw [if_neg h, if_neg h]; rfl
/-- two endings that are alike: registers up to Lo -/
def OzAlike : Oz → Oz → Prop
  | .trap t, .trap u => t = u
  | .leave M, .leave N => M.lv = N.lv ∧ M.m = N.m ∧ ∀ r : Nat, 1 ≤ r → r ≤ 33 → M.x r = N.x r
  | .fell, .fell => True
  | _, _ => False
theorem resZ_val {wt : Int → Bool} {x m : Nat → Int} {o : Opx} (h : o.k ≤ 20) : resZ wt x m o = ⟨valV o.k (x o.a.toNat) (x o.b.toNat) (x o.d.toNat) o.i, 0, false, false⟩ := by
  unfold resZ
  rw [if_neg (by omega), if_neg (by omega), if_neg (by omega), if_neg (by omega), if_neg (by omega), if_neg (by omega), if_neg (by omega)]
theorem appZ_val {M : Mz} {o : Opx} (h1 : 1 ≤ o.k) (h : o.k ≤ 20) (hd : 1 ≤ o.d) (v a : Int) : appZ M o ⟨v, a, false, false⟩ = ⟨setX M.x o.d v, M.m, M.lv⟩ := by
  unfold appZ
  have e : wrX o = o.d := by unfold wrX rD; rw [if_pos (by rw [if_pos (.inl ⟨h1, h⟩)])]
  rw [e, if_pos (by omega), if_neg (by omega)]; rfl
/-- facts that hold -/
def FactsOf (f : Fx) (x : Nat → Int) : Prop := ∀ r v, f r = some v → 0 ≤ r ∧ x r.toNat = v
theorem FactsOf.zero {x : Nat → Int} (h : x 0 = 0) : FactsOf fx0 x := by
  intro r v e
  unfold fx0 at e
  split at e
  · rename_i h0; subst h0; cases e; exact ⟨by omega, h⟩
  · cases e
end Go.Proofs.YtkehhlibkebomaaDoor
