/-
  Codes in whole numbers: kinds of ops, what is wrong with an op or a code, what an op makes of registers and memory.
-/
import Derived.Test.YtcccaejjhodnkaaDoorPure
namespace Go.Proofs.YtcccaejjhodnkaaDoor
open Num
set_option linter.unusedVariables false
/-- the kinds' words: 1 set, 2 copy, 3 to 20 sums (17 to 20: quotients), 21 over+, 22 over-, 23 load, 24 store, 25 if, 26 out, 27 outr -/
def kinds : List (List UInt8) := [[], [115, 101, 116], [99, 111, 112, 121], [97, 100, 100], [115, 117, 98], [97, 110, 100], [111, 114], [120, 111, 114], [110, 111, 114], [115, 108, 116], [115, 108, 116, 117], [115, 104, 108], [115, 104, 114], [115, 97, 114], [109, 117, 108], [109, 117, 108, 104], [109, 117, 108, 104, 117], [113, 117, 111], [114, 101, 109], [113, 117, 111, 117], [114, 101, 109, 117], [111, 118, 101, 114, 43], [111, 118, 101, 114, 45], [108, 111, 97, 100], [115, 116, 111, 114, 101], [105, 102], [111, 117, 116], [111, 117, 116, 114]]
def kindS (k : Nat) : ByteArray := ⟨(kinds.getD k []).toArray⟩
/-- a kind's number; 0: there is none -/
def kn (s : ByteArray) : Nat := ((List.range 28).find? fun k => decide (1 ≤ k ∧ s.data.toList = kinds.getD k [])).getD 0
theorem kn_lt (s : ByteArray) : kn s < 28 := by
  unfold kn
  cases hf : (List.range 28).find? (fun k => decide (1 ≤ k ∧ s.data.toList = kinds.getD k [])) with
  | none => decide
  | some j => exact List.mem_range.1 (List.mem_of_find?_eq_some hf)
theorem kn_word {s : ByteArray} (h : kn s ≠ 0) : s = kindS (kn s) := by
  have e : ∀ n, kn s = n → n ≠ 0 → s.data.toList = kinds.getD n [] := by
    intro n hn h0
    unfold kn at hn
    cases hf : (List.range 28).find? (fun k => decide (1 ≤ k ∧ s.data.toList = kinds.getD k [])) with
    | none => rw [hf] at hn; exact absurd hn.symm h0
    | some j =>
      rw [hf] at hn
      obtain rfl : j = n := hn
      have := List.find?_some hf
      simp only [decide_eq_true_eq] at this
      exact this.2
  have := e _ rfl h
  obtain ⟨⟨l⟩⟩ := s
  unfold kindS
  rw [← this]
theorem kn_kind' : ∀ k, k < 28 → 1 ≤ k → kn (kindS k) = k := by decide
theorem kn_kind (k : Nat) (h1 : 1 ≤ k) (h2 : k < 28) : kn (kindS k) = k := kn_kind' k h2 h1
theorem kn_none {s : ByteArray} (h : kn s = 0) : ∀ k, 1 ≤ k → k < 28 → s.data.toList ≠ kinds.getD k [] := by
  intro k h1 h2 e
  have : s = kindS k := by obtain ⟨⟨l⟩⟩ := s; unfold kindS; rw [← e]
  rw [this, kn_kind k h1 h2] at h
  omega
/-- an op -/
structure Opx where
  s : ByteArray
  d : Int
  a : Int
  b : Int
  i : Int
  t : Int
abbrev Opx.k (o : Opx) : Nat := kn o.s
structure Opx.ok (o : Opx) : Prop where
  d0 : -9223372036854775808 ≤ o.d
  d1 : o.d ≤ 9223372036854775807
  a0 : -9223372036854775808 ≤ o.a
  a1 : o.a ≤ 9223372036854775807
  b0 : -9223372036854775808 ≤ o.b
  b1 : o.b ≤ 9223372036854775807
  i0 : 0 ≤ o.i
  i1 : o.i < 4294967296
  t0 : -9223372036854775808 ≤ o.t
  t1 : o.t ≤ 9223372036854775807
/-- what a kind's fields are: 0 nothing, 1 a register that is read, 2 one that is written, 3 bytes that are loaded, 4 bytes that are stored -/
def rD (k : Nat) : Nat := if 1 ≤ k ∧ k ≤ 20 ∨ k = 23 then 2 else if k = 24 then 4 else 0
def rA (k : Nat) : Nat := if 2 ≤ k ∧ k ≤ 25 ∨ k = 27 then 1 else 0
def rB (k : Nat) : Nat := if 3 ≤ k ∧ k ≤ 22 ∨ k = 24 then 1 else if k = 23 then 3 else 0
def rI (k : Nat) : Bool := decide (k = 1 ∨ 23 ≤ k ∧ k ≤ 26)
/-- is a number one of a role? -/
def alw (r : Nat) (n : Int) : Bool := if r = 1 then decide (0 ≤ n) && decide (n < 64) else if r = 2 then decide (1 ≤ n) && decide (n < 64) else if r = 3 then decide (n = 1 ∨ n = 2 ∨ n = 4 ∨ n = -1 ∨ n = -2) else if r = 4 then decide (n = 1 ∨ n = 2 ∨ n = 4) else true
def bndB (o : Opx) (many : Int) : Bool := alw (rD o.k) o.d && alw (rA o.k) o.a && alw (rB o.k) o.b && decide (0 ≤ o.t) && decide (o.t < many)
def shpB (o : Opx) : Bool := (decide (rD o.k ≠ 0) || decide (o.d = 0)) && (decide (rA o.k ≠ 0) || decide (o.a = 0)) && (decide (rB o.k ≠ 0) || decide (o.b = 0)) && (rI o.k || decide (o.i = 0))
/-- what is wrong with an op alone: an error's number -/
def opE (o : Opx) (many : Int) : Int := if o.k = 0 then 4 else if bndB o many = false then 2 else if shpB o = false then 3 else 0
def outB (o : Opx) : Bool := decide (o.k = 26 ∨ o.k = 27)
def strs (l : List Opx) : Nat := (l.filter fun o => decide (o.k = 24)).length
theorem strs_snoc (l : List Opx) (o : Opx) : strs (l ++ [o]) = strs l + (if o.k = 24 then 1 else 0) := by
  unfold strs; rw [List.filter_append, List.length_append]; by_cases h : o.k = 24 <;> simp [h]
theorem strs_le (l : List Opx) : strs l ≤ l.length := List.length_filter_le _ _
/-- what is wrong with op number n of a code of len ops, behind one of instruction ah -/
def opF (o : Opx) (many : Int) (ah : Int) (last : Bool) : Int := if opE o many ≠ 0 then opE o many else if o.t < ah ∨ outB o = true ∧ last = false then 3 else 0
/-- the first op that is not well: its error and place; (0, -1): there is none -/
def opsF (many : Int) : Int → Nat → List Opx → Int × Int
  | _, _, [] => (0, -1)
  | ah, n, o :: l => if opF o many ah l.isEmpty ≠ 0 then (opF o many ah l.isEmpty, n) else opsF many o.t (n + 1) l
/-- what is wrong with a code: an error's number and place (-1: none) -/
def codeF (many : Int) (l : List Opx) : Int × Int :=
  if many < 1 ∨ 24 < many then (2, -1) else if 200 < l.length ∨ 8 < strs l then (8, -1) else if l = [] ∨ (l.getLast?.map outB).getD false = false then (3, -1) else opsF many 0 0 l
/-- what a kind that only writes writes: of x(A), x(B), what D has, Imm -/
def valV (k : Nat) (a b d i : Int) : Int :=
  if k = 1 then i else if k = 2 then a else if k = 3 then lo (a + b) else if k = 4 then lo (a - b) else if k = 5 then bits .and .u32 a b else if k = 6 then bits .or .u32 a b else if k = 7 then bits .xor .u32 a b else if k = 8 then bits .xor .u32 4294967295 (bits .or .u32 a b)
  else if k = 9 then (if lessB a b true = true then 1 else 0) else if k = 10 then (if lessB a b false = true then 1 else 0) else if k = 11 then shf 60 a b else if k = 12 then shf 62 a b else if k = 13 then shf 126 a b
  else if k = 14 then lo (a * b) else if k = 15 then hi (nm a true * nm b true) else if k = 16 then hi (a * b)
  else if b = 0 then d else if k = 17 then quo a b true else if k = 18 then rst a b true else if k = 19 then quo a b false else rst a b false
/-- a store that waits -/
structure Pend where
  a : Int
  s : Int
  v : Int
def Pend.put (m : Nat → Int) (p : Pend) : Nat → Int := upd m p.a p.s p.v
/-- memory as what waits would make it -/
def vw (m : Nat → Int) (p : List Pend) : Nat → Int := p.foldl Pend.put m
/-- registers, and what waits -/
structure Mc where
  x : Nat → Int
  p : List Pend
def setX (x : Nat → Int) (d v : Int) : Nat → Int := fun n => if n = d.toNat then v else x n
inductive Rs where
  | on (M : Mc)
  | trap
  | leave (to : Int)
/-- an op, by what registers and memory have (wt: what is watched) -/
def opR (m : Nat → Int) (wt : Int → Bool) (M : Mc) (o : Opx) : Rs :=
  if o.k = 21 then (if ov (sg (M.x o.a.toNat) + sg (M.x o.b.toNat)) = true then .trap else .on M)
  else if o.k = 22 then (if ov (sg (M.x o.a.toNat) - sg (M.x o.b.toNat)) = true then .trap else .on M)
  else if o.k = 23 then (if chk (lo (M.x o.a.toNat + o.i)) (if o.b < 0 then -o.b else o.b) = 0 then .on ⟨setX M.x o.d (ld (vw m M.p) (lo (M.x o.a.toNat + o.i)) (if o.b < 0 then -o.b else o.b) (decide (o.b < 0))), M.p⟩ else .trap)
  else if o.k = 24 then (if chk (lo (M.x o.a.toNat + o.i)) o.d = 0 ∧ wt (lo (M.x o.a.toNat + o.i) / 256) = false then .on ⟨M.x, M.p ++ [⟨lo (M.x o.a.toNat + o.i), o.d, M.x o.b.toNat⟩]⟩ else .trap)
  else if o.k = 25 then (if M.x o.a.toNat = 0 then .on M else .leave o.i)
  else if o.k = 26 then .leave o.i
  else if o.k = 27 then .leave (M.x o.a.toNat)
  else .on ⟨setX M.x o.d (valV o.k (M.x o.a.toNat) (M.x o.b.toNat) (M.x o.d.toNat) o.i), M.p⟩
inductive Out where
  | trap (t : Int)
  | leave (to : Int) (M : Mc)
  | fell
/-- ops one behind the other -/
def runX (m : Nat → Int) (wt : Int → Bool) : List Opx → Mc → Out
  | [], _ => .fell
  | o :: l, M => match opR m wt M o with
    | .on M' => runX m wt l M'
    | .trap => .trap o.t
    | .leave to => .leave to M
end Go.Proofs.YtcccaejjhodnkaaDoor
