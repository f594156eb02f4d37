/-
  Instructions made a code, in whole numbers: which ops, and that they are well.
-/
import Derived.Test.YtckcbnfobjmhpaaDoorKTab
import Derived.Test.YtckcbnfobjmhpaaDoorKOptPure2
namespace Go.Proofs.YtckcbnfobjmhpaaDoor.Low
open Num
set_option linter.unusedVariables false
/-- an instruction -/
structure Ix where
  k : Int
  s : Int
  t : Int
  d : Int
  m : Int
abbrev Ix.n (i : Ix) : Nat := i.k.toNat
/-- its cells are numbers of their types -/
structure Ix.bd (i : Ix) : Prop where
  k0 : -9223372036854775808 ≤ i.k
  k1 : i.k ≤ 9223372036854775807
  s0 : -9223372036854775808 ≤ i.s
  s1 : i.s ≤ 9223372036854775807
  t0 : -9223372036854775808 ≤ i.t
  t1 : i.t ≤ 9223372036854775807
  d0 : -9223372036854775808 ≤ i.d
  d1 : i.d ≤ 9223372036854775807
  m0 : 0 ≤ i.m
  m1 : i.m < 4294967296
/-- it has a word -/
def Ix.wordB (i : Ix) : Bool := decide (1 ≤ i.k) && decide (i.k < 54) && Tab.okB (Tab.sh i.n) i.s i.t i.d i.m
/-- its kind: 0 none, 1 sum, 2 branch, 3 trap, 4 load, 5 store -/
def Ix.kd (i : Ix) : Nat := if 0 ≤ i.k ∧ i.k < 54 then Tab.kdL.getD i.n 0 else 0
/-- a number that is at once, as it is wide -/
def immI (k : Nat) (m : Int) : Int := if k = 39 ∨ k = 40 ∨ k = 41 ∨ k = 42 then m else wd m 16 true
/-- how many bytes, and whether signed -/
def szI (k : Nat) : Int := if k = 46 ∨ k = 49 ∨ k = 51 then 1 else if k = 47 ∨ k = 50 ∨ k = 52 then 2 else 4
def sgI (k : Nat) : Bool := decide (k = 46 ∨ k = 47)
def opx (n : Nat) (d a b i t : Int) : Opx := ⟨kindS n, d, a, b, i, t⟩
def wrO (o : Opx) : List Opx := if o.d = 0 then [] else [o]
/-- operands of a result: which takes it, and of which two -/
def oD (k : Nat) (i : Ix) : Int := if 35 ≤ k ∧ k ≤ 41 then i.t else i.d
def oA (k : Nat) (i : Ix) : Int := if 1 ≤ k ∧ k ≤ 6 then i.t else i.s
def oB (k : Nat) (i : Ix) : Int := if 1 ≤ k ∧ k ≤ 3 then 34 else if 4 ≤ k ∧ k ≤ 6 then i.s else if 35 ≤ k ∧ k ≤ 41 then 34 else i.t
/-- the op by which it traps; 0: none -/
def ovK (k : Nat) : Nat := if k = 19 ∨ k = 35 then 21 else if k = 21 then 22 else 0
def rsK (k : Nat) : Nat :=
  if k = 21 ∨ k = 22 then 4 else if k = 23 ∨ k = 39 then 5 else if k = 24 ∨ k = 40 then 6 else if k = 25 ∨ k = 41 then 7 else if k = 26 then 8 else if k = 27 ∨ k = 37 then 9 else if k = 28 ∨ k = 38 then 10 else if k = 1 ∨ k = 4 then 11 else if k = 2 ∨ k = 5 then 12 else if k = 3 ∨ k = 6 then 13 else 3
def resL (i : Ix) (n : Int) : List Opx :=
  if oD i.n i = 0 ∧ ovK i.n = 0 then [] else
    (if oB i.n i = 34 then [opx 1 34 0 0 (immI i.n i.m) n] else []) ++ (if ovK i.n = 0 then [] else [opx (ovK i.n) 0 (oA i.n i) (oB i.n i) 0 n]) ++ wrO (opx (rsK i.n) (oD i.n i) (oA i.n i) (oB i.n i) 0 n)
def hiLoL (h l : Nat) (i : Ix) (n : Int) : List Opx := [opx h 32 i.s i.t 0 n, opx l 33 i.s i.t 0 n]
def sumL (i : Ix) (n : Int) : List Opx :=
  if i.n = 15 then hiLoL 15 14 i n else if i.n = 16 then hiLoL 16 14 i n else if i.n = 17 then hiLoL 18 17 i n else if i.n = 18 then hiLoL 20 19 i n
  else if i.n = 11 then wrO (opx 2 i.d 32 0 0 n) else if i.n = 13 then wrO (opx 2 i.d 33 0 0 n) else if i.n = 12 then [opx 2 32 i.s 0 0 n] else if i.n = 14 then [opx 2 33 i.s 0 0 n]
  else if i.n = 42 then wrO (opx 1 i.t 0 0 (lo (i.m * 65536)) n) else resL i n
def linkI (pc n : Int) : Int := lo (pc + 4 * (n + 2))
def brL (pc : Int) (i : Ix) (n : Int) : List Opx :=
  (if i.n = 31 ∨ i.n = 32 then [opx 7 35 i.s i.t 0 n] else if i.n = 33 ∨ i.n = 34 then [opx 9 35 0 i.s 0 n] else if i.n = 7 ∨ i.n = 8 then [opx 2 35 i.s 0 0 n] else [])
  ++ (if i.n = 30 then [opx 1 31 0 0 (linkI pc n) n] else if i.n = 8 then wrO (opx 1 i.d 0 0 (linkI pc n) n) else [])
def ldL (i : Ix) (n : Int) : List Opx := [opx 23 (if i.t = 0 then 36 else i.t) i.s (if sgI i.n = true then -szI i.n else szI i.n) (immI i.n i.m) n]
def stL (i : Ix) (n : Int) : List Opx := [opx 24 (szI i.n) i.s i.t (immI i.n i.m) n]
/-- the ops of an instruction -/
def insX (pc : Int) (i : Ix) (n : Int) : List Opx := if i.kd = 2 then brL pc i n else if i.kd = 4 then ldL i n else if i.kd = 5 then stL i n else sumL i n
def insXs (pc : Int) : List Ix → Int → List Opx
  | [], _ => []
  | i :: l, n => insX pc i n ++ insXs pc l (n + 1)
theorem insXs_app (pc : Int) : ∀ (a b : List Ix) (n : Int), insXs pc (a ++ b) n = insXs pc a n ++ insXs pc b (n + a.length)
  | [], b, n => by simp [insXs]
  | i :: a, b, n => by
    show insX pc i n ++ insXs pc (a ++ b) (n + 1) = (insX pc i n ++ insXs pc a (n + 1)) ++ insXs pc b (n + ((a.length + 1 : Nat) : Int))
    rw [insXs_app pc a b (n + 1), List.append_assoc]
    congr 3; omega
/-- where a branch at pc goes -/
def tgI (i : Ix) (pc : Int) : Int := if i.n = 29 ∨ i.n = 30 then bits .or .u32 (bits .and .u32 (lo (pc + 4)) 4026531840) (lo (4 * i.m)) else lo (lo (pc + 4) + lo (4 * immI i.n i.m))
def leaveB (i : Ix) (to be n : Int) : List Opx :=
  if i.n = 32 ∨ i.n = 34 then [opx 25 0 35 0 to n, opx 26 0 0 0 be n] else if i.n = 31 ∨ i.n = 33 then [opx 25 0 35 0 be n, opx 26 0 0 0 to n] else if i.n = 7 ∨ i.n = 8 then [opx 27 0 35 0 0 n] else [opx 26 0 0 0 to n]
/-- the last but one, where it is a branch -/
def lastBr (l : List Ix) : Option Ix := if 2 ≤ l.length then (match l[l.length - 2]? with | some i => if i.kd = 2 then some i else none | none => none) else none
def leaveL (pc : Int) (l : List Ix) : List Opx := match lastBr l with
  | some i => leaveB i (tgI i (lo (pc + 4 * ((l.length : Int) - 2)))) (lo (pc + 4 * l.length)) ((l.length : Int) - 1)
  | none => [opx 26 0 0 0 (lo (pc + 4 * l.length)) ((l.length : Int) - 1)]
def lowL (pc : Int) (l : List Ix) : List Opx := insXs pc l 0 ++ leaveL pc l
/-- stores of instructions -/
def stI : List Ix → Nat
  | [] => 0
  | i :: l => (if i.kd = 5 then 1 else 0) + stI l
theorem stI_app : ∀ a b : List Ix, stI (a ++ b) = stI a + stI b
  | [], b => by simp [stI]
  | i :: a, b => by simp [stI, stI_app a b]; omega
/-- is an instruction, number n of len, one of a region? -/
def insB (len n : Nat) (i : Ix) : Bool := i.wordB && decide (i.kd ≠ 3) && (decide (i.kd ≠ 2) || decide (n + 2 = len))
/-- are these instructions ones of a region? -/
def regB (len : Nat) : Nat → Nat → List Ix → Bool
  | _, _, [] => true
  | n, st, i :: l => insB len n i && decide (st + (if i.kd = 5 then 1 else 0) ≤ 8) && regB len (n + 1) (st + (if i.kd = 5 then 1 else 0)) l
/-- an error's number: 6 none, 2 bound, 4 kind -/
def regE (l : List Ix) : Nat := if l.length = 0 then 6 else if 24 < l.length then 2 else if regB l.length 0 0 l = true then 0 else 4
theorem regB_iff (len : Nat) : ∀ (l : List Ix) (n st : Nat), regB len n st l = true ↔ (∀ (j : Nat) (i : Ix), l[j]? = some i → insB len (n + j) i = true) ∧ (st ≤ 8 ∨ l = [] → st + stI l ≤ 8 ∨ l = []) ∧ (l ≠ [] → st + stI l ≤ 8)
  | [], n, st => by simp [regB]
  | i :: l, n, st => by
    have ih := regB_iff len l (n + 1) (st + (if i.kd = 5 then 1 else 0))
    show (insB len n i && decide (st + (if i.kd = 5 then 1 else 0) ≤ 8) && regB len (n + 1) (st + (if i.kd = 5 then 1 else 0)) l) = true ↔ _
    rw [Bool.and_eq_true, Bool.and_eq_true, ih, decide_eq_true_eq]
    have es : stI (i :: l) = (if i.kd = 5 then 1 else 0) + stI l := rfl
    constructor
    · rintro ⟨⟨h1, h2⟩, h3, h4, h5⟩
      refine ⟨fun j q hq => ?_, fun _ => .inl ?_, fun _ => ?_⟩
      · cases j with
        | zero => simp at hq; subst hq; simpa using h1
        | succ j => simp at hq; have := h3 j q hq; rwa [show n + (j + 1) = n + 1 + j by omega]
      all_goals
        rw [es]
        by_cases hl : l = []
        · subst hl; simp [stI]; omega
        · have := h5 hl; omega
    · rintro ⟨h1, h2, h3⟩
      have h4 := h3 (by simp)
      rw [es] at h4
      refine ⟨⟨by simpa using h1 0 i rfl, by omega⟩, fun j q hq => ?_, fun _ => ?_, fun _ => by omega⟩
      · have := h1 (j + 1) q (by simpa using hq); rwa [show n + (j + 1) = n + 1 + j by omega] at this
      · left; omega
/-- what a region's instructions are -/
structure RegOk (l : List Ix) : Prop where
  l0 : 1 ≤ l.length
  l1 : l.length ≤ 24
  st : stI l ≤ 8
  ins : ∀ (j : Nat) (i : Ix), l[j]? = some i → insB l.length j i = true
theorem regE_zero {l : List Ix} (h : regE l = 0) : RegOk l := by
  unfold regE at h
  split at h
  · cases h
  split at h
  · cases h
  split at h
  · rename_i h1 h2 h3
    obtain ⟨g1, g2, g3⟩ := (regB_iff l.length l 0 0).1 h3
    exact ⟨by omega, by omega, by have := g3 (by intro e; rw [e] at h1; exact h1 rfl); omega, fun j i hj => by simpa using g1 j i hj⟩
  · cases h
/-- what an instruction of a region is -/
structure InsOk (i : Ix) : Prop where
  k1 : 1 ≤ i.n
  k2 : i.n < 54
  kk : i.k = i.n
  s0 : 0 ≤ i.s
  s1 : i.s < 32
  t0 : 0 ≤ i.t
  t1 : i.t < 32
  d0 : 0 ≤ i.d
  d1 : i.d < 32
  kd : i.kd = Tab.kdL.getD i.n 0
  nt : i.kd ≠ 3
  ok : Tab.okB (Tab.sh i.n) i.s i.t i.d i.m = true
theorem insB_ok {len n : Nat} {i : Ix} (h : insB len n i = true) : InsOk i ∧ (i.kd = 2 → n + 2 = len) := by
  unfold insB Ix.wordB at h
  simp only [Bool.and_eq_true, Bool.or_eq_true, decide_eq_true_eq] at h
  obtain ⟨⟨⟨⟨h1, h2⟩, h3⟩, h4⟩, h5⟩ := h
  have h3' := h3
  unfold Tab.okB at h3
  simp only [Bool.and_eq_true, decide_eq_true_eq] at h3
  obtain ⟨⟨⟨a, b⟩, c⟩, d⟩ := h3
  refine ⟨⟨by unfold Ix.n; omega, by unfold Ix.n; omega, by unfold Ix.n; omega, ?_, ?_, ?_, ?_, ?_, ?_, by unfold Ix.kd; rw [if_pos (by omega)], h4, h3'⟩, fun e => by rcases h5 with h5 | h5; exact absurd e h5; exact h5⟩
  · rcases Tab.well_of a with h | h <;> omega
  · rcases Tab.well_of a with h | h <;> omega
  · rcases Tab.well_of b with h | h <;> omega
  · rcases Tab.well_of b with h | h <;> omega
  · rcases Tab.well_of c with h | h <;> omega
  · rcases Tab.well_of c with h | h <;> omega
end Go.Proofs.YtckcbnfobjmhpaaDoor.Low
