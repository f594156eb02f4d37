/-
  Codes in whole numbers: kinds of ops, what is wrong with an op or a code, what an op makes of registers and memory.
-/
import Derived.Test.YtckcbnfobjmhpaaDoorKPure
namespace Go.Proofs.YtckcbnfobjmhpaaDoor
open Num
set_option linter.unusedVariables false
/-- the kinds' words: 1 set, 2 copy, 3 to 20 sums (17 to 20: quotients), 21 over+, 22 over-, 23 load, 24 store, 25 if, 26 out, 27 outr -/
def kinds : List (List UInt8) := [[], [115, 101, 116], [99, 111, 112, 121], [97, 100, 100], [115, 117, 98], [97, 110, 100], [111, 114], [120, 111, 114], [110, 111, 114], [115, 108, 116], [115, 108, 116, 117], [115, 104, 108], [115, 104, 114], [115, 97, 114], [109, 117, 108], [109, 117, 108, 104], [109, 117, 108, 104, 117], [113, 117, 111], [114, 101, 109], [113, 117, 111, 117], [114, 101, 109, 117], [111, 118, 101, 114, 43], [111, 118, 101, 114, 45], [108, 111, 97, 100], [115, 116, 111, 114, 101], [105, 102], [111, 117, 116], [111, 117, 116, 114]]
def kindS (k : Nat) : ByteArray := ⟨(kinds.getD k []).toArray⟩
/-- a kind's number; 0: there is none -/
def kn (s : ByteArray) : Nat := ((List.range 28).find? fun k => decide (1 ≤ k ∧ s.data.toList = kinds.getD k [])).getD 0
theorem kn_lt (s : ByteArray) : kn s < 28 := by
  unfold kn
  cases hf : (List.range 28).find? (fun k => decide (1 ≤ k ∧ s.data.toList = kinds.getD k [])) with
  | none => decide
  | some j => exact List.mem_range.1 (List.mem_of_find?_eq_some hf)
theorem kn_word {s : ByteArray} (h : kn s ≠ 0) : s = kindS (kn s) := by
  have e : ∀ n, kn s = n → n ≠ 0 → s.data.toList = kinds.getD n [] := by
    intro n hn h0
    unfold kn at hn
    cases hf : (List.range 28).find? (fun k => decide (1 ≤ k ∧ s.data.toList = kinds.getD k [])) with
    | none => rw [hf] at hn; exact absurd hn.symm h0
    | some j =>
      rw [hf] at hn
      obtain rfl : j = n := hn
      have := List.find?_some hf
      simp only [decide_eq_true_eq] at this
      exact this.2
  have := e _ rfl h
  obtain ⟨⟨l⟩⟩ := s
  unfold kindS
  rw [← this]
theorem kn_kind' : ∀ k, k < 28 → 1 ≤ k → kn (kindS k) = k := by decide
theorem kn_kind (k : Nat) (h1 : 1 ≤ k) (h2 : k < 28) : kn (kindS k) = k := kn_kind' k h2 h1
theorem kn_none {s : ByteArray} (h : kn s = 0) : ∀ k, 1 ≤ k → k < 28 → s.data.toList ≠ kinds.getD k [] := by
  intro k h1 h2 e
  have : s = kindS k := by obtain ⟨⟨l⟩⟩ := s; unfold kindS; rw [← e]
  rw [this, kn_kind k h1 h2] at h
  omega
/-- an op -/
structure Opx where
  s : ByteArray
  d : Int
  a : Int
  b : Int
  i : Int
  t : Int
abbrev Opx.k (o : Opx) : Nat := kn o.s
structure Opx.ok (o : Opx) : Prop where
  d0 : -9223372036854775808 ≤ o.d
  d1 : o.d ≤ 9223372036854775807
  a0 : -9223372036854775808 ≤ o.a
  a1 : o.a ≤ 9223372036854775807
  b0 : -9223372036854775808 ≤ o.b
  b1 : o.b ≤ 9223372036854775807
  i0 : 0 ≤ o.i
  i1 : o.i < 4294967296
  t0 : -9223372036854775808 ≤ o.t
  t1 : o.t ≤ 9223372036854775807
/-- what a kind's fields are: 0 nothing, 1 a register that is read, 2 one that is written, 3 bytes that are loaded, 4 bytes that are stored -/
def rD (k : Nat) : Nat := if 1 ≤ k ∧ k ≤ 20 ∨ k = 23 then 2 else if k = 24 then 4 else 0
def rA (k : Nat) : Nat := if 2 ≤ k ∧ k ≤ 25 ∨ k = 27 then 1 else 0
def rB (k : Nat) : Nat := if 3 ≤ k ∧ k ≤ 22 ∨ k = 24 then 1 else if k = 23 then 3 else 0
def rI (k : Nat) : Bool := decide (k = 1 ∨ 23 ≤ k ∧ k ≤ 26)
/-- is a number one of a role? -/
def alw (r : Nat) (n : Int) : Bool := if r = 1 then decide (0 ≤ n) && decide (n < 64) else if r = 2 then decide (1 ≤ n) && decide (n < 64) else if r = 3 then decide (n = 1 ∨ n = 2 ∨ n = 4 ∨ n = -1 ∨ n = -2) else if r = 4 then decide (n = 1 ∨ n = 2 ∨ n = 4) else true
def bndB (o : Opx) (many : Int) : Bool := alw (rD o.k) o.d && alw (rA o.k) o.a && alw (rB o.k) o.b && decide (0 ≤ o.t) && decide (o.t < many)
def shpB (o : Opx) : Bool := (decide (rD o.k ≠ 0) || decide (o.d = 0)) && (decide (rA o.k ≠ 0) || decide (o.a = 0)) && (decide (rB o.k ≠ 0) || decide (o.b = 0)) && (rI o.k || decide (o.i = 0))
/-- what is wrong with an op alone: an error's number -/
def opE (o : Opx) (many : Int) : Int := if o.k = 0 then 4 else if bndB o many = false then 2 else if shpB o = false then 3 else 0
def outB (o : Opx) : Bool := decide (o.k = 26 ∨ o.k = 27)
def strs (l : List Opx) : Nat := (l.filter fun o => decide (o.k = 24)).length
theorem strs_snoc (l : List Opx) (o : Opx) : strs (l ++ [o]) = strs l + (if o.k = 24 then 1 else 0) := by
  unfold strs; rw [List.filter_append, List.length_append]; by_cases h : o.k = 24 <;> simp [h]
theorem strs_le (l : List Opx) : strs l ≤ l.length := List.length_filter_le _ _
/-- what is wrong with op number n of a code of len ops, behind one of instruction ah -/
def opF (o : Opx) (many : Int) (ah : Int) (last : Bool) : Int := if opE o many ≠ 0 then opE o many else if o.t < ah ∨ outB o = true ∧ last = false then 3 else 0
/-- the first op that is not well: its error and place; (0, -1): there is none -/
def opsF (many : Int) : Int → Nat → List Opx → Int × Int
  | _, _, [] => (0, -1)
  | ah, n, o :: l => if opF o many ah l.isEmpty ≠ 0 then (opF o many ah l.isEmpty, n) else opsF many o.t (n + 1) l
/-- what is wrong with a code: an error's number and place (-1: none) -/
def codeF (many : Int) (l : List Opx) : Int × Int :=
  if many < 1 ∨ 24 < many then (2, -1) else if 200 < l.length ∨ 8 < strs l then (8, -1) else if l = [] ∨ (l.getLast?.map outB).getD false = false then (3, -1) else opsF many 0 0 l
/-- what a kind that only writes writes: of x(A), x(B), what D has, Imm -/
def valV (k : Nat) (a b d i : Int) : Int :=
  if k = 1 then i else if k = 2 then a else if k = 3 then lo (a + b) else if k = 4 then lo (a - b) else if k = 5 then bits .and .u32 a b else if k = 6 then bits .or .u32 a b else if k = 7 then bits .xor .u32 a b else if k = 8 then bits .xor .u32 4294967295 (bits .or .u32 a b)
  else if k = 9 then (if lessB a b true = true then 1 else 0) else if k = 10 then (if lessB a b false = true then 1 else 0) else if k = 11 then shf 60 a b else if k = 12 then shf 62 a b else if k = 13 then shf 126 a b
  else if k = 14 then lo (a * b) else if k = 15 then hi (nm a true * nm b true) else if k = 16 then hi (a * b)
  else if b = 0 then d else if k = 17 then quo a b true else if k = 18 then rst a b true else if k = 19 then quo a b false else rst a b false
/-- a store that waits -/
structure Pend where
  a : Int
  s : Int
  v : Int
def Pend.put (m : Nat → Int) (p : Pend) : Nat → Int := upd m p.a p.s p.v
/-- memory as what waits would make it -/
def vw (m : Nat → Int) (p : List Pend) : Nat → Int := p.foldl Pend.put m
/-- registers, and what waits -/
structure Mc where
  x : Nat → Int
  p : List Pend
def setX (x : Nat → Int) (d v : Int) : Nat → Int := fun n => if n = d.toNat then v else x n
inductive Rs where
  | on (M : Mc)
  | trap
  | leave (to : Int)
/-- an op, by what registers and memory have (wt: what is watched) -/
def opR (m : Nat → Int) (wt : Int → Bool) (M : Mc) (o : Opx) : Rs :=
  if o.k = 21 then (if ov (sg (M.x o.a.toNat) + sg (M.x o.b.toNat)) = true then .trap else .on M)
  else if o.k = 22 then (if ov (sg (M.x o.a.toNat) - sg (M.x o.b.toNat)) = true then .trap else .on M)
  else if o.k = 23 then (if chk (lo (M.x o.a.toNat + o.i)) (if o.b < 0 then -o.b else o.b) = 0 then .on ⟨setX M.x o.d (ld (vw m M.p) (lo (M.x o.a.toNat + o.i)) (if o.b < 0 then -o.b else o.b) (decide (o.b < 0))), M.p⟩ else .trap)
  else if o.k = 24 then (if chk (lo (M.x o.a.toNat + o.i)) o.d = 0 ∧ wt (lo (M.x o.a.toNat + o.i) / 256) = false then .on ⟨M.x, M.p ++ [⟨lo (M.x o.a.toNat + o.i), o.d, M.x o.b.toNat⟩]⟩ else .trap)
  else if o.k = 25 then (if M.x o.a.toNat = 0 then .on M else .leave o.i)
  else if o.k = 26 then .leave o.i
  else if o.k = 27 then .leave (M.x o.a.toNat)
  else .on ⟨setX M.x o.d (valV o.k (M.x o.a.toNat) (M.x o.b.toNat) (M.x o.d.toNat) o.i), M.p⟩
inductive Out where
  | trap (t : Int)
  | leave (to : Int) (M : Mc)
  | fell
/-- ops one behind the other -/
def runX (m : Nat → Int) (wt : Int → Bool) : List Opx → Mc → Out
  | [], _ => .fell
  | o :: l, M => match opR m wt M o with
    | .on M' => runX m wt l M'
    | .trap => .trap o.t
    | .leave to => .leave to M
end Go.Proofs.YtckcbnfobjmhpaaDoor
/-
  Better codes in whole numbers: what an op reads and writes, what is known, what is dead; what is left of a code.
-/
namespace Go.Proofs.YtckcbnfobjmhpaaDoor
open Num
set_option linter.unusedVariables false
/-- the register that an op writes; 0: none -/
def wrX (o : Opx) : Int := if rD o.k = 2 then o.d else 0
def dvB (k : Nat) : Bool := decide (17 ≤ k ∧ k ≤ 20)
/-- the registers that an op reads -/
def rdX (o : Opx) : List Int := (if rA o.k = 1 then [o.a] else []) ++ (if rB o.k = 1 then [o.b] else []) ++ (if dvB o.k = true then [o.d] else [])
/-- what known registers have -/
abbrev Fx := Int → Option Int
def fx0 : Fx := fun r => if r = 0 then some 0 else none
/-- is an op one whose result is known? -/
def tellB (f : Fx) (o : Opx) : Bool := decide (3 ≤ o.k ∧ o.k ≤ 16) && (f o.a).isSome && (f o.b).isSome
/-- an op's result, where it is known -/
def resF (f : Fx) (o : Opx) : Option Int := if o.k = 2 ∧ (f o.a).isSome = true then f o.a else if tellB f o = true then some (valV o.k ((f o.a).getD 0) ((f o.b).getD 0) 0 0) else none
def putF (f : Fx) (r : Int) (v : Option Int) : Fx := fun x => if x = r then v else f x
/-- what is known behind an op -/
def learnF (f : Fx) (o : Opx) : Fx := if wrX o = 0 then f else putF f (wrX o) (if o.k = 1 then some o.i else none)
def knownC : Fx → List Opx → Nat
  | _, [] => 0
  | f, o :: l => (if tellB f o = true then 1 else 0) + knownC (learnF f o) l
def factsF (f : Fx) (l : List Opx) : Fx := l.foldl learnF f
/-- an op as it is told -/
def toldO (f : Fx) (o : Opx) : Opx := match resF f o with
  | some v => ⟨kindS 1, o.d, 0, 0, v, o.t⟩
  | none => o
def workF : Fx → List Opx → List Opx
  | _, [] => []
  | f, o :: l => toldO f o :: workF (learnF f (toldO f o)) l
abbrev Nx := Int → Bool
/-- which registers are asked for ahead of an op -/
def passN (n : Nx) (o : Opx) : Nx := fun r => if r ∈ rdX o then true else if r = wrX o then false else if 25 ≤ o.k ∧ 0 ≤ r ∧ r ≤ 33 then true else n r
/-- is an op dead? -/
def spareB (n : Nx) (o : Opx) : Bool := decide (wrX o ≠ 0) && decide (o.k ≠ 23) && !n (wrX o)
def needN : List Opx → Nx
  | [] => fun _ => false
  | o :: l => passN (needN l) o
def deadC : List Opx → Nat
  | [] => 0
  | o :: l => (if spareB (needN l) o = true then 1 else 0) + deadC l
def dropD : List Opx → List Opx
  | [] => []
  | o :: l => if spareB (needN (dropD l)) o = true then dropD l else o :: dropD l
/-- what Opt makes of ops -/
def optL (lev : Int) (l : List Opx) : List Opx := if lev ≤ 0 then l else if lev = 1 then workF fx0 l else dropD (workF fx0 l)
theorem workF_len : ∀ (l : List Opx) (f : Fx), (workF f l).length = l.length
  | [], _ => rfl
  | o :: l, f => by simp [workF, workF_len l]
theorem dropD_sub : ∀ l : List Opx, (dropD l).Sublist l
  | [] => .slnil
  | o :: l => by
    unfold dropD
    split
    · exact (dropD_sub l).cons _
    · exact (dropD_sub l).cons_cons _
theorem dropD_len (l : List Opx) : (dropD l).length ≤ l.length := (dropD_sub l).length_le
theorem told_some {f : Fx} {o : Opx} {v : Int} (h : resF f o = some v) : toldO f o = ⟨kindS 1, o.d, 0, 0, v, o.t⟩ := by unfold toldO; rw [h]
theorem told_none {f : Fx} {o : Opx} (h : resF f o = none) : toldO f o = o := by unfold toldO; rw [h]
theorem res_none_tell {f : Fx} {o : Opx} (h : resF f o = none) : tellB f o = false := by
  cases ht : tellB f o with
  | false => rfl
  | true =>
    unfold resF at h
    split at h
    · rename_i h2; rw [h] at h2; simp at h2
    · cases h
theorem told_tell (f : Fx) (o : Opx) : tellB f (toldO f o) = false := by
  cases h : resF f o with
  | some v => rw [told_some h]; simp [tellB, Opx.k, kn_kind]
  | none => rw [told_none h]; exact res_none_tell h
/-- what was told leaves nothing known -/
theorem knownC_work : ∀ (l : List Opx) (f : Fx), knownC f (workF f l) = 0
  | [], _ => rfl
  | o :: l, f => by
    show (if tellB f (toldO f o) = true then 1 else 0) + knownC (learnF f (toldO f o)) (workF (learnF f (toldO f o)) l) = 0
    rw [told_tell, knownC_work l]; rfl
theorem deadC_drop : ∀ l : List Opx, deadC (dropD l) = 0
  | [] => rfl
  | o :: l => by
    unfold dropD
    split
    · exact deadC_drop l
    · rename_i h
      show (if spareB (needN (dropD l)) o = true then 1 else 0) + deadC (dropD l) = 0
      rw [if_neg h, deadC_drop l]
/-- ops that are well, behind one of instruction ah -/
def wellL (many : Int) : Int → List Opx → Prop
  | _, [] => True
  | ah, o :: l => opE o many = 0 ∧ ah ≤ o.t ∧ (outB o = true → l = []) ∧ wellL many o.t l
theorem opF_zero {o : Opx} {many ah : Int} {last : Bool} : opF o many ah last = 0 ↔ opE o many = 0 ∧ ah ≤ o.t ∧ (outB o = true → last = true) := by
  unfold opF
  by_cases h : opE o many = 0
  · rw [if_neg (by simpa using h)]
    by_cases h2 : o.t < ah ∨ outB o = true ∧ last = false
    · rw [if_pos h2]
      constructor
      · intro h; cases h
      · rintro ⟨_, h3, h4⟩
        rcases h2 with h2 | ⟨h5, h6⟩
        · omega
        · rw [h4 h5] at h6; cases h6
    · rw [if_neg h2]
      refine ⟨fun _ => ⟨h, by omega, fun h3 => ?_⟩, fun _ => rfl⟩
      cases last with
      | true => rfl
      | false => exact absurd (.inr ⟨h3, rfl⟩) h2
  · rw [if_pos h]
    exact ⟨fun h2 => absurd h2 h, fun h2 => h2.1⟩
theorem opsF_well (many : Int) : ∀ (l : List Opx) (ah : Int) (n : Nat), opsF many ah n l = (0, -1) ↔ wellL many ah l
  | [], ah, n => by simp [opsF, wellL]
  | o :: l, ah, n => by
    unfold opsF wellL
    by_cases h : opF o many ah l.isEmpty = 0
    · rw [if_neg (by simpa using h), opsF_well many l]
      have := opF_zero.1 h
      exact ⟨fun h2 => ⟨this.1, this.2.1, fun h3 => by simpa using this.2.2 h3, h2⟩, fun h2 => h2.2.2.2⟩
    · rw [if_pos h]
      constructor
      · intro e; have := congrArg Prod.snd e; simp at this
      · rintro ⟨h1, h2, h3, _⟩
        exact absurd (opF_zero.2 ⟨h1, h2, fun h4 => by rw [h3 h4]; rfl⟩) h
theorem wellL_mono {many : Int} {ah ah' : Int} (h : ah' ≤ ah) : ∀ {l : List Opx}, wellL many ah l → wellL many ah' l
  | [], _ => trivial
  | _ :: _, ⟨h1, h2, h3, h4⟩ => ⟨h1, by omega, h3, h4⟩
theorem wellL_sub {many : Int} {l l' : List Opx} (hs : l'.Sublist l) : ∀ {ah : Int}, wellL many ah l → wellL many ah l' := by
  induction hs with
  | slnil => intro ah h; exact h
  | cons a hs ih => intro ah h; exact wellL_mono h.2.1 (ih h.2.2.2)
  | cons_cons a hs ih =>
    intro ah h
    exact ⟨h.1, h.2.1, fun h2 => (by have := h.2.2.1 h2; rw [this] at hs; exact List.sublist_nil.1 hs), ih h.2.2.2⟩
theorem wellL_mem {many : Int} : ∀ {l : List Opx} {ah : Int}, wellL many ah l → ∀ o ∈ l, opE o many = 0
  | _ :: _, _, h, o, hm => by
    rcases List.mem_cons.1 hm with rfl | hm
    · exact h.1
    · exact wellL_mem h.2.2.2 o hm
/-- a code that is well -/
structure Well (many : Int) (l : List Opx) : Prop where
  m0 : 1 ≤ many
  m1 : many ≤ 24
  len : l.length ≤ 200
  st : strs l ≤ 8
  last : ∃ o, l.getLast? = some o ∧ outB o = true
  ops : wellL many 0 l
theorem Well.ne {many : Int} {l : List Opx} (W : Well many l) : l ≠ [] := by
  obtain ⟨o, h, _⟩ := W.last
  intro e; rw [e] at h; cases h
theorem codeF_well {many : Int} {l : List Opx} : codeF many l = (0, -1) ↔ Well many l := by
  unfold codeF
  by_cases h1 : many < 1 ∨ 24 < many
  · rw [if_pos h1]; exact ⟨fun h => (by cases h), fun W => by have := W.m0; have := W.m1; omega⟩
  rw [if_neg h1]
  by_cases h2 : 200 < l.length ∨ 8 < strs l
  · rw [if_pos h2]; exact ⟨fun h => (by cases h), fun W => by have := W.len; have := W.st; omega⟩
  rw [if_neg h2]
  by_cases h3 : l = [] ∨ (l.getLast?.map outB).getD false = false
  · rw [if_pos h3]
    refine ⟨fun h => (by cases h), fun W => ?_⟩
    obtain ⟨o, ho, hb⟩ := W.last
    rcases h3 with h3 | h3
    · exact absurd h3 W.ne
    · rw [ho] at h3; simp [hb] at h3
  rw [if_neg h3, opsF_well]
  refine ⟨fun h => ⟨by omega, by omega, by omega, by omega, ?_, h⟩, fun W => W.ops⟩
  cases hl : l.getLast? with
  | none => exact absurd (List.getLast?_eq_none_iff.1 hl) (fun e => h3 (.inl e))
  | some o =>
    refine ⟨o, rfl, ?_⟩
    cases hb : outB o with
    | true => rfl
    | false => exact absurd (.inr (by rw [hl]; exact hb)) h3
theorem wrX_out {o : Opx} (h : outB o = true) : wrX o = 0 := by
  unfold outB at h
  simp only [decide_eq_true_eq] at h
  unfold wrX rD
  rcases h with h | h <;> simp [h]
theorem spare_out {o : Opx} (n : Nx) (h : outB o = true) : spareB n o = false := by
  unfold spareB; rw [wrX_out h]; simp
theorem dropD_last : ∀ {l : List Opx} {o : Opx}, l.getLast? = some o → outB o = true → (dropD l).getLast? = some o
  | [], _, h, _ => by cases h
  | [a], o, h, hb => by
    obtain rfl : a = o := by simpa using h
    show (if spareB (needN (dropD [])) a = true then dropD [] else a :: dropD []).getLast? = _
    rw [spare_out _ hb]; rfl
  | a :: b :: l, o, h, hb => by
    have h2 : (b :: l).getLast? = some o := by rw [List.getLast?_cons_cons] at h; exact h
    have ih := dropD_last h2 hb
    unfold dropD
    split
    · exact ih
    · cases hd : dropD (b :: l) with
      | nil => rw [hd] at ih; cases ih
      | cons x y => rw [List.getLast?_cons_cons, ← hd]; exact ih
theorem strs_sub {l l' : List Opx} (hs : l'.Sublist l) : strs l' ≤ strs l := (hs.filter _).length_le
theorem Well.drop {many : Int} {l : List Opx} (W : Well many l) : Well many (dropD l) := by
  obtain ⟨o, h1, h2⟩ := W.last
  exact ⟨W.m0, W.m1, Nat.le_trans (dropD_len l) W.len, Nat.le_trans (strs_sub (dropD_sub l)) W.st, ⟨o, dropD_last h1 h2, h2⟩, wellL_sub (dropD_sub l) W.ops⟩
/-- what a kind's result takes of its op -/
theorem res_kind {f : Fx} {o : Opx} {v : Int} (h : resF f o = some v) : 2 ≤ o.k ∧ o.k ≤ 16 := by
  unfold resF at h
  split at h
  · rename_i h2; omega
  · split at h
    · rename_i h2
      unfold tellB at h2
      simp only [Bool.and_eq_true, decide_eq_true_eq] at h2
      omega
    · cases h
theorem opE_zero {o : Opx} {many : Int} : opE o many = 0 ↔ o.k ≠ 0 ∧ bndB o many = true ∧ shpB o = true := by
  unfold opE
  by_cases h : o.k = 0
  · rw [if_pos h]; exact ⟨fun e => (by cases e), fun e => absurd h e.1⟩
  rw [if_neg h]
  by_cases h2 : bndB o many = false
  · rw [if_pos h2]; exact ⟨fun e => (by cases e), fun e => by rw [h2] at e; cases e.2.1⟩
  rw [if_neg h2]
  by_cases h3 : shpB o = false
  · rw [if_pos h3]; exact ⟨fun e => (by cases e), fun e => by rw [h3] at e; cases e.2.2⟩
  rw [if_neg h3]
  exact ⟨fun _ => ⟨h, by simpa using h2, by simpa using h3⟩, fun _ => rfl⟩
theorem told_opE {f : Fx} {o : Opx} {many : Int} (h : opE o many = 0) : opE (toldO f o) many = 0 := by
  cases hr : resF f o with
  | none => rw [told_none hr]; exact h
  | some v =>
    rw [told_some hr]
    have hk := res_kind hr
    obtain ⟨_, hb, _⟩ := opE_zero.1 h
    refine opE_zero.2 ⟨by simp [Opx.k, kn_kind], ?_, ?_⟩
    · unfold bndB at hb ⊢
      simp only [Bool.and_eq_true] at hb
      have e1 : rD o.k = 2 := by unfold rD; rw [if_pos (by omega)]
      rw [e1] at hb
      simp only [Opx.k, kn_kind 1 (by omega) (by omega)]
      simp only [Bool.and_eq_true]
      exact ⟨⟨⟨⟨hb.1.1.1.1, by simp [rA, alw]⟩, by simp [rB, alw]⟩, hb.1.2⟩, hb.2⟩
    · simp [shpB, Opx.k, kn_kind, rD, rA, rB, rI]
theorem told_t (f : Fx) (o : Opx) : (toldO f o).t = o.t := by
  cases hr : resF f o with
  | none => rw [told_none hr]
  | some v => rw [told_some hr]
theorem told_k {f : Fx} {o : Opx} : (toldO f o).k = o.k ∨ ((toldO f o).k = 1 ∧ 2 ≤ o.k ∧ o.k ≤ 16) := by
  cases hr : resF f o with
  | none => rw [told_none hr]; exact .inl rfl
  | some v => rw [told_some hr]; exact .inr ⟨by simp [Opx.k, kn_kind], res_kind hr⟩
theorem told_out (f : Fx) (o : Opx) : outB (toldO f o) = outB o := by
  unfold outB
  rcases told_k (f := f) (o := o) with h | ⟨h1, h2⟩
  · rw [h]
  · rw [h1]; simp; omega
theorem told_out_same {f : Fx} {o : Opx} (h : outB o = true) : toldO f o = o := by
  cases hr : resF f o with
  | none => exact told_none hr
  | some v => have := res_kind hr; unfold outB at h; simp at h; omega
theorem work_nil {f : Fx} {l : List Opx} (h : l = []) : workF f l = [] := by subst h; rfl
theorem wellL_work {many : Int} : ∀ {l : List Opx} {ah : Int} {f : Fx}, wellL many ah l → wellL many ah (workF f l)
  | [], _, _, _ => trivial
  | o :: l, ah, f, h => by
    refine ⟨told_opE h.1, by rw [told_t]; exact h.2.1, fun h2 => work_nil (h.2.2.1 (by rw [← told_out f o]; exact h2)), ?_⟩
    rw [told_t]
    exact wellL_work h.2.2.2
theorem strs_cons (o : Opx) (l : List Opx) : strs (o :: l) = (if o.k = 24 then 1 else 0) + strs l := by
  unfold strs; rw [List.filter_cons]; by_cases h : o.k = 24 <;> simp [h]; omega
theorem strs_work : ∀ (l : List Opx) (f : Fx), strs (workF f l) = strs l
  | [], _ => rfl
  | o :: l, f => by
    show strs (toldO f o :: workF (learnF f (toldO f o)) l) = _
    rw [strs_cons, strs_cons, strs_work l]
    congr 1
    rcases told_k (f := f) (o := o) with h | ⟨h1, h2⟩
    · rw [h]
    · rw [h1, if_neg (by omega), if_neg (by omega)]
theorem work_last : ∀ {l : List Opx} {o : Opx} {f : Fx}, l.getLast? = some o → outB o = true → (workF f l).getLast? = some o
  | [], _, _, h, _ => by cases h
  | [a], o, f, h, hb => by
    obtain rfl : a = o := by simpa using h
    show [toldO f a].getLast? = _
    rw [told_out_same hb]; rfl
  | a :: b :: l, o, f, h, hb => by
    have h2 : (b :: l).getLast? = some o := by rw [List.getLast?_cons_cons] at h; exact h
    have ih := work_last (f := learnF f (toldO f a)) h2 hb
    show (toldO f a :: toldO (learnF f (toldO f a)) b :: workF _ l).getLast? = _
    rw [List.getLast?_cons_cons]; exact ih
theorem Well.work {many : Int} {l : List Opx} (W : Well many l) (f : Fx) : Well many (workF f l) := by
  obtain ⟨o, h1, h2⟩ := W.last
  exact ⟨W.m0, W.m1, by rw [workF_len]; exact W.len, by rw [strs_work]; exact W.st, ⟨o, work_last h1 h2, h2⟩, wellL_work W.ops⟩
theorem Well.opt {many : Int} {l : List Opx} (W : Well many l) (lev : Int) : Well many (optL lev l) := by
  unfold optL
  split
  · exact W
  · split
    · exact W.work _
    · exact (W.work _).drop
theorem optL_len (lev : Int) (l : List Opx) : (optL lev l).length ≤ l.length := by
  unfold optL
  split
  · exact Nat.le_refl _
  · split
    · rw [workF_len]; exact Nat.le_refl _
    · exact Nat.le_trans (dropD_len _) (by rw [workF_len]; exact Nat.le_refl _)
end Go.Proofs.YtckcbnfobjmhpaaDoor
