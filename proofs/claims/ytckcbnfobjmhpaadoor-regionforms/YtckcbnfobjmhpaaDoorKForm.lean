/-
  The texts of instructions, written and read by forms, and as the document's answer reads them; one is the other. Lists of bytes, no Go in sight.
-/
import Derived.Test.YtckcbnfobjmhpaaDoorTab
import Derived.Test.YtckcbnfobjmhpaaDoorKTxt
namespace Go.Proofs.YtckcbnfobjmhpaaDoor.Fm
open Go.Lib Tab Txt
set_option linter.unusedVariables false
/-- the names, and the order of the fields in a text -/
def nmL : List (List UInt8) := [[], [115, 108, 108], [115, 114, 108], [115, 114, 97], [115, 108, 108, 118], [115, 114, 108, 118], [115, 114, 97, 118], [106, 114], [106, 97, 108, 114], [115, 121, 115, 99, 97, 108, 108], [98, 114, 101, 97, 107], [109, 102, 104, 105], [109, 116, 104, 105], [109, 102, 108, 111], [109, 116, 108, 111], [109, 117, 108, 116], [109, 117, 108, 116, 117], [100, 105, 118], [100, 105, 118, 117], [97, 100, 100], [97, 100, 100, 117], [115, 117, 98], [115, 117, 98, 117], [97, 110, 100], [111, 114], [120, 111, 114], [110, 111, 114], [115, 108, 116], [115, 108, 116, 117], [106], [106, 97, 108], [98, 101, 113], [98, 110, 101], [98, 108, 101, 122], [98, 103, 116, 122], [97, 100, 100, 105], [97, 100, 100, 105, 117], [115, 108, 116, 105], [115, 108, 116, 105, 117], [97, 110, 100, 105], [111, 114, 105], [120, 111, 114, 105], [108, 117, 105], [109, 102, 99, 48], [109, 116, 99, 48], [101, 114, 101, 116], [108, 98], [108, 104], [108, 119], [108, 98, 117], [108, 104, 117], [115, 98], [115, 104], [115, 119]]
def orL : List (List UInt8) := [[], [68, 84, 97], [68, 84, 97], [68, 84, 97], [68, 84, 83], [68, 84, 83], [68, 84, 83], [83], [68, 83], [], [], [68], [83], [68], [83], [83, 84], [83, 84], [83, 84], [83, 84], [68, 83, 84], [68, 83, 84], [68, 83, 84], [68, 83, 84], [68, 83, 84], [68, 83, 84], [68, 83, 84], [68, 83, 84], [68, 83, 84], [68, 83, 84], [106], [106], [83, 84, 110], [83, 84, 110], [83, 110], [83, 110], [84, 83, 110], [84, 83, 110], [84, 83, 110], [84, 83, 110], [84, 83, 117], [84, 83, 117], [84, 83, 117], [84, 117], [84, 68], [84, 68], [], [84, 109], [84, 109], [84, 109], [84, 109], [84, 109], [84, 109], [84, 109], [84, 109]]
def nme (k : Nat) : List UInt8 := nmL.getD k []
def ordr (k : Nat) : List UInt8 := orL.getD k []
def fmL : List Nat := [0, 1, 1, 1, 2, 2, 2, 3, 4, 0, 0, 5, 3, 5, 3, 6, 6, 6, 6, 7, 7, 7, 7, 7, 7, 7, 7, 7, 7, 8, 8, 9, 9, 10, 10, 11, 11, 11, 11, 12, 12, 12, 13, 14, 14, 0, 15, 15, 15, 15, 15, 15, 15, 15]
def fL : List (List UInt8) := [[], [32, 36, 68, 44, 32, 36, 84, 44, 32, 97], [32, 36, 68, 44, 32, 36, 84, 44, 32, 36, 83], [32, 36, 83], [32, 36, 68, 44, 32, 36, 83], [32, 36, 68], [32, 36, 83, 44, 32, 36, 84], [32, 36, 68, 44, 32, 36, 83, 44, 32, 36, 84], [32, 106], [32, 36, 83, 44, 32, 36, 84, 44, 32, 105], [32, 36, 83, 44, 32, 105], [32, 36, 84, 44, 32, 36, 83, 44, 32, 105], [32, 36, 84, 44, 32, 36, 83, 44, 32, 117], [32, 36, 84, 44, 32, 117], [32, 36, 84, 44, 32, 36, 68], [32, 36, 84, 44, 32, 105, 40, 36, 83, 41]]
def form (k : Nat) : List UInt8 := fL.getD (fmL.getD k 0) []
/-- an instruction's fields -/
structure F where
  s : Int
  t : Int
  d : Int
  m : Int
def regB (c : UInt8) : Bool := c == 83 || c == 84 || c == 68
def numB (c : UInt8) : Bool := regB c || c == 97 || c == 105 || c == 117 || c == 106
def lowB (c : UInt8) : Int := if c = 105 then -32768 else 0
def highB (c : UInt8) : Int := if regB c || c == 97 then 31 else if c = 105 then 32767 else if c = 117 then 65535 else if c = 106 then 67108863 else 0
def s16 (m : Int) : Int := (m + 32768) % 65536 - 32768
def vl (f : F) (c : UInt8) : Int := if c = 83 then f.s else if c = 84 then f.t else if c = 68 then f.d else if c = 105 then s16 f.m else f.m
def rend (f : F) (c : UInt8) : List UInt8 := if numB c then itoa (vl f c) else [c]
def ptext (k : Nat) (f : F) : List UInt8 := nme k ++ (form k).flatMap (rend f)
def setF (f : F) (c : UInt8) (n : Int) : F := if c = 83 then { f with s := n } else if c = 84 then { f with t := n } else if c = 68 then { f with d := n } else if c = 105 then { f with m := n % 65536 } else { f with m := n % 4294967296 }
def inB (c : UInt8) (n : Int) : Bool := decide (lowB c ≤ n ∧ n ≤ highB c)
def put (c : UInt8) (n : Int) : Option F → Option F
  | none => none
  | some f => if numB c then (if inB c n then some (setF f c n) else none) else some f
def strip : List UInt8 → List UInt8 → Option (List UInt8)
  | [], r => some r
  | _ :: _, [] => none
  | c :: p, x :: r => if x = c then strip p r else none
def readL (c : UInt8) (r : List UInt8) : Option (Int × List UInt8) := if numB c then (if regB c then readReg r else readNum r) else (strip [c] r).map fun q => (0, q)
/-- the program's way along a form -/
def pgo : List UInt8 → List UInt8 → Option F → Option (List UInt8 × Option F)
  | [], r, a => some (r, a)
  | c :: cs, r, a => match readL c r with | none => none | some (n, r1) => pgo cs r1 (put c n a)
/-- an operation's number by its name -/
def opAt (l : List UInt8) : List Nat → Nat
  | [] => 0
  | k :: ks => if nme k = l then k else opAt l ks
def ops : List Nat := (List.range 53).map (· + 1)
def opOf (l : List UInt8) : Nat := opAt l ops
inductive PR where
  | name | text | bound | ok (k : Nat) (f : F)
def fin (k : Nat) : Option (List UInt8 × Option F) → PR
  | none => .text
  | some ([], some f) => .ok k f
  | some ([], none) => .bound
  | some (_ :: _, _) => .text
def isWord (c : UInt8) : Bool := !(c == 32)
def parseS (l : List UInt8) : PR := if opOf (l.takeWhile isWord) = 0 then .name else fin (opOf (l.takeWhile isWord)) (pgo (form (opOf (l.takeWhile isWord))) (l.dropWhile isWord) (some ⟨0, 0, 0, 0⟩))

/-! ### names -/
theorem mem_ops {k : Nat} : k ∈ ops ↔ 1 ≤ k ∧ k < 54 := by
  unfold ops; simp only [List.mem_map, List.mem_range]
  constructor
  · rintro ⟨a, h, rfl⟩; omega
  · intro h; exact ⟨k - 1, by omega, by omega⟩
theorem opAt_spec (l : List UInt8) : ∀ ks : List Nat, (opAt l ks ∈ ks ∧ nme (opAt l ks) = l) ∨ (opAt l ks = 0 ∧ ∀ j ∈ ks, nme j ≠ l)
  | [] => Or.inr ⟨rfl, by simp⟩
  | k :: ks => by
    unfold opAt
    by_cases h : nme k = l
    · rw [if_pos h]; exact Or.inl ⟨by simp, h⟩
    · rw [if_neg h]
      rcases opAt_spec l ks with g | g
      · exact Or.inl ⟨by simp [g.1], g.2⟩
      · refine Or.inr ⟨g.1, fun j hj => ?_⟩
        rcases List.mem_cons.mp hj with rfl | hj
        · exact h
        · exact g.2 j hj
def IsNm (l : List UInt8) (k : Nat) : Prop := (1 ≤ k ∧ k < 54 ∧ nme k = l) ∨ (k = 0 ∧ ∀ j, 1 ≤ j → j < 54 → nme j ≠ l)
theorem opOf_is (l : List UInt8) : IsNm l (opOf l) := by
  rcases opAt_spec l ops with g | g
  · have := mem_ops.mp g.1; exact Or.inl ⟨this.1, this.2, g.2⟩
  · exact Or.inr ⟨g.1, fun j h1 h2 => g.2 j (mem_ops.mpr ⟨h1, h2⟩)⟩
theorem nme_inj : ∀ k, k < 54 → ∀ j, j < 54 → nme k = nme j → k = j := by decide
theorem isNm_one {l : List UInt8} {k j : Nat} (h : IsNm l k) (g : IsNm l j) : k = j := by
  rcases h with ⟨a, b, c⟩ | ⟨a, b⟩
  · rcases g with ⟨d, e, f⟩ | ⟨d, e⟩
    · exact nme_inj k b j e (by rw [c, f])
    · exact absurd c (e k a b)
  · rcases g with ⟨d, e, f⟩ | ⟨d, e⟩
    · exact absurd f (b j d e)
    · omega
theorem opOf_lt (l : List UInt8) : opOf l < 54 := by rcases opOf_is l with h | h <;> omega
theorem opOf_nme (k : Nat) (h1 : 1 ≤ k) (h2 : k < 54) : opOf (nme k) = k := isNm_one (opOf_is _) (Or.inl ⟨h1, h2, rfl⟩)
theorem nme_word : ∀ k, k < 54 → ∀ c ∈ nme k, isWord c = true := by decide
theorem form_head : ∀ k, k < 54 → ∀ c ∈ (form k).head?, numB c = false ∧ isWord c = false := by decide

/-! ### the document's answer's way -/
def sep (first : Bool) : List UInt8 := if first then [32] else [44, 32]
def regD (r : List UInt8) : Option (Int × List UInt8) := match strip [36] r with | none => none | some q => regS q
def lett (o : UInt8) : UInt8 := if o = 110 ∨ o = 109 then 105 else o
def rgo : List UInt8 → Bool → List UInt8 → Option F → Option (List UInt8 × Option F)
  | [], _, r, a => some (r, a)
  | o :: os, first, r, a => match strip (sep first) r with
    | none => none
    | some r1 => match (if regB o then regD r1 else rnum r1) with
      | none => none
      | some (n, r2) =>
        if o = 109 then match strip [40] r2 with
          | none => none
          | some r3 => match regD r3 with
            | none => none
            | some (n', r4) => match strip [41] r4 with
              | none => none
              | some r5 => rgo os false r5 (put 83 n' (put 105 n a))
        else rgo os false r2 (put (lett o) n a)
def pc (o : UInt8) : List UInt8 := if regB o then [36, o] else if o = 110 then [105] else if o = 109 then [105, 40, 36, 83, 41] else [o]
def expand : Bool → List UInt8 → List UInt8
  | _, [] => []
  | first, o :: os => sep first ++ pc o ++ expand false os
def ordB (o : UInt8) : Bool := regB o || o == 97 || o == 110 || o == 109 || o == 117 || o == 106
theorem ordr_ok : ∀ k, k < 54 → (ordr k).all ordB = true := by decide
theorem form_expand : ∀ k, k < 54 → form k = expand true (ordr k) := by decide
theorem pgo_lits (p : List UInt8) (hp : p.all (fun c => !numB c) = true) (cs r : List UInt8) (a : Option F) : pgo (p ++ cs) r a = match strip p r with | none => none | some q => pgo cs q a := by
  induction p generalizing r with
  | nil => rfl
  | cons c p ih =>
    simp only [List.all_cons, Bool.and_eq_true, Bool.not_eq_true'] at hp
    have hpu : ∀ n, put c n a = a := by intro n; cases a <;> simp [put, hp.1]
    cases r with
    | nil => simp [pgo, readL, hp.1, strip]
    | cons x r =>
      by_cases h : x = c
      · subst h
        have := ih hp.2 r
        simp [pgo, readL, hp.1, strip, hpu, this]
      · simp [pgo, readL, hp.1, strip, h]
theorem dash_text (k : Nat) (os : List UInt8) (r : List UInt8) (a : Option F) (h : r.head? = some 45) : fin k (rgo os false r a) = .text := by
  cases r with
  | nil => simp at h
  | cons x r =>
    simp at h; subst h
    cases os with
    | nil => cases a <;> rfl
    | cons o os => simp [rgo, sep, strip, fin]
theorem fin_none (k : Nat) : fin k none = .text := rfl
theorem pgo_num (c : UInt8) (hc : numB c = true) (cs r : List UInt8) (a : Option F) : pgo (c :: cs) r a = match (if regB c then readReg r else readNum r) with | none => none | some (n, r1) => pgo cs r1 (put c n a) := by
  rw [pgo, readL, if_pos hc]
set_option maxHeartbeats 1000000 in
theorem way_eq (k : Nat) (os : List UInt8) (ho : os.all ordB = true) (first : Bool) (r : List UInt8) (a : Option F) : fin k (rgo os first r a) = fin k (pgo (expand first os) r a) := by
  induction os generalizing first r a with
  | nil => rfl
  | cons o os ih =>
    simp only [List.all_cons, Bool.and_eq_true] at ho
    obtain ⟨ho1, ho2⟩ := ho
    have IH := fun r a => ih ho2 false r a
    have hs : (sep first).all (fun c => !numB c) = true := by cases first <;> decide
    rw [expand, List.append_assoc, pgo_lits _ hs, rgo]
    cases hst : strip (sep first) r with
    | none => rfl
    | some r1 =>
      simp only
      by_cases hr : regB o = true
      · have hn : numB o = true := by unfold numB; rw [hr]; rfl
        have h109 : ¬ o = 109 := by intro e; subst e; exact absurd hr (by decide)
        have h110 : ¬ o = 110 := by intro e; subst e; exact absurd hr (by decide)
        have e1 : pgo (pc o ++ expand false os) r1 a = match strip [36] r1 with | none => none | some q => pgo (o :: expand false os) q a := by
          rw [pc, if_pos hr]
          exact pgo_lits [36] (by decide) (o :: expand false os) r1 a
        simp only [e1, hr, if_true, h109, if_false, regD]
        cases h36 : strip [36] r1 with
        | none => rfl
        | some q =>
          simp only
          rw [pgo_num o hn, if_pos hr, readReg_eq]
          cases hq : regS q with
          | none => rfl
          | some x =>
            obtain ⟨n, r2⟩ := x
            simp only [lett, h109, h110, or_self, if_false]
            exact IH _ _
      · by_cases h109 : o = 109
        · subst h109
          have e1 : pgo (pc 109 ++ expand false os) r1 a = pgo (105 :: ([40, 36] ++ (83 :: ([41] ++ expand false os)))) r1 a := rfl
          rw [e1, pgo_num 105 (by decide), if_neg (by decide), if_neg (by decide), readNum_eq]
          cases hq : rnum r1 with
          | none => rfl
          | some x =>
            obtain ⟨n, r2⟩ := x
            simp only [if_true]
            by_cases h45 : r2.head? = some 45
            · rw [if_pos h45]
              cases r2 with
              | nil => simp at h45
              | cons y r2 => simp at h45; subst h45; simp [strip]
            · rw [if_neg h45]
              simp only
              rw [pgo_lits [40, 36] (by decide)]
              cases r2 with
              | nil => simp [strip]
              | cons y r2 =>
                by_cases hy : y = 40
                · subst hy
                  simp only [strip, if_true, regD]
                  cases r2 with
                  | nil => simp [strip]
                  | cons z r2 =>
                    by_cases hz : z = 36
                    · subst hz
                      simp only [strip, if_true]
                      rw [pgo_num 83 (by decide), if_pos (by decide), readReg_eq]
                      cases hq2 : regS r2 with
                      | none => rfl
                      | some x =>
                        obtain ⟨n', r4⟩ := x
                        simp only
                        rw [pgo_lits [41] (by decide)]
                        cases h41 : strip [41] r4 with
                        | none => rfl
                        | some r5 => exact IH _ _
                    · simp [strip, hz]
                · simp [strip, hy]
        · have hn : numB (lett o) = true ∧ regB (lett o) = false ∧ pc o = [lett o] := by
            have : o = 97 ∨ o = 110 ∨ o = 117 ∨ o = 106 := by
              unfold ordB at ho1
              simp only [Bool.or_eq_true, beq_iff_eq, hr, h109, or_false, false_or, Bool.false_eq_true] at ho1
              rcases ho1 with ((h | h) | h) | h <;> simp [h]
            rcases this with rfl | rfl | rfl | rfl <;> decide
          obtain ⟨hn1, hn2, hn3⟩ := hn
          simp only [hn3, hr, if_false, h109, Bool.false_eq_true]
          rw [List.singleton_append, pgo_num _ hn1, if_neg (by rw [hn2]; decide), readNum_eq]
          cases hq : rnum r1 with
          | none => rfl
          | some x =>
            obtain ⟨n, r2⟩ := x
            simp only
            by_cases h45 : r2.head? = some 45
            · rw [if_pos h45]
              exact dash_text k os r2 _ h45
            · rw [if_neg h45]
              exact IH _ _
theorem parse_way (k : Nat) (hk : k < 54) (r : List UInt8) (a : Option F) : fin k (rgo (ordr k) true r a) = fin k (pgo (form k) r a) := by
  rw [form_expand k hk]; exact way_eq k _ (ordr_ok k hk) true r a
end Go.Proofs.YtckcbnfobjmhpaaDoor.Fm
