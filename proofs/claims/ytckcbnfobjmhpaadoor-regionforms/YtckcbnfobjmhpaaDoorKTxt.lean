/-
  Numerals, as the program and the document's answer read and write them: lists of bytes, no Go in sight.
-/
import Derived.Lib.ParseIntB
import Derived.Lib.ItoaNum
import Derived.Lib.Strings
namespace Go.Proofs.YtckcbnfobjmhpaaDoor.Txt
open Go.Lib
set_option linter.unusedVariables false

def isDig (c : UInt8) : Bool := decide (48 ≤ c.toNat ∧ c.toNat ≤ 57)
def step (a : Nat) (c : UInt8) : Nat := a * 10 + (c.toNat - 48)
/-- what digits spell -/
def val (l : List UInt8) : Nat := l.foldl step 0

theorem ofNat_dig (d : Nat) (h : d < 10) : (UInt8.ofNat (48 + d)).toNat = 48 + d := by
  rw [UInt8.toNat_ofNat']; omega
theorem val_append (l : List UInt8) (c : UInt8) : val (l ++ [c]) = step (val l) c := by simp [val]
theorem dig_dec (u : Nat) : ∀ c ∈ decDigits u, isDig c = true := by
  induction u using Nat.strongRecOn with
  | ind u ih =>
    intro c hc
    by_cases h : u < 10
    · rw [decDigits_one h] at hc
      simp only [List.mem_singleton] at hc
      subst hc
      unfold isDig; rw [ofNat_dig u h]; simp; omega
    · rw [decDigits, dif_neg h] at hc
      rcases List.mem_append.mp hc with hc | hc
      · exact ih (u / 10) (by omega) c hc
      · simp only [List.mem_singleton] at hc
        subst hc
        unfold isDig; rw [ofNat_dig _ (by omega)]; simp; omega
theorem val_dec (u : Nat) : val (decDigits u) = u := by
  induction u using Nat.strongRecOn with
  | ind u ih =>
    by_cases h : u < 10
    · rw [decDigits_one h]; simp [val, step]; omega
    · rw [decDigits, dif_neg h, val_append, ih (u / 10) (by omega), step, ofNat_dig _ (by omega)]; omega
theorem dec_ne (u : Nat) : decDigits u ≠ [] := by
  intro h
  have := decDigits_length u
  have h1 := nDigits_pos u
  rw [h] at this; simp at this; omega
/-- just one text of a number -/
theorem dec_val (l : List UInt8) (hd : ∀ c ∈ l, isDig c = true) (hn : l ≠ []) (hz : l.head? = some 48 → l.length = 1) : decDigits (val l) = l := by
  induction h : l.length generalizing l with
  | zero => exact absurd (List.eq_nil_of_length_eq_zero h) hn
  | succ n ih =>
    obtain ⟨a, c, rfl⟩ : ∃ a c, l = a ++ [c] := ⟨l.dropLast, l.getLast hn, (List.dropLast_concat_getLast hn).symm⟩
    have hc : isDig c = true := hd c (by simp)
    unfold isDig at hc
    simp only [decide_eq_true_eq] at hc
    have e : UInt8.ofNat (48 + (c.toNat - 48)) = c := by
      rw [show 48 + (c.toNat - 48) = c.toNat by omega]; exact UInt8.ofNat_toNat
    by_cases ha : a = []
    · subst ha
      simp only [List.nil_append]
      rw [show val [c] = c.toNat - 48 by simp [val, step], decDigits_one (by omega), e]
    · have hl : a.length = n := by simp at h; exact h
      have hz' : a.head? ≠ some 48 := by
        intro h0
        have := hz (by cases a with | nil => exact absurd rfl ha | cons x y => simpa using h0)
        simp at this
        exact ha this
      have ea := ih a (fun x hx => hd x (by simp [hx])) ha (fun h0 => absurd h0 hz') hl
      have hv : val a ≠ 0 := by
        intro h0
        rw [h0, decDigits_one (by omega)] at ea
        rw [← ea] at hz'
        simp at hz'
      rw [val_append, step, decDigits, dif_neg (by omega), show (val a * 10 + (c.toNat - 48)) / 10 = val a by omega, ea, show (val a * 10 + (c.toNat - 48)) % 10 = c.toNat - 48 by omega, e]
theorem dec_head (u : Nat) (h : (decDigits u).head? = some 48) : u = 0 := by
  induction u using Nat.strongRecOn with
  | ind u ih =>
    by_cases h1 : u < 10
    · rw [decDigits_one h1] at h
      simp only [List.head?_cons, Option.some.injEq] at h
      have := congrArg UInt8.toNat h
      rw [ofNat_dig u h1] at this
      have h48 : (48 : UInt8).toNat = 48 := rfl
      omega
    · rw [decDigits, dif_neg h1] at h
      have hn := dec_ne (u / 10)
      have : (decDigits (u / 10)).head? = some 48 := by
        cases hh : decDigits (u / 10) with
        | nil => exact absurd hh hn
        | cons x y => rw [hh] at h; simpa using h
      have := ih (u / 10) (by omega) this
      omega
theorem nDigits_le (k u : Nat) (h : u < 10 ^ (k + 1)) : nDigits u ≤ k + 1 := by
  induction k generalizing u with
  | zero => rw [nDigits_small (by simpa using h)]; omega
  | succ k ih =>
    by_cases h1 : u < 10
    · rw [nDigits_small h1]; omega
    · rw [nDigits_big h1]
      have := ih (u / 10) (by rw [Nat.pow_succ] at h; omega)
      omega
theorem dec_len (u : Nat) : (decDigits u).length ≤ 10 ↔ u < 10000000000 := by
  rw [decDigits_length]
  constructor
  · intro h
    have := lt_pow_nDigits u
    have h2 : 10 ^ nDigits u ≤ 10 ^ 10 := Nat.pow_le_pow_right (by omega) h
    omega
  · intro h; exact nDigits_le 9 u (by simpa using h)

/-- ParseUint of digits that are few -/
theorem uint_of (l : List UInt8) (hd : ∀ c ∈ l, isDig c = true) (acc k : Nat) (ha : acc < 10 ^ k) (hk : k + l.length ≤ 18) : parseUintM (2 ^ 64 - 1) acc l = .ok (l.foldl step acc) := by
  induction l generalizing acc k with
  | nil => rfl
  | cons c r ih =>
    have hc : isDig c = true := hd c (by simp)
    unfold isDig at hc
    simp only [decide_eq_true_eq] at hc
    simp at hk
    have h17 : 10 ^ k ≤ 10 ^ 17 := Nat.pow_le_pow_right (by omega) (by omega)
    have h1 : acc * 10 + (c.toNat - 48) < 10 ^ (k + 1) := by rw [Nat.pow_succ]; omega
    have e : (10 : Nat) ^ 17 = 100000000000000000 := by decide
    have e2 : (2 : Nat) ^ 64 - 1 = 18446744073709551615 := by decide
    rw [parseUintM, if_pos hc, if_neg (by omega), if_neg (by omega), ih (fun x hx => hd x (by simp [hx])) _ (k + 1) h1 (by omega)]
    rfl

/-- the program's number of a text -/
def pnum (l : List UInt8) : Option Int := if 10 < (trimPrefix l [45]).length then none else match parseIntB 64 l with | .ok n => if itoa n = l then some n else none | _ => none

theorem dig_lt {c : UInt8} (h : isDig c = true) : c.toNat ≠ 45 ∧ c.toNat ≠ 43 := by
  unfold isDig at h; simp at h; omega
theorem not45 {c : UInt8} (h : isDig c = true) : c ≠ 45 := by
  intro e; subst e; exact absurd h (by decide)
theorem itoa_pos (u : Nat) : itoa (u : Int) = decDigits u := by unfold itoa; rw [if_neg (by omega)]; simp
theorem itoa_min (u : Nat) (h : 1 ≤ u) : itoa (-(u : Int)) = 45 :: decDigits u := by unfold itoa; rw [if_pos (by omega)]; simp
theorem int_cases (n : Int) : (∃ u : Nat, n = u) ∨ ∃ u : Nat, 1 ≤ u ∧ n = -(u : Int) := by
  by_cases h : 0 ≤ n
  · exact Or.inl ⟨n.toNat, by omega⟩
  · exact Or.inr ⟨n.natAbs, by omega, by omega⟩
theorem trim_itoa (n : Int) : trimPrefix (itoa n) [45] = decDigits n.natAbs := by
  rcases int_cases n with ⟨u, rfl⟩ | ⟨u, h, rfl⟩
  · rw [itoa_pos, show ((u : Int)).natAbs = u by omega]
    cases hh : decDigits u with
    | nil => exact absurd hh (dec_ne u)
    | cons x y =>
      have := not45 (dig_dec u x (by rw [hh]; simp))
      simp [trimPrefix, hasPrefix, List.isPrefixOf]
      intro h; exact absurd h.symm this
  · rw [itoa_min u h, show (-(u : Int)).natAbs = u by omega]
    simp [trimPrefix, hasPrefix, List.isPrefixOf]
theorem parse_itoa (n : Int) (h : n.natAbs < 10000000000) : parseIntB 64 (itoa n) = .ok n := by
  have e2 : (2 : Nat) ^ (64 - 1) = 9223372036854775808 := by decide
  rcases int_cases n with ⟨u, rfl⟩ | ⟨u, h1, rfl⟩
  · rw [itoa_pos]
    have hu : u < 10000000000 := by omega
    have hl := (dec_len u).mpr hu
    have hp : parseUintB 64 (decDigits u) = .ok u := by
      unfold parseUintB
      rw [if_neg (dec_ne u), uint_of _ (dig_dec u) 0 0 (by simp) (by omega)]
      show NumEnd.ok (val (decDigits u)) = _
      rw [val_dec]
    cases hh : decDigits u with
    | nil => exact absurd hh (dec_ne u)
    | cons x y =>
      have := dig_lt (dig_dec u x (by rw [hh]; simp))
      rw [hh] at hp
      simp only [parseIntB]
      rw [if_neg (by omega), hp]
      simp only
      rw [if_neg (by omega), if_neg (by omega), if_neg (by omega)]
  · rw [itoa_min u h1]
    have hu : u < 10000000000 := by omega
    have hl := (dec_len u).mpr hu
    have hp : parseUintB 64 (decDigits u) = .ok u := by
      unfold parseUintB
      rw [if_neg (dec_ne u), uint_of _ (dig_dec u) 0 0 (by simp) (by omega)]
      show NumEnd.ok (val (decDigits u)) = _
      rw [val_dec]
    simp only [parseIntB]
    have h45 : UInt8.toNat 45 = 45 := rfl
    rw [h45, if_pos (Or.inr rfl), hp]
    simp only
    rw [if_neg (by simp), if_neg (by omega), if_pos trivial]
theorem pnum_iff (l : List UInt8) (n : Int) : pnum l = some n ↔ l = itoa n ∧ n.natAbs < 10000000000 := by
  constructor
  · intro h
    unfold pnum at h
    split at h
    · cases h
    · rename_i h1
      split at h
      · rename_i m hm
        split at h
        · rename_i h2
          injection h with h; subst h
          refine ⟨h2.symm, ?_⟩
          rw [← h2, trim_itoa] at h1
          exact (dec_len _).mp (by omega)
        · cases h
      · cases h
  · rintro ⟨rfl, h⟩
    unfold pnum
    rw [trim_itoa, if_neg (by have := (dec_len n.natAbs).mpr h; omega), parse_itoa n h]
    simp

/-! ### the document's answer's number at a place -/
def rnum (r : List UInt8) : Option (Int × List UInt8) :=
  let mi : Bool := r.head? == some 45
  let r1 := if mi then r.tail else r
  let ds := r1.takeWhile isDig
  if ds = [] ∨ 10 < ds.length ∨ (ds.head? = some 48 ∧ (1 < ds.length ∨ mi = true)) then none
  else some (if mi then -(val ds : Int) else (val ds : Int), r1.dropWhile isDig)
/-- the text goes on with no digit -/
def endB (p : UInt8 → Bool) (r : List UInt8) : Prop := ∀ c, r.head? = some c → p c = false
theorem take_all (p : UInt8 → Bool) (a r : List UInt8) (ha : ∀ c ∈ a, p c = true) (hr : endB p r) : (a ++ r).takeWhile p = a ∧ (a ++ r).dropWhile p = r := by
  induction a with
  | nil =>
    cases r with
    | nil => simp
    | cons c r => have := hr c rfl; simp [this]
  | cons c a ih =>
    have h1 := ha c (by simp)
    have := ih (fun x hx => ha x (by simp [hx]))
    simp [h1, this]
theorem drop_end (p : UInt8 → Bool) (r : List UInt8) : endB p (r.dropWhile p) := by
  induction r with
  | nil => intro c h; simp at h
  | cons x r ih =>
    by_cases h : p x = true
    · simpa [h] using ih
    · intro c hc
      simp [h] at hc
      subst hc
      simpa using h
theorem mem_take (p : UInt8 → Bool) (r : List UInt8) : ∀ c ∈ r.takeWhile p, p c = true := by
  induction r with
  | nil => simp
  | cons x r ih =>
    by_cases h : p x = true
    · simpa [h] using ih
    · simp [h]
theorem rnum_iff (r : List UInt8) (n : Int) (r' : List UInt8) : rnum r = some (n, r') ↔ r = itoa n ++ r' ∧ n.natAbs < 10000000000 ∧ endB isDig r' := by
  constructor
  · intro h
    unfold rnum at h
    by_cases hm : r.head? = some 45
    · obtain ⟨q, rfl⟩ : ∃ q, r = 45 :: q := by
        cases r with
        | nil => simp at hm
        | cons x y => simp at hm; exact ⟨y, by rw [hm]⟩
      simp only [List.head?_cons, beq_self_eq_true, if_true, List.tail_cons] at h
      split at h
      · cases h
      · rename_i hno
        rw [not_or, not_or] at hno
        obtain ⟨h0, h10, h48⟩ := hno
        injection h with h
        injection h with hn hr
        subst hr
        have hd := mem_take isDig q
        have hz : (q.takeWhile isDig).head? = some 48 → (q.takeWhile isDig).length = 1 := fun g => absurd ⟨g, Or.inr trivial⟩ h48
        have e := dec_val _ hd h0 hz
        have hv : 1 ≤ val (q.takeWhile isDig) := by
          rcases Nat.eq_zero_or_pos (val (q.takeWhile isDig)) with g | g
          · rw [g, decDigits_one (by omega)] at e
            refine absurd ⟨?_, Or.inr trivial⟩ h48
            rw [← e]; rfl
          · exact g
        have hlt : val (q.takeWhile isDig) < 10000000000 := (dec_len _).mp (by rw [e]; omega)
        subst hn
        rw [itoa_min _ hv, e]
        refine ⟨by simp, by omega, drop_end _ _⟩
    · have hb : (r.head? == some 45) = false := by simpa using hm
      simp only [hb, Bool.false_eq_true, if_false, or_false] at h
      split at h
      · cases h
      · rename_i hno
        rw [not_or, not_or] at hno
        obtain ⟨h0, h10, h48⟩ := hno
        injection h with h
        injection h with hn hr
        subst hr
        have hd := mem_take isDig r
        have hz : (r.takeWhile isDig).head? = some 48 → (r.takeWhile isDig).length = 1 := fun g => by
          have h1 : (r.takeWhile isDig).length ≠ 0 := fun h => h0 (List.eq_nil_of_length_eq_zero h)
          rcases Nat.lt_or_ge 1 (r.takeWhile isDig).length with h2 | h2
          · exact absurd ⟨g, h2⟩ h48
          · omega
        have e := dec_val _ hd h0 hz
        have hlt : val (r.takeWhile isDig) < 10000000000 := (dec_len _).mp (by rw [e]; omega)
        subst hn
        rw [itoa_pos, e]
        refine ⟨by simp, by omega, drop_end _ _⟩
  · rintro ⟨rfl, hn, he⟩
    rcases int_cases n with ⟨u, rfl⟩ | ⟨u, h1, rfl⟩
    · have hu : u < 10000000000 := by omega
      have hl := (dec_len u).mpr hu
      have T := take_all isDig (decDigits u) r' (dig_dec u) he
      have hb : ((decDigits u ++ r').head? == some 45) = false := by
        cases hh : decDigits u with
        | nil => exact absurd hh (dec_ne u)
        | cons x y => have := not45 (dig_dec u x (by rw [hh]; simp)); simpa using this
      unfold rnum
      rw [itoa_pos]
      simp only [hb, Bool.false_eq_true, if_false, T.1, T.2, or_false]
      rw [if_neg, val_dec]
      rw [not_or, not_or]
      refine ⟨dec_ne u, by omega, ?_⟩
      rintro ⟨g, g1⟩
      have := dec_head u g
      subst this
      rw [decDigits_one (by omega)] at g1; simp at g1
    · have hu : u < 10000000000 := by omega
      have hl := (dec_len u).mpr hu
      have T := take_all isDig (decDigits u) r' (dig_dec u) he
      unfold rnum
      rw [itoa_min u h1]
      simp only [List.cons_append, List.head?_cons, beq_self_eq_true, if_true, List.tail_cons, T.1, T.2]
      rw [if_neg, val_dec]
      rw [not_or, not_or]
      refine ⟨dec_ne u, by omega, ?_⟩
      rintro ⟨g, g1⟩
      have := dec_head u g
      omega

/-! ### the program's number at a place -/
def isMark (c : UInt8) : Bool := isDig c || c == 45
/-- with signs, and without -/
def readNum (r : List UInt8) : Option (Int × List UInt8) := (pnum (r.takeWhile isMark)).map fun n => (n, r.dropWhile isMark)
def readReg (r : List UInt8) : Option (Int × List UInt8) := (pnum (r.takeWhile isDig)).map fun n => (n, r.dropWhile isDig)
theorem mark_itoa (n : Int) : ∀ c ∈ itoa n, isMark c = true := by
  rcases int_cases n with ⟨u, rfl⟩ | ⟨u, h1, rfl⟩
  · rw [itoa_pos]; intro c hc; unfold isMark; rw [dig_dec u c hc]; rfl
  · rw [itoa_min u h1]; intro c hc
    rcases List.mem_cons.mp hc with rfl | hc
    · decide
    · unfold isMark; rw [dig_dec u c hc]; rfl
theorem dig_itoa (n : Int) (h : 0 ≤ n) : ∀ c ∈ itoa n, isDig c = true := by
  rcases int_cases n with ⟨u, rfl⟩ | ⟨u, h1, rfl⟩
  · rw [itoa_pos]; exact dig_dec u
  · omega
theorem readNum_iff (r : List UInt8) (n : Int) (r' : List UInt8) : readNum r = some (n, r') ↔ r = itoa n ++ r' ∧ n.natAbs < 10000000000 ∧ endB isMark r' := by
  unfold readNum
  constructor
  · intro h
    rw [Option.map_eq_some_iff] at h
    obtain ⟨m, hm, he⟩ := h
    injection he with e1 e2
    subst e1 e2
    obtain ⟨g1, g2⟩ := (pnum_iff _ _).mp hm
    refine ⟨?_, g2, drop_end _ _⟩
    rw [← g1]; simp
  · rintro ⟨rfl, h1, h2⟩
    obtain ⟨T1, T2⟩ := take_all isMark (itoa n) r' (mark_itoa n) h2
    rw [T1, T2, (pnum_iff _ n).mpr ⟨rfl, h1⟩]; rfl
theorem readReg_iff (r : List UInt8) (n : Int) (r' : List UInt8) : readReg r = some (n, r') ↔ r = itoa n ++ r' ∧ n.natAbs < 10000000000 ∧ endB isDig r' ∧ 0 ≤ n := by
  unfold readReg
  constructor
  · intro h
    rw [Option.map_eq_some_iff] at h
    obtain ⟨m, hm, he⟩ := h
    injection he with e1 e2
    subst e1 e2
    obtain ⟨g1, g2⟩ := (pnum_iff _ _).mp hm
    refine ⟨?_, g2, drop_end _ _, ?_⟩
    · rw [← g1]; simp
    · rcases int_cases m with ⟨u, rfl⟩ | ⟨u, h1, rfl⟩
      · omega
      · rw [itoa_min u h1] at g1
        have := mem_take isDig r 45 (by rw [g1]; simp)
        exact absurd this (by decide)
  · rintro ⟨rfl, h1, h2, h3⟩
    obtain ⟨T1, T2⟩ := take_all isDig (itoa n) r' (dig_itoa n h3) h2
    rw [T1, T2, (pnum_iff _ n).mpr ⟨rfl, h1⟩]; rfl
theorem endMark (r : List UInt8) : endB isMark r ↔ endB isDig r ∧ r.head? ≠ some 45 := by
  unfold endB isMark
  constructor
  · intro h
    refine ⟨fun c hc => ?_, fun g => ?_⟩
    · have := h c hc; simp at this; exact this.1
    · have := h 45 g; simp at this
  · rintro ⟨h, g⟩ c hc
    have := h c hc
    rw [this]
    simp
    intro e; subst e; exact g hc
/-- the one by the other -/
theorem readNum_eq (r : List UInt8) : readNum r = match rnum r with | some (n, r') => if r'.head? = some 45 then none else some (n, r') | none => none := by
  cases h : rnum r with
  | none =>
    simp only
    cases g : readNum r with
    | none => rfl
    | some x =>
      obtain ⟨n, r'⟩ := x
      obtain ⟨a, b, c⟩ := (readNum_iff _ _ _).mp g
      rw [(rnum_iff r n r').mpr ⟨a, b, ((endMark r').mp c).1⟩] at h
      cases h
  | some x =>
    obtain ⟨n, r'⟩ := x
    simp only
    obtain ⟨a, b, c⟩ := (rnum_iff _ _ _).mp h
    split
    · rename_i h45
      cases g : readNum r with
      | none => rfl
      | some y =>
        obtain ⟨m, q⟩ := y
        obtain ⟨a1, b1, c1⟩ := (readNum_iff _ _ _).mp g
        have := (rnum_iff r m q).mpr ⟨a1, b1, ((endMark q).mp c1).1⟩
        rw [h] at this
        injection this with this
        injection this with e1 e2
        subst e2
        exact absurd h45 ((endMark r').mp c1).2
    · rename_i h45
      exact (readNum_iff r n r').mpr ⟨a, b, (endMark r').mpr ⟨c, h45⟩⟩
/-- the document's register -/
def regS (r : List UInt8) : Option (Int × List UInt8) := match rnum r with | some (n, r') => if n < 0 then none else some (n, r') | none => none
theorem readReg_eq (r : List UInt8) : readReg r = regS r := by
  unfold regS
  cases h : rnum r with
  | none =>
    simp only
    cases g : readReg r with
    | none => rfl
    | some x =>
      obtain ⟨n, r'⟩ := x
      obtain ⟨a, b, c, d⟩ := (readReg_iff _ _ _).mp g
      rw [(rnum_iff r n r').mpr ⟨a, b, c⟩] at h
      cases h
  | some x =>
    obtain ⟨n, r'⟩ := x
    simp only
    obtain ⟨a, b, c⟩ := (rnum_iff _ _ _).mp h
    split
    · rename_i hn
      cases g : readReg r with
      | none => rfl
      | some y =>
        obtain ⟨m, q⟩ := y
        obtain ⟨a1, b1, c1, d1⟩ := (readReg_iff _ _ _).mp g
        have := (rnum_iff r m q).mpr ⟨a1, b1, c1⟩
        rw [h] at this
        injection this with this
        injection this with e1 e2
        omega
    · exact (readReg_iff r n r').mpr ⟨a, b, c, by omega⟩
end Go.Proofs.YtckcbnfobjmhpaaDoor.Txt
