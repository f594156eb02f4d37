/-
  Numerals, as the program and the document's answer read and write them: lists of bytes, no Go in sight.
-/
import Derived.Lib.ParseIntB
import Derived.Lib.ItoaNum
import Derived.Lib.Strings
import Derived.Test.YtccnliihdhnckaaGreatDoorQTab
namespace Go.Proofs.YtccnliihdhnckaaGreatDoor.Txt
open Go.Lib
set_option linter.unusedVariables false
def isDig (c : UInt8) : Bool := decide (48 ≤ c.toNat ∧ c.toNat ≤ 57)
def step (a : Nat) (c : UInt8) : Nat := a * 10 + (c.toNat - 48)
/-- what digits spell -/
def val (l : List UInt8) : Nat := l.foldl step 0
theorem ofNat_dig (d : Nat) (h : d < 10) : (UInt8.ofNat (48 + d)).toNat = 48 + d := by
  rw [UInt8.toNat_ofNat']; omega
theorem val_append (l : List UInt8) (c : UInt8) : val (l ++ [c]) = step (val l) c := by simp [val]
theorem dig_dec (u : Nat) : ∀ c ∈ decDigits u, isDig c = true := by
  induction u using Nat.strongRecOn with
  | ind u ih =>
    intro c hc
    by_cases h : u < 10
    · rw [decDigits_one h] at hc
      simp only [List.mem_singleton] at hc
      subst hc
      unfold isDig; rw [ofNat_dig u h]; simp; omega
    · rw [decDigits, dif_neg h] at hc
      rcases List.mem_append.mp hc with hc | hc
      · exact ih (u / 10) (by omega) c hc
      · simp only [List.mem_singleton] at hc
        subst hc
        unfold isDig; rw [ofNat_dig _ (by omega)]; simp; omega
theorem val_dec (u : Nat) : val (decDigits u) = u := by
  induction u using Nat.strongRecOn with
  | ind u ih =>
    by_cases h : u < 10
    · rw [decDigits_one h]; simp [val, step]; omega
    · rw [decDigits, dif_neg h, val_append, ih (u / 10) (by omega), step, ofNat_dig _ (by omega)]; omega
theorem dec_ne (u : Nat) : decDigits u ≠ [] := by
  intro h
  have := decDigits_length u
  have h1 := nDigits_pos u
  rw [h] at this; simp at this; omega
/-- just one text of a number -/
theorem dec_val (l : List UInt8) (hd : ∀ c ∈ l, isDig c = true) (hn : l ≠ []) (hz : l.head? = some 48 → l.length = 1) : decDigits (val l) = l := by
  induction h : l.length generalizing l with
  | zero => exact absurd (List.eq_nil_of_length_eq_zero h) hn
  | succ n ih =>
    obtain ⟨a, c, rfl⟩ : ∃ a c, l = a ++ [c] := ⟨l.dropLast, l.getLast hn, (List.dropLast_concat_getLast hn).symm⟩
    have hc : isDig c = true := hd c (by simp)
    unfold isDig at hc
    simp only [decide_eq_true_eq] at hc
    have e : UInt8.ofNat (48 + (c.toNat - 48)) = c := by
      rw [show 48 + (c.toNat - 48) = c.toNat by omega]; exact UInt8.ofNat_toNat
    by_cases ha : a = []
    · subst ha
      simp only [List.nil_append]
      rw [show val [c] = c.toNat - 48 by simp [val, step], decDigits_one (by omega), e]
    · have hl : a.length = n := by simp at h; exact h
      have hz' : a.head? ≠ some 48 := by
        intro h0
        have := hz (by cases a with | nil => exact absurd rfl ha | cons x y => simpa using h0)
        simp at this
        exact ha this
      have ea := ih a (fun x hx => hd x (by simp [hx])) ha (fun h0 => absurd h0 hz') hl
      have hv : val a ≠ 0 := by
        intro h0
        rw [h0, decDigits_one (by omega)] at ea
        rw [← ea] at hz'
        simp at hz'
      rw [val_append, step, decDigits, dif_neg (by omega), show (val a * 10 + (c.toNat - 48)) / 10 = val a by omega, ea, show (val a * 10 + (c.toNat - 48)) % 10 = c.toNat - 48 by omega, e]
theorem dec_head (u : Nat) (h : (decDigits u).head? = some 48) : u = 0 := by
  induction u using Nat.strongRecOn with
  | ind u ih =>
    by_cases h1 : u < 10
    · rw [decDigits_one h1] at h
      simp only [List.head?_cons, Option.some.injEq] at h
      have := congrArg UInt8.toNat h
      rw [ofNat_dig u h1] at this
      have h48 : (48 : UInt8).toNat = 48 := rfl
      omega
    · rw [decDigits, dif_neg h1] at h
      have hn := dec_ne (u / 10)
      have : (decDigits (u / 10)).head? = some 48 := by
        cases hh : decDigits (u / 10) with
        | nil => exact absurd hh hn
        | cons x y => rw [hh] at h; simpa using h
      have := ih (u / 10) (by omega) this
      omega
theorem nDigits_le (k u : Nat) (h : u < 10 ^ (k + 1)) : nDigits u ≤ k + 1 := by
  induction k generalizing u with
  | zero => rw [nDigits_small (by simpa using h)]; omega
  | succ k ih =>
    by_cases h1 : u < 10
    · rw [nDigits_small h1]; omega
    · rw [nDigits_big h1]
      have := ih (u / 10) (by rw [Nat.pow_succ] at h; omega)
      omega
theorem dec_len (u : Nat) : (decDigits u).length ≤ 10 ↔ u < 10000000000 := by
  rw [decDigits_length]
  constructor
  · intro h
    have := lt_pow_nDigits u
    have h2 : 10 ^ nDigits u ≤ 10 ^ 10 := Nat.pow_le_pow_right (by omega) h
    omega
  · intro h; exact nDigits_le 9 u (by simpa using h)
/-- ParseUint of digits that are few -/
theorem uint_of (l : List UInt8) (hd : ∀ c ∈ l, isDig c = true) (acc k : Nat) (ha : acc < 10 ^ k) (hk : k + l.length ≤ 18) : parseUintM (2 ^ 64 - 1) acc l = .ok (l.foldl step acc) := by
  induction l generalizing acc k with
  | nil => rfl
  | cons c r ih =>
    have hc : isDig c = true := hd c (by simp)
    unfold isDig at hc
    simp only [decide_eq_true_eq] at hc
    simp at hk
    have h17 : 10 ^ k ≤ 10 ^ 17 := Nat.pow_le_pow_right (by omega) (by omega)
    have h1 : acc * 10 + (c.toNat - 48) < 10 ^ (k + 1) := by rw [Nat.pow_succ]; omega
    have e : (10 : Nat) ^ 17 = 100000000000000000 := by decide
    have e2 : (2 : Nat) ^ 64 - 1 = 18446744073709551615 := by decide
    rw [parseUintM, if_pos hc, if_neg (by omega), if_neg (by omega), ih (fun x hx => hd x (by simp [hx])) _ (k + 1) h1 (by omega)]
    rfl
/-- the program's number of a text -/
def pnum (l : List UInt8) : Option Int := if 10 < (trimPrefix l [45]).length then none else match parseIntB 64 l with | .ok n => if itoa n = l then some n else none | _ => none
theorem dig_lt {c : UInt8} (h : isDig c = true) : c.toNat ≠ 45 ∧ c.toNat ≠ 43 := by
  unfold isDig at h; simp at h; omega
theorem not45 {c : UInt8} (h : isDig c = true) : c ≠ 45 := by
  intro e; subst e; exact absurd h (by decide)
theorem itoa_pos (u : Nat) : itoa (u : Int) = decDigits u := by unfold itoa; rw [if_neg (by omega)]; simp
theorem itoa_min (u : Nat) (h : 1 ≤ u) : itoa (-(u : Int)) = 45 :: decDigits u := by unfold itoa; rw [if_pos (by omega)]; simp
theorem int_cases (n : Int) : (∃ u : Nat, n = u) ∨ ∃ u : Nat, 1 ≤ u ∧ n = -(u : Int) := by
  by_cases h : 0 ≤ n
  · exact Or.inl ⟨n.toNat, by omega⟩
  · exact Or.inr ⟨n.natAbs, by omega, by omega⟩
theorem trim_itoa (n : Int) : trimPrefix (itoa n) [45] = decDigits n.natAbs := by
  rcases int_cases n with ⟨u, rfl⟩ | ⟨u, h, rfl⟩
  · rw [itoa_pos, show ((u : Int)).natAbs = u by omega]
    cases hh : decDigits u with
    | nil => exact absurd hh (dec_ne u)
    | cons x y =>
      have := not45 (dig_dec u x (by rw [hh]; simp))
      simp [trimPrefix, hasPrefix, List.isPrefixOf]
      intro h; exact absurd h.symm this
  · rw [itoa_min u h, show (-(u : Int)).natAbs = u by omega]
    simp [trimPrefix, hasPrefix, List.isPrefixOf]
theorem parse_itoa (n : Int) (h : n.natAbs < 10000000000) : parseIntB 64 (itoa n) = .ok n := by
  have e2 : (2 : Nat) ^ (64 - 1) = 9223372036854775808 := by decide
  rcases int_cases n with ⟨u, rfl⟩ | ⟨u, h1, rfl⟩
  · rw [itoa_pos]
    have hu : u < 10000000000 := by omega
    have hl := (dec_len u).mpr hu
    have hp : parseUintB 64 (decDigits u) = .ok u := by
      unfold parseUintB
      rw [if_neg (dec_ne u), uint_of _ (dig_dec u) 0 0 (by simp) (by omega)]
      show NumEnd.ok (val (decDigits u)) = _
      rw [val_dec]
    cases hh : decDigits u with
    | nil => exact absurd hh (dec_ne u)
    | cons x y =>
      have := dig_lt (dig_dec u x (by rw [hh]; simp))
      rw [hh] at hp
      simp only [parseIntB]
      rw [if_neg (by omega), hp]
      simp only
      rw [if_neg (by omega), if_neg (by omega), if_neg (by omega)]
  · rw [itoa_min u h1]
    have hu : u < 10000000000 := by omega
    have hl := (dec_len u).mpr hu
    have hp : parseUintB 64 (decDigits u) = .ok u := by
      unfold parseUintB
      rw [if_neg (dec_ne u), uint_of _ (dig_dec u) 0 0 (by simp) (by omega)]
      show NumEnd.ok (val (decDigits u)) = _
      rw [val_dec]
    simp only [parseIntB]
    have h45 : UInt8.toNat 45 = 45 := rfl
    rw [h45, if_pos (Or.inr rfl), hp]
    simp only
    rw [if_neg (by simp), if_neg (by omega), if_pos trivial]
theorem pnum_iff (l : List UInt8) (n : Int) : pnum l = some n ↔ l = itoa n ∧ n.natAbs < 10000000000 := by
  constructor
  · intro h
    unfold pnum at h
    split at h
    · cases h
    · rename_i h1
      split at h
      · rename_i m hm
        split at h
        · rename_i h2
          injection h with h; subst h
          refine ⟨h2.symm, ?_⟩
          rw [← h2, trim_itoa] at h1
          exact (dec_len _).mp (by omega)
        · cases h
      · cases h
  · rintro ⟨rfl, h⟩
    unfold pnum
    rw [trim_itoa, if_neg (by have := (dec_len n.natAbs).mpr h; omega), parse_itoa n h]
    simp
/-! ### the document's answer's number at a place -/
def rnum (r : List UInt8) : Option (Int × List UInt8) :=
  let mi : Bool := r.head? == some 45
  let r1 := if mi then r.tail else r
  let ds := r1.takeWhile isDig
  if ds = [] ∨ 10 < ds.length ∨ (ds.head? = some 48 ∧ (1 < ds.length ∨ mi = true)) then none
  else some (if mi then -(val ds : Int) else (val ds : Int), r1.dropWhile isDig)
/-- the text goes on with no digit -/
def endB (p : UInt8 → Bool) (r : List UInt8) : Prop := ∀ c, r.head? = some c → p c = false
theorem take_all (p : UInt8 → Bool) (a r : List UInt8) (ha : ∀ c ∈ a, p c = true) (hr : endB p r) : (a ++ r).takeWhile p = a ∧ (a ++ r).dropWhile p = r := by
  induction a with
  | nil =>
    cases r with
    | nil => simp
    | cons c r => have := hr c rfl; simp [this]
  | cons c a ih =>
    have h1 := ha c (by simp)
    have := ih (fun x hx => ha x (by simp [hx]))
    simp [h1, this]
theorem drop_end (p : UInt8 → Bool) (r : List UInt8) : endB p (r.dropWhile p) := by
  induction r with
  | nil => intro c h; simp at h
  | cons x r ih =>
    by_cases h : p x = true
    · simpa [h] using ih
    · intro c hc
      simp [h] at hc
      subst hc
      simpa using h
theorem mem_take (p : UInt8 → Bool) (r : List UInt8) : ∀ c ∈ r.takeWhile p, p c = true := by
  induction r with
  | nil => simp
  | cons x r ih =>
    by_cases h : p x = true
    · simpa [h] using ih
    · simp [h]
theorem rnum_iff (r : List UInt8) (n : Int) (r' : List UInt8) : rnum r = some (n, r') ↔ r = itoa n ++ r' ∧ n.natAbs < 10000000000 ∧ endB isDig r' := by
  constructor
  · intro h
    unfold rnum at h
    by_cases hm : r.head? = some 45
    · obtain ⟨q, rfl⟩ : ∃ q, r = 45 :: q := by
        cases r with
        | nil => simp at hm
        | cons x y => simp at hm; exact ⟨y, by rw [hm]⟩
      simp only [List.head?_cons, beq_self_eq_true, if_true, List.tail_cons] at h
      split at h
      · cases h
      · rename_i hno
        rw [not_or, not_or] at hno
        obtain ⟨h0, h10, h48⟩ := hno
        injection h with h
        injection h with hn hr
        subst hr
        have hd := mem_take isDig q
        have hz : (q.takeWhile isDig).head? = some 48 → (q.takeWhile isDig).length = 1 := fun g => absurd ⟨g, Or.inr trivial⟩ h48
        have e := dec_val _ hd h0 hz
        have hv : 1 ≤ val (q.takeWhile isDig) := by
          rcases Nat.eq_zero_or_pos (val (q.takeWhile isDig)) with g | g
          · rw [g, decDigits_one (by omega)] at e
            refine absurd ⟨?_, Or.inr trivial⟩ h48
            rw [← e]; rfl
          · exact g
        have hlt : val (q.takeWhile isDig) < 10000000000 := (dec_len _).mp (by rw [e]; omega)
        subst hn
        rw [itoa_min _ hv, e]
        refine ⟨by simp, by omega, drop_end _ _⟩
    · have hb : (r.head? == some 45) = false := by simpa using hm
      simp only [hb, Bool.false_eq_true, if_false, or_false] at h
      split at h
      · cases h
      · rename_i hno
        rw [not_or, not_or] at hno
        obtain ⟨h0, h10, h48⟩ := hno
        injection h with h
        injection h with hn hr
        subst hr
        have hd := mem_take isDig r
        have hz : (r.takeWhile isDig).head? = some 48 → (r.takeWhile isDig).length = 1 := fun g => by
          have h1 : (r.takeWhile isDig).length ≠ 0 := fun h => h0 (List.eq_nil_of_length_eq_zero h)
          rcases Nat.lt_or_ge 1 (r.takeWhile isDig).length with h2 | h2
          · exact absurd ⟨g, h2⟩ h48
          · omega
        have e := dec_val _ hd h0 hz
        have hlt : val (r.takeWhile isDig) < 10000000000 := (dec_len _).mp (by rw [e]; omega)
        subst hn
        rw [itoa_pos, e]
        refine ⟨by simp, by omega, drop_end _ _⟩
  · rintro ⟨rfl, hn, he⟩
    rcases int_cases n with ⟨u, rfl⟩ | ⟨u, h1, rfl⟩
    · have hu : u < 10000000000 := by omega
      have hl := (dec_len u).mpr hu
      have T := take_all isDig (decDigits u) r' (dig_dec u) he
      have hb : ((decDigits u ++ r').head? == some 45) = false := by
        cases hh : decDigits u with
        | nil => exact absurd hh (dec_ne u)
        | cons x y => have := not45 (dig_dec u x (by rw [hh]; simp)); simpa using this
      unfold rnum
      rw [itoa_pos]
      simp only [hb, Bool.false_eq_true, if_false, T.1, T.2, or_false]
      rw [if_neg, val_dec]
      rw [not_or, not_or]
      refine ⟨dec_ne u, by omega, ?_⟩
      rintro ⟨g, g1⟩
      have := dec_head u g
      subst this
      rw [decDigits_one (by omega)] at g1; simp at g1
    · have hu : u < 10000000000 := by omega
      have hl := (dec_len u).mpr hu
      have T := take_all isDig (decDigits u) r' (dig_dec u) he
      unfold rnum
      rw [itoa_min u h1]
      simp only [List.cons_append, List.head?_cons, beq_self_eq_true, if_true, List.tail_cons, T.1, T.2]
      rw [if_neg, val_dec]
      rw [not_or, not_or]
      refine ⟨dec_ne u, by omega, ?_⟩
      rintro ⟨g, g1⟩
      have := dec_head u g
      omega
/-! ### the program's number at a place -/
def isMark (c : UInt8) : Bool := isDig c || c == 45
/-- with signs, and without -/
def readNum (r : List UInt8) : Option (Int × List UInt8) := (pnum (r.takeWhile isMark)).map fun n => (n, r.dropWhile isMark)
def readReg (r : List UInt8) : Option (Int × List UInt8) := (pnum (r.takeWhile isDig)).map fun n => (n, r.dropWhile isDig)
theorem mark_itoa (n : Int) : ∀ c ∈ itoa n, isMark c = true := by
  rcases int_cases n with ⟨u, rfl⟩ | ⟨u, h1, rfl⟩
  · rw [itoa_pos]; intro c hc; unfold isMark; rw [dig_dec u c hc]; rfl
  · rw [itoa_min u h1]; intro c hc
    rcases List.mem_cons.mp hc with rfl | hc
    · decide
    · unfold isMark; rw [dig_dec u c hc]; rfl
theorem dig_itoa (n : Int) (h : 0 ≤ n) : ∀ c ∈ itoa n, isDig c = true := by
  rcases int_cases n with ⟨u, rfl⟩ | ⟨u, h1, rfl⟩
  · rw [itoa_pos]; exact dig_dec u
  · omega
theorem readNum_iff (r : List UInt8) (n : Int) (r' : List UInt8) : readNum r = some (n, r') ↔ r = itoa n ++ r' ∧ n.natAbs < 10000000000 ∧ endB isMark r' := by
  unfold readNum
  constructor
  · intro h
    rw [Option.map_eq_some_iff] at h
    obtain ⟨m, hm, he⟩ := h
    injection he with e1 e2
    subst e1 e2
    obtain ⟨g1, g2⟩ := (pnum_iff _ _).mp hm
    refine ⟨?_, g2, drop_end _ _⟩
    rw [← g1]; simp
  · rintro ⟨rfl, h1, h2⟩
    obtain ⟨T1, T2⟩ := take_all isMark (itoa n) r' (mark_itoa n) h2
    rw [T1, T2, (pnum_iff _ n).mpr ⟨rfl, h1⟩]; rfl
theorem readReg_iff (r : List UInt8) (n : Int) (r' : List UInt8) : readReg r = some (n, r') ↔ r = itoa n ++ r' ∧ n.natAbs < 10000000000 ∧ endB isDig r' ∧ 0 ≤ n := by
  unfold readReg
  constructor
  · intro h
    rw [Option.map_eq_some_iff] at h
    obtain ⟨m, hm, he⟩ := h
    injection he with e1 e2
    subst e1 e2
    obtain ⟨g1, g2⟩ := (pnum_iff _ _).mp hm
    refine ⟨?_, g2, drop_end _ _, ?_⟩
    · rw [← g1]; simp
    · rcases int_cases m with ⟨u, rfl⟩ | ⟨u, h1, rfl⟩
      · omega
      · rw [itoa_min u h1] at g1
        have := mem_take isDig r 45 (by rw [g1]; simp)
        exact absurd this (by decide)
  · rintro ⟨rfl, h1, h2, h3⟩
    obtain ⟨T1, T2⟩ := take_all isDig (itoa n) r' (dig_itoa n h3) h2
    rw [T1, T2, (pnum_iff _ n).mpr ⟨rfl, h1⟩]; rfl
theorem endMark (r : List UInt8) : endB isMark r ↔ endB isDig r ∧ r.head? ≠ some 45 := by
  unfold endB isMark
  constructor
  · intro h
    refine ⟨fun c hc => ?_, fun g => ?_⟩
    · have := h c hc; simp at this; exact this.1
    · have := h 45 g; simp at this
  · rintro ⟨h, g⟩ c hc
    have := h c hc
    rw [this]
    simp
    intro e; subst e; exact g hc
/-- the one by the other -/
theorem readNum_eq (r : List UInt8) : readNum r = match rnum r with | some (n, r') => if r'.head? = some 45 then none else some (n, r') | none => none := by
  cases h : rnum r with
  | none =>
    simp only
    cases g : readNum r with
    | none => rfl
    | some x =>
      obtain ⟨n, r'⟩ := x
      obtain ⟨a, b, c⟩ := (readNum_iff _ _ _).mp g
      rw [(rnum_iff r n r').mpr ⟨a, b, ((endMark r').mp c).1⟩] at h
      cases h
  | some x =>
    obtain ⟨n, r'⟩ := x
    simp only
    obtain ⟨a, b, c⟩ := (rnum_iff _ _ _).mp h
    split
    · rename_i h45
      cases g : readNum r with
      | none => rfl
      | some y =>
        obtain ⟨m, q⟩ := y
        obtain ⟨a1, b1, c1⟩ := (readNum_iff _ _ _).mp g
        have := (rnum_iff r m q).mpr ⟨a1, b1, ((endMark q).mp c1).1⟩
        rw [h] at this
        injection this with this
        injection this with e1 e2
        subst e2
        exact absurd h45 ((endMark r').mp c1).2
    · rename_i h45
      exact (readNum_iff r n r').mpr ⟨a, b, (endMark r').mpr ⟨c, h45⟩⟩
/-- the document's register -/
def regS (r : List UInt8) : Option (Int × List UInt8) := match rnum r with | some (n, r') => if n < 0 then none else some (n, r') | none => none
theorem readReg_eq (r : List UInt8) : readReg r = regS r := by
  unfold regS
  cases h : rnum r with
  | none =>
    simp only
    cases g : readReg r with
    | none => rfl
    | some x =>
      obtain ⟨n, r'⟩ := x
      obtain ⟨a, b, c, d⟩ := (readReg_iff _ _ _).mp g
      rw [(rnum_iff r n r').mpr ⟨a, b, c⟩] at h
      cases h
  | some x =>
    obtain ⟨n, r'⟩ := x
    simp only
    obtain ⟨a, b, c⟩ := (rnum_iff _ _ _).mp h
    split
    · rename_i hn
      cases g : readReg r with
      | none => rfl
      | some y =>
        obtain ⟨m, q⟩ := y
        obtain ⟨a1, b1, c1, d1⟩ := (readReg_iff _ _ _).mp g
        have := (rnum_iff r m q).mpr ⟨a1, b1, c1⟩
        rw [h] at this
        injection this with this
        injection this with e1 e2
        omega
    · exact (readReg_iff r n r').mpr ⟨a, b, c, by omega⟩
end Go.Proofs.YtccnliihdhnckaaGreatDoor.Txt
/-
  The texts of instructions, written and read by forms, and as the document's answer reads them; one is the other. Lists of bytes, no Go in sight.
-/
namespace Go.Proofs.YtccnliihdhnckaaGreatDoor.Fm
open Go.Lib Tab Txt
set_option linter.unusedVariables false
/-- the names, and the order of the fields in a text -/
def nmL : List (List UInt8) := [[], [115, 108, 108], [115, 114, 108], [115, 114, 97], [115, 108, 108, 118], [115, 114, 108, 118], [115, 114, 97, 118], [106, 114], [106, 97, 108, 114], [115, 121, 115, 99, 97, 108, 108], [98, 114, 101, 97, 107], [109, 102, 104, 105], [109, 116, 104, 105], [109, 102, 108, 111], [109, 116, 108, 111], [109, 117, 108, 116], [109, 117, 108, 116, 117], [100, 105, 118], [100, 105, 118, 117], [97, 100, 100], [97, 100, 100, 117], [115, 117, 98], [115, 117, 98, 117], [97, 110, 100], [111, 114], [120, 111, 114], [110, 111, 114], [115, 108, 116], [115, 108, 116, 117], [106], [106, 97, 108], [98, 101, 113], [98, 110, 101], [98, 108, 101, 122], [98, 103, 116, 122], [97, 100, 100, 105], [97, 100, 100, 105, 117], [115, 108, 116, 105], [115, 108, 116, 105, 117], [97, 110, 100, 105], [111, 114, 105], [120, 111, 114, 105], [108, 117, 105], [109, 102, 99, 48], [109, 116, 99, 48], [101, 114, 101, 116], [108, 98], [108, 104], [108, 119], [108, 98, 117], [108, 104, 117], [115, 98], [115, 104], [115, 119]]
def orL : List (List UInt8) := [[], [68, 84, 97], [68, 84, 97], [68, 84, 97], [68, 84, 83], [68, 84, 83], [68, 84, 83], [83], [68, 83], [], [], [68], [83], [68], [83], [83, 84], [83, 84], [83, 84], [83, 84], [68, 83, 84], [68, 83, 84], [68, 83, 84], [68, 83, 84], [68, 83, 84], [68, 83, 84], [68, 83, 84], [68, 83, 84], [68, 83, 84], [68, 83, 84], [106], [106], [83, 84, 110], [83, 84, 110], [83, 110], [83, 110], [84, 83, 110], [84, 83, 110], [84, 83, 110], [84, 83, 110], [84, 83, 117], [84, 83, 117], [84, 83, 117], [84, 117], [84, 68], [84, 68], [], [84, 109], [84, 109], [84, 109], [84, 109], [84, 109], [84, 109], [84, 109], [84, 109]]
def nme (k : Nat) : List UInt8 := nmL.getD k []
def ordr (k : Nat) : List UInt8 := orL.getD k []
def fmL : List Nat := [0, 1, 1, 1, 2, 2, 2, 3, 4, 0, 0, 5, 3, 5, 3, 6, 6, 6, 6, 7, 7, 7, 7, 7, 7, 7, 7, 7, 7, 8, 8, 9, 9, 10, 10, 11, 11, 11, 11, 12, 12, 12, 13, 14, 14, 0, 15, 15, 15, 15, 15, 15, 15, 15]
def fL : List (List UInt8) := [[], [32, 36, 68, 44, 32, 36, 84, 44, 32, 97], [32, 36, 68, 44, 32, 36, 84, 44, 32, 36, 83], [32, 36, 83], [32, 36, 68, 44, 32, 36, 83], [32, 36, 68], [32, 36, 83, 44, 32, 36, 84], [32, 36, 68, 44, 32, 36, 83, 44, 32, 36, 84], [32, 106], [32, 36, 83, 44, 32, 36, 84, 44, 32, 105], [32, 36, 83, 44, 32, 105], [32, 36, 84, 44, 32, 36, 83, 44, 32, 105], [32, 36, 84, 44, 32, 36, 83, 44, 32, 117], [32, 36, 84, 44, 32, 117], [32, 36, 84, 44, 32, 36, 68], [32, 36, 84, 44, 32, 105, 40, 36, 83, 41]]
def form (k : Nat) : List UInt8 := fL.getD (fmL.getD k 0) []
/-- an instruction's fields -/
structure F where
  s : Int
  t : Int
  d : Int
  m : Int
def regB (c : UInt8) : Bool := c == 83 || c == 84 || c == 68
def numB (c : UInt8) : Bool := regB c || c == 97 || c == 105 || c == 117 || c == 106
def lowB (c : UInt8) : Int := if c = 105 then -32768 else 0
def highB (c : UInt8) : Int := if regB c || c == 97 then 31 else if c = 105 then 32767 else if c = 117 then 65535 else if c = 106 then 67108863 else 0
def s16 (m : Int) : Int := (m + 32768) % 65536 - 32768
def vl (f : F) (c : UInt8) : Int := if c = 83 then f.s else if c = 84 then f.t else if c = 68 then f.d else if c = 105 then s16 f.m else f.m
def rend (f : F) (c : UInt8) : List UInt8 := if numB c then itoa (vl f c) else [c]
def ptext (k : Nat) (f : F) : List UInt8 := nme k ++ (form k).flatMap (rend f)
def setF (f : F) (c : UInt8) (n : Int) : F := if c = 83 then { f with s := n } else if c = 84 then { f with t := n } else if c = 68 then { f with d := n } else if c = 105 then { f with m := n % 65536 } else { f with m := n % 4294967296 }
def inB (c : UInt8) (n : Int) : Bool := decide (lowB c ≤ n ∧ n ≤ highB c)
def put (c : UInt8) (n : Int) : Option F → Option F
  | none => none
  | some f => if numB c then (if inB c n then some (setF f c n) else none) else some f
def strip : List UInt8 → List UInt8 → Option (List UInt8)
  | [], r => some r
  | _ :: _, [] => none
  | c :: p, x :: r => if x = c then strip p r else none
def readL (c : UInt8) (r : List UInt8) : Option (Int × List UInt8) := if numB c then (if regB c then readReg r else readNum r) else (strip [c] r).map fun q => (0, q)
/-- the program's way along a form -/
def pgo : List UInt8 → List UInt8 → Option F → Option (List UInt8 × Option F)
  | [], r, a => some (r, a)
  | c :: cs, r, a => match readL c r with | none => none | some (n, r1) => pgo cs r1 (put c n a)
/-- an operation's number by its name -/
def opAt (l : List UInt8) : List Nat → Nat
  | [] => 0
  | k :: ks => if nme k = l then k else opAt l ks
def ops : List Nat := (List.range 53).map (· + 1)
def opOf (l : List UInt8) : Nat := opAt l ops
inductive PR where
  | name | text | bound | ok (k : Nat) (f : F)
def fin (k : Nat) : Option (List UInt8 × Option F) → PR
  | none => .text
  | some ([], some f) => .ok k f
  | some ([], none) => .bound
  | some (_ :: _, _) => .text
def isWord (c : UInt8) : Bool := !(c == 32)
def parseS (l : List UInt8) : PR := if opOf (l.takeWhile isWord) = 0 then .name else fin (opOf (l.takeWhile isWord)) (pgo (form (opOf (l.takeWhile isWord))) (l.dropWhile isWord) (some ⟨0, 0, 0, 0⟩))
/-! ### names -/
theorem mem_ops {k : Nat} : k ∈ ops ↔ 1 ≤ k ∧ k < 54 := by
  unfold ops; simp only [List.mem_map, List.mem_range]
  constructor
  · rintro ⟨a, h, rfl⟩; omega
  · intro h; exact ⟨k - 1, by omega, by omega⟩
theorem opAt_spec (l : List UInt8) : ∀ ks : List Nat, (opAt l ks ∈ ks ∧ nme (opAt l ks) = l) ∨ (opAt l ks = 0 ∧ ∀ j ∈ ks, nme j ≠ l)
  | [] => Or.inr ⟨rfl, by simp⟩
  | k :: ks => by
    unfold opAt
    by_cases h : nme k = l
    · rw [if_pos h]; exact Or.inl ⟨by simp, h⟩
    · rw [if_neg h]
      rcases opAt_spec l ks with g | g
      · exact Or.inl ⟨by simp [g.1], g.2⟩
      · refine Or.inr ⟨g.1, fun j hj => ?_⟩
        rcases List.mem_cons.mp hj with rfl | hj
        · exact h
        · exact g.2 j hj
def IsNm (l : List UInt8) (k : Nat) : Prop := (1 ≤ k ∧ k < 54 ∧ nme k = l) ∨ (k = 0 ∧ ∀ j, 1 ≤ j → j < 54 → nme j ≠ l)
theorem opOf_is (l : List UInt8) : IsNm l (opOf l) := by
  rcases opAt_spec l ops with g | g
  · have := mem_ops.mp g.1; exact Or.inl ⟨this.1, this.2, g.2⟩
  · exact Or.inr ⟨g.1, fun j h1 h2 => g.2 j (mem_ops.mpr ⟨h1, h2⟩)⟩
theorem nme_inj : ∀ k, k < 54 → ∀ j, j < 54 → nme k = nme j → k = j := by decide
theorem isNm_one {l : List UInt8} {k j : Nat} (h : IsNm l k) (g : IsNm l j) : k = j := by
  rcases h with ⟨a, b, c⟩ | ⟨a, b⟩
  · rcases g with ⟨d, e, f⟩ | ⟨d, e⟩
    · exact nme_inj k b j e (by rw [c, f])
    · exact absurd c (e k a b)
  · rcases g with ⟨d, e, f⟩ | ⟨d, e⟩
    · exact absurd f (b j d e)
    · omega
theorem opOf_lt (l : List UInt8) : opOf l < 54 := by rcases opOf_is l with h | h <;> omega
theorem opOf_nme (k : Nat) (h1 : 1 ≤ k) (h2 : k < 54) : opOf (nme k) = k := isNm_one (opOf_is _) (Or.inl ⟨h1, h2, rfl⟩)
/-! ### the document's answer's way -/
def sep (first : Bool) : List UInt8 := if first then [32] else [44, 32]
def regD (r : List UInt8) : Option (Int × List UInt8) := match strip [36] r with | none => none | some q => regS q
def lett (o : UInt8) : UInt8 := if o = 110 ∨ o = 109 then 105 else o
def rgo : List UInt8 → Bool → List UInt8 → Option F → Option (List UInt8 × Option F)
  | [], _, r, a => some (r, a)
  | o :: os, first, r, a => match strip (sep first) r with
    | none => none
    | some r1 => match (if regB o then regD r1 else rnum r1) with
      | none => none
      | some (n, r2) =>
        if o = 109 then match strip [40] r2 with
          | none => none
          | some r3 => match regD r3 with
            | none => none
            | some (n', r4) => match strip [41] r4 with
              | none => none
              | some r5 => rgo os false r5 (put 83 n' (put 105 n a))
        else rgo os false r2 (put (lett o) n a)
def pc (o : UInt8) : List UInt8 := if regB o then [36, o] else if o = 110 then [105] else if o = 109 then [105, 40, 36, 83, 41] else [o]
def expand : Bool → List UInt8 → List UInt8
  | _, [] => []
  | first, o :: os => sep first ++ pc o ++ expand false os
def ordB (o : UInt8) : Bool := regB o || o == 97 || o == 110 || o == 109 || o == 117 || o == 106
theorem ordr_ok : ∀ k, k < 54 → (ordr k).all ordB = true := by decide
theorem form_expand : ∀ k, k < 54 → form k = expand true (ordr k) := by decide
theorem pgo_lits (p : List UInt8) (hp : p.all (fun c => !numB c) = true) (cs r : List UInt8) (a : Option F) : pgo (p ++ cs) r a = match strip p r with | none => none | some q => pgo cs q a := by
  induction p generalizing r with
  | nil => rfl
  | cons c p ih =>
    simp only [List.all_cons, Bool.and_eq_true, Bool.not_eq_true'] at hp
    have hpu : ∀ n, put c n a = a := by intro n; cases a <;> simp [put, hp.1]
    cases r with
    | nil => simp [pgo, readL, hp.1, strip]
    | cons x r =>
      by_cases h : x = c
      · subst h
        have := ih hp.2 r
        simp [pgo, readL, hp.1, strip, hpu, this]
      · simp [pgo, readL, hp.1, strip, h]
theorem dash_text (k : Nat) (os : List UInt8) (r : List UInt8) (a : Option F) (h : r.head? = some 45) : fin k (rgo os false r a) = .text := by
  cases r with
  | nil => simp at h
  | cons x r =>
    simp at h; subst h
    cases os with
    | nil => cases a <;> rfl
    | cons o os => simp [rgo, sep, strip, fin]
theorem fin_none (k : Nat) : fin k none = .text := rfl
theorem pgo_num (c : UInt8) (hc : numB c = true) (cs r : List UInt8) (a : Option F) : pgo (c :: cs) r a = match (if regB c then readReg r else readNum r) with | none => none | some (n, r1) => pgo cs r1 (put c n a) := by
  rw [pgo, readL, if_pos hc]
set_option maxHeartbeats 1000000 in
theorem way_eq (k : Nat) (os : List UInt8) (ho : os.all ordB = true) (first : Bool) (r : List UInt8) (a : Option F) : fin k (rgo os first r a) = fin k (pgo (expand first os) r a) := by
  induction os generalizing first r a with
  | nil => rfl
  | cons o os ih =>
    simp only [List.all_cons, Bool.and_eq_true] at ho
    obtain ⟨ho1, ho2⟩ := ho
    have IH := fun r a => ih ho2 false r a
    have hs : (sep first).all (fun c => !numB c) = true := by cases first <;> decide
    rw [expand, List.append_assoc, pgo_lits _ hs, rgo]
    cases hst : strip (sep first) r with
    | none => rfl
    | some r1 =>
      simp only
      by_cases hr : regB o = true
      · have hn : numB o = true := by unfold numB; rw [hr]; rfl
        have h109 : ¬ o = 109 := by intro e; subst e; exact absurd hr (by decide)
        have h110 : ¬ o = 110 := by intro e; subst e; exact absurd hr (by decide)
        have e1 : pgo (pc o ++ expand false os) r1 a = match strip [36] r1 with | none => none | some q => pgo (o :: expand false os) q a := by
          rw [pc, if_pos hr]
          exact pgo_lits [36] (by decide) (o :: expand false os) r1 a
        simp only [e1, hr, if_true, h109, if_false, regD]
        cases h36 : strip [36] r1 with
        | none => rfl
        | some q =>
          simp only
          rw [pgo_num o hn, if_pos hr, readReg_eq]
          cases hq : regS q with
          | none => rfl
          | some x =>
            obtain ⟨n, r2⟩ := x
            simp only [lett, h109, h110, or_self, if_false]
            exact IH _ _
      · by_cases h109 : o = 109
        · subst h109
          have e1 : pgo (pc 109 ++ expand false os) r1 a = pgo (105 :: ([40, 36] ++ (83 :: ([41] ++ expand false os)))) r1 a := rfl
          rw [e1, pgo_num 105 (by decide), if_neg (by decide), if_neg (by decide), readNum_eq]
          cases hq : rnum r1 with
          | none => rfl
          | some x =>
            obtain ⟨n, r2⟩ := x
            simp only [if_true]
            by_cases h45 : r2.head? = some 45
            · rw [if_pos h45]
              cases r2 with
              | nil => simp at h45
              | cons y r2 => simp at h45; subst h45; simp [strip]
            · rw [if_neg h45]
              simp only
              rw [pgo_lits [40, 36] (by decide)]
              cases r2 with
              | nil => simp [strip]
              | cons y r2 =>
                by_cases hy : y = 40
                · subst hy
                  simp only [strip, if_true, regD]
                  cases r2 with
                  | nil => simp [strip]
                  | cons z r2 =>
                    by_cases hz : z = 36
                    · subst hz
                      simp only [strip, if_true]
                      rw [pgo_num 83 (by decide), if_pos (by decide), readReg_eq]
                      cases hq2 : regS r2 with
                      | none => rfl
                      | some x =>
                        obtain ⟨n', r4⟩ := x
                        simp only
                        rw [pgo_lits [41] (by decide)]
                        cases h41 : strip [41] r4 with
                        | none => rfl
                        | some r5 => exact IH _ _
                    · simp [strip, hz]
                · simp [strip, hy]
        · have hn : numB (lett o) = true ∧ regB (lett o) = false ∧ pc o = [lett o] := by
            have : o = 97 ∨ o = 110 ∨ o = 117 ∨ o = 106 := by
              unfold ordB at ho1
              simp only [Bool.or_eq_true, beq_iff_eq, hr, h109, or_false, false_or, Bool.false_eq_true] at ho1
              rcases ho1 with ((h | h) | h) | h <;> simp [h]
            rcases this with rfl | rfl | rfl | rfl <;> decide
          obtain ⟨hn1, hn2, hn3⟩ := hn
          simp only [hn3, hr, if_false, h109, Bool.false_eq_true]
          rw [List.singleton_append, pgo_num _ hn1, if_neg (by rw [hn2]; decide), readNum_eq]
          cases hq : rnum r1 with
          | none => rfl
          | some x =>
            obtain ⟨n, r2⟩ := x
            simp only
            by_cases h45 : r2.head? = some 45
            · rw [if_pos h45]
              exact dash_text k os r2 _ h45
            · rw [if_neg h45]
              exact IH _ _
theorem parse_way (k : Nat) (hk : k < 54) (r : List UInt8) (a : Option F) : fin k (rgo (ordr k) true r a) = fin k (pgo (form k) r a) := by
  rw [form_expand k hk]; exact way_eq k _ (ordr_ok k hk) true r a
end Go.Proofs.YtccnliihdhnckaaGreatDoor.Fm
/-
  An instruction is read as it was written, and what is read was written so: forms, lists of bytes, no Go in sight.
-/
namespace Go.Proofs.YtccnliihdhnckaaGreatDoor.Fm
open Go.Lib Tab Txt
set_option linter.unusedVariables false
def okF (k : Nat) (f : F) : Prop := okB (sh k) f.s f.t f.d f.m = true ∧ 0 ≤ f.m
/-- which field a letter tells -/
def tgt (c : UInt8) : Nat := if c = 83 then 0 else if c = 84 then 1 else if c = 68 then 2 else 3
def onceB : List UInt8 → Bool
  | [] => true
  | c :: cs => (!numB c || cs.all (fun x => !numB x || tgt x != tgt c)) && onceB cs
theorem form_once : ∀ k, k < 54 → onceB (form k) = true := by decide
theorem num_cases {c : UInt8} (h : numB c = true) : c = 83 ∨ c = 84 ∨ c = 68 ∨ c = 97 ∨ c = 105 ∨ c = 117 ∨ c = 106 := by
  unfold numB regB at h
  simp only [Bool.or_eq_true, beq_iff_eq] at h
  rcases h with (((((h | h) | h) | h) | h) | h) | h <;> simp [h]
theorem vl_set (f : F) (c : UInt8) (hc : numB c = true) (n : Int) (hb : inB c n = true) : vl (setF f c n) c = n := by
  unfold inB at hb
  simp only [decide_eq_true_eq] at hb
  rcases num_cases hc with rfl | rfl | rfl | rfl | rfl | rfl | rfl <;> simp [vl, setF, lowB, highB, regB, s16] at hb ⊢ <;> omega
theorem vl_other (f : F) (c x : UInt8) (hc : numB c = true) (hx : numB x = true) (n : Int) (h : tgt x ≠ tgt c) : vl (setF f x n) c = vl f c := by
  rcases num_cases hc with rfl | rfl | rfl | rfl | rfl | rfl | rfl <;> rcases num_cases hx with rfl | rfl | rfl | rfl | rfl | rfl | rfl <;> simp [vl, setF, tgt] at h ⊢
theorem pgo_none (cs r : List UInt8) (r' : List UInt8) (f : F) : pgo cs r none ≠ some (r', some f) := by
  induction cs generalizing r with
  | nil => simp [pgo]
  | cons c cs ih =>
    rw [pgo]
    cases readL c r with
    | none => simp
    | some x => obtain ⟨n, r1⟩ := x; exact ih r1
theorem pgo_keep (cs r r' : List UInt8) (g f : F) (h : pgo cs r (some g) = some (r', some f)) (c : UInt8) (hc : numB c = true) (ht : cs.all (fun x => !numB x || tgt x != tgt c) = true) : vl f c = vl g c := by
  induction cs generalizing r g with
  | nil => simp [pgo] at h; rw [h.2]
  | cons x cs ih =>
    simp only [List.all_cons, Bool.and_eq_true] at ht
    rw [pgo] at h
    cases hr : readL x r with
    | none => rw [hr] at h; simp at h
    | some y =>
      obtain ⟨n, r1⟩ := y
      rw [hr] at h
      simp only at h
      by_cases hx : numB x = true
      · rw [put, if_pos hx] at h
        split at h
        · have := ih r1 _ h ht.2
          rw [this]
          refine vl_other g c x hc hx n ?_
          have h1 := ht.1
          rw [hx] at h1
          simpa using h1
        · exact absurd h (pgo_none _ _ _ _)
      · rw [put, if_neg hx] at h
        exact ih r1 _ h ht.2
theorem strip_one {c : UInt8} {r q : List UInt8} (h : strip [c] r = some q) : r = c :: q := by
  cases r with
  | nil => simp [strip] at h
  | cons x r => simp [strip] at h; rw [h.1, h.2]
theorem read_num {c : UInt8} (hc : numB c = true) {r r1 : List UInt8} {n : Int} (h : readL c r = some (n, r1)) : r = itoa n ++ r1 := by
  rw [readL, if_pos hc] at h
  split at h
  · exact ((readReg_iff _ _ _).mp h).1
  · exact ((readNum_iff _ _ _).mp h).1
/-- what was read is what is written -/
theorem pgo_back (cs r r' : List UInt8) (g f : F) (ho : onceB cs = true) (h : pgo cs r (some g) = some (r', some f)) : r = cs.flatMap (rend f) ++ r' ∧ (∀ c ∈ cs, numB c = true → inB c (vl f c) = true) := by
  induction cs generalizing r g with
  | nil => simp [pgo] at h; simp [h.1]
  | cons c cs ih =>
    rw [onceB, Bool.and_eq_true] at ho
    rw [pgo] at h
    cases hr : readL c r with
    | none => rw [hr] at h; simp at h
    | some y =>
      obtain ⟨n, r1⟩ := y
      rw [hr] at h
      simp only at h
      by_cases hc : numB c = true
      · rw [put, if_pos hc] at h
        split at h
        · rename_i hb
          obtain ⟨e1, e2⟩ := ih r1 _ ho.2 h
          have hv : vl f c = n := by
            rw [pgo_keep cs r1 r' _ f h c hc (by have := ho.1; rw [hc] at this; simpa using this)]
            exact vl_set g c hc n hb
          refine ⟨?_, ?_⟩
          · rw [read_num hc hr, e1]; simp [rend, hc, hv]
          · intro x hx hn
            rcases List.mem_cons.mp hx with rfl | hx
            · rw [hv]; exact hb
            · exact e2 x hx hn
        · exact absurd h (pgo_none _ _ _ _)
      · rw [put, if_neg hc] at h
        obtain ⟨e1, e2⟩ := ih r1 _ ho.2 h
        rw [readL, if_neg hc] at hr
        have hs : strip [c] r = some r1 := by
          cases hh : strip [c] r with
          | none => rw [hh] at hr; simp at hr
          | some q => rw [hh] at hr; simp at hr; rw [hr.2]
        refine ⟨?_, ?_⟩
        · rw [strip_one hs, e1]; simp [rend, hc]
        · intro x hx hn
          rcases List.mem_cons.mp hx with rfl | hx
          · exact absurd hn hc
          · exact e2 x hx hn
theorem pgo_nn (cs r r' : List UInt8) (g f : F) (hg : 0 ≤ g.m) (h : pgo cs r (some g) = some (r', some f)) : 0 ≤ f.m := by
  induction cs generalizing r g with
  | nil => simp [pgo] at h; rw [← h.2]; exact hg
  | cons c cs ih =>
    rw [pgo] at h
    cases hr : readL c r with
    | none => rw [hr] at h; simp at h
    | some y =>
      obtain ⟨n, r1⟩ := y
      rw [hr] at h
      simp only at h
      by_cases hc : numB c = true
      · rw [put, if_pos hc] at h
        split at h
        · refine ih r1 _ ?_ h
          rcases num_cases hc with rfl | rfl | rfl | rfl | rfl | rfl | rfl <;> simp [setF] <;> omega
        · exact absurd h (pgo_none _ _ _ _)
      · rw [put, if_neg hc] at h
        exact ih r1 _ hg h
/-- the letters of a form are those of the shape -/
theorem form_fields : ∀ k, k < 54 → hasS (sh k) = (form k).contains 83 ∧ hasT (sh k) = (form k).contains 84 ∧ hasD (sh k) = (form k).contains 68 ∧ hasA (sh k) = (form k).contains 97 ∧ hasI (sh k) = ((form k).contains 105 || (form k).contains 117) ∧ hasJ (sh k) = (form k).contains 106 ∧ ((form k).contains 105 && (form k).contains 117) = false := by decide
theorem all_tgt (cs : List UInt8) (c : UInt8) (h : ∀ x ∈ cs, numB x = true → tgt x ≠ tgt c) : cs.all (fun x => !numB x || tgt x != tgt c) = true := by
  rw [List.all_eq_true]
  intro x hx
  by_cases hn : numB x = true
  · have := h x hx hn; simp [this]
  · simp [hn]
theorem contains_mem {cs : List UInt8} {c : UInt8} : cs.contains c = true ↔ c ∈ cs := by simp
theorem tgt3 {x : UInt8} (hn : numB x = true) (h : tgt x = 3) : x = 97 ∨ x = 105 ∨ x = 117 ∨ x = 106 := by
  rcases num_cases hn with rfl | rfl | rfl | rfl | rfl | rfl | rfl <;> simp [tgt] at h ⊢
theorem okF_of (k : Nat) (hk : k < 54) (r : List UInt8) (f : F) (h : pgo (form k) r (some ⟨0, 0, 0, 0⟩) = some ([], some f)) : okF k f ∧ r = (form k).flatMap (rend f) := by
  obtain ⟨e1, e2⟩ := pgo_back _ _ _ _ _ (form_once k hk) h
  have hm := pgo_nn _ _ _ _ _ (by simp) h
  obtain ⟨aS, aT, aD, aA, aI, aJ, aX⟩ := form_fields k hk
  have W : ∀ (c : UInt8), regB c = true → well (vl f c) ((form k).contains c) = true := by
    intro c hc
    have hn : numB c = true := by unfold numB; rw [hc]; rfl
    cases hh : (form k).contains c with
    | true =>
      have := e2 c (contains_mem.mp hh) hn
      unfold inB at this
      simp only [decide_eq_true_eq, highB, hc, Bool.true_or, if_true] at this
      have hl : lowB c = 0 := by unfold lowB; rw [if_neg]; intro e; subst e; exact absurd hc (by decide)
      unfold well
      simp
      omega
    | false =>
      have hz : vl f c = 0 := by
        rw [pgo_keep _ _ _ _ _ h c hn (all_tgt _ _ fun x hx hxn ht => ?_)]
        · rcases num_cases hn with rfl | rfl | rfl | rfl | rfl | rfl | rfl <;> rfl
        · have : x = c := by
            unfold regB at hc
            simp only [Bool.or_eq_true, beq_iff_eq] at hc
            rcases num_cases hxn with rfl | rfl | rfl | rfl | rfl | rfl | rfl <;> rcases hc with (rfl | rfl) | rfl <;> simp [tgt] at ht ⊢
          subst this
          rw [contains_mem.mpr hx] at hh
          cases hh
      rw [hz]; simp [well]
  have B := fun (c : UInt8) (hn : numB c = true) (hh : (form k).contains c = true) => e2 c (contains_mem.mp hh) hn
  refine ⟨⟨?_, hm⟩, by simpa using e1⟩
  unfold okB
  rw [aS, aT, aD]
  have w1 := W 83 (by decide); have w2 := W 84 (by decide); have w3 := W 68 (by decide)
  simp only [vl] at w1 w2 w3
  simp only [if_true, show ¬ (84 : UInt8) = 83 by decide, show ¬ (68 : UInt8) = 83 by decide, show ¬ (68 : UInt8) = 84 by decide, if_false] at w1 w2 w3
  rw [w1, w2, w3]
  simp only [Bool.true_and, decide_eq_true_eq]
  unfold top
  rw [aJ, aI, aA]
  cases h106 : (form k).contains 106 with
  | true =>
    have := B 106 (by decide) h106
    simp [inB, vl, lowB, highB, regB] at this
    simp; omega
  | false =>
    cases h117 : (form k).contains 117 with
    | true =>
      have := B 117 (by decide) h117
      simp [inB, vl, lowB, highB, regB] at this
      simp; omega
    | false =>
      cases h105 : (form k).contains 105 with
      | true =>
        -- Imm of 16 bits: what was put was so
        have key : ∀ (cs r r' : List UInt8) (g : F), g.m < 65536 → cs.contains 106 = false → pgo cs r (some g) = some (r', some f) → f.m < 65536 := by
          intro cs
          induction cs with
          | nil => intro r r' g hg _ hh; simp [pgo] at hh; rw [← hh.2]; exact hg
          | cons c cs ih =>
            intro r r' g hg hj hh
            rw [pgo] at hh
            have hj2 : cs.contains 106 = false := by
              cases h9 : cs.contains 106 with
              | false => rfl
              | true => rw [List.contains_cons, h9] at hj; simp at hj
            have hcj : c ≠ 106 := by intro e; subst e; simp at hj
            cases hr : readL c r with
            | none => rw [hr] at hh; simp at hh
            | some y =>
              obtain ⟨n, r1⟩ := y
              rw [hr] at hh
              simp only at hh
              by_cases hc : numB c = true
              · rw [put, if_pos hc] at hh
                split at hh
                · rename_i hb
                  refine ih r1 r' _ ?_ hj2 hh
                  rcases num_cases hc with rfl | rfl | rfl | rfl | rfl | rfl | rfl <;> simp [setF, inB, lowB, highB, regB] at hb hcj ⊢ <;> omega
                · exact absurd hh (pgo_none _ _ _ _)
              · rw [put, if_neg hc] at hh
                exact ih r1 r' _ hg hj2 hh
        have := key _ _ _ _ (by simp) h106 h
        simp; omega
      | false =>
        cases h97 : (form k).contains 97 with
        | true =>
          have := B 97 (by decide) h97
          simp [inB, vl, lowB, highB, regB] at this
          simp; omega
        | false =>
          have hz : vl f 97 = 0 := by
            rw [pgo_keep _ _ _ _ _ h 97 (by decide) (all_tgt _ _ fun x hx hxn ht => ?_)]
            · rfl
            · have hx' := contains_mem.mpr hx
              rcases tgt3 hxn ht with rfl | rfl | rfl | rfl
              · rw [h97] at hx'; cases hx'
              · rw [h105] at hx'; cases hx'
              · rw [h117] at hx'; cases hx'
              · rw [h106] at hx'; cases hx'
          have : f.m = 0 := hz
          simp; omega
theorem parse_ok (l : List UInt8) (k : Nat) (f : F) (h : parseS l = .ok k f) : 1 ≤ k ∧ k < 54 ∧ okF k f ∧ ptext k f = l := by
  unfold parseS at h
  split at h
  · cases h
  · rename_i h0
    have hlt := opOf_lt (l.takeWhile isWord)
    generalize hk : opOf (l.takeWhile isWord) = j at h h0 hlt
    have hn : nme j = l.takeWhile isWord := by
      rcases opOf_is (l.takeWhile isWord) with g | g
      · rw [hk] at g; exact g.2.2
      · rw [hk] at g; exact absurd g.1 h0
    cases hp : pgo (form j) (l.dropWhile isWord) (some ⟨0, 0, 0, 0⟩) with
    | none => rw [hp] at h; cases h
    | some x =>
      obtain ⟨r, a⟩ := x
      rw [hp] at h
      cases r with
      | cons y r => cases h
      | nil =>
        cases a with
        | none => cases h
        | some g =>
          injection h with e1 e2
          subst e1 e2
          obtain ⟨a1, a2⟩ := okF_of j hlt _ g hp
          refine ⟨by omega, hlt, a1, ?_⟩
          unfold ptext
          rw [← a2, hn]
          simp
/-! ### what is written is read -/
theorem ok_parts (k : Nat) (f : F) (h : okF k f) : well f.s (hasS (sh k)) = true ∧ well f.t (hasT (sh k)) = true ∧ well f.d (hasD (sh k)) = true ∧ f.m ≤ top (sh k) ∧ 0 ≤ f.m := by
  obtain ⟨h1, h2⟩ := h
  unfold okB at h1
  simp only [Bool.and_eq_true, decide_eq_true_eq] at h1
  exact ⟨h1.1.1.1, h1.1.1.2, h1.1.2, h1.2, h2⟩
/-! ### the document's answer's text -/
def i16 (m : Int) : Int := if m < 32768 then m else m - 65536
end Go.Proofs.YtccnliihdhnckaaGreatDoor.Fm
