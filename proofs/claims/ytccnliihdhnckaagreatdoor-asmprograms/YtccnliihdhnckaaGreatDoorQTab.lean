/-
  The table of operations, in whole numbers: what tells an operation, its fields, a word's instruction: no Go in sight.
-/
namespace Go.Proofs.YtccnliihdhnckaaGreatDoor.Tab
set_option linter.unusedVariables false
/-- the first word of each operation -/
def fstL : List Int := [0, 0, 2, 3, 4, 6, 7, 8, 9, 12, 13, 16, 17, 18, 19, 24, 25, 26, 27, 32, 33, 34, 35, 36, 37, 38, 39, 42, 43, 134217728, 201326592, 268435456, 335544320, 402653184, 469762048, 536870912, 603979776, 671088640, 738197504, 805306368, 872415232, 939524096, 1006632960, 1073741824, 1082130432, 1107296280, 2147483648, 2214592512, 2348810240, 2415919104, 2483027968, 2684354560, 2751463424, 2885681152]
def fst (k : Nat) : Int := fstL.getD k 0
/-- MAJOR and MINOR -/
def mjL : List Int := [0, 0, 0, 0, 0, 0, 0, 0, 0, 0, 0, 0, 0, 0, 0, 0, 0, 0, 0, 0, 0, 0, 0, 0, 0, 0, 0, 0, 0, 2, 3, 4, 5, 6, 7, 8, 9, 10, 11, 12, 13, 14, 15, 16, 16, 16, 32, 33, 35, 36, 37, 40, 41, 43]
def mnL : List Int := [0, 0, 2, 3, 4, 6, 7, 8, 9, 12, 13, 16, 17, 18, 19, 24, 25, 26, 27, 32, 33, 34, 35, 36, 37, 38, 39, 42, 43, 0, 0, 0, 0, 0, 0, 0, 0, 0, 0, 0, 0, 0, 0, 0, 4, 16, 0, 0, 0, 0, 0, 0, 0, 0]
def mj (k : Nat) : Int := mjL.getD k 0
def mn (k : Nat) : Int := mnL.getD k 0
/-- the shape of an operation's fields -/
def shL : List Nat := [0, 1, 1, 1, 2, 2, 2, 3, 4, 0, 0, 5, 3, 5, 3, 6, 6, 6, 6, 2, 2, 2, 2, 2, 2, 2, 2, 2, 2, 7, 7, 8, 8, 9, 9, 8, 8, 8, 8, 8, 8, 8, 10, 11, 11, 0, 8, 8, 8, 8, 8, 8, 8, 8]
def sh (k : Nat) : Nat := shL.getD k 0
/-- the letters of a shape -/
def ltL : List (List UInt8) := [[], [84, 68, 97], [83, 84, 68], [83], [83, 68], [68], [83, 84], [106], [83, 84, 105], [83, 105], [84, 105], [84, 68]]
def lt (n : Nat) : List UInt8 := ltL.getD n []
def flds (k : Nat) : List UInt8 := lt (sh k)
/-- the kinds -/
def kdL : List Nat := [3, 1, 1, 1, 1, 1, 1, 2, 2, 3, 3, 1, 1, 1, 1, 1, 1, 1, 1, 1, 1, 1, 1, 1, 1, 1, 1, 1, 1, 2, 2, 2, 2, 2, 2, 1, 1, 1, 1, 1, 1, 1, 1, 3, 3, 3, 4, 4, 4, 4, 4, 5, 5, 5]
def kwL : List (List UInt8) := [[], [115, 117, 109], [98, 114, 97, 110, 99, 104], [116, 114, 97, 112], [108, 111, 97, 100], [115, 116, 111, 114, 101]]
def kind (k : Nat) : List UInt8 := kwL.getD (kdL.getD k 0) []
/-- has a shape a letter? -/
def hasS (n : Nat) : Bool := (lt n).contains 83
def hasT (n : Nat) : Bool := (lt n).contains 84
def hasD (n : Nat) : Bool := (lt n).contains 68
def hasA (n : Nat) : Bool := (lt n).contains 97
def hasI (n : Nat) : Bool := (lt n).contains 105
def hasJ (n : Nat) : Bool := (lt n).contains 106
/-- the most that Imm may be, and what it is taken by -/
def top (n : Nat) : Int := if hasJ n then 67108863 else if hasI n then 65535 else if hasA n then 31 else 0
def by_ (n : Nat) : Int := if hasA n then 64 else 1
/-- the word of fields -/
def enc (k : Nat) (s t d m : Int) : Int := fst k + s * 2097152 + t * 65536 + d * 2048 + m * by_ (sh k)
/-- may a register's field be so -/
def well (n : Int) (has : Bool) : Bool := decide (n = 0) || (has && decide (0 < n) && decide (n < 32))
/-- are the fields those of an instruction -/
def okB (n : Nat) (s t d m : Int) : Bool := well s (hasS n) && well t (hasT n) && well d (hasD n) && decide (m ≤ top n)
/-- the fields that a word has -/
def xs (n : Nat) (w : Int) : Int := if hasS n then w / 2097152 % 32 else 0
def xt (n : Nat) (w : Int) : Int := if hasT n then w / 65536 % 32 else 0
def xd (n : Nat) (w : Int) : Int := if hasD n then w / 2048 % 32 else 0
def xm (n : Nat) (w : Int) : Int := if hasJ n then w % 67108864 else if hasI n then w % 65536 else if hasA n then w / 64 % 32 else 0
/-- the word that they make again -/
def xw (k : Nat) (w : Int) : Int := enc k (xs (sh k) w) (xt (sh k) w) (xd (sh k) w) (xm (sh k) w)
/-- what tells the operation of a word -/
def key (w : Int) : Int := if w / 67108864 = 0 then w % 64 else if w / 67108864 = 16 then 1073741824 + w / 2097152 % 32 * 2097152 + w % 64 else w / 67108864 * 67108864
/-- is a word of a row, as the document's answer looks -/
def isB (k : Nat) (w : Int) : Bool :=
  let n := sh k
  let minor : Int := if mj k = 0 then mn k else if mj k = 16 then (if mn k = 16 then 24 else 0) else 0
  let s : Int := if mj k = 16 then mn k else 0
  decide (w / 67108864 % 64 = mj k) && (hasJ n ||
    ((hasS n || decide (w / 2097152 % 32 = s)) && (hasT n || decide (w / 65536 % 32 = 0)) && (hasI n ||
      ((hasD n || decide (w / 2048 % 32 = 0)) && (hasA n || decide (w / 64 % 32 = 0)) && decide (w % 64 = minor)))))
/-- what an operation's first word is, by its shape -/
def fitB (k : Nat) : Bool :=
  if hasI (sh k) || hasJ (sh k) then decide (fst k = mj k * 67108864 ∧ 1 ≤ mj k ∧ mj k < 64 ∧ mj k ≠ 16)
  else if sh k = 11 ∨ k = 45 then decide (mj k = 16 ∧ 0 ≤ mn k ∧ mn k < 32 ∧ ((k = 45 ∧ mn k = 16 ∧ fst k = 1107296280) ∨ (k ≠ 45 ∧ mn k ≠ 16 ∧ fst k = 1073741824 + mn k * 2097152)))
  else decide (mj k = 0 ∧ 0 ≤ mn k ∧ mn k < 64 ∧ fst k = mn k)
theorem fit_all : ∀ k, k < 54 → fitB k = true := by decide
theorem sh_45 : ∀ k, k < 54 → k = 45 → sh k = 0 := by decide
theorem sh_all : ∀ k, k < 54 → sh k < 12 := by decide
theorem fst_inj : ∀ k, k < 54 → ∀ j, j < 54 → 1 ≤ k → 1 ≤ j → fst k = fst j → k = j := by decide
theorem well_of {n : Int} {b : Bool} (h : well n b = true) : (b = true ∧ 0 ≤ n ∧ n < 32) ∨ (b = false ∧ n = 0) := by
  unfold well at h; cases b <;> simp at h ⊢ <;> omega
set_option maxHeartbeats 2000000 in
/-- a valid instruction's word: what tells it, and its fields -/
theorem enc_of (k : Nat) (hk : k < 54) (h1 : 1 ≤ k) (s t d m : Int) (hm : 0 ≤ m) (h : okB (sh k) s t d m = true) :
    0 ≤ enc k s t d m ∧ enc k s t d m < 4294967296 ∧ key (enc k s t d m) = fst k ∧ xs (sh k) (enc k s t d m) = s ∧ xt (sh k) (enc k s t d m) = t ∧ xd (sh k) (enc k s t d m) = d ∧ xm (sh k) (enc k s t d m) = m := by
  have hf := fit_all k hk
  have hn := sh_all k hk
  have h45 := sh_45 k hk
  unfold okB at h
  simp only [Bool.and_eq_true, decide_eq_true_eq] at h
  obtain ⟨⟨⟨a, b⟩, c⟩, e⟩ := h
  have a := well_of a
  have b := well_of b
  have c := well_of c
  unfold enc
  unfold fitB at hf
  generalize hfk : fst k = f at hf ⊢
  generalize mj k = M at hf
  generalize mn k = N at hf
  generalize hsh : sh k = n at *
  have hc : n = 0 ∨ n = 1 ∨ n = 2 ∨ n = 3 ∨ n = 4 ∨ n = 5 ∨ n = 6 ∨ n = 7 ∨ n = 8 ∨ n = 9 ∨ n = 10 ∨ n = 11 := by omega
  clear hn
  rcases hc with rfl | rfl | rfl | rfl | rfl | rfl | rfl | rfl | rfl | rfl | rfl | rfl <;>
    simp [hasS, hasT, hasD, hasA, hasI, hasJ, lt, ltL, top, by_, xs, xt, xd, xm] at a b c e hf h45 ⊢ <;>
    (try split at hf) <;> (try simp at hf) <;> (try subst a) <;> (try subst b) <;> (try subst c) <;>
    (refine ⟨by omega, by omega, ?_, ?_⟩
     · unfold key; (repeat' split) <;> omega
     · (repeat' apply And.intro) <;> omega)
theorem ok_of (n : Nat) (hn : n < 12) (w : Int) (h0 : 0 ≤ w) (h1 : w < 4294967296) : okB n (xs n w) (xt n w) (xd n w) (xm n w) = true ∧ 0 ≤ xm n w := by
  have hc : n = 0 ∨ n = 1 ∨ n = 2 ∨ n = 3 ∨ n = 4 ∨ n = 5 ∨ n = 6 ∨ n = 7 ∨ n = 8 ∨ n = 9 ∨ n = 10 ∨ n = 11 := by omega
  clear hn
  rcases hc with rfl | rfl | rfl | rfl | rfl | rfl | rfl | rfl | rfl | rfl | rfl | rfl <;>
    simp [okB, well, hasS, hasT, hasD, hasA, hasI, hasJ, lt, ltL, top, xs, xt, xd, xm] <;> omega
/-- what makes its word again is told by its key -/
theorem xw_key (k : Nat) (hk : k < 54) (h1 : 1 ≤ k) (w : Int) (h0 : 0 ≤ w) (g : w < 4294967296) (h : xw k w = w) : key w = fst k := by
  have o := ok_of (sh k) (sh_all k hk) w h0 g
  have e := enc_of k hk h1 _ _ _ _ o.2 o.1
  have e3 := e.2.2.1
  change key (xw k w) = fst k at e3
  rw [h] at e3; exact e3
theorem xw_one (k j : Nat) (hk : k < 54) (h1 : 1 ≤ k) (hj : j < 54) (g1 : 1 ≤ j) (w : Int) (h0 : 0 ≤ w) (g : w < 4294967296) (h : xw k w = w) (h' : xw j w = w) : k = j :=
  fst_inj k hk j hj h1 g1 ((xw_key k hk h1 w h0 g h).symm.trans (xw_key j hj g1 w h0 g h'))
set_option maxHeartbeats 2000000 in
/-- the document's look at a row -/
theorem is_xw (k : Nat) (hk : k < 54) (h1 : 1 ≤ k) (w : Int) (h0 : 0 ≤ w) (g : w < 4294967296) : isB k w = decide (xw k w = w) := by
  have hf := fit_all k hk
  have hn := sh_all k hk
  have h45 := sh_45 k hk
  unfold xw enc isB
  unfold fitB at hf
  generalize hfk : fst k = f at hf ⊢
  generalize mj k = M at hf ⊢
  generalize mn k = N at hf ⊢
  generalize hsh : sh k = n at *
  have hc : n = 0 ∨ n = 1 ∨ n = 2 ∨ n = 3 ∨ n = 4 ∨ n = 5 ∨ n = 6 ∨ n = 7 ∨ n = 8 ∨ n = 9 ∨ n = 10 ∨ n = 11 := by omega
  clear hn
  rw [Bool.eq_iff_iff]
  rcases hc with rfl | rfl | rfl | rfl | rfl | rfl | rfl | rfl | rfl | rfl | rfl | rfl <;>
    simp [hasS, hasT, hasD, hasA, hasI, hasJ, lt, ltL, by_, xs, xt, xd, xm] at hf h45 ⊢ <;>
    (try split at hf) <;> (try simp at hf) <;> (repeat' split) <;> omega
end Go.Proofs.YtccnliihdhnckaaGreatDoor.Tab
