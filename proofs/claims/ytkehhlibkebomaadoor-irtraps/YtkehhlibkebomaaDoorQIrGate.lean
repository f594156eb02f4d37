/-
  Bytes of memory with stores that wait: what a load by bytes comes to.
-/
import Derived.Test.YtkehhlibkebomaaDoorKPure
namespace Go.Proofs.YtkehhlibkebomaaDoor
open Num
set_option linter.unusedVariables false
theorem wdu (v : Int) (n : Nat) (h1 : 1 ≤ n) (h2 : n ≤ 32) : wd v n false = v % 2 ^ n := by
  unfold wd; rw [if_neg (by omega), if_neg (by simp)]; simp
theorem wd_congr (n : Nat) (y z : Int) (sg : Bool) (h1 : 1 ≤ n) (h2 : n ≤ 32) (h : y % 2 ^ n = z % 2 ^ n) : wd y n sg = wd z n sg := by
  have hn : ¬ ((n : Int) < 1 ∨ 32 < (n : Int)) := by omega
  unfold wd; simp only [hn, if_false, Int.toNat_natCast, h]
theorem four (y : Int) (h0 : 0 ≤ y) (h1 : y < 4294967296) : ∃ a b c d : Int, y = 16777216 * a + 65536 * b + 256 * c + d ∧ 0 ≤ a ∧ a < 256 ∧ 0 ≤ b ∧ b < 256 ∧ 0 ≤ c ∧ c < 256 ∧ 0 ≤ d ∧ d < 256 :=
  ⟨y / 16777216, y / 65536 % 256, y / 256 % 256, y % 256, by omega, by omega, by omega, by omega, by omega, by omega, by omega, by omega, by omega⟩
theorem m4 (x : Int) : x % 4 = 0 ∨ x % 4 = 1 ∨ x % 4 = 2 ∨ x % 4 = 3 := by omega
/-- byte j of a word, the highest first -/
def bytW (x : Int) (j : Int) : Int := if j = 0 then x / 16777216 % 256 else if j = 1 then x / 65536 % 256 else if j = 2 then x / 256 % 256 else x % 256
theorem ld1 (m : Nat → Int) (x : Int) : ld m x 1 false = bytW (m (x / 4).toNat) (x % 4) := by
  unfold ld bytW
  rw [show (8 * 1 : Int) = ((8 : Nat) : Int) by rfl, wdu _ 8 (by omega) (by omega)]
  rcases m4 x with h | h | h | h
  · rw [show (bhd x 1).toNat = 24 by unfold bhd; omega, h]; rfl
  · rw [show (bhd x 1).toNat = 16 by unfold bhd; omega, h]; rfl
  · rw [show (bhd x 1).toNat = 8 by unfold bhd; omega, h]; rfl
  · rw [show (bhd x 1).toNat = 0 by unfold bhd; omega, h]; simp
theorem bytW_bd (x j : Int) : 0 ≤ bytW x j ∧ bytW x j < 256 := by unfold bytW; split <;> (try split) <;> (try split) <;> omega
theorem ld1_bd (m : Nat → Int) (x : Int) : 0 ≤ ld m x 1 false ∧ ld m x 1 false < 256 := by rw [ld1]; exact bytW_bd _ _
/-- a load, byte by byte -/
def byV (f : Int → Int) (a : Int) : Nat → Int
  | 0 => 0
  | n + 1 => byV f a n * 256 + f (a + n)
theorem ld_bytes (m : Nat → Int) (a s : Int) (sg : Bool) (hc : chk a s = 0) (h0 : 0 ≤ a) (mb : ∀ i, 0 ≤ m i ∧ m i < 4294967296) : ld m a s sg = wd (byV (fun x => ld m x 1 false) a s.toNat) (8 * s) sg := by
  obtain ⟨hs, hm, hf⟩ := chk_ok hc
  have mx := mb (a / 4).toNat
  rcases hs with rfl | rfl | rfl
  · show ld m a 1 sg = wd (0 * 256 + ld m (a + (0 : Nat)) 1 false) (8 * 1) sg
    rw [show a + ((0 : Nat) : Int) = a by omega, ld1]
    unfold ld
    generalize hx : m (a / 4).toNat = x at *
    refine wd_congr 8 _ _ sg (by omega) (by omega) ?_
    rw [show (2 : Int) ^ 8 = 256 by rfl]
    unfold bytW
    rcases m4 a with h | h | h | h
    · rw [show (bhd a 1).toNat = 24 by unfold bhd; omega, h]; simp <;> omega
    · rw [show (bhd a 1).toNat = 16 by unfold bhd; omega, h]; simp <;> omega
    · rw [show (bhd a 1).toNat = 8 by unfold bhd; omega, h]; simp <;> omega
    · rw [show (bhd a 1).toNat = 0 by unfold bhd; omega, h]; simp <;> omega
  · show ld m a 2 sg = wd ((0 * 256 + ld m (a + (0 : Nat)) 1 false) * 256 + ld m (a + (1 : Nat)) 1 false) (8 * 2) sg
    rw [show a + ((0 : Nat) : Int) = a by omega, show ((1 : Nat) : Int) = 1 by rfl, ld1, ld1]
    have e4 : ((a + 1) / 4).toNat = (a / 4).toNat := by omega
    rw [e4]
    unfold ld
    generalize hx : m (a / 4).toNat = x at *
    refine wd_congr 16 _ _ sg (by omega) (by omega) ?_
    rw [show (2 : Int) ^ 16 = 65536 by rfl]
    unfold bytW
    have : a % 4 = 0 ∨ a % 4 = 2 := by omega
    rcases this with h | h
    · rw [show (bhd a 2).toNat = 16 by unfold bhd; omega, h, show (a + 1) % 4 = 1 by omega]; simp; omega
    · rw [show (bhd a 2).toNat = 0 by unfold bhd; omega, h, show (a + 1) % 4 = 3 by omega]; simp; omega
  · show ld m a 4 sg = wd ((((0 * 256 + ld m (a + (0 : Nat)) 1 false) * 256 + ld m (a + (1 : Nat)) 1 false) * 256 + ld m (a + (2 : Nat)) 1 false) * 256 + ld m (a + (3 : Nat)) 1 false) (8 * 4) sg
    rw [show a + ((0 : Nat) : Int) = a by omega, show ((1 : Nat) : Int) = 1 by rfl, show ((2 : Nat) : Int) = 2 by rfl, show ((3 : Nat) : Int) = 3 by rfl, ld1, ld1, ld1, ld1]
    rw [show ((a + 1) / 4).toNat = (a / 4).toNat by omega, show ((a + 2) / 4).toNat = (a / 4).toNat by omega, show ((a + 3) / 4).toNat = (a / 4).toNat by omega]
    unfold ld
    generalize hx : m (a / 4).toNat = x at *
    have h : a % 4 = 0 := by omega
    unfold bytW
    rw [show (bhd a 4).toNat = 0 by unfold bhd; omega, h, show (a + 1) % 4 = 1 by omega, show (a + 2) % 4 = 2 by omega, show (a + 3) % 4 = 3 by omega]
    congr 1
    simp; omega
/-- is an address one of those that a store that waits lies at? -/
def hitB (p : Pend) (x : Int) : Bool := decide (p.a ≤ x ∧ x < p.a + p.s)
/-- its byte there -/
def pByte (p : Pend) (x : Int) : Int := p.v / 2 ^ (8 * (p.s - 1 - (x - p.a))).toNat % 256
structure Pend.ok (p : Pend) : Prop where
  c : chk p.a p.s = 0
  a0 : 0 ≤ p.a
  v0 : 0 ≤ p.v
  v1 : p.v < 4294967296
theorem upd_byte (m : Nat → Int) (p : Pend) (x : Int) (ok : p.ok) (h0 : 0 ≤ x) (mb : ∀ i, 0 ≤ m i ∧ m i < 4294967296) : ld (p.put m) x 1 false = if hitB p x = true then pByte p x else ld m x 1 false := by
  obtain ⟨hc, a0, v0, v1⟩ := ok
  obtain ⟨a, s, v⟩ := p
  simp only at hc a0 v0 v1
  obtain ⟨hs, hm, hf⟩ := chk_ok hc
  rw [ld1, ld1]
  unfold Pend.put upd
  simp only
  by_cases hw : (x / 4).toNat = (a / 4).toNat
  · rw [if_pos hw, hw]
    have mx := mb (a / 4).toNat
    generalize m (a / 4).toNat = y at mx
    obtain ⟨y0, y1, y2, y3, rfl, ya, yb, yc, yd, ye, yf, yg, yh⟩ := four y mx.1 mx.2
    obtain ⟨z0, z1, z2, z3, rfl, za, zb, zc, zd, ze, zf, zg, zh⟩ := four v v0 v1
    have q1 : (16777216 * y0 + 65536 * y1 + 256 * y2 + y3) / 65536 = 256 * y0 + y1 := by omega
    have q2 : (16777216 * y0 + 65536 * y1 + 256 * y2 + y3) / 16777216 = y0 := by omega
    have q3 : (16777216 * y0 + 65536 * y1 + 256 * y2 + y3) / 256 = 65536 * y0 + 256 * y1 + y2 := by omega
    have q4 : (16777216 * y0 + 65536 * y1 + 256 * y2 + y3) % 256 = y3 := by omega
    have q5 : (16777216 * y0 + 65536 * y1 + 256 * y2 + y3) % 65536 = 256 * y2 + y3 := by omega
    have q6 : (16777216 * z0 + 65536 * z1 + 256 * z2 + z3) % 256 = z3 := by omega
    have q7 : (16777216 * z0 + 65536 * z1 + 256 * z2 + z3) % 65536 = 256 * z2 + z3 := by omega
    have q8 : (16777216 * y0 + 65536 * y1 + 256 * y2 + y3) % 16777216 = 65536 * y1 + 256 * y2 + y3 := by omega
    have hxa : x / 4 = a / 4 := by omega
    unfold hitB pByte
    simp only [decide_eq_true_eq]
    rcases hs with rfl | rfl | rfl
    · rcases m4 a with ha | ha | ha | ha <;> rcases m4 x with hx | hx | hx | hx <;> rw [hx] <;>
      first
      | (rw [if_pos (by omega), show (8 * (1 - 1 - (x - a))).toNat = 0 by omega]; unfold bytW stw bhd; rw [ha]; simp <;> omega)
      | (rw [if_neg (by omega)]; unfold bytW stw bhd; rw [ha]; simp <;> omega)
    · have : a % 4 = 0 ∨ a % 4 = 2 := by omega
      rcases this with ha | ha <;> rcases m4 x with hx | hx | hx | hx <;> rw [hx] <;>
      first
      | (rw [if_pos (by omega), show (8 * (2 - 1 - (x - a))).toNat = 0 by omega]; unfold bytW stw bhd; rw [ha]; simp <;> omega)
      | (rw [if_pos (by omega), show (8 * (2 - 1 - (x - a))).toNat = 8 by omega]; unfold bytW stw bhd; rw [ha]; simp <;> omega)
      | (rw [if_neg (by omega)]; unfold bytW stw bhd; rw [ha]; simp <;> omega)
    · have ha : a % 4 = 0 := by omega
      rcases m4 x with hx | hx | hx | hx <;> rw [hx] <;> rw [if_pos (by omega)]
      · rw [show (8 * (4 - 1 - (x - a))).toNat = 24 by omega]; unfold bytW stw bhd; rw [ha]; simp <;> omega
      · rw [show (8 * (4 - 1 - (x - a))).toNat = 16 by omega]; unfold bytW stw bhd; rw [ha]; simp <;> omega
      · rw [show (8 * (4 - 1 - (x - a))).toNat = 8 by omega]; unfold bytW stw bhd; rw [ha]; simp <;> omega
      · rw [show (8 * (4 - 1 - (x - a))).toNat = 0 by omega]; unfold bytW stw bhd; rw [ha]; simp <;> omega
  · rw [if_neg hw]
    have : hitB ⟨a, s, v⟩ x = false := by
      unfold hitB; simp only [decide_eq_false_iff_not]
      rcases hs with rfl | rfl | rfl <;> omega
    rw [this]; simp
theorem put_bd {m : Nat → Int} {p : Pend} (ok : p.ok) (mb : ∀ i, 0 ≤ m i ∧ m i < 4294967296) : ∀ i, 0 ≤ p.put m i ∧ p.put m i < 4294967296 := by
  obtain ⟨hs, hm, _⟩ := chk_ok ok.c
  exact upd_bd m p.a p.s p.v hs hm mb
theorem vw_bd {m : Nat → Int} (mb : ∀ i, 0 ≤ m i ∧ m i < 4294967296) : ∀ (l : List Pend), (∀ p ∈ l, p.ok) → ∀ i, 0 ≤ vw m l i ∧ vw m l i < 4294967296 := by
  intro l
  unfold vw
  induction l generalizing m with
  | nil => intro _; exact mb
  | cons p l ih => intro h; exact ih (put_bd (h p (List.mem_cons_self ..)) mb) (fun q hq => h q (List.mem_cons_of_mem _ hq))
theorem vw_snoc (m : Nat → Int) (l : List Pend) (p : Pend) : vw m (l ++ [p]) = p.put (vw m l) := by simp [vw, List.foldl_append]
/-- the byte at an address, by what waits: the last one counts -/
def lastB (m : Nat → Int) (x : Int) : List Pend → Int
  | [] => ld m x 1 false
  | p :: l => if hitB p x = true then pByte p x else lastB m x l
theorem vw_byte {m : Nat → Int} (mb : ∀ i, 0 ≤ m i ∧ m i < 4294967296) (x : Int) (h0 : 0 ≤ x) : ∀ l : List Pend, (∀ p ∈ l, p.ok) → ld (vw m l.reverse) x 1 false = lastB m x l := by
  intro l
  induction l with
  | nil => intro _; rfl
  | cons p l ih =>
    intro h
    rw [List.reverse_cons, vw_snoc, upd_byte _ _ _ (h p (List.mem_cons_self ..)) h0 (vw_bd mb _ (fun q hq => h q (List.mem_cons_of_mem _ (List.mem_reverse.1 hq)))), ih (fun q hq => h q (List.mem_cons_of_mem _ hq))]
    rfl
end Go.Proofs.YtkehhlibkebomaaDoor
