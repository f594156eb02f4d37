/-
  What the document's step is made of: an instruction's box, bits, small functions.
-/
import Derived.Test.YtflagpkmebdckaaGreatDoorJDocW
import Derived.Test.YtflagpkmebdckaaGreatDoorKOptFns
import Derived.Test.YtflagpkmebdckaaGreatDoorQCpu3
namespace Go.Proofs.YtflagpkmebdckaaGreatDoor
open Go.RowKit Go.Maps
open Num
set_option linter.unusedVariables false
def St.putR (S : St) (n : Nat) (v : Int) : St := { S with r := fun i => if i = n then v else S.r i }
theorem St.putR_ok {S : St} (o : S.ok) (n : Nat) {v : Int} (hv : u32 v) : (S.putR n v).ok :=
  ⟨fun i => by show u32 (if i = n then v else S.r i); split; exact hv; exact o.r i, o.hi, o.lo, o.pc, o.nx, o.st, o.ca, o.ep, o.bd, o.cm, o.c0, o.c1⟩
/-- an instruction in its box, and a state -/
structure Dq (w : World) (ib sb : Nat) (S : St) (k s t d : Nat) (m : Int) : Prop where
  i0 : w.cell? ⟨ib, 0, none⟩ = some (.int .i64 k)
  i1 : w.cell? ⟨ib, 1, none⟩ = some (.int .i64 s)
  i2 : w.cell? ⟨ib, 2, none⟩ = some (.int .i64 t)
  i3 : w.cell? ⟨ib, 3, none⟩ = some (.int .i64 d)
  i4 : w.cell? ⟨ib, 4, none⟩ = some (.int .u32 m)
  a : StAt w sb S
  ok : S.ok
  ne : ib ≠ sb
  hs : s < 32
  ht : t < 32
  hd : d < 32
  m0 : 0 ≤ m
  m1 : m < 4294967296
section
variable {w : World} {ib sb : Nat} {S : St} {k s t d : Nat} {m : Int}
theorem Dq.start (A : StAt w sb S) (ok : S.ok) (k : Nat) (hs : s < 32) (ht : t < 32) (hd : d < 32) (m0 : 0 ≤ m) (m1 : m < 4294967296) : Dq (w.alloc (.cells #[.int .i64 k, .int .i64 s, .int .i64 t, .int .i64 d, .int .u32 m] 113)) w.heap.size sb S k s t d m := by
  have hb : Below w.heap.size w (w.alloc (.cells #[.int .i64 k, .int .i64 s, .int .i64 t, .int .i64 d, .int .u32 m] 113)) := (Below.refl _ _).alloc (Nat.le_refl _) _
  exact ⟨by simp, by simp, by simp, by simp, by simp, A.stays hb, ok, by have := A.lt; omega, hs, ht, hd, m0, m1⟩
theorem Dq.blk {w' : World} (c : Dq w ib sb S k s t d m) (h : w'.heap[ib]? = w.heap[ib]?) {S' : St} (a : StAt w' sb S') (ok : S'.ok) : Dq w' ib sb S' k s t d m := by
  have g : ∀ (j : Nat) (v : Value), w.cell? ⟨ib, j, none⟩ = some v → w'.cell? ⟨ib, j, none⟩ = some v := fun j v e => (World.cell?_of_block (a := ⟨ib, j, none⟩) h).trans e
  exact ⟨g _ _ c.i0, g _ _ c.i1, g _ _ c.i2, g _ _ c.i3, g _ _ c.i4, a, ok, c.ne, c.hs, c.ht, c.hd, c.m0, c.m1⟩
theorem Dq.lt (c : Dq w ib sb S k s t d m) : ib < w.heap.size := World.block_lt_of_cell? _ _ c.i0
theorem Dq.turn {w' : World} {S' : St} (c : Dq w ib sb S k s t d m) (h : Kept w w' (· = sb)) (a : StAt w' sb S') (ok : S'.ok) : Dq w' ib sb S' k s t d m := c.blk (h.block _ c.lt c.ne) a ok
theorem Dq.stays {w' : World} (c : Dq w ib sb S k s t d m) (h : Below w.heap.size w w') : Dq w' ib sb S k s t d m := c.blk (h.block _ c.lt) (c.a.stays h) c.ok
theorem Dq.drewN (c : Dq w ib sb S k s t d m) (n : Nat) : Dq (w.drewN n) ib sb S k s t d m := c.stays (below_drewN (Below.refl _ _) n)
theorem Dq.drew (c : Dq w ib sb S k s t d m) : Dq w.drew ib sb S k s t d m := c.stays (below_drew (Below.refl _ _))
theorem Dq.kept {w' : World} {X : Nat → Prop} (c : Dq w ib sb S k s t d m) (h : Kept w w' X) (h1 : ¬ X ib) (h2 : ¬ X sb) : Dq w' ib sb S k s t d m := c.blk (h.block _ c.lt h1) (c.a.kept h h2) c.ok
end
/-! bits -/
theorem and2_eq {x : Int} (h0 : 0 ≤ x) (h1 : x < 4294967296) : bits .and .u32 x 2 = 2 * (x / 2 % 2) := by
  rw [u32_and x 2 h0 h1 (by omega) (by omega)]
  have h : x.toNat &&& 2 = 2 * (x.toNat / 2 % 2) := by
    have e : (x.toNat &&& 2) % 2 ^ 2 = x.toNat % 2 ^ 2 &&& 2 := by rw [Nat.and_mod_two_pow]
    have l : x.toNat &&& 2 ≤ 2 := Nat.and_le_right
    rw [Nat.mod_eq_of_lt (by omega)] at e
    have h : ∀ r, r < 4 → r &&& 2 = 2 * (r / 2 % 2) := by decide
    rw [e, h _ (Nat.mod_lt _ (by omega))]
    omega
  rw [show (2 : Int).toNat = 2 from rfl, h]
  omega
theorem and3_eq {x : Int} (h0 : 0 ≤ x) (h1 : x < 4294967296) : bits .and .u32 x 3 = x % 4 := by
  rw [u32_and x 3 h0 h1 (by omega) (by omega)]
  have h : x.toNat &&& 3 = x.toNat % 4 := Nat.and_two_pow_sub_one_eq_mod x.toNat 2
  rw [show (3 : Int).toNat = 3 from rfl, h]
  omega
theorem or_low (x c n : Nat) (hc : c < 2 ^ n) : x ||| c = 2 ^ n * (x / 2 ^ n) + (x % 2 ^ n ||| c) := by
  have e1 : (x ||| c) / 2 ^ n = x / 2 ^ n := by rw [Nat.or_div_two_pow, Nat.div_eq_of_lt hc, Nat.or_zero]
  have e2 : (x ||| c) % 2 ^ n = x % 2 ^ n ||| c := by rw [Nat.or_mod_two_pow, Nat.mod_eq_of_lt hc]
  have := Nat.div_add_mod (x ||| c) (2 ^ n)
  rw [e1, e2] at this
  exact this.symm
theorem or2_eq {x : Int} (h0 : 0 ≤ x) (h1 : x < 4294967296) : bits .or .u32 x 2 = x - 2 * (x / 2 % 2) + 2 := by
  rw [u32_or x 2 h0 h1 (by omega) (by omega), show (2 : Int).toNat = 2 from rfl, or_low x.toNat 2 2 (by omega)]
  have h : ∀ r, r < 4 → r ||| 2 = r - 2 * (r / 2) + 2 := by decide
  rw [h _ (Nat.mod_lt _ (by omega))]
  omega
theorem and_low (x c n : Nat) (hn : n ≤ 32) (hx : x < 2 ^ 32) (hc : c < 2 ^ n) : x &&& (4294967295 - c) = 2 ^ n * (x / 2 ^ n) + (x % 2 ^ n &&& (2 ^ n - 1 - c)) := by
  have hp : 2 ^ n * 2 ^ (32 - n) = 2 ^ 32 := by rw [← Nat.pow_add]; congr 1; omega
  have hpos : 0 < 2 ^ n := Nat.two_pow_pos n
  have hpos2 : 0 < 2 ^ (32 - n) := Nat.two_pow_pos _
  have hq : 2 ^ n * (2 ^ (32 - n) - 1) = 2 ^ 32 - 2 ^ n := by rw [Nat.mul_sub, hp, Nat.mul_one]
  have hle : 2 ^ n ≤ 2 ^ 32 := Nat.pow_le_pow_right (by omega) hn
  have ec : 4294967295 - c = 2 ^ n * (2 ^ (32 - n) - 1) + (2 ^ n - 1 - c) := by rw [hq]; omega
  have d1 : (4294967295 - c) / 2 ^ n = 2 ^ (32 - n) - 1 := by rw [ec, Nat.mul_add_div hpos, Nat.div_eq_of_lt (by omega), Nat.add_zero]
  have d2 : (4294967295 - c) % 2 ^ n = 2 ^ n - 1 - c := by rw [ec, Nat.mul_add_mod, Nat.mod_eq_of_lt (by omega)]
  have hxq : x / 2 ^ n < 2 ^ (32 - n) := by rw [Nat.div_lt_iff_lt_mul hpos, Nat.mul_comm, hp]; exact hx
  have e1 : (x &&& (4294967295 - c)) / 2 ^ n = x / 2 ^ n := by rw [Nat.and_div_two_pow, d1, Nat.and_two_pow_sub_one_eq_mod, Nat.mod_eq_of_lt hxq]
  have e2 : (x &&& (4294967295 - c)) % 2 ^ n = x % 2 ^ n &&& (2 ^ n - 1 - c) := by rw [Nat.and_mod_two_pow, d2]
  have := Nat.div_add_mod (x &&& (4294967295 - c)) (2 ^ n)
  rw [e1, e2] at this
  exact this.symm
theorem andNot2_eq {x : Int} (h0 : 0 ≤ x) (h1 : x < 4294967296) : bits .andNot .u32 x 2 = x - 2 * (x / 2 % 2) := by
  rw [u32_andNot x 2 h0 h1 (by omega) (by omega), show (2 : Int).toNat = 2 from rfl, and_low x.toNat 2 2 (by omega) (by omega) (by omega)]
  have h : ∀ r, r < 4 → r &&& (2 ^ 2 - 1 - 2) = r - 2 * (r / 2) := by decide
  rw [h _ (Nat.mod_lt _ (by omega))]
  omega
theorem andNot124_eq {x : Int} (h0 : 0 ≤ x) (h1 : x < 4294967296) : bits .andNot .u32 x 124 = x - 4 * (x / 4 % 32) := by
  rw [u32_andNot x 124 h0 h1 (by omega) (by omega), show (124 : Int).toNat = 124 from rfl, and_low x.toNat 124 7 (by omega) (by omega) (by omega)]
  have h : ∀ r, r < 128 → r &&& (2 ^ 7 - 1 - 124) = r - 4 * (r / 4) := by decide
  rw [h _ (Nat.mod_lt _ (by omega))]
  omega
theorem sh4_eq {e : Int} (h0 : 0 ≤ e) (h1 : e < 32) : sh4 e = 4 * e := by
  unfold sh4
  rw [wrap_lo, wrap_lo]; unfold Num.lo; omega
set_option maxRecDepth 100000 in
theorem or_sh4 : ∀ r, r < 4 → ∀ e, e < 32 → r ||| (4 * e) = r + 4 * e := by decide
theorem cause_eq {x e : Int} (h0 : 0 ≤ x) (h1 : x < 4294967296) (e0 : 0 ≤ e) (e1 : e < 32) : bits .or .u32 (bits .andNot .u32 x 124) (sh4 e) = x - 4 * (x / 4 % 32) + 4 * e := by
  rw [andNot124_eq h0 h1, sh4_eq e0 e1, u32_or _ _ (by omega) (by omega) (by omega) (by omega)]
  obtain ⟨y, hy⟩ : ∃ y : Nat, (x - 4 * (x / 4 % 32)).toNat = y := ⟨_, rfl⟩
  obtain ⟨f, rfl⟩ : ∃ f : Nat, e = f := ⟨e.toNat, by omega⟩
  rw [hy, show (4 * (f : Int)).toNat = 4 * f by omega, or_low y (4 * f) 7 (by omega)]
  have hm : y % 2 ^ 7 = y % 4 := by omega
  rw [hm, or_sh4 _ (Nat.mod_lt _ (by omega)) f (by omega)]
  omega
/-! small functions -/
theorem pw0 : pw 0 = 1 := by decide
theorem pw1 : pw 1 = 2 := by decide
theorem pw2 : pw 2 = 4 := by decide
theorem pw5 : pw 5 = 32 := by decide
theorem bitOf_any (x n : Int) (h0 : 0 ≤ x) (h1 : x < 4294967296) (hn : 0 ≤ n) (hn1 : n < 32) (w : World) : Calls Tryz.prog 98 #[.int .u32 x, .int .i64 n] w fun e w' => e = .returned (.bool (x / pw n % 2 == 1)) ∧ w' = w := by
  have hp := fun W => part_any x n 1 h0 h1 hn hn1 (by omega) (by omega) W
  simp only [pw1] at hp
  generalize x / pw n % 2 = y at *
  go_enter Tryz.func98, Tryz.ntmps98
  go_wp2_with fail
  refine (hp _).mono ?_
  rintro e w' ⟨rfl, rfl⟩
  go_wp2
  go_ret
  exact ⟨rfl, rfl⟩
theorem withBit_any (x n p : Int) (b : Bool) (h0 : 0 ≤ x) (h1 : x < 4294967296) (hn : 0 ≤ n) (hn1 : n < 32) (hp : pw n = p) (p0 : 0 < p) (p1 : p < 4294967296) (w : World) : Calls Tryz.prog 103 #[.int .u32 x, .int .i64 n, .bool b] w fun e w' => e = .returned (.int .u32 (lo (x - x / p % 2 * p + if b = true then p else 0))) ∧ w' = w := by
  have hpa := fun W => part_any x n 1 h0 h1 hn hn1 (by omega) (by omega) W
  simp only [pw1, hp] at hpa
  have hs := fun W => shiftOf_any 60 1 n (by omega) (by omega) hn W
  have es : shf 60 1 n = p := by unfold shf; rw [if_pos rfl, hp, Int.one_mul]; unfold Num.lo; omega
  simp only [es] at hs
  have y0 : 0 ≤ x / p % 2 := by omega
  have y1 : x / p % 2 ≤ 1 := by omega
  generalize x / p % 2 = y at *
  have z0 : 0 ≤ y * p := Int.mul_nonneg y0 (by omega)
  have z1 : y * p ≤ p := by
    have : y = 0 ∨ y = 1 := by omega
    rcases this with rfl | rfl <;> omega
  have hcv : IntKind.u32.wrap n = n := by rw [wrap_lo]; unfold Num.lo; omega
  clear hp es
  cases b
  · have hw := fun W => word_any (x - y * p) (by omega) (by omega) W
    go_enter Tryz.func103, Tryz.ntmps103
    go_wp2_with (first | (go_at_call 46; refine (hpa _).mono ?_; rintro e w' ⟨rfl, rfl⟩) | (go_at_call 85; refine (hs _).mono ?_; rintro e w' ⟨rfl, rfl⟩) | (go_at_call 101; refine (hw _).mono ?_; rintro e w' ⟨rfl, rfl⟩))
    go_ret
    exact ⟨by simp, rfl⟩
  · have hw := fun W => word_any (x - y * p + p) (by omega) (by omega) W
    go_enter Tryz.func103, Tryz.ntmps103
    go_wp2_with (first | (go_at_call 46; refine (hpa _).mono ?_; rintro e w' ⟨rfl, rfl⟩) | (go_at_call 85; refine (hs _).mono ?_; rintro e w' ⟨rfl, rfl⟩) | (go_at_call 101; refine (hw _).mono ?_; rintro e w' ⟨rfl, rfl⟩))
    go_ret
    exact ⟨by simp, rfl⟩
theorem immOf_any (k s t d : Nat) (m : Int) (m0 : 0 ≤ m) (m1 : m < 4294967296) (w : World) : Calls Tryz.prog 231 #[.agg #[.int .i64 k, .int .i64 s, .int .i64 t, .int .i64 d, .int .u32 m]] w fun e w' => e = .returned (.int .u32 (wd m 16 true)) ∧ Below w.heap.size w w' := by
  have hw := fun W => wideOf_any m 16 true m0 m1 W
  generalize wd m 16 true = y at *
  have hb : Below w.heap.size w (w.alloc (.cells #[.int .i64 k, .int .i64 s, .int .i64 t, .int .i64 d, .int .u32 m] 113)) := (Below.refl _ _).alloc (Nat.le_refl _) _
  go_enter Tryz.func231, Tryz.ntmps231
  go_wp2_with fail
  refine (hw _).mono ?_
  rintro e w' ⟨rfl, rfl⟩
  go_wp2
  go_ret
  exact ⟨rfl, hb⟩
/-- what the document's SizeOf tells -/
theorem sizeOf_any (k : Nat) (hk : 46 ≤ k ∧ k ≤ 53) (w : World) : Calls Tryz.prog 232 #[.int .i64 k] w fun e w' => e = .returned (.int .i64 (if sgI k = true then -szI k else szI k)) ∧ w' = w := by
  have h : k = 46 ∨ k = 47 ∨ k = 48 ∨ k = 49 ∨ k = 50 ∨ k = 51 ∨ k = 52 ∨ k = 53 := by omega
  rcases h with rfl | rfl | rfl | rfl | rfl | rfl | rfl | rfl <;>
    (go_enter Tryz.func232, Tryz.ntmps232
     go_wp2
     go_ret
     exact ⟨rfl, rfl⟩)
/-- the number of a sum's kind -/
def kdx (k : Nat) : Nat := if k = 19 ∨ k = 20 ∨ k = 35 ∨ k = 36 then 3 else if k = 21 ∨ k = 22 then 4 else if k = 23 ∨ k = 39 then 5 else if k = 24 ∨ k = 40 then 6 else if k = 25 ∨ k = 41 then 7 else if k = 26 then 8 else if k = 27 ∨ k = 37 then 9 else if k = 28 ∨ k = 38 then 10 else if k = 1 ∨ k = 4 then 11 else if k = 2 ∨ k = 5 then 12 else 13
def isK (k : Nat) : Prop := k = 19 ∨ k = 20 ∨ k = 35 ∨ k = 36 ∨ k = 21 ∨ k = 22 ∨ k = 23 ∨ k = 39 ∨ k = 24 ∨ k = 40 ∨ k = 25 ∨ k = 41 ∨ k = 26 ∨ k = 27 ∨ k = 37 ∨ k = 28 ∨ k = 38 ∨ k = 1 ∨ k = 4 ∨ k = 2 ∨ k = 5 ∨ k = 3 ∨ k = 6
set_option maxHeartbeats 4000000 in
theorem kindOfD_any (k : Nat) (hk : isK k) (w : World) : Calls Tryz.prog 235 #[.int .i64 k] w fun e w' => e = .returned (.string (kindS (kdx k))) ∧ w' = w := by
  unfold isK at hk
  rcases hk with rfl | rfl | rfl | rfl | rfl | rfl | rfl | rfl | rfl | rfl | rfl | rfl | rfl | rfl | rfl | rfl | rfl | rfl | rfl | rfl | rfl | rfl | rfl <;>
    (go_enter Tryz.func235, Tryz.ntmps235
     go_wp2
     go_ret
     exact ⟨rfl, rfl⟩)
theorem sumK_any (S : St) (k : Nat) (hk : isK k) (a b : Int) (ha : u32 a) (hb : u32 b) (w : World) : Calls Tryz.prog 190 #[.string (kindS (kdx k)), .int .u32 a, .int .u32 b] w fun e w' => e = .returned (.int .u32 (resI S k a b)) ∧ w' = w := by
  have hx : 3 ≤ kdx k ∧ kdx k ≤ 16 := by unfold isK at hk; rcases hk with rfl | rfl | rfl | rfl | rfl | rfl | rfl | rfl | rfl | rfl | rfl | rfl | rfl | rfl | rfl | rfl | rfl | rfl | rfl | rfl | rfl | rfl | rfl <;> decide
  have h := sumOf_any (kdx k) hx a b 0 0 ha.1 ha.2 hb.1 hb.2 w
  have e : valV (kdx k) a b 0 0 = resI S k a b := by
    unfold isK at hk
    rcases hk with rfl | rfl | rfl | rfl | rfl | rfl | rfl | rfl | rfl | rfl | rfl | rfl | rfl | rfl | rfl | rfl | rfl | rfl | rfl | rfl | rfl | rfl | rfl <;> rfl
  rw [e] at h
  exact h
end Go.Proofs.YtflagpkmebdckaaGreatDoor
/-
  Traps, as the document has them.
-/
namespace Go.Proofs.YtflagpkmebdckaaGreatDoor
open Go.RowKit Go.Maps
open Num
set_option linter.unusedVariables false
section
variable {w : World} {sb : Nat} {S : St} {k s t d : Nat} {m : Int}
end
def fromD (S : St) (t d : Nat) : Int × St :=
  if d = 8 then (-1, S.putR t S.bd) else if d = 9 then (-1, S.putR t (lo S.ct)) else if d = 11 then (-1, S.putR t S.cm) else if d = 12 then (-1, S.putR t S.st) else if d = 13 then (-1, S.putR t S.ca) else if d = 14 then (-1, S.putR t S.ep) else (10, S)
def toD (S : St) (t d : Nat) : Int × St :=
  if d = 11 then (-1, { S with cm := S.r t }) else if d = 12 then (-1, { S with st := S.r t % 4 }) else if d = 14 then (-1, { S with ep := S.r t }) else (10, S)
def trapD (S : St) (k t d : Nat) : Int × St := if k = 9 then (8, S) else if k = 10 then (9, S) else if k = 43 then fromD S t d else if k = 44 then toD S t d else (10, S)
section
variable {w : World} {sb : Nat} {S : St} {k s t d : Nat} {m : Int}
set_option maxRecDepth 100000 in
set_option maxHeartbeats 8000000 in
theorem trap_9 (A : StAt w sb S) (ok : S.ok) (hs : s < 32) (ht : t < 32) (hd : d < 32) (m0 : 0 ≤ m) (m1 : m < 4294967296) (hk : k = 9) : Calls Tryz.prog 194 #[.pointer (some ⟨sb, 0, none⟩), .agg #[.int .i64 k, .int .i64 s, .int .i64 t, .int .i64 d, .int .u32 m]] w fun e w' => e = .returned (.int .i64 (trapD S k t d).1) ∧ StAt w' sb (trapD S k t d).2 ∧ Kept w w' (· = sb) := by
  subst hk
  have D0 : Hid (Dq (w.alloc (.cells #[.int .i64 9, .int .i64 s, .int .i64 t, .int .i64 d, .int .u32 m] 113)) w.heap.size sb S 9 s t d m) := Dq.start A ok 9 hs ht hd m0 m1
  have K0 : Kept w (w.alloc (.cells #[.int .i64 9, .int .i64 s, .int .i64 t, .int .i64 d, .int .u32 m] 113)) (· = sb) := Kept.of_below _ ((Below.refl _ _).alloc (Nat.le_refl _) _)
  clear A
  go_enter Tryz.func194, Tryz.ntmps194
  go_upto_region 1 with fail
  generalize w.alloc (.cells #[.int .i64 9, .int .i64 s, .int .i64 t, .int .i64 d, .int .u32 m] 113) = W at *
  generalize w.heap.size = ib at *
  have i0 := D0.out.i0
  have A1 := D0.out.a
  go_wp2
  go_ret
  exact ⟨rfl, A1, K0⟩
set_option maxRecDepth 100000 in
set_option maxHeartbeats 8000000 in
theorem trap_10 (A : StAt w sb S) (ok : S.ok) (hs : s < 32) (ht : t < 32) (hd : d < 32) (m0 : 0 ≤ m) (m1 : m < 4294967296) (hk : k = 10) : Calls Tryz.prog 194 #[.pointer (some ⟨sb, 0, none⟩), .agg #[.int .i64 k, .int .i64 s, .int .i64 t, .int .i64 d, .int .u32 m]] w fun e w' => e = .returned (.int .i64 (trapD S k t d).1) ∧ StAt w' sb (trapD S k t d).2 ∧ Kept w w' (· = sb) := by
  subst hk
  have D0 : Hid (Dq (w.alloc (.cells #[.int .i64 10, .int .i64 s, .int .i64 t, .int .i64 d, .int .u32 m] 113)) w.heap.size sb S 10 s t d m) := Dq.start A ok 10 hs ht hd m0 m1
  have K0 : Kept w (w.alloc (.cells #[.int .i64 10, .int .i64 s, .int .i64 t, .int .i64 d, .int .u32 m] 113)) (· = sb) := Kept.of_below _ ((Below.refl _ _).alloc (Nat.le_refl _) _)
  clear A
  go_enter Tryz.func194, Tryz.ntmps194
  go_upto_region 1 with fail
  generalize w.alloc (.cells #[.int .i64 10, .int .i64 s, .int .i64 t, .int .i64 d, .int .u32 m] 113) = W at *
  generalize w.heap.size = ib at *
  have i0 := D0.out.i0
  have A1 := D0.out.a
  go_wp2
  go_ret
  exact ⟨rfl, A1, K0⟩
set_option maxRecDepth 100000 in
set_option maxHeartbeats 8000000 in
theorem trap_43_8 (A : StAt w sb S) (ok : S.ok) (hs : s < 32) (ht : t < 32) (hd : d < 32) (m0 : 0 ≤ m) (m1 : m < 4294967296) (hk : k = 43) (hdd : d = 8) : Calls Tryz.prog 194 #[.pointer (some ⟨sb, 0, none⟩), .agg #[.int .i64 k, .int .i64 s, .int .i64 t, .int .i64 d, .int .u32 m]] w fun e w' => e = .returned (.int .i64 (trapD S k t d).1) ∧ StAt w' sb (trapD S k t d).2 ∧ Kept w w' (· = sb) := by
  subst hk
  subst hdd
  have D0 : Hid (Dq (w.alloc (.cells #[.int .i64 43, .int .i64 s, .int .i64 t, .int .i64 8, .int .u32 m] 113)) w.heap.size sb S 43 s t 8 m) := Dq.start A ok 43 hs ht hd m0 m1
  have K0 : Kept w (w.alloc (.cells #[.int .i64 43, .int .i64 s, .int .i64 t, .int .i64 8, .int .u32 m] 113)) (· = sb) := Kept.of_below _ ((Below.refl _ _).alloc (Nat.le_refl _) _)
  clear A
  go_enter Tryz.func194, Tryz.ntmps194
  go_upto_region 1 with fail
  generalize w.alloc (.cells #[.int .i64 43, .int .i64 s, .int .i64 t, .int .i64 8, .int .u32 m] 113) = W at *
  generalize w.heap.size = ib at *
  have i0 := D0.out.i0
  have i1 := D0.out.i1
  have i2 := D0.out.i2
  have i3 := D0.out.i3
  have i4 := D0.out.i4
  have qt := D0.out.a.reg D0.out.ht
  have ft := D0.out.a.fz t
  have ht' : (t : Int) < 32 := by have := D0.out.ht; omega
  go_upto_region 10 with fail
  clear i0 i1 i2 i3 i4
  refine wp_region_phase 10 [(0, 0), (1, 0), (2, 1), (3, 0), (4, 0), (5, 0), (6, 1), (7, 0), (8, 0), (9, 0), (10, 2)] (fun W => Dq W ib sb S 43 s t 8 m) (by kernel_rfl) (by kernel_rfl) (fun _ _ _ d _ h => by cases d <;> first | exact h | exact Dq.drew h) D0.out.drew ?_
  repeat (first | (refine wpPlanZ_free (by rfl) (by rfl) (fun W => by (go_simp; try with_reducible rfl)) (fun K hK => ?_); go_simp; refine hK _ ?_; clear hK K) | (refine wpPlanZ_quiet (by rfl) (by rfl) (fun W hW => by (have i2 := hW.i2; have q40 := hW.a.told.2.2.2.2.2.2.2.2.1; go_simp; try with_reducible rfl)) (fun K hK => ?_); go_simp; refine hK _ ?_; clear hK K))
  refine wpPlanZ_serial (by rfl) (by rfl) (fun K hK => ?_)
  go_simp
  refine hK _ _ (fun h => absurd h (by decide)) ?_
  clear hK K
  refine wpPlanZ_nil ?_
  refine ck (R := fun W' => StAt W' sb (S.putR t S.bd) ∧ Kept W W' (· = sb)) ?_ (fun w1 ⟨A1, T1⟩ => ?_)
  · exact ⟨(D0.out.a.putR t D0.out.ht _).drew, (Kept.put (Kept.refl W _) _ _).trans (Kept.drew _ _) (fun _ _ h => h)⟩
  clear qt ft
  go_wp2
  go_ret
  exact ⟨rfl, A1, K0.trans T1 (fun _ _ h => h)⟩
set_option maxRecDepth 100000 in
set_option maxHeartbeats 8000000 in
theorem trap_43_9 (A : StAt w sb S) (ok : S.ok) (hs : s < 32) (ht : t < 32) (hd : d < 32) (m0 : 0 ≤ m) (m1 : m < 4294967296) (hk : k = 43) (hdd : d = 9) : Calls Tryz.prog 194 #[.pointer (some ⟨sb, 0, none⟩), .agg #[.int .i64 k, .int .i64 s, .int .i64 t, .int .i64 d, .int .u32 m]] w fun e w' => e = .returned (.int .i64 (trapD S k t d).1) ∧ StAt w' sb (trapD S k t d).2 ∧ Kept w w' (· = sb) := by
  subst hk
  subst hdd
  have D0 : Hid (Dq (w.alloc (.cells #[.int .i64 43, .int .i64 s, .int .i64 t, .int .i64 9, .int .u32 m] 113)) w.heap.size sb S 43 s t 9 m) := Dq.start A ok 43 hs ht hd m0 m1
  have K0 : Kept w (w.alloc (.cells #[.int .i64 43, .int .i64 s, .int .i64 t, .int .i64 9, .int .u32 m] 113)) (· = sb) := Kept.of_below _ ((Below.refl _ _).alloc (Nat.le_refl _) _)
  clear A
  go_enter Tryz.func194, Tryz.ntmps194
  go_upto_region 1 with fail
  generalize w.alloc (.cells #[.int .i64 43, .int .i64 s, .int .i64 t, .int .i64 9, .int .u32 m] 113) = W at *
  generalize w.heap.size = ib at *
  have i0 := D0.out.i0
  have i1 := D0.out.i1
  have i2 := D0.out.i2
  have i3 := D0.out.i3
  have i4 := D0.out.i4
  have qt := D0.out.a.reg D0.out.ht
  have ft := D0.out.a.fz t
  have ht' : (t : Int) < 32 := by have := D0.out.ht; omega
  go_upto_region 12 with fail
  clear i0 i1 i2 i3 i4
  have c0 := D0.out.ok.c0
  have c1 := D0.out.ok.c1
  have hw := fun W => word_any S.ct c0 (by omega) W
  refine wp_region_phase 11 [(0, 0), (1, 0), (2, 1), (3, 0), (4, 0), (5, 0), (6, 1), (8, 0), (9, 0), (7, 2), (10, 0), (11, 2)] (fun W => Dq W ib sb S 43 s t 9 m) (by kernel_rfl) (by kernel_rfl) (fun _ _ _ d _ h => by cases d <;> first | exact h | exact Dq.drew h) D0.out.drew ?_
  repeat (first | (refine wpPlanZ_free (by rfl) (by rfl) (fun W => by (go_simp; try with_reducible rfl)) (fun K hK => ?_); go_simp; refine hK _ ?_; clear hK K) | (refine wpPlanZ_quiet (by rfl) (by rfl) (fun W hW => by (have i2 := hW.i2; have q42 := hW.a.told.2.2.2.2.2.2.2.2.2.2; go_simp; try with_reducible rfl)) (fun K hK => ?_); go_simp; refine hK _ ?_; clear hK K))
  refine wpPlanZ_serial (by rfl) (by rfl) (fun K hK => ?_)
  go_simp
  refine (hw _).mono ?_
  rintro e_ w_ ⟨rfl, rfl⟩
  refine hK _ _ (fun _ => D0.out.drew) ?_
  clear hK K
  repeat (first | (refine wpPlanZ_free (by rfl) (by rfl) (fun W => by (go_simp; try with_reducible rfl)) (fun K hK => ?_); go_simp; refine hK _ ?_; clear hK K) | (refine wpPlanZ_quiet (by rfl) (by rfl) (fun W hW => by (have i2 := hW.i2; have q42 := hW.a.told.2.2.2.2.2.2.2.2.2.2; go_simp; try with_reducible rfl)) (fun K hK => ?_); go_simp; refine hK _ ?_; clear hK K))
  refine wpPlanZ_serial (by rfl) (by rfl) (fun K hK => ?_)
  go_simp
  refine hK _ _ (fun h => absurd h (by decide)) ?_
  clear hK K
  refine wpPlanZ_nil ?_
  refine ck (R := fun W' => StAt W' sb (S.putR t (lo S.ct)) ∧ Kept W W' (· = sb)) ?_ (fun w1 ⟨A1, T1⟩ => ?_)
  · exact ⟨(D0.out.a.putR t D0.out.ht _).drew, (Kept.put (Kept.refl W _) _ _).trans (Kept.drew _ _) (fun _ _ h => h)⟩
  clear qt ft
  go_wp2
  go_ret
  exact ⟨rfl, A1, K0.trans T1 (fun _ _ h => h)⟩
set_option maxRecDepth 100000 in
set_option maxHeartbeats 8000000 in
theorem trap_43_11 (A : StAt w sb S) (ok : S.ok) (hs : s < 32) (ht : t < 32) (hd : d < 32) (m0 : 0 ≤ m) (m1 : m < 4294967296) (hk : k = 43) (hdd : d = 11) : Calls Tryz.prog 194 #[.pointer (some ⟨sb, 0, none⟩), .agg #[.int .i64 k, .int .i64 s, .int .i64 t, .int .i64 d, .int .u32 m]] w fun e w' => e = .returned (.int .i64 (trapD S k t d).1) ∧ StAt w' sb (trapD S k t d).2 ∧ Kept w w' (· = sb) := by
  subst hk
  subst hdd
  have D0 : Hid (Dq (w.alloc (.cells #[.int .i64 43, .int .i64 s, .int .i64 t, .int .i64 11, .int .u32 m] 113)) w.heap.size sb S 43 s t 11 m) := Dq.start A ok 43 hs ht hd m0 m1
  have K0 : Kept w (w.alloc (.cells #[.int .i64 43, .int .i64 s, .int .i64 t, .int .i64 11, .int .u32 m] 113)) (· = sb) := Kept.of_below _ ((Below.refl _ _).alloc (Nat.le_refl _) _)
  clear A
  go_enter Tryz.func194, Tryz.ntmps194
  go_upto_region 1 with fail
  generalize w.alloc (.cells #[.int .i64 43, .int .i64 s, .int .i64 t, .int .i64 11, .int .u32 m] 113) = W at *
  generalize w.heap.size = ib at *
  have i0 := D0.out.i0
  have i1 := D0.out.i1
  have i2 := D0.out.i2
  have i3 := D0.out.i3
  have i4 := D0.out.i4
  have qt := D0.out.a.reg D0.out.ht
  have ft := D0.out.a.fz t
  have ht' : (t : Int) < 32 := by have := D0.out.ht; omega
  go_upto_region 14 with fail
  clear i0 i1 i2 i3 i4
  refine wp_region_phase 10 [(0, 0), (1, 0), (2, 1), (3, 0), (4, 0), (5, 0), (6, 1), (7, 0), (8, 0), (9, 0), (10, 2)] (fun W => Dq W ib sb S 43 s t 11 m) (by kernel_rfl) (by kernel_rfl) (fun _ _ _ d _ h => by cases d <;> first | exact h | exact Dq.drew h) D0.out.drew ?_
  repeat (first | (refine wpPlanZ_free (by rfl) (by rfl) (fun W => by (go_simp; try with_reducible rfl)) (fun K hK => ?_); go_simp; refine hK _ ?_; clear hK K) | (refine wpPlanZ_quiet (by rfl) (by rfl) (fun W hW => by (have i2 := hW.i2; have q41 := hW.a.told.2.2.2.2.2.2.2.2.2.1; go_simp; try with_reducible rfl)) (fun K hK => ?_); go_simp; refine hK _ ?_; clear hK K))
  refine wpPlanZ_serial (by rfl) (by rfl) (fun K hK => ?_)
  go_simp
  refine hK _ _ (fun h => absurd h (by decide)) ?_
  clear hK K
  refine wpPlanZ_nil ?_
  refine ck (R := fun W' => StAt W' sb (S.putR t S.cm) ∧ Kept W W' (· = sb)) ?_ (fun w1 ⟨A1, T1⟩ => ?_)
  · exact ⟨(D0.out.a.putR t D0.out.ht _).drew, (Kept.put (Kept.refl W _) _ _).trans (Kept.drew _ _) (fun _ _ h => h)⟩
  clear qt ft
  go_wp2
  go_ret
  exact ⟨rfl, A1, K0.trans T1 (fun _ _ h => h)⟩
set_option maxRecDepth 100000 in
set_option maxHeartbeats 8000000 in
theorem trap_43_12 (A : StAt w sb S) (ok : S.ok) (hs : s < 32) (ht : t < 32) (hd : d < 32) (m0 : 0 ≤ m) (m1 : m < 4294967296) (hk : k = 43) (hdd : d = 12) : Calls Tryz.prog 194 #[.pointer (some ⟨sb, 0, none⟩), .agg #[.int .i64 k, .int .i64 s, .int .i64 t, .int .i64 d, .int .u32 m]] w fun e w' => e = .returned (.int .i64 (trapD S k t d).1) ∧ StAt w' sb (trapD S k t d).2 ∧ Kept w w' (· = sb) := by
  subst hk
  subst hdd
  have D0 : Hid (Dq (w.alloc (.cells #[.int .i64 43, .int .i64 s, .int .i64 t, .int .i64 12, .int .u32 m] 113)) w.heap.size sb S 43 s t 12 m) := Dq.start A ok 43 hs ht hd m0 m1
  have K0 : Kept w (w.alloc (.cells #[.int .i64 43, .int .i64 s, .int .i64 t, .int .i64 12, .int .u32 m] 113)) (· = sb) := Kept.of_below _ ((Below.refl _ _).alloc (Nat.le_refl _) _)
  clear A
  go_enter Tryz.func194, Tryz.ntmps194
  go_upto_region 1 with fail
  generalize w.alloc (.cells #[.int .i64 43, .int .i64 s, .int .i64 t, .int .i64 12, .int .u32 m] 113) = W at *
  generalize w.heap.size = ib at *
  have i0 := D0.out.i0
  have i1 := D0.out.i1
  have i2 := D0.out.i2
  have i3 := D0.out.i3
  have i4 := D0.out.i4
  have qt := D0.out.a.reg D0.out.ht
  have ft := D0.out.a.fz t
  have ht' : (t : Int) < 32 := by have := D0.out.ht; omega
  go_upto_region 16 with fail
  clear i0 i1 i2 i3 i4
  refine wp_region_phase 10 [(0, 0), (1, 0), (2, 1), (3, 0), (4, 0), (5, 0), (6, 1), (7, 0), (8, 0), (9, 0), (10, 2)] (fun W => Dq W ib sb S 43 s t 12 m) (by kernel_rfl) (by kernel_rfl) (fun _ _ _ d _ h => by cases d <;> first | exact h | exact Dq.drew h) D0.out.drew ?_
  repeat (first | (refine wpPlanZ_free (by rfl) (by rfl) (fun W => by (go_simp; try with_reducible rfl)) (fun K hK => ?_); go_simp; refine hK _ ?_; clear hK K) | (refine wpPlanZ_quiet (by rfl) (by rfl) (fun W hW => by (have i2 := hW.i2; have q37 := hW.a.told.2.2.2.2.2.1; go_simp; try with_reducible rfl)) (fun K hK => ?_); go_simp; refine hK _ ?_; clear hK K))
  refine wpPlanZ_serial (by rfl) (by rfl) (fun K hK => ?_)
  go_simp
  refine hK _ _ (fun h => absurd h (by decide)) ?_
  clear hK K
  refine wpPlanZ_nil ?_
  refine ck (R := fun W' => StAt W' sb (S.putR t S.st) ∧ Kept W W' (· = sb)) ?_ (fun w1 ⟨A1, T1⟩ => ?_)
  · exact ⟨(D0.out.a.putR t D0.out.ht _).drew, (Kept.put (Kept.refl W _) _ _).trans (Kept.drew _ _) (fun _ _ h => h)⟩
  clear qt ft
  go_wp2
  go_ret
  exact ⟨rfl, A1, K0.trans T1 (fun _ _ h => h)⟩
set_option maxRecDepth 100000 in
set_option maxHeartbeats 8000000 in
theorem trap_43_13 (A : StAt w sb S) (ok : S.ok) (hs : s < 32) (ht : t < 32) (hd : d < 32) (m0 : 0 ≤ m) (m1 : m < 4294967296) (hk : k = 43) (hdd : d = 13) : Calls Tryz.prog 194 #[.pointer (some ⟨sb, 0, none⟩), .agg #[.int .i64 k, .int .i64 s, .int .i64 t, .int .i64 d, .int .u32 m]] w fun e w' => e = .returned (.int .i64 (trapD S k t d).1) ∧ StAt w' sb (trapD S k t d).2 ∧ Kept w w' (· = sb) := by
  subst hk
  subst hdd
  have D0 : Hid (Dq (w.alloc (.cells #[.int .i64 43, .int .i64 s, .int .i64 t, .int .i64 13, .int .u32 m] 113)) w.heap.size sb S 43 s t 13 m) := Dq.start A ok 43 hs ht hd m0 m1
  have K0 : Kept w (w.alloc (.cells #[.int .i64 43, .int .i64 s, .int .i64 t, .int .i64 13, .int .u32 m] 113)) (· = sb) := Kept.of_below _ ((Below.refl _ _).alloc (Nat.le_refl _) _)
  clear A
  go_enter Tryz.func194, Tryz.ntmps194
  go_upto_region 1 with fail
  generalize w.alloc (.cells #[.int .i64 43, .int .i64 s, .int .i64 t, .int .i64 13, .int .u32 m] 113) = W at *
  generalize w.heap.size = ib at *
  have i0 := D0.out.i0
  have i1 := D0.out.i1
  have i2 := D0.out.i2
  have i3 := D0.out.i3
  have i4 := D0.out.i4
  have qt := D0.out.a.reg D0.out.ht
  have ft := D0.out.a.fz t
  have ht' : (t : Int) < 32 := by have := D0.out.ht; omega
  go_upto_region 18 with fail
  clear i0 i1 i2 i3 i4
  refine wp_region_phase 10 [(0, 0), (1, 0), (2, 1), (3, 0), (4, 0), (5, 0), (6, 1), (7, 0), (8, 0), (9, 0), (10, 2)] (fun W => Dq W ib sb S 43 s t 13 m) (by kernel_rfl) (by kernel_rfl) (fun _ _ _ d _ h => by cases d <;> first | exact h | exact Dq.drew h) D0.out.drew ?_
  repeat (first | (refine wpPlanZ_free (by rfl) (by rfl) (fun W => by (go_simp; try with_reducible rfl)) (fun K hK => ?_); go_simp; refine hK _ ?_; clear hK K) | (refine wpPlanZ_quiet (by rfl) (by rfl) (fun W hW => by (have i2 := hW.i2; have q38 := hW.a.told.2.2.2.2.2.2.1; go_simp; try with_reducible rfl)) (fun K hK => ?_); go_simp; refine hK _ ?_; clear hK K))
  refine wpPlanZ_serial (by rfl) (by rfl) (fun K hK => ?_)
  go_simp
  refine hK _ _ (fun h => absurd h (by decide)) ?_
  clear hK K
  refine wpPlanZ_nil ?_
  refine ck (R := fun W' => StAt W' sb (S.putR t S.ca) ∧ Kept W W' (· = sb)) ?_ (fun w1 ⟨A1, T1⟩ => ?_)
  · exact ⟨(D0.out.a.putR t D0.out.ht _).drew, (Kept.put (Kept.refl W _) _ _).trans (Kept.drew _ _) (fun _ _ h => h)⟩
  clear qt ft
  go_wp2
  go_ret
  exact ⟨rfl, A1, K0.trans T1 (fun _ _ h => h)⟩
set_option maxRecDepth 100000 in
set_option maxHeartbeats 8000000 in
theorem trap_43_14 (A : StAt w sb S) (ok : S.ok) (hs : s < 32) (ht : t < 32) (hd : d < 32) (m0 : 0 ≤ m) (m1 : m < 4294967296) (hk : k = 43) (hdd : d = 14) : Calls Tryz.prog 194 #[.pointer (some ⟨sb, 0, none⟩), .agg #[.int .i64 k, .int .i64 s, .int .i64 t, .int .i64 d, .int .u32 m]] w fun e w' => e = .returned (.int .i64 (trapD S k t d).1) ∧ StAt w' sb (trapD S k t d).2 ∧ Kept w w' (· = sb) := by
  subst hk
  subst hdd
  have D0 : Hid (Dq (w.alloc (.cells #[.int .i64 43, .int .i64 s, .int .i64 t, .int .i64 14, .int .u32 m] 113)) w.heap.size sb S 43 s t 14 m) := Dq.start A ok 43 hs ht hd m0 m1
  have K0 : Kept w (w.alloc (.cells #[.int .i64 43, .int .i64 s, .int .i64 t, .int .i64 14, .int .u32 m] 113)) (· = sb) := Kept.of_below _ ((Below.refl _ _).alloc (Nat.le_refl _) _)
  clear A
  go_enter Tryz.func194, Tryz.ntmps194
  go_upto_region 1 with fail
  generalize w.alloc (.cells #[.int .i64 43, .int .i64 s, .int .i64 t, .int .i64 14, .int .u32 m] 113) = W at *
  generalize w.heap.size = ib at *
  have i0 := D0.out.i0
  have i1 := D0.out.i1
  have i2 := D0.out.i2
  have i3 := D0.out.i3
  have i4 := D0.out.i4
  have qt := D0.out.a.reg D0.out.ht
  have ft := D0.out.a.fz t
  have ht' : (t : Int) < 32 := by have := D0.out.ht; omega
  go_upto_region 20 with fail
  clear i0 i1 i2 i3 i4
  refine wp_region_phase 10 [(0, 0), (1, 0), (2, 1), (3, 0), (4, 0), (5, 0), (6, 1), (7, 0), (8, 0), (9, 0), (10, 2)] (fun W => Dq W ib sb S 43 s t 14 m) (by kernel_rfl) (by kernel_rfl) (fun _ _ _ d _ h => by cases d <;> first | exact h | exact Dq.drew h) D0.out.drew ?_
  repeat (first | (refine wpPlanZ_free (by rfl) (by rfl) (fun W => by (go_simp; try with_reducible rfl)) (fun K hK => ?_); go_simp; refine hK _ ?_; clear hK K) | (refine wpPlanZ_quiet (by rfl) (by rfl) (fun W hW => by (have i2 := hW.i2; have q39 := hW.a.told.2.2.2.2.2.2.2.1; go_simp; try with_reducible rfl)) (fun K hK => ?_); go_simp; refine hK _ ?_; clear hK K))
  refine wpPlanZ_serial (by rfl) (by rfl) (fun K hK => ?_)
  go_simp
  refine hK _ _ (fun h => absurd h (by decide)) ?_
  clear hK K
  refine wpPlanZ_nil ?_
  refine ck (R := fun W' => StAt W' sb (S.putR t S.ep) ∧ Kept W W' (· = sb)) ?_ (fun w1 ⟨A1, T1⟩ => ?_)
  · exact ⟨(D0.out.a.putR t D0.out.ht _).drew, (Kept.put (Kept.refl W _) _ _).trans (Kept.drew _ _) (fun _ _ h => h)⟩
  clear qt ft
  go_wp2
  go_ret
  exact ⟨rfl, A1, K0.trans T1 (fun _ _ h => h)⟩
set_option maxRecDepth 100000 in
set_option maxHeartbeats 8000000 in
theorem trap_43_no (A : StAt w sb S) (ok : S.ok) (hs : s < 32) (ht : t < 32) (hd : d < 32) (m0 : 0 ≤ m) (m1 : m < 4294967296) (hk : k = 43) (h8 : d ≠ 8) (h9 : d ≠ 9) (h11 : d ≠ 11) (h12 : d ≠ 12) (h13 : d ≠ 13) (h14 : d ≠ 14) : Calls Tryz.prog 194 #[.pointer (some ⟨sb, 0, none⟩), .agg #[.int .i64 k, .int .i64 s, .int .i64 t, .int .i64 d, .int .u32 m]] w fun e w' => e = .returned (.int .i64 (trapD S k t d).1) ∧ StAt w' sb (trapD S k t d).2 ∧ Kept w w' (· = sb) := by
  subst hk
  have X : trapD S 43 t d = (10, S) := by unfold trapD fromD; simp [h8, h9, h11, h12, h13, h14]
  rw [X]
  have b8 := nk h8
  have b9 := nk h9
  have b11 := nk h11
  have b12 := nk h12
  have b13 := nk h13
  have b14 := nk h14
  clear h8 h9 h11 h12 h13 h14 X
  have D0 : Hid (Dq (w.alloc (.cells #[.int .i64 43, .int .i64 s, .int .i64 t, .int .i64 d, .int .u32 m] 113)) w.heap.size sb S 43 s t d m) := Dq.start A ok 43 hs ht hd m0 m1
  have K0 : Kept w (w.alloc (.cells #[.int .i64 43, .int .i64 s, .int .i64 t, .int .i64 d, .int .u32 m] 113)) (· = sb) := Kept.of_below _ ((Below.refl _ _).alloc (Nat.le_refl _) _)
  clear A
  go_enter Tryz.func194, Tryz.ntmps194
  go_upto_region 1 with fail
  generalize w.alloc (.cells #[.int .i64 43, .int .i64 s, .int .i64 t, .int .i64 d, .int .u32 m] 113) = W at *
  generalize w.heap.size = ib at *
  have i0 := D0.out.i0
  have i1 := D0.out.i1
  have i2 := D0.out.i2
  have i3 := D0.out.i3
  have i4 := D0.out.i4
  have A1 := D0.out.a
  go_wp2
  go_ret
  exact ⟨rfl, A1, K0⟩
set_option maxRecDepth 100000 in
set_option maxHeartbeats 8000000 in
theorem trap_44_11 (A : StAt w sb S) (ok : S.ok) (hs : s < 32) (ht : t < 32) (hd : d < 32) (m0 : 0 ≤ m) (m1 : m < 4294967296) (hk : k = 44) (hdd : d = 11) : Calls Tryz.prog 194 #[.pointer (some ⟨sb, 0, none⟩), .agg #[.int .i64 k, .int .i64 s, .int .i64 t, .int .i64 d, .int .u32 m]] w fun e w' => e = .returned (.int .i64 (trapD S k t d).1) ∧ StAt w' sb (trapD S k t d).2 ∧ Kept w w' (· = sb) := by
  subst hk
  subst hdd
  have D0 : Hid (Dq (w.alloc (.cells #[.int .i64 44, .int .i64 s, .int .i64 t, .int .i64 11, .int .u32 m] 113)) w.heap.size sb S 44 s t 11 m) := Dq.start A ok 44 hs ht hd m0 m1
  have K0 : Kept w (w.alloc (.cells #[.int .i64 44, .int .i64 s, .int .i64 t, .int .i64 11, .int .u32 m] 113)) (· = sb) := Kept.of_below _ ((Below.refl _ _).alloc (Nat.le_refl _) _)
  clear A
  go_enter Tryz.func194, Tryz.ntmps194
  go_upto_region 1 with fail
  generalize w.alloc (.cells #[.int .i64 44, .int .i64 s, .int .i64 t, .int .i64 11, .int .u32 m] 113) = W at *
  generalize w.heap.size = ib at *
  have i0 := D0.out.i0
  have i1 := D0.out.i1
  have i2 := D0.out.i2
  have i3 := D0.out.i3
  have i4 := D0.out.i4
  have qt := D0.out.a.reg D0.out.ht
  have ft := D0.out.a.fz t
  have ht' : (t : Int) < 32 := by have := D0.out.ht; omega
  go_upto_region 23 with fail
  clear i0 i1 i2 i3 i4
  refine wp_region_phase 8 [(0, 0), (1, 0), (2, 1), (3, 0), (4, 0), (5, 0), (6, 1), (7, 0)] (fun W => Dq W ib sb S 44 s t 11 m) (by kernel_rfl) (by kernel_rfl) (fun _ _ _ d _ h => by cases d <;> first | exact h | exact Dq.drew h) D0.out.drew ?_
  repeat (first | (refine wpPlanZ_free (by rfl) (by rfl) (fun W => by (go_simp; try with_reducible rfl)) (fun K hK => ?_); go_simp; refine hK _ ?_; clear hK K) | (refine wpPlanZ_quiet (by rfl) (by rfl) (fun W hW => by (have i2 := hW.i2; have qt := hW.a.reg hW.ht; go_simp; try with_reducible rfl)) (fun K hK => ?_); go_simp; refine hK _ ?_; clear hK K))
  refine wpPlanZ_nil ?_
  have D1 : Hid (Dq W.drew ib sb S 44 s t 11 m) := D0.out.drew
  have K1 : Kept w W.drew (· = sb) := K0.trans (Kept.drew _ _) (fun _ _ h => h)
  clear qt ft
  generalize W.drew = W1 at *
  have i0 := D1.out.i0
  have i1 := D1.out.i1
  have i2 := D1.out.i2
  have i3 := D1.out.i3
  have i4 := D1.out.i4
  obtain ⟨_, _, _, _, _, _, _, _, _, q41, _⟩ := D1.out.a.told
  have f41 := D1.out.a.fz 41
  have A1 := D1.out.a.putCm (S.r t)
  go_wp2
  go_ret
  exact ⟨rfl, A1, K1.put _ _⟩
set_option maxRecDepth 100000 in
set_option maxHeartbeats 8000000 in
theorem trap_44_12 (A : StAt w sb S) (ok : S.ok) (hs : s < 32) (ht : t < 32) (hd : d < 32) (m0 : 0 ≤ m) (m1 : m < 4294967296) (hk : k = 44) (hdd : d = 12) : Calls Tryz.prog 194 #[.pointer (some ⟨sb, 0, none⟩), .agg #[.int .i64 k, .int .i64 s, .int .i64 t, .int .i64 d, .int .u32 m]] w fun e w' => e = .returned (.int .i64 (trapD S k t d).1) ∧ StAt w' sb (trapD S k t d).2 ∧ Kept w w' (· = sb) := by
  subst hk
  subst hdd
  have X : trapD S 44 t 12 = (-1, { S with st := S.r t % 4 }) := rfl
  rw [X]
  clear X
  have hp := fun W => part_any (S.r t) 0 2 (ok.r t).1 (ok.r t).2 (by omega) (by omega) (by omega) (by omega) W
  simp only [pw0, pw2, Int.ediv_one] at hp
  have z0 : 0 ≤ S.r t % 4 := by omega
  have z1 : S.r t % 4 < 4 := by omega
  generalize S.r t % 4 = y at *
  have D0 : Hid (Dq (w.alloc (.cells #[.int .i64 44, .int .i64 s, .int .i64 t, .int .i64 12, .int .u32 m] 113)) w.heap.size sb S 44 s t 12 m) := Dq.start A ok 44 hs ht hd m0 m1
  have K0 : Kept w (w.alloc (.cells #[.int .i64 44, .int .i64 s, .int .i64 t, .int .i64 12, .int .u32 m] 113)) (· = sb) := Kept.of_below _ ((Below.refl _ _).alloc (Nat.le_refl _) _)
  clear A
  go_enter Tryz.func194, Tryz.ntmps194
  go_upto_region 1 with fail
  generalize w.alloc (.cells #[.int .i64 44, .int .i64 s, .int .i64 t, .int .i64 12, .int .u32 m] 113) = W at *
  generalize w.heap.size = ib at *
  have i0 := D0.out.i0
  have i1 := D0.out.i1
  have i2 := D0.out.i2
  have i3 := D0.out.i3
  have i4 := D0.out.i4
  have qt := D0.out.a.reg D0.out.ht
  have ft := D0.out.a.fz t
  have ht' : (t : Int) < 32 := by have := D0.out.ht; omega
  go_upto_region 23 with fail
  clear i0 i1 i2 i3 i4
  refine wp_region_phase 8 [(0, 0), (1, 0), (2, 1), (3, 0), (4, 0), (5, 0), (6, 1), (7, 0)] (fun W => Dq W ib sb S 44 s t 12 m) (by kernel_rfl) (by kernel_rfl) (fun _ _ _ d _ h => by cases d <;> first | exact h | exact Dq.drew h) D0.out.drew ?_
  repeat (first | (refine wpPlanZ_free (by rfl) (by rfl) (fun W => by (go_simp; try with_reducible rfl)) (fun K hK => ?_); go_simp; refine hK _ ?_; clear hK K) | (refine wpPlanZ_quiet (by rfl) (by rfl) (fun W hW => by (have i2 := hW.i2; have qt := hW.a.reg hW.ht; go_simp; try with_reducible rfl)) (fun K hK => ?_); go_simp; refine hK _ ?_; clear hK K))
  refine wpPlanZ_nil ?_
  have D1 : Hid (Dq W.drew ib sb S 44 s t 12 m) := D0.out.drew
  have K1 : Kept w W.drew (· = sb) := K0.trans (Kept.drew _ _) (fun _ _ h => h)
  clear qt ft
  generalize W.drew = W1 at *
  have i0 := D1.out.i0
  have i1 := D1.out.i1
  have i2 := D1.out.i2
  have i3 := D1.out.i3
  have i4 := D1.out.i4
  obtain ⟨_, _, _, _, _, q37, _, _, _, _, _⟩ := D1.out.a.told
  have f37 := D1.out.a.fz 37
  have A1 := D1.out.a.putSt y
  go_wp2_with (go_at_call 46; refine (hp _).mono ?_; rintro e w2 ⟨rfl, rfl⟩)
  go_ret
  exact ⟨rfl, A1, K1.put _ _⟩
set_option maxRecDepth 100000 in
set_option maxHeartbeats 8000000 in
theorem trap_44_14 (A : StAt w sb S) (ok : S.ok) (hs : s < 32) (ht : t < 32) (hd : d < 32) (m0 : 0 ≤ m) (m1 : m < 4294967296) (hk : k = 44) (hdd : d = 14) : Calls Tryz.prog 194 #[.pointer (some ⟨sb, 0, none⟩), .agg #[.int .i64 k, .int .i64 s, .int .i64 t, .int .i64 d, .int .u32 m]] w fun e w' => e = .returned (.int .i64 (trapD S k t d).1) ∧ StAt w' sb (trapD S k t d).2 ∧ Kept w w' (· = sb) := by
  subst hk
  subst hdd
  have D0 : Hid (Dq (w.alloc (.cells #[.int .i64 44, .int .i64 s, .int .i64 t, .int .i64 14, .int .u32 m] 113)) w.heap.size sb S 44 s t 14 m) := Dq.start A ok 44 hs ht hd m0 m1
  have K0 : Kept w (w.alloc (.cells #[.int .i64 44, .int .i64 s, .int .i64 t, .int .i64 14, .int .u32 m] 113)) (· = sb) := Kept.of_below _ ((Below.refl _ _).alloc (Nat.le_refl _) _)
  clear A
  go_enter Tryz.func194, Tryz.ntmps194
  go_upto_region 1 with fail
  generalize w.alloc (.cells #[.int .i64 44, .int .i64 s, .int .i64 t, .int .i64 14, .int .u32 m] 113) = W at *
  generalize w.heap.size = ib at *
  have i0 := D0.out.i0
  have i1 := D0.out.i1
  have i2 := D0.out.i2
  have i3 := D0.out.i3
  have i4 := D0.out.i4
  have qt := D0.out.a.reg D0.out.ht
  have ft := D0.out.a.fz t
  have ht' : (t : Int) < 32 := by have := D0.out.ht; omega
  go_upto_region 23 with fail
  clear i0 i1 i2 i3 i4
  refine wp_region_phase 8 [(0, 0), (1, 0), (2, 1), (3, 0), (4, 0), (5, 0), (6, 1), (7, 0)] (fun W => Dq W ib sb S 44 s t 14 m) (by kernel_rfl) (by kernel_rfl) (fun _ _ _ d _ h => by cases d <;> first | exact h | exact Dq.drew h) D0.out.drew ?_
  repeat (first | (refine wpPlanZ_free (by rfl) (by rfl) (fun W => by (go_simp; try with_reducible rfl)) (fun K hK => ?_); go_simp; refine hK _ ?_; clear hK K) | (refine wpPlanZ_quiet (by rfl) (by rfl) (fun W hW => by (have i2 := hW.i2; have qt := hW.a.reg hW.ht; go_simp; try with_reducible rfl)) (fun K hK => ?_); go_simp; refine hK _ ?_; clear hK K))
  refine wpPlanZ_nil ?_
  have D1 : Hid (Dq W.drew ib sb S 44 s t 14 m) := D0.out.drew
  have K1 : Kept w W.drew (· = sb) := K0.trans (Kept.drew _ _) (fun _ _ h => h)
  clear qt ft
  generalize W.drew = W1 at *
  have i0 := D1.out.i0
  have i1 := D1.out.i1
  have i2 := D1.out.i2
  have i3 := D1.out.i3
  have i4 := D1.out.i4
  obtain ⟨_, _, _, _, _, _, _, q39, _, _, _⟩ := D1.out.a.told
  have f39 := D1.out.a.fz 39
  have A1 := D1.out.a.putEp (S.r t)
  go_wp2
  go_ret
  exact ⟨rfl, A1, K1.put _ _⟩
set_option maxRecDepth 100000 in
set_option maxHeartbeats 8000000 in
theorem trap_44_no (A : StAt w sb S) (ok : S.ok) (hs : s < 32) (ht : t < 32) (hd : d < 32) (m0 : 0 ≤ m) (m1 : m < 4294967296) (hk : k = 44) (h11 : d ≠ 11) (h12 : d ≠ 12) (h14 : d ≠ 14) : Calls Tryz.prog 194 #[.pointer (some ⟨sb, 0, none⟩), .agg #[.int .i64 k, .int .i64 s, .int .i64 t, .int .i64 d, .int .u32 m]] w fun e w' => e = .returned (.int .i64 (trapD S k t d).1) ∧ StAt w' sb (trapD S k t d).2 ∧ Kept w w' (· = sb) := by
  subst hk
  have X : trapD S 44 t d = (10, S) := by unfold trapD toD; simp [h11, h12, h14]
  rw [X]
  have b11 := nk h11
  have b12 := nk h12
  have b14 := nk h14
  clear h11 h12 h14 X
  have D0 : Hid (Dq (w.alloc (.cells #[.int .i64 44, .int .i64 s, .int .i64 t, .int .i64 d, .int .u32 m] 113)) w.heap.size sb S 44 s t d m) := Dq.start A ok 44 hs ht hd m0 m1
  have K0 : Kept w (w.alloc (.cells #[.int .i64 44, .int .i64 s, .int .i64 t, .int .i64 d, .int .u32 m] 113)) (· = sb) := Kept.of_below _ ((Below.refl _ _).alloc (Nat.le_refl _) _)
  clear A
  go_enter Tryz.func194, Tryz.ntmps194
  go_upto_region 1 with fail
  generalize w.alloc (.cells #[.int .i64 44, .int .i64 s, .int .i64 t, .int .i64 d, .int .u32 m] 113) = W at *
  generalize w.heap.size = ib at *
  have i0 := D0.out.i0
  have i1 := D0.out.i1
  have i2 := D0.out.i2
  have i3 := D0.out.i3
  have i4 := D0.out.i4
  have qt := D0.out.a.reg D0.out.ht
  have ft := D0.out.a.fz t
  have ht' : (t : Int) < 32 := by have := D0.out.ht; omega
  go_upto_region 23 with fail
  clear i0 i1 i2 i3 i4
  refine wp_region_phase 8 [(0, 0), (1, 0), (2, 1), (3, 0), (4, 0), (5, 0), (6, 1), (7, 0)] (fun W => Dq W ib sb S 44 s t d m) (by kernel_rfl) (by kernel_rfl) (fun _ _ _ d _ h => by cases d <;> first | exact h | exact Dq.drew h) D0.out.drew ?_
  repeat (first | (refine wpPlanZ_free (by rfl) (by rfl) (fun W => by (go_simp; try with_reducible rfl)) (fun K hK => ?_); go_simp; refine hK _ ?_; clear hK K) | (refine wpPlanZ_quiet (by rfl) (by rfl) (fun W hW => by (have i2 := hW.i2; have qt := hW.a.reg hW.ht; go_simp; try with_reducible rfl)) (fun K hK => ?_); go_simp; refine hK _ ?_; clear hK K))
  refine wpPlanZ_nil ?_
  have D1 : Hid (Dq W.drew ib sb S 44 s t d m) := D0.out.drew
  have K1 : Kept w W.drew (· = sb) := K0.trans (Kept.drew _ _) (fun _ _ h => h)
  clear qt ft
  generalize W.drew = W1 at *
  have i0 := D1.out.i0
  have i1 := D1.out.i1
  have i2 := D1.out.i2
  have i3 := D1.out.i3
  have i4 := D1.out.i4
  have A1 := D1.out.a
  go_wp2
  go_ret
  exact ⟨rfl, A1, K1⟩
set_option maxRecDepth 100000 in
set_option maxHeartbeats 8000000 in
theorem trap_no (A : StAt w sb S) (ok : S.ok) (hs : s < 32) (ht : t < 32) (hd : d < 32) (m0 : 0 ≤ m) (m1 : m < 4294967296) (h9 : k ≠ 9) (h10 : k ≠ 10) (h43 : k ≠ 43) (h44 : k ≠ 44) : Calls Tryz.prog 194 #[.pointer (some ⟨sb, 0, none⟩), .agg #[.int .i64 k, .int .i64 s, .int .i64 t, .int .i64 d, .int .u32 m]] w fun e w' => e = .returned (.int .i64 (trapD S k t d).1) ∧ StAt w' sb (trapD S k t d).2 ∧ Kept w w' (· = sb) := by
  have X : trapD S k t d = (10, S) := by unfold trapD; simp [h9, h10, h43, h44]
  rw [X]
  have b9 := nk h9
  have b10 := nk h10
  have b43 := nk h43
  have b44 := nk h44
  clear h9 h10 h43 h44 X
  have D0 : Hid (Dq (w.alloc (.cells #[.int .i64 k, .int .i64 s, .int .i64 t, .int .i64 d, .int .u32 m] 113)) w.heap.size sb S k s t d m) := Dq.start A ok k hs ht hd m0 m1
  have K0 : Kept w (w.alloc (.cells #[.int .i64 k, .int .i64 s, .int .i64 t, .int .i64 d, .int .u32 m] 113)) (· = sb) := Kept.of_below _ ((Below.refl _ _).alloc (Nat.le_refl _) _)
  clear A
  go_enter Tryz.func194, Tryz.ntmps194
  go_upto_region 1 with fail
  generalize w.alloc (.cells #[.int .i64 k, .int .i64 s, .int .i64 t, .int .i64 d, .int .u32 m] 113) = W at *
  generalize w.heap.size = ib at *
  have i0 := D0.out.i0
  have i1 := D0.out.i1
  have i2 := D0.out.i2
  have i3 := D0.out.i3
  have i4 := D0.out.i4
  have A1 := D0.out.a
  go_wp2
  go_ret
  exact ⟨rfl, A1, K0⟩
set_option maxRecDepth 100000 in
set_option maxHeartbeats 8000000 in
theorem trapD_any (A : StAt w sb S) (ok : S.ok) (hs : s < 32) (ht : t < 32) (hd : d < 32) (m0 : 0 ≤ m) (m1 : m < 4294967296) : Calls Tryz.prog 194 #[.pointer (some ⟨sb, 0, none⟩), .agg #[.int .i64 k, .int .i64 s, .int .i64 t, .int .i64 d, .int .u32 m]] w fun e w' => e = .returned (.int .i64 (trapD S k t d).1) ∧ StAt w' sb (trapD S k t d).2 ∧ Kept w w' (· = sb) := by
  by_cases h9 : k = 9
  · exact trap_9 A ok hs ht hd m0 m1 h9
  by_cases h10 : k = 10
  · exact trap_10 A ok hs ht hd m0 m1 h10
  by_cases h43 : k = 43
  · by_cases d8 : d = 8
    · exact trap_43_8 A ok hs ht hd m0 m1 h43 d8
    by_cases d9 : d = 9
    · exact trap_43_9 A ok hs ht hd m0 m1 h43 d9
    by_cases d11 : d = 11
    · exact trap_43_11 A ok hs ht hd m0 m1 h43 d11
    by_cases d12 : d = 12
    · exact trap_43_12 A ok hs ht hd m0 m1 h43 d12
    by_cases d13 : d = 13
    · exact trap_43_13 A ok hs ht hd m0 m1 h43 d13
    by_cases d14 : d = 14
    · exact trap_43_14 A ok hs ht hd m0 m1 h43 d14
    exact trap_43_no A ok hs ht hd m0 m1 h43 d8 d9 d11 d12 d13 d14
  by_cases h44 : k = 44
  · by_cases d11 : d = 11
    · exact trap_44_11 A ok hs ht hd m0 m1 h44 d11
    by_cases d12 : d = 12
    · exact trap_44_12 A ok hs ht hd m0 m1 h44 d12
    by_cases d14 : d = 14
    · exact trap_44_14 A ok hs ht hd m0 m1 h44 d14
    exact trap_44_no A ok hs ht hd m0 m1 h44 d11 d12 d14
  exact trap_no A ok hs ht hd m0 m1 h9 h10 h43 h44
end
end Go.Proofs.YtflagpkmebdckaaGreatDoor
/-
  What the document makes of a sum.
-/
namespace Go.Proofs.YtflagpkmebdckaaGreatDoor
open Go.RowKit Go.Maps
open Num
set_option linter.unusedVariables false
section
variable {w : World} {sb : Nat} {S : St} {k s t d : Nat} {m : Int}
end
def sumD (S : St) (k s t d : Nat) (m : Int) : Int × St :=
  if k = 15 ∨ k = 16 then (-1, { S with hi := hi (nm (opA S k s t) (decide (k = 15)) * nm (opB S k s t m) (decide (k = 15))), lo := lo (nm (opA S k s t) (decide (k = 15)) * nm (opB S k s t m) (decide (k = 15))) })
  else if k = 17 ∨ k = 18 then (-1, if opB S k s t m = 0 then S else { S with lo := quo (opA S k s t) (opB S k s t m) (decide (k = 17)), hi := rst (opA S k s t) (opB S k s t m) (decide (k = 17)) })
  else if k = 12 then (-1, { S with hi := opA S k s t }) else if k = 14 then (-1, { S with lo := opA S k s t })
  else if overI k (opA S k s t) (opB S k s t m) = true then (12, S) else (-1, S.putR (opT k t d) (resI S k (opA S k s t) (opB S k s t m)))
theorem wdS {m : Int} (h0 : 0 ≤ m) (h1 : m < 32) : wd m 16 true = m := by
  obtain ⟨n, rfl⟩ : ∃ n : Nat, m = n := ⟨m.toNat, by omega⟩
  have h : ∀ n : Nat, n < 32 → wd (n : Int) 16 true = n := by decide
  exact h n (by omega)
section
variable {w : World} {sb : Nat} {S : St} {k s t d : Nat} {m : Int}
end
end Go.Proofs.YtflagpkmebdckaaGreatDoor
/-
  Sums: shifts.
-/
namespace Go.Proofs.YtflagpkmebdckaaGreatDoor
open Go.RowKit Go.Maps
open Num
set_option linter.unusedVariables false
section
variable {w : World} {sb : Nat} {S : St} {k s t d : Nat} {m : Int}
set_option maxRecDepth 100000 in
set_option maxHeartbeats 8000000 in
theorem sumd_42 (A : StAt w sb S) (ok : S.ok) (hs : s < 32) (ht : t < 32) (hd : d < 32) (m0 : 0 ≤ m) (m1 : m < 4294967296) (hk : k = 42) : Calls Tryz.prog 195 #[.pointer (some ⟨sb, 0, none⟩), .agg #[.int .i64 k, .int .i64 s, .int .i64 t, .int .i64 d, .int .u32 m]] w fun e w' => e = .returned (.int .i64 (sumD S k s t d m).1) ∧ StAt w' sb (sumD S k s t d m).2 ∧ Kept w w' (· = sb) := by
  subst hk
  have X : sumD S 42 s t d m = (-1, S.putR t (shf 60 m 16)) := rfl
  rw [X]
  clear X
  have hm := fun W => shiftOf_any 60 m 16 m0 m1 (by omega) W
  generalize shf 60 m 16 = y at *
  have D0 : Hid (Dq (w.alloc (.cells #[.int .i64 42, .int .i64 s, .int .i64 t, .int .i64 d, .int .u32 m] 113)) w.heap.size sb S 42 s t d m) := Dq.start A ok 42 hs ht hd m0 m1
  have K0 : Kept w (w.alloc (.cells #[.int .i64 42, .int .i64 s, .int .i64 t, .int .i64 d, .int .u32 m] 113)) (· = sb) := Kept.of_below _ ((Below.refl _ _).alloc (Nat.le_refl _) _)
  clear A
  go_enter Tryz.func195, Tryz.ntmps195
  go_upto_region 1 with fail
  generalize w.alloc (.cells #[.int .i64 42, .int .i64 s, .int .i64 t, .int .i64 d, .int .u32 m] 113) = W at *
  generalize w.heap.size = ib at *
  have i0 := D0.out.i0
  have i1 := D0.out.i1
  have i2 := D0.out.i2
  have i3 := D0.out.i3
  have i4 := D0.out.i4
  have qs := D0.out.a.reg D0.out.hs
  have fs := D0.out.a.fz s
  have hs' : (s : Int) < 32 := by have := D0.out.hs; omega
  have qt := D0.out.a.reg D0.out.ht
  have ft := D0.out.a.fz t
  have ht' : (t : Int) < 32 := by have := D0.out.ht; omega
  clear i0 i3 i4
  go_upto_region 1 with fail
  refine wp_region_phase 8 [(0, 0), (1, 0), (2, 1), (3, 0), (4, 0), (5, 0), (6, 1), (7, 0)] (fun W => Dq W ib sb S 42 s t d m) (by kernel_rfl) (by kernel_rfl) (fun _ _ _ d _ h => by cases d <;> first | exact h | exact Dq.drew h) D0.out.drew ?_
  repeat (first | (refine wpPlanZ_free (by rfl) (by rfl) (fun W => by (go_simp; try with_reducible rfl)) (fun K hK => ?_); go_simp; refine hK _ ?_; clear hK K) | (refine wpPlanZ_quiet (by rfl) (by rfl) (fun W hW => by (have i1 := hW.i1; have qs := hW.a.reg hW.hs; go_simp; try with_reducible rfl)) (fun K hK => ?_); go_simp; refine hK _ ?_; clear hK K))
  refine wpPlanZ_nil ?_
  have D1 : Hid (Dq W.drew ib sb S 42 s t d m) := D0.out.drew
  have K1 : Kept w W.drew (· = sb) := K0.trans (Kept.drew _ _) (fun _ _ h => h)
  clear qt ft qs fs i1 i2
  generalize W.drew = W1 at *
  clear D0 K0
  have i2 := D1.out.i2
  have qt := D1.out.a.reg D1.out.ht
  go_upto_region 2 with fail
  refine wp_region_phase 8 [(0, 0), (1, 0), (2, 1), (3, 0), (4, 0), (5, 0), (6, 1), (7, 0)] (fun W => Dq W ib sb S 42 s t d m) (by kernel_rfl) (by kernel_rfl) (fun _ _ _ d _ h => by cases d <;> first | exact h | exact Dq.drew h) D1.out.drew ?_
  repeat (first | (refine wpPlanZ_free (by rfl) (by rfl) (fun W => by (go_simp; try with_reducible rfl)) (fun K hK => ?_); go_simp; refine hK _ ?_; clear hK K) | (refine wpPlanZ_quiet (by rfl) (by rfl) (fun W hW => by (have i2 := hW.i2; have qt := hW.a.reg hW.ht; go_simp; try with_reducible rfl)) (fun K hK => ?_); go_simp; refine hK _ ?_; clear hK K))
  refine wpPlanZ_nil ?_
  have D0 : Hid (Dq W1.drew ib sb S 42 s t d m) := D1.out.drew
  have K0 : Kept w W1.drew (· = sb) := K1.trans (Kept.drew _ _) (fun _ _ h => h)
  clear qt i2
  generalize W1.drew = W at *
  clear D1 K1 W1
  have i0 := D0.out.i0
  have qt := D0.out.a.reg D0.out.ht
  have ft := D0.out.a.fz t
  have ht' : (t : Int) < 32 := by have := D0.out.ht; omega
  go_upto_region 28 with fail
  clear i0
  refine wp_region_phase 9 [(0, 0), (1, 0), (2, 1), (3, 0), (4, 1), (6, 0), (7, 0), (5, 2), (8, 0), (9, 2)] (fun W => Dq W ib sb S 42 s t d m) (by kernel_rfl) (by kernel_rfl) (fun _ _ _ d _ h => by cases d <;> first | exact h | exact Dq.drew h) D0.out.drew ?_
  repeat (first | (refine wpPlanZ_free (by rfl) (by rfl) (fun W => by (go_simp; try with_reducible rfl)) (fun K hK => ?_); go_simp; refine hK _ ?_; clear hK K) | (refine wpPlanZ_quiet (by rfl) (by rfl) (fun W hW => by (have i2 := hW.i2; have i4 := hW.i4; go_simp; try with_reducible rfl)) (fun K hK => ?_); go_simp; refine hK _ ?_; clear hK K))
  refine wpPlanZ_serial (by rfl) (by rfl) (fun K hK => ?_)
  go_simp
  refine (hm _).mono ?_
  rintro e_ w_ ⟨rfl, rfl⟩
  refine hK _ _ (fun _ => D0.out.drew) ?_
  clear hK K
  repeat (first | (refine wpPlanZ_free (by rfl) (by rfl) (fun W => by (go_simp; try with_reducible rfl)) (fun K hK => ?_); go_simp; refine hK _ ?_; clear hK K) | (refine wpPlanZ_quiet (by rfl) (by rfl) (fun W hW => by (have i2 := hW.i2; have i4 := hW.i4; go_simp; try with_reducible rfl)) (fun K hK => ?_); go_simp; refine hK _ ?_; clear hK K))
  refine wpPlanZ_serial (by rfl) (by rfl) (fun K hK => ?_)
  go_simp
  refine hK _ _ (fun h => absurd h (by decide)) ?_
  clear hK K
  refine wpPlanZ_nil ?_
  refine ck (R := fun W' => StAt W' sb (S.putR t y) ∧ Kept W W' (· = sb)) ?_ (fun w1 ⟨A1, T1⟩ => ?_)
  · exact ⟨(D0.out.a.putR t D0.out.ht _).drew, (Kept.put (Kept.refl W _) _ _).trans (Kept.drew _ _) (fun _ _ h => h)⟩
  clear qt ft
  go_wp2
  go_ret
  exact ⟨rfl, A1, K0.trans T1 (fun _ _ h => h)⟩
set_option maxRecDepth 100000 in
set_option maxHeartbeats 8000000 in
theorem sumd_1 (A : StAt w sb S) (ok : S.ok) (hs : s < 32) (ht : t < 32) (hd : d < 32) (m0 : 0 ≤ m) (m1 : m < 4294967296) (hk : k = 1) (hm : m < 32) : Calls Tryz.prog 195 #[.pointer (some ⟨sb, 0, none⟩), .agg #[.int .i64 k, .int .i64 s, .int .i64 t, .int .i64 d, .int .u32 m]] w fun e w' => e = .returned (.int .i64 (sumD S k s t d m).1) ∧ StAt w' sb (sumD S k s t d m).2 ∧ Kept w w' (· = sb) := by
  subst hk
  have X : sumD S 1 s t d m = (-1, S.putR d (resI S 1 (S.r t) m)) := by show (-1, S.putR d (resI S 1 (S.r t) (wd m 16 true))) = _; rw [wdS m0 hm]
  rw [X]
  clear X
  have hk1 := fun W => kindOfD_any 1 (by unfold isK; omega) W
  have hk2 := fun W => sumK_any S 1 (by unfold isK; omega) (S.r t) (m) (ok.r t) ⟨m0, m1⟩ W
  generalize resI S 1 (S.r t) (m) = y at *
  generalize kindS (kdx 1) = ks at *
  clear hm
  have D0 : Hid (Dq (w.alloc (.cells #[.int .i64 1, .int .i64 s, .int .i64 t, .int .i64 d, .int .u32 m] 113)) w.heap.size sb S 1 s t d m) := Dq.start A ok 1 hs ht hd m0 m1
  have K0 : Kept w (w.alloc (.cells #[.int .i64 1, .int .i64 s, .int .i64 t, .int .i64 d, .int .u32 m] 113)) (· = sb) := Kept.of_below _ ((Below.refl _ _).alloc (Nat.le_refl _) _)
  clear A
  go_enter Tryz.func195, Tryz.ntmps195
  go_upto_region 1 with fail
  generalize w.alloc (.cells #[.int .i64 1, .int .i64 s, .int .i64 t, .int .i64 d, .int .u32 m] 113) = W at *
  generalize w.heap.size = ib at *
  have i0 := D0.out.i0
  have i1 := D0.out.i1
  have i2 := D0.out.i2
  have i3 := D0.out.i3
  have i4 := D0.out.i4
  have qs := D0.out.a.reg D0.out.hs
  have fs := D0.out.a.fz s
  have hs' : (s : Int) < 32 := by have := D0.out.hs; omega
  have qt := D0.out.a.reg D0.out.ht
  have ft := D0.out.a.fz t
  have ht' : (t : Int) < 32 := by have := D0.out.ht; omega
  clear i0 i3 i4
  go_upto_region 1 with fail
  refine wp_region_phase 8 [(0, 0), (1, 0), (2, 1), (3, 0), (4, 0), (5, 0), (6, 1), (7, 0)] (fun W => Dq W ib sb S 1 s t d m) (by kernel_rfl) (by kernel_rfl) (fun _ _ _ d _ h => by cases d <;> first | exact h | exact Dq.drew h) D0.out.drew ?_
  repeat (first | (refine wpPlanZ_free (by rfl) (by rfl) (fun W => by (go_simp; try with_reducible rfl)) (fun K hK => ?_); go_simp; refine hK _ ?_; clear hK K) | (refine wpPlanZ_quiet (by rfl) (by rfl) (fun W hW => by (have i1 := hW.i1; have qs := hW.a.reg hW.hs; go_simp; try with_reducible rfl)) (fun K hK => ?_); go_simp; refine hK _ ?_; clear hK K))
  refine wpPlanZ_nil ?_
  have D1 : Hid (Dq W.drew ib sb S 1 s t d m) := D0.out.drew
  have K1 : Kept w W.drew (· = sb) := K0.trans (Kept.drew _ _) (fun _ _ h => h)
  clear qt ft qs fs i1 i2
  generalize W.drew = W1 at *
  clear D0 K0
  have i2 := D1.out.i2
  have qt := D1.out.a.reg D1.out.ht
  go_upto_region 2 with fail
  refine wp_region_phase 8 [(0, 0), (1, 0), (2, 1), (3, 0), (4, 0), (5, 0), (6, 1), (7, 0)] (fun W => Dq W ib sb S 1 s t d m) (by kernel_rfl) (by kernel_rfl) (fun _ _ _ d _ h => by cases d <;> first | exact h | exact Dq.drew h) D1.out.drew ?_
  repeat (first | (refine wpPlanZ_free (by rfl) (by rfl) (fun W => by (go_simp; try with_reducible rfl)) (fun K hK => ?_); go_simp; refine hK _ ?_; clear hK K) | (refine wpPlanZ_quiet (by rfl) (by rfl) (fun W hW => by (have i2 := hW.i2; have qt := hW.a.reg hW.ht; go_simp; try with_reducible rfl)) (fun K hK => ?_); go_simp; refine hK _ ?_; clear hK K))
  refine wpPlanZ_nil ?_
  have D0 : Hid (Dq W1.drew ib sb S 1 s t d m) := D1.out.drew
  have K0 : Kept w W1.drew (· = sb) := K1.trans (Kept.drew _ _) (fun _ _ h => h)
  clear qt i2
  generalize W1.drew = W at *
  clear D1 K1 W1
  have i0 := D0.out.i0
  have qd := D0.out.a.reg D0.out.hd
  have fd := D0.out.a.fz d
  have hd' : (d : Int) < 32 := by have := D0.out.hd; omega
  go_upto_region 33 with fail
  clear i0
  refine wp_region_phase 13 [(0, 0), (1, 0), (2, 1), (3, 0), (4, 1), (6, 0), (7, 0), (8, 1), (10, 0), (11, 0), (5, 2), (9, 2), (12, 0), (13, 2)] (fun W => Dq W ib sb S 1 s t d m) (by kernel_rfl) (by kernel_rfl) (fun _ _ _ d _ h => by cases d <;> first | exact h | exact Dq.drew h) D0.out.drew ?_
  repeat (first | (refine wpPlanZ_free (by rfl) (by rfl) (fun W => by (go_simp; try with_reducible rfl)) (fun K hK => ?_); go_simp; refine hK _ ?_; clear hK K) | (refine wpPlanZ_quiet (by rfl) (by rfl) (fun W hW => by (have i3 := hW.i3; have i0 := hW.i0; have i4 := hW.i4; go_simp; try with_reducible rfl)) (fun K hK => ?_); go_simp; refine hK _ ?_; clear hK K))
  refine wpPlanZ_serial (by rfl) (by rfl) (fun K hK => ?_)
  go_simp
  refine (hk1 _).mono ?_
  rintro e_ w_ ⟨rfl, rfl⟩
  refine hK _ _ (fun _ => D0.out.drew) ?_
  clear hK K
  repeat (first | (refine wpPlanZ_free (by rfl) (by rfl) (fun W => by (go_simp; try with_reducible rfl)) (fun K hK => ?_); go_simp; refine hK _ ?_; clear hK K) | (refine wpPlanZ_quiet (by rfl) (by rfl) (fun W hW => by (have i3 := hW.i3; have i0 := hW.i0; have i4 := hW.i4; go_simp; try with_reducible rfl)) (fun K hK => ?_); go_simp; refine hK _ ?_; clear hK K))
  refine wpPlanZ_serial (by rfl) (by rfl) (fun K hK => ?_)
  go_simp
  refine (hk2 _).mono ?_
  rintro e_ w_ ⟨rfl, rfl⟩
  refine hK _ _ (fun _ => D0.out.drew) ?_
  clear hK K
  repeat (first | (refine wpPlanZ_free (by rfl) (by rfl) (fun W => by (go_simp; try with_reducible rfl)) (fun K hK => ?_); go_simp; refine hK _ ?_; clear hK K) | (refine wpPlanZ_quiet (by rfl) (by rfl) (fun W hW => by (have i3 := hW.i3; have i0 := hW.i0; have i4 := hW.i4; go_simp; try with_reducible rfl)) (fun K hK => ?_); go_simp; refine hK _ ?_; clear hK K))
  refine wpPlanZ_serial (by rfl) (by rfl) (fun K hK => ?_)
  go_simp
  refine hK _ _ (fun h => absurd h (by decide)) ?_
  clear hK K
  refine wpPlanZ_nil ?_
  refine ck (R := fun W' => StAt W' sb (S.putR d y) ∧ Kept W W' (· = sb)) ?_ (fun w1 ⟨A1, T1⟩ => ?_)
  · exact ⟨(D0.out.a.putR d D0.out.hd _).drew, (Kept.put (Kept.refl W _) _ _).trans (Kept.drew _ _) (fun _ _ h => h)⟩
  clear qd fd
  go_wp2
  go_ret
  exact ⟨rfl, A1, K0.trans T1 (fun _ _ h => h)⟩
set_option maxRecDepth 100000 in
set_option maxHeartbeats 8000000 in
theorem sumd_2 (A : StAt w sb S) (ok : S.ok) (hs : s < 32) (ht : t < 32) (hd : d < 32) (m0 : 0 ≤ m) (m1 : m < 4294967296) (hk : k = 2) (hm : m < 32) : Calls Tryz.prog 195 #[.pointer (some ⟨sb, 0, none⟩), .agg #[.int .i64 k, .int .i64 s, .int .i64 t, .int .i64 d, .int .u32 m]] w fun e w' => e = .returned (.int .i64 (sumD S k s t d m).1) ∧ StAt w' sb (sumD S k s t d m).2 ∧ Kept w w' (· = sb) := by
  subst hk
  have X : sumD S 2 s t d m = (-1, S.putR d (resI S 2 (S.r t) m)) := by show (-1, S.putR d (resI S 2 (S.r t) (wd m 16 true))) = _; rw [wdS m0 hm]
  rw [X]
  clear X
  have hk1 := fun W => kindOfD_any 2 (by unfold isK; omega) W
  have hk2 := fun W => sumK_any S 2 (by unfold isK; omega) (S.r t) (m) (ok.r t) ⟨m0, m1⟩ W
  generalize resI S 2 (S.r t) (m) = y at *
  generalize kindS (kdx 2) = ks at *
  clear hm
  have D0 : Hid (Dq (w.alloc (.cells #[.int .i64 2, .int .i64 s, .int .i64 t, .int .i64 d, .int .u32 m] 113)) w.heap.size sb S 2 s t d m) := Dq.start A ok 2 hs ht hd m0 m1
  have K0 : Kept w (w.alloc (.cells #[.int .i64 2, .int .i64 s, .int .i64 t, .int .i64 d, .int .u32 m] 113)) (· = sb) := Kept.of_below _ ((Below.refl _ _).alloc (Nat.le_refl _) _)
  clear A
  go_enter Tryz.func195, Tryz.ntmps195
  go_upto_region 1 with fail
  generalize w.alloc (.cells #[.int .i64 2, .int .i64 s, .int .i64 t, .int .i64 d, .int .u32 m] 113) = W at *
  generalize w.heap.size = ib at *
  have i0 := D0.out.i0
  have i1 := D0.out.i1
  have i2 := D0.out.i2
  have i3 := D0.out.i3
  have i4 := D0.out.i4
  have qs := D0.out.a.reg D0.out.hs
  have fs := D0.out.a.fz s
  have hs' : (s : Int) < 32 := by have := D0.out.hs; omega
  have qt := D0.out.a.reg D0.out.ht
  have ft := D0.out.a.fz t
  have ht' : (t : Int) < 32 := by have := D0.out.ht; omega
  clear i0 i3 i4
  go_upto_region 1 with fail
  refine wp_region_phase 8 [(0, 0), (1, 0), (2, 1), (3, 0), (4, 0), (5, 0), (6, 1), (7, 0)] (fun W => Dq W ib sb S 2 s t d m) (by kernel_rfl) (by kernel_rfl) (fun _ _ _ d _ h => by cases d <;> first | exact h | exact Dq.drew h) D0.out.drew ?_
  repeat (first | (refine wpPlanZ_free (by rfl) (by rfl) (fun W => by (go_simp; try with_reducible rfl)) (fun K hK => ?_); go_simp; refine hK _ ?_; clear hK K) | (refine wpPlanZ_quiet (by rfl) (by rfl) (fun W hW => by (have i1 := hW.i1; have qs := hW.a.reg hW.hs; go_simp; try with_reducible rfl)) (fun K hK => ?_); go_simp; refine hK _ ?_; clear hK K))
  refine wpPlanZ_nil ?_
  have D1 : Hid (Dq W.drew ib sb S 2 s t d m) := D0.out.drew
  have K1 : Kept w W.drew (· = sb) := K0.trans (Kept.drew _ _) (fun _ _ h => h)
  clear qt ft qs fs i1 i2
  generalize W.drew = W1 at *
  clear D0 K0
  have i2 := D1.out.i2
  have qt := D1.out.a.reg D1.out.ht
  go_upto_region 2 with fail
  refine wp_region_phase 8 [(0, 0), (1, 0), (2, 1), (3, 0), (4, 0), (5, 0), (6, 1), (7, 0)] (fun W => Dq W ib sb S 2 s t d m) (by kernel_rfl) (by kernel_rfl) (fun _ _ _ d _ h => by cases d <;> first | exact h | exact Dq.drew h) D1.out.drew ?_
  repeat (first | (refine wpPlanZ_free (by rfl) (by rfl) (fun W => by (go_simp; try with_reducible rfl)) (fun K hK => ?_); go_simp; refine hK _ ?_; clear hK K) | (refine wpPlanZ_quiet (by rfl) (by rfl) (fun W hW => by (have i2 := hW.i2; have qt := hW.a.reg hW.ht; go_simp; try with_reducible rfl)) (fun K hK => ?_); go_simp; refine hK _ ?_; clear hK K))
  refine wpPlanZ_nil ?_
  have D0 : Hid (Dq W1.drew ib sb S 2 s t d m) := D1.out.drew
  have K0 : Kept w W1.drew (· = sb) := K1.trans (Kept.drew _ _) (fun _ _ h => h)
  clear qt i2
  generalize W1.drew = W at *
  clear D1 K1 W1
  have i0 := D0.out.i0
  have qd := D0.out.a.reg D0.out.hd
  have fd := D0.out.a.fz d
  have hd' : (d : Int) < 32 := by have := D0.out.hd; omega
  go_upto_region 33 with fail
  clear i0
  refine wp_region_phase 13 [(0, 0), (1, 0), (2, 1), (3, 0), (4, 1), (6, 0), (7, 0), (8, 1), (10, 0), (11, 0), (5, 2), (9, 2), (12, 0), (13, 2)] (fun W => Dq W ib sb S 2 s t d m) (by kernel_rfl) (by kernel_rfl) (fun _ _ _ d _ h => by cases d <;> first | exact h | exact Dq.drew h) D0.out.drew ?_
  repeat (first | (refine wpPlanZ_free (by rfl) (by rfl) (fun W => by (go_simp; try with_reducible rfl)) (fun K hK => ?_); go_simp; refine hK _ ?_; clear hK K) | (refine wpPlanZ_quiet (by rfl) (by rfl) (fun W hW => by (have i3 := hW.i3; have i0 := hW.i0; have i4 := hW.i4; go_simp; try with_reducible rfl)) (fun K hK => ?_); go_simp; refine hK _ ?_; clear hK K))
  refine wpPlanZ_serial (by rfl) (by rfl) (fun K hK => ?_)
  go_simp
  refine (hk1 _).mono ?_
  rintro e_ w_ ⟨rfl, rfl⟩
  refine hK _ _ (fun _ => D0.out.drew) ?_
  clear hK K
  repeat (first | (refine wpPlanZ_free (by rfl) (by rfl) (fun W => by (go_simp; try with_reducible rfl)) (fun K hK => ?_); go_simp; refine hK _ ?_; clear hK K) | (refine wpPlanZ_quiet (by rfl) (by rfl) (fun W hW => by (have i3 := hW.i3; have i0 := hW.i0; have i4 := hW.i4; go_simp; try with_reducible rfl)) (fun K hK => ?_); go_simp; refine hK _ ?_; clear hK K))
  refine wpPlanZ_serial (by rfl) (by rfl) (fun K hK => ?_)
  go_simp
  refine (hk2 _).mono ?_
  rintro e_ w_ ⟨rfl, rfl⟩
  refine hK _ _ (fun _ => D0.out.drew) ?_
  clear hK K
  repeat (first | (refine wpPlanZ_free (by rfl) (by rfl) (fun W => by (go_simp; try with_reducible rfl)) (fun K hK => ?_); go_simp; refine hK _ ?_; clear hK K) | (refine wpPlanZ_quiet (by rfl) (by rfl) (fun W hW => by (have i3 := hW.i3; have i0 := hW.i0; have i4 := hW.i4; go_simp; try with_reducible rfl)) (fun K hK => ?_); go_simp; refine hK _ ?_; clear hK K))
  refine wpPlanZ_serial (by rfl) (by rfl) (fun K hK => ?_)
  go_simp
  refine hK _ _ (fun h => absurd h (by decide)) ?_
  clear hK K
  refine wpPlanZ_nil ?_
  refine ck (R := fun W' => StAt W' sb (S.putR d y) ∧ Kept W W' (· = sb)) ?_ (fun w1 ⟨A1, T1⟩ => ?_)
  · exact ⟨(D0.out.a.putR d D0.out.hd _).drew, (Kept.put (Kept.refl W _) _ _).trans (Kept.drew _ _) (fun _ _ h => h)⟩
  clear qd fd
  go_wp2
  go_ret
  exact ⟨rfl, A1, K0.trans T1 (fun _ _ h => h)⟩
set_option maxRecDepth 100000 in
set_option maxHeartbeats 8000000 in
theorem sumd_3 (A : StAt w sb S) (ok : S.ok) (hs : s < 32) (ht : t < 32) (hd : d < 32) (m0 : 0 ≤ m) (m1 : m < 4294967296) (hk : k = 3) (hm : m < 32) : Calls Tryz.prog 195 #[.pointer (some ⟨sb, 0, none⟩), .agg #[.int .i64 k, .int .i64 s, .int .i64 t, .int .i64 d, .int .u32 m]] w fun e w' => e = .returned (.int .i64 (sumD S k s t d m).1) ∧ StAt w' sb (sumD S k s t d m).2 ∧ Kept w w' (· = sb) := by
  subst hk
  have X : sumD S 3 s t d m = (-1, S.putR d (resI S 3 (S.r t) m)) := by show (-1, S.putR d (resI S 3 (S.r t) (wd m 16 true))) = _; rw [wdS m0 hm]
  rw [X]
  clear X
  have hk1 := fun W => kindOfD_any 3 (by unfold isK; omega) W
  have hk2 := fun W => sumK_any S 3 (by unfold isK; omega) (S.r t) (m) (ok.r t) ⟨m0, m1⟩ W
  generalize resI S 3 (S.r t) (m) = y at *
  generalize kindS (kdx 3) = ks at *
  clear hm
  have D0 : Hid (Dq (w.alloc (.cells #[.int .i64 3, .int .i64 s, .int .i64 t, .int .i64 d, .int .u32 m] 113)) w.heap.size sb S 3 s t d m) := Dq.start A ok 3 hs ht hd m0 m1
  have K0 : Kept w (w.alloc (.cells #[.int .i64 3, .int .i64 s, .int .i64 t, .int .i64 d, .int .u32 m] 113)) (· = sb) := Kept.of_below _ ((Below.refl _ _).alloc (Nat.le_refl _) _)
  clear A
  go_enter Tryz.func195, Tryz.ntmps195
  go_upto_region 1 with fail
  generalize w.alloc (.cells #[.int .i64 3, .int .i64 s, .int .i64 t, .int .i64 d, .int .u32 m] 113) = W at *
  generalize w.heap.size = ib at *
  have i0 := D0.out.i0
  have i1 := D0.out.i1
  have i2 := D0.out.i2
  have i3 := D0.out.i3
  have i4 := D0.out.i4
  have qs := D0.out.a.reg D0.out.hs
  have fs := D0.out.a.fz s
  have hs' : (s : Int) < 32 := by have := D0.out.hs; omega
  have qt := D0.out.a.reg D0.out.ht
  have ft := D0.out.a.fz t
  have ht' : (t : Int) < 32 := by have := D0.out.ht; omega
  clear i0 i3 i4
  go_upto_region 1 with fail
  refine wp_region_phase 8 [(0, 0), (1, 0), (2, 1), (3, 0), (4, 0), (5, 0), (6, 1), (7, 0)] (fun W => Dq W ib sb S 3 s t d m) (by kernel_rfl) (by kernel_rfl) (fun _ _ _ d _ h => by cases d <;> first | exact h | exact Dq.drew h) D0.out.drew ?_
  repeat (first | (refine wpPlanZ_free (by rfl) (by rfl) (fun W => by (go_simp; try with_reducible rfl)) (fun K hK => ?_); go_simp; refine hK _ ?_; clear hK K) | (refine wpPlanZ_quiet (by rfl) (by rfl) (fun W hW => by (have i1 := hW.i1; have qs := hW.a.reg hW.hs; go_simp; try with_reducible rfl)) (fun K hK => ?_); go_simp; refine hK _ ?_; clear hK K))
  refine wpPlanZ_nil ?_
  have D1 : Hid (Dq W.drew ib sb S 3 s t d m) := D0.out.drew
  have K1 : Kept w W.drew (· = sb) := K0.trans (Kept.drew _ _) (fun _ _ h => h)
  clear qt ft qs fs i1 i2
  generalize W.drew = W1 at *
  clear D0 K0
  have i2 := D1.out.i2
  have qt := D1.out.a.reg D1.out.ht
  go_upto_region 2 with fail
  refine wp_region_phase 8 [(0, 0), (1, 0), (2, 1), (3, 0), (4, 0), (5, 0), (6, 1), (7, 0)] (fun W => Dq W ib sb S 3 s t d m) (by kernel_rfl) (by kernel_rfl) (fun _ _ _ d _ h => by cases d <;> first | exact h | exact Dq.drew h) D1.out.drew ?_
  repeat (first | (refine wpPlanZ_free (by rfl) (by rfl) (fun W => by (go_simp; try with_reducible rfl)) (fun K hK => ?_); go_simp; refine hK _ ?_; clear hK K) | (refine wpPlanZ_quiet (by rfl) (by rfl) (fun W hW => by (have i2 := hW.i2; have qt := hW.a.reg hW.ht; go_simp; try with_reducible rfl)) (fun K hK => ?_); go_simp; refine hK _ ?_; clear hK K))
  refine wpPlanZ_nil ?_
  have D0 : Hid (Dq W1.drew ib sb S 3 s t d m) := D1.out.drew
  have K0 : Kept w W1.drew (· = sb) := K1.trans (Kept.drew _ _) (fun _ _ h => h)
  clear qt i2
  generalize W1.drew = W at *
  clear D1 K1 W1
  have i0 := D0.out.i0
  have qd := D0.out.a.reg D0.out.hd
  have fd := D0.out.a.fz d
  have hd' : (d : Int) < 32 := by have := D0.out.hd; omega
  go_upto_region 33 with fail
  clear i0
  refine wp_region_phase 13 [(0, 0), (1, 0), (2, 1), (3, 0), (4, 1), (6, 0), (7, 0), (8, 1), (10, 0), (11, 0), (5, 2), (9, 2), (12, 0), (13, 2)] (fun W => Dq W ib sb S 3 s t d m) (by kernel_rfl) (by kernel_rfl) (fun _ _ _ d _ h => by cases d <;> first | exact h | exact Dq.drew h) D0.out.drew ?_
  repeat (first | (refine wpPlanZ_free (by rfl) (by rfl) (fun W => by (go_simp; try with_reducible rfl)) (fun K hK => ?_); go_simp; refine hK _ ?_; clear hK K) | (refine wpPlanZ_quiet (by rfl) (by rfl) (fun W hW => by (have i3 := hW.i3; have i0 := hW.i0; have i4 := hW.i4; go_simp; try with_reducible rfl)) (fun K hK => ?_); go_simp; refine hK _ ?_; clear hK K))
  refine wpPlanZ_serial (by rfl) (by rfl) (fun K hK => ?_)
  go_simp
  refine (hk1 _).mono ?_
  rintro e_ w_ ⟨rfl, rfl⟩
  refine hK _ _ (fun _ => D0.out.drew) ?_
  clear hK K
  repeat (first | (refine wpPlanZ_free (by rfl) (by rfl) (fun W => by (go_simp; try with_reducible rfl)) (fun K hK => ?_); go_simp; refine hK _ ?_; clear hK K) | (refine wpPlanZ_quiet (by rfl) (by rfl) (fun W hW => by (have i3 := hW.i3; have i0 := hW.i0; have i4 := hW.i4; go_simp; try with_reducible rfl)) (fun K hK => ?_); go_simp; refine hK _ ?_; clear hK K))
  refine wpPlanZ_serial (by rfl) (by rfl) (fun K hK => ?_)
  go_simp
  refine (hk2 _).mono ?_
  rintro e_ w_ ⟨rfl, rfl⟩
  refine hK _ _ (fun _ => D0.out.drew) ?_
  clear hK K
  repeat (first | (refine wpPlanZ_free (by rfl) (by rfl) (fun W => by (go_simp; try with_reducible rfl)) (fun K hK => ?_); go_simp; refine hK _ ?_; clear hK K) | (refine wpPlanZ_quiet (by rfl) (by rfl) (fun W hW => by (have i3 := hW.i3; have i0 := hW.i0; have i4 := hW.i4; go_simp; try with_reducible rfl)) (fun K hK => ?_); go_simp; refine hK _ ?_; clear hK K))
  refine wpPlanZ_serial (by rfl) (by rfl) (fun K hK => ?_)
  go_simp
  refine hK _ _ (fun h => absurd h (by decide)) ?_
  clear hK K
  refine wpPlanZ_nil ?_
  refine ck (R := fun W' => StAt W' sb (S.putR d y) ∧ Kept W W' (· = sb)) ?_ (fun w1 ⟨A1, T1⟩ => ?_)
  · exact ⟨(D0.out.a.putR d D0.out.hd _).drew, (Kept.put (Kept.refl W _) _ _).trans (Kept.drew _ _) (fun _ _ h => h)⟩
  clear qd fd
  go_wp2
  go_ret
  exact ⟨rfl, A1, K0.trans T1 (fun _ _ h => h)⟩
set_option maxRecDepth 100000 in
set_option maxHeartbeats 8000000 in
theorem sumd_4 (A : StAt w sb S) (ok : S.ok) (hs : s < 32) (ht : t < 32) (hd : d < 32) (m0 : 0 ≤ m) (m1 : m < 4294967296) (hk : k = 4) : Calls Tryz.prog 195 #[.pointer (some ⟨sb, 0, none⟩), .agg #[.int .i64 k, .int .i64 s, .int .i64 t, .int .i64 d, .int .u32 m]] w fun e w' => e = .returned (.int .i64 (sumD S k s t d m).1) ∧ StAt w' sb (sumD S k s t d m).2 ∧ Kept w w' (· = sb) := by
  subst hk
  have X : sumD S 4 s t d m = (-1, S.putR d (resI S 4 (S.r t) (S.r s))) := rfl
  rw [X]
  clear X
  have hk1 := fun W => kindOfD_any 4 (by unfold isK; omega) W
  have hk2 := fun W => sumK_any S 4 (by unfold isK; omega) (S.r t) (S.r s) (ok.r t) (ok.r s) W
  generalize resI S 4 (S.r t) (S.r s) = y at *
  generalize kindS (kdx 4) = ks at *
  have D0 : Hid (Dq (w.alloc (.cells #[.int .i64 4, .int .i64 s, .int .i64 t, .int .i64 d, .int .u32 m] 113)) w.heap.size sb S 4 s t d m) := Dq.start A ok 4 hs ht hd m0 m1
  have K0 : Kept w (w.alloc (.cells #[.int .i64 4, .int .i64 s, .int .i64 t, .int .i64 d, .int .u32 m] 113)) (· = sb) := Kept.of_below _ ((Below.refl _ _).alloc (Nat.le_refl _) _)
  clear A
  go_enter Tryz.func195, Tryz.ntmps195
  go_upto_region 1 with fail
  generalize w.alloc (.cells #[.int .i64 4, .int .i64 s, .int .i64 t, .int .i64 d, .int .u32 m] 113) = W at *
  generalize w.heap.size = ib at *
  have i0 := D0.out.i0
  have i1 := D0.out.i1
  have i2 := D0.out.i2
  have i3 := D0.out.i3
  have i4 := D0.out.i4
  have qs := D0.out.a.reg D0.out.hs
  have fs := D0.out.a.fz s
  have hs' : (s : Int) < 32 := by have := D0.out.hs; omega
  have qt := D0.out.a.reg D0.out.ht
  have ft := D0.out.a.fz t
  have ht' : (t : Int) < 32 := by have := D0.out.ht; omega
  clear i0 i3 i4
  go_upto_region 1 with fail
  refine wp_region_phase 8 [(0, 0), (1, 0), (2, 1), (3, 0), (4, 0), (5, 0), (6, 1), (7, 0)] (fun W => Dq W ib sb S 4 s t d m) (by kernel_rfl) (by kernel_rfl) (fun _ _ _ d _ h => by cases d <;> first | exact h | exact Dq.drew h) D0.out.drew ?_
  repeat (first | (refine wpPlanZ_free (by rfl) (by rfl) (fun W => by (go_simp; try with_reducible rfl)) (fun K hK => ?_); go_simp; refine hK _ ?_; clear hK K) | (refine wpPlanZ_quiet (by rfl) (by rfl) (fun W hW => by (have i1 := hW.i1; have qs := hW.a.reg hW.hs; go_simp; try with_reducible rfl)) (fun K hK => ?_); go_simp; refine hK _ ?_; clear hK K))
  refine wpPlanZ_nil ?_
  have D1 : Hid (Dq W.drew ib sb S 4 s t d m) := D0.out.drew
  have K1 : Kept w W.drew (· = sb) := K0.trans (Kept.drew _ _) (fun _ _ h => h)
  clear qt ft qs fs i1 i2
  generalize W.drew = W1 at *
  clear D0 K0
  have i2 := D1.out.i2
  have qt := D1.out.a.reg D1.out.ht
  go_upto_region 2 with fail
  refine wp_region_phase 8 [(0, 0), (1, 0), (2, 1), (3, 0), (4, 0), (5, 0), (6, 1), (7, 0)] (fun W => Dq W ib sb S 4 s t d m) (by kernel_rfl) (by kernel_rfl) (fun _ _ _ d _ h => by cases d <;> first | exact h | exact Dq.drew h) D1.out.drew ?_
  repeat (first | (refine wpPlanZ_free (by rfl) (by rfl) (fun W => by (go_simp; try with_reducible rfl)) (fun K hK => ?_); go_simp; refine hK _ ?_; clear hK K) | (refine wpPlanZ_quiet (by rfl) (by rfl) (fun W hW => by (have i2 := hW.i2; have qt := hW.a.reg hW.ht; go_simp; try with_reducible rfl)) (fun K hK => ?_); go_simp; refine hK _ ?_; clear hK K))
  refine wpPlanZ_nil ?_
  have D0 : Hid (Dq W1.drew ib sb S 4 s t d m) := D1.out.drew
  have K0 : Kept w W1.drew (· = sb) := K1.trans (Kept.drew _ _) (fun _ _ h => h)
  clear qt i2
  generalize W1.drew = W at *
  clear D1 K1 W1
  have i0 := D0.out.i0
  have qd := D0.out.a.reg D0.out.hd
  have fd := D0.out.a.fz d
  have hd' : (d : Int) < 32 := by have := D0.out.hd; omega
  go_upto_region 38 with fail
  clear i0
  refine wp_region_phase 12 [(0, 0), (1, 0), (2, 1), (3, 0), (4, 1), (6, 0), (7, 0), (9, 0), (10, 0), (5, 2), (8, 2), (11, 0), (12, 2)] (fun W => Dq W ib sb S 4 s t d m) (by kernel_rfl) (by kernel_rfl) (fun _ _ _ d _ h => by cases d <;> first | exact h | exact Dq.drew h) D0.out.drew ?_
  repeat (first | (refine wpPlanZ_free (by rfl) (by rfl) (fun W => by (go_simp; try with_reducible rfl)) (fun K hK => ?_); go_simp; refine hK _ ?_; clear hK K) | (refine wpPlanZ_quiet (by rfl) (by rfl) (fun W hW => by (have i3 := hW.i3; have i0 := hW.i0; go_simp; try with_reducible rfl)) (fun K hK => ?_); go_simp; refine hK _ ?_; clear hK K))
  refine wpPlanZ_serial (by rfl) (by rfl) (fun K hK => ?_)
  go_simp
  refine (hk1 _).mono ?_
  rintro e_ w_ ⟨rfl, rfl⟩
  refine hK _ _ (fun _ => D0.out.drew) ?_
  clear hK K
  repeat (first | (refine wpPlanZ_free (by rfl) (by rfl) (fun W => by (go_simp; try with_reducible rfl)) (fun K hK => ?_); go_simp; refine hK _ ?_; clear hK K) | (refine wpPlanZ_quiet (by rfl) (by rfl) (fun W hW => by (have i3 := hW.i3; have i0 := hW.i0; go_simp; try with_reducible rfl)) (fun K hK => ?_); go_simp; refine hK _ ?_; clear hK K))
  refine wpPlanZ_serial (by rfl) (by rfl) (fun K hK => ?_)
  go_simp
  refine (hk2 _).mono ?_
  rintro e_ w_ ⟨rfl, rfl⟩
  refine hK _ _ (fun _ => D0.out.drew) ?_
  clear hK K
  repeat (first | (refine wpPlanZ_free (by rfl) (by rfl) (fun W => by (go_simp; try with_reducible rfl)) (fun K hK => ?_); go_simp; refine hK _ ?_; clear hK K) | (refine wpPlanZ_quiet (by rfl) (by rfl) (fun W hW => by (have i3 := hW.i3; have i0 := hW.i0; go_simp; try with_reducible rfl)) (fun K hK => ?_); go_simp; refine hK _ ?_; clear hK K))
  refine wpPlanZ_serial (by rfl) (by rfl) (fun K hK => ?_)
  go_simp
  refine hK _ _ (fun h => absurd h (by decide)) ?_
  clear hK K
  refine wpPlanZ_nil ?_
  refine ck (R := fun W' => StAt W' sb (S.putR d y) ∧ Kept W W' (· = sb)) ?_ (fun w1 ⟨A1, T1⟩ => ?_)
  · exact ⟨(D0.out.a.putR d D0.out.hd _).drew, (Kept.put (Kept.refl W _) _ _).trans (Kept.drew _ _) (fun _ _ h => h)⟩
  clear qd fd
  go_wp2
  go_ret
  exact ⟨rfl, A1, K0.trans T1 (fun _ _ h => h)⟩
set_option maxRecDepth 100000 in
set_option maxHeartbeats 8000000 in
theorem sumd_5 (A : StAt w sb S) (ok : S.ok) (hs : s < 32) (ht : t < 32) (hd : d < 32) (m0 : 0 ≤ m) (m1 : m < 4294967296) (hk : k = 5) : Calls Tryz.prog 195 #[.pointer (some ⟨sb, 0, none⟩), .agg #[.int .i64 k, .int .i64 s, .int .i64 t, .int .i64 d, .int .u32 m]] w fun e w' => e = .returned (.int .i64 (sumD S k s t d m).1) ∧ StAt w' sb (sumD S k s t d m).2 ∧ Kept w w' (· = sb) := by
  subst hk
  have X : sumD S 5 s t d m = (-1, S.putR d (resI S 5 (S.r t) (S.r s))) := rfl
  rw [X]
  clear X
  have hk1 := fun W => kindOfD_any 5 (by unfold isK; omega) W
  have hk2 := fun W => sumK_any S 5 (by unfold isK; omega) (S.r t) (S.r s) (ok.r t) (ok.r s) W
  generalize resI S 5 (S.r t) (S.r s) = y at *
  generalize kindS (kdx 5) = ks at *
  have D0 : Hid (Dq (w.alloc (.cells #[.int .i64 5, .int .i64 s, .int .i64 t, .int .i64 d, .int .u32 m] 113)) w.heap.size sb S 5 s t d m) := Dq.start A ok 5 hs ht hd m0 m1
  have K0 : Kept w (w.alloc (.cells #[.int .i64 5, .int .i64 s, .int .i64 t, .int .i64 d, .int .u32 m] 113)) (· = sb) := Kept.of_below _ ((Below.refl _ _).alloc (Nat.le_refl _) _)
  clear A
  go_enter Tryz.func195, Tryz.ntmps195
  go_upto_region 1 with fail
  generalize w.alloc (.cells #[.int .i64 5, .int .i64 s, .int .i64 t, .int .i64 d, .int .u32 m] 113) = W at *
  generalize w.heap.size = ib at *
  have i0 := D0.out.i0
  have i1 := D0.out.i1
  have i2 := D0.out.i2
  have i3 := D0.out.i3
  have i4 := D0.out.i4
  have qs := D0.out.a.reg D0.out.hs
  have fs := D0.out.a.fz s
  have hs' : (s : Int) < 32 := by have := D0.out.hs; omega
  have qt := D0.out.a.reg D0.out.ht
  have ft := D0.out.a.fz t
  have ht' : (t : Int) < 32 := by have := D0.out.ht; omega
  clear i0 i3 i4
  go_upto_region 1 with fail
  refine wp_region_phase 8 [(0, 0), (1, 0), (2, 1), (3, 0), (4, 0), (5, 0), (6, 1), (7, 0)] (fun W => Dq W ib sb S 5 s t d m) (by kernel_rfl) (by kernel_rfl) (fun _ _ _ d _ h => by cases d <;> first | exact h | exact Dq.drew h) D0.out.drew ?_
  repeat (first | (refine wpPlanZ_free (by rfl) (by rfl) (fun W => by (go_simp; try with_reducible rfl)) (fun K hK => ?_); go_simp; refine hK _ ?_; clear hK K) | (refine wpPlanZ_quiet (by rfl) (by rfl) (fun W hW => by (have i1 := hW.i1; have qs := hW.a.reg hW.hs; go_simp; try with_reducible rfl)) (fun K hK => ?_); go_simp; refine hK _ ?_; clear hK K))
  refine wpPlanZ_nil ?_
  have D1 : Hid (Dq W.drew ib sb S 5 s t d m) := D0.out.drew
  have K1 : Kept w W.drew (· = sb) := K0.trans (Kept.drew _ _) (fun _ _ h => h)
  clear qt ft qs fs i1 i2
  generalize W.drew = W1 at *
  clear D0 K0
  have i2 := D1.out.i2
  have qt := D1.out.a.reg D1.out.ht
  go_upto_region 2 with fail
  refine wp_region_phase 8 [(0, 0), (1, 0), (2, 1), (3, 0), (4, 0), (5, 0), (6, 1), (7, 0)] (fun W => Dq W ib sb S 5 s t d m) (by kernel_rfl) (by kernel_rfl) (fun _ _ _ d _ h => by cases d <;> first | exact h | exact Dq.drew h) D1.out.drew ?_
  repeat (first | (refine wpPlanZ_free (by rfl) (by rfl) (fun W => by (go_simp; try with_reducible rfl)) (fun K hK => ?_); go_simp; refine hK _ ?_; clear hK K) | (refine wpPlanZ_quiet (by rfl) (by rfl) (fun W hW => by (have i2 := hW.i2; have qt := hW.a.reg hW.ht; go_simp; try with_reducible rfl)) (fun K hK => ?_); go_simp; refine hK _ ?_; clear hK K))
  refine wpPlanZ_nil ?_
  have D0 : Hid (Dq W1.drew ib sb S 5 s t d m) := D1.out.drew
  have K0 : Kept w W1.drew (· = sb) := K1.trans (Kept.drew _ _) (fun _ _ h => h)
  clear qt i2
  generalize W1.drew = W at *
  clear D1 K1 W1
  have i0 := D0.out.i0
  have qd := D0.out.a.reg D0.out.hd
  have fd := D0.out.a.fz d
  have hd' : (d : Int) < 32 := by have := D0.out.hd; omega
  go_upto_region 38 with fail
  clear i0
  refine wp_region_phase 12 [(0, 0), (1, 0), (2, 1), (3, 0), (4, 1), (6, 0), (7, 0), (9, 0), (10, 0), (5, 2), (8, 2), (11, 0), (12, 2)] (fun W => Dq W ib sb S 5 s t d m) (by kernel_rfl) (by kernel_rfl) (fun _ _ _ d _ h => by cases d <;> first | exact h | exact Dq.drew h) D0.out.drew ?_
  repeat (first | (refine wpPlanZ_free (by rfl) (by rfl) (fun W => by (go_simp; try with_reducible rfl)) (fun K hK => ?_); go_simp; refine hK _ ?_; clear hK K) | (refine wpPlanZ_quiet (by rfl) (by rfl) (fun W hW => by (have i3 := hW.i3; have i0 := hW.i0; go_simp; try with_reducible rfl)) (fun K hK => ?_); go_simp; refine hK _ ?_; clear hK K))
  refine wpPlanZ_serial (by rfl) (by rfl) (fun K hK => ?_)
  go_simp
  refine (hk1 _).mono ?_
  rintro e_ w_ ⟨rfl, rfl⟩
  refine hK _ _ (fun _ => D0.out.drew) ?_
  clear hK K
  repeat (first | (refine wpPlanZ_free (by rfl) (by rfl) (fun W => by (go_simp; try with_reducible rfl)) (fun K hK => ?_); go_simp; refine hK _ ?_; clear hK K) | (refine wpPlanZ_quiet (by rfl) (by rfl) (fun W hW => by (have i3 := hW.i3; have i0 := hW.i0; go_simp; try with_reducible rfl)) (fun K hK => ?_); go_simp; refine hK _ ?_; clear hK K))
  refine wpPlanZ_serial (by rfl) (by rfl) (fun K hK => ?_)
  go_simp
  refine (hk2 _).mono ?_
  rintro e_ w_ ⟨rfl, rfl⟩
  refine hK _ _ (fun _ => D0.out.drew) ?_
  clear hK K
  repeat (first | (refine wpPlanZ_free (by rfl) (by rfl) (fun W => by (go_simp; try with_reducible rfl)) (fun K hK => ?_); go_simp; refine hK _ ?_; clear hK K) | (refine wpPlanZ_quiet (by rfl) (by rfl) (fun W hW => by (have i3 := hW.i3; have i0 := hW.i0; go_simp; try with_reducible rfl)) (fun K hK => ?_); go_simp; refine hK _ ?_; clear hK K))
  refine wpPlanZ_serial (by rfl) (by rfl) (fun K hK => ?_)
  go_simp
  refine hK _ _ (fun h => absurd h (by decide)) ?_
  clear hK K
  refine wpPlanZ_nil ?_
  refine ck (R := fun W' => StAt W' sb (S.putR d y) ∧ Kept W W' (· = sb)) ?_ (fun w1 ⟨A1, T1⟩ => ?_)
  · exact ⟨(D0.out.a.putR d D0.out.hd _).drew, (Kept.put (Kept.refl W _) _ _).trans (Kept.drew _ _) (fun _ _ h => h)⟩
  clear qd fd
  go_wp2
  go_ret
  exact ⟨rfl, A1, K0.trans T1 (fun _ _ h => h)⟩
set_option maxRecDepth 100000 in
set_option maxHeartbeats 8000000 in
theorem sumd_6 (A : StAt w sb S) (ok : S.ok) (hs : s < 32) (ht : t < 32) (hd : d < 32) (m0 : 0 ≤ m) (m1 : m < 4294967296) (hk : k = 6) : Calls Tryz.prog 195 #[.pointer (some ⟨sb, 0, none⟩), .agg #[.int .i64 k, .int .i64 s, .int .i64 t, .int .i64 d, .int .u32 m]] w fun e w' => e = .returned (.int .i64 (sumD S k s t d m).1) ∧ StAt w' sb (sumD S k s t d m).2 ∧ Kept w w' (· = sb) := by
  subst hk
  have X : sumD S 6 s t d m = (-1, S.putR d (resI S 6 (S.r t) (S.r s))) := rfl
  rw [X]
  clear X
  have hk1 := fun W => kindOfD_any 6 (by unfold isK; omega) W
  have hk2 := fun W => sumK_any S 6 (by unfold isK; omega) (S.r t) (S.r s) (ok.r t) (ok.r s) W
  generalize resI S 6 (S.r t) (S.r s) = y at *
  generalize kindS (kdx 6) = ks at *
  have D0 : Hid (Dq (w.alloc (.cells #[.int .i64 6, .int .i64 s, .int .i64 t, .int .i64 d, .int .u32 m] 113)) w.heap.size sb S 6 s t d m) := Dq.start A ok 6 hs ht hd m0 m1
  have K0 : Kept w (w.alloc (.cells #[.int .i64 6, .int .i64 s, .int .i64 t, .int .i64 d, .int .u32 m] 113)) (· = sb) := Kept.of_below _ ((Below.refl _ _).alloc (Nat.le_refl _) _)
  clear A
  go_enter Tryz.func195, Tryz.ntmps195
  go_upto_region 1 with fail
  generalize w.alloc (.cells #[.int .i64 6, .int .i64 s, .int .i64 t, .int .i64 d, .int .u32 m] 113) = W at *
  generalize w.heap.size = ib at *
  have i0 := D0.out.i0
  have i1 := D0.out.i1
  have i2 := D0.out.i2
  have i3 := D0.out.i3
  have i4 := D0.out.i4
  have qs := D0.out.a.reg D0.out.hs
  have fs := D0.out.a.fz s
  have hs' : (s : Int) < 32 := by have := D0.out.hs; omega
  have qt := D0.out.a.reg D0.out.ht
  have ft := D0.out.a.fz t
  have ht' : (t : Int) < 32 := by have := D0.out.ht; omega
  clear i0 i3 i4
  go_upto_region 1 with fail
  refine wp_region_phase 8 [(0, 0), (1, 0), (2, 1), (3, 0), (4, 0), (5, 0), (6, 1), (7, 0)] (fun W => Dq W ib sb S 6 s t d m) (by kernel_rfl) (by kernel_rfl) (fun _ _ _ d _ h => by cases d <;> first | exact h | exact Dq.drew h) D0.out.drew ?_
  repeat (first | (refine wpPlanZ_free (by rfl) (by rfl) (fun W => by (go_simp; try with_reducible rfl)) (fun K hK => ?_); go_simp; refine hK _ ?_; clear hK K) | (refine wpPlanZ_quiet (by rfl) (by rfl) (fun W hW => by (have i1 := hW.i1; have qs := hW.a.reg hW.hs; go_simp; try with_reducible rfl)) (fun K hK => ?_); go_simp; refine hK _ ?_; clear hK K))
  refine wpPlanZ_nil ?_
  have D1 : Hid (Dq W.drew ib sb S 6 s t d m) := D0.out.drew
  have K1 : Kept w W.drew (· = sb) := K0.trans (Kept.drew _ _) (fun _ _ h => h)
  clear qt ft qs fs i1 i2
  generalize W.drew = W1 at *
  clear D0 K0
  have i2 := D1.out.i2
  have qt := D1.out.a.reg D1.out.ht
  go_upto_region 2 with fail
  refine wp_region_phase 8 [(0, 0), (1, 0), (2, 1), (3, 0), (4, 0), (5, 0), (6, 1), (7, 0)] (fun W => Dq W ib sb S 6 s t d m) (by kernel_rfl) (by kernel_rfl) (fun _ _ _ d _ h => by cases d <;> first | exact h | exact Dq.drew h) D1.out.drew ?_
  repeat (first | (refine wpPlanZ_free (by rfl) (by rfl) (fun W => by (go_simp; try with_reducible rfl)) (fun K hK => ?_); go_simp; refine hK _ ?_; clear hK K) | (refine wpPlanZ_quiet (by rfl) (by rfl) (fun W hW => by (have i2 := hW.i2; have qt := hW.a.reg hW.ht; go_simp; try with_reducible rfl)) (fun K hK => ?_); go_simp; refine hK _ ?_; clear hK K))
  refine wpPlanZ_nil ?_
  have D0 : Hid (Dq W1.drew ib sb S 6 s t d m) := D1.out.drew
  have K0 : Kept w W1.drew (· = sb) := K1.trans (Kept.drew _ _) (fun _ _ h => h)
  clear qt i2
  generalize W1.drew = W at *
  clear D1 K1 W1
  have i0 := D0.out.i0
  have qd := D0.out.a.reg D0.out.hd
  have fd := D0.out.a.fz d
  have hd' : (d : Int) < 32 := by have := D0.out.hd; omega
  go_upto_region 38 with fail
  clear i0
  refine wp_region_phase 12 [(0, 0), (1, 0), (2, 1), (3, 0), (4, 1), (6, 0), (7, 0), (9, 0), (10, 0), (5, 2), (8, 2), (11, 0), (12, 2)] (fun W => Dq W ib sb S 6 s t d m) (by kernel_rfl) (by kernel_rfl) (fun _ _ _ d _ h => by cases d <;> first | exact h | exact Dq.drew h) D0.out.drew ?_
  repeat (first | (refine wpPlanZ_free (by rfl) (by rfl) (fun W => by (go_simp; try with_reducible rfl)) (fun K hK => ?_); go_simp; refine hK _ ?_; clear hK K) | (refine wpPlanZ_quiet (by rfl) (by rfl) (fun W hW => by (have i3 := hW.i3; have i0 := hW.i0; go_simp; try with_reducible rfl)) (fun K hK => ?_); go_simp; refine hK _ ?_; clear hK K))
  refine wpPlanZ_serial (by rfl) (by rfl) (fun K hK => ?_)
  go_simp
  refine (hk1 _).mono ?_
  rintro e_ w_ ⟨rfl, rfl⟩
  refine hK _ _ (fun _ => D0.out.drew) ?_
  clear hK K
  repeat (first | (refine wpPlanZ_free (by rfl) (by rfl) (fun W => by (go_simp; try with_reducible rfl)) (fun K hK => ?_); go_simp; refine hK _ ?_; clear hK K) | (refine wpPlanZ_quiet (by rfl) (by rfl) (fun W hW => by (have i3 := hW.i3; have i0 := hW.i0; go_simp; try with_reducible rfl)) (fun K hK => ?_); go_simp; refine hK _ ?_; clear hK K))
  refine wpPlanZ_serial (by rfl) (by rfl) (fun K hK => ?_)
  go_simp
  refine (hk2 _).mono ?_
  rintro e_ w_ ⟨rfl, rfl⟩
  refine hK _ _ (fun _ => D0.out.drew) ?_
  clear hK K
  repeat (first | (refine wpPlanZ_free (by rfl) (by rfl) (fun W => by (go_simp; try with_reducible rfl)) (fun K hK => ?_); go_simp; refine hK _ ?_; clear hK K) | (refine wpPlanZ_quiet (by rfl) (by rfl) (fun W hW => by (have i3 := hW.i3; have i0 := hW.i0; go_simp; try with_reducible rfl)) (fun K hK => ?_); go_simp; refine hK _ ?_; clear hK K))
  refine wpPlanZ_serial (by rfl) (by rfl) (fun K hK => ?_)
  go_simp
  refine hK _ _ (fun h => absurd h (by decide)) ?_
  clear hK K
  refine wpPlanZ_nil ?_
  refine ck (R := fun W' => StAt W' sb (S.putR d y) ∧ Kept W W' (· = sb)) ?_ (fun w1 ⟨A1, T1⟩ => ?_)
  · exact ⟨(D0.out.a.putR d D0.out.hd _).drew, (Kept.put (Kept.refl W _) _ _).trans (Kept.drew _ _) (fun _ _ h => h)⟩
  clear qd fd
  go_wp2
  go_ret
  exact ⟨rfl, A1, K0.trans T1 (fun _ _ h => h)⟩
end
end Go.Proofs.YtflagpkmebdckaaGreatDoor
/-
  What the document makes of a branch.
-/
namespace Go.Proofs.YtflagpkmebdckaaGreatDoor
open Go.RowKit Go.Maps
open Num
set_option linter.unusedVariables false
section
variable {w : World} {sb : Nat} {S : St} {k s t d : Nat} {m : Int}
end
def branchD (S : St) (k s t d : Nat) (m : Int) : Int × Int × St :=
  if S.sl = true then (-1, 10, S) else (if takenI S k s t = true then targI S k s m else -1, -1, if k = 30 then S.putR 31 (lo (S.pc + 8)) else if k = 8 then S.putR d (lo (S.pc + 8)) else S)
theorem lo_sg4 {x : Int} (h0 : 0 ≤ x) (h1 : x < 4294967296) : lo (4 * sg x) = lo (4 * x) := by
  unfold sg Num.lo; split <;> omega
theorem far_eq {p m : Int} (p0 : 0 ≤ p) (p1 : p < 4294967296) (m0 : 0 ≤ m) (m1 : m < 67108864) : bits .or .u32 (bits .and .u32 p 4026531840) (lo (4 * m)) = p / 268435456 * 268435456 + 4 * m := by
  have e1 : lo (4 * m) = 4 * m := by unfold Num.lo; omega
  rw [e1, u32_and p _ p0 p1 (by omega) (by omega), show (4026531840 : Int).toNat = 4294967295 - 268435455 from rfl, and_low p.toNat 268435455 28 (by omega) (by omega) (by omega)]
  rw [show (2 : Nat) ^ 28 - 1 - 268435455 = 0 from rfl, Nat.and_zero, Nat.add_zero]
  rw [u32_or _ _ (by omega) (by omega) (by omega) (by omega)]
  obtain ⟨q, hq⟩ : ∃ q : Nat, p.toNat / 2 ^ 28 = q := ⟨_, rfl⟩
  obtain ⟨n, rfl⟩ : ∃ n : Nat, m = n := ⟨m.toNat, by omega⟩
  rw [hq, show (((2 ^ 28 * q : Nat) : Int)).toNat = 2 ^ 28 * q by omega, show (4 * (n : Int)).toNat = 4 * n by omega, or_low (2 ^ 28 * q) (4 * n) 28 (by omega), Nat.mul_div_cancel_left _ (by omega), Nat.mul_mod_right, Nat.zero_or]
  omega
section
variable {w : World} {sb : Nat} {S : St} {k s t d : Nat} {m : Int}
end
end Go.Proofs.YtflagpkmebdckaaGreatDoor
/-
  Branches, as the document has them: near ones.
-/
namespace Go.Proofs.YtflagpkmebdckaaGreatDoor
open Go.RowKit Go.Maps
open Num
set_option linter.unusedVariables false
section
variable {w : World} {sb : Nat} {S : St} {k s t d : Nat} {m : Int}
set_option maxRecDepth 100000 in
set_option maxHeartbeats 8000000 in
theorem br_slot (A : StAt w sb S) (ok : S.ok) (hs : s < 32) (ht : t < 32) (hd : d < 32) (m0 : 0 ≤ m) (m1 : m < 4294967296) (hsl : S.sl = true) : Calls Tryz.prog 191 #[.pointer (some ⟨sb, 0, none⟩), .agg #[.int .i64 k, .int .i64 s, .int .i64 t, .int .i64 d, .int .u32 m]] w fun e w' => e = .returned (.tuple #[.int .i64 (branchD S k s t d m).1, .int .i64 (branchD S k s t d m).2.1]) ∧ StAt w' sb (branchD S k s t d m).2.2 ∧ Kept w w' (· = sb) := by
  have X : branchD S k s t d m = (-1, 10, S) := by unfold branchD; rw [if_pos hsl]
  rw [X]
  clear X
  have D0 : Hid (Dq (w.alloc (.cells #[.int .i64 k, .int .i64 s, .int .i64 t, .int .i64 d, .int .u32 m] 113)) w.heap.size sb S k s t d m) := Dq.start A ok k hs ht hd m0 m1
  have K0 : Kept w (w.alloc (.cells #[.int .i64 k, .int .i64 s, .int .i64 t, .int .i64 d, .int .u32 m] 113)) (· = sb) := Kept.of_below _ ((Below.refl _ _).alloc (Nat.le_refl _) _)
  clear A
  go_enter Tryz.func191, Tryz.ntmps191
  go_upto_region 1 with fail
  generalize w.alloc (.cells #[.int .i64 k, .int .i64 s, .int .i64 t, .int .i64 d, .int .u32 m] 113) = W at *
  generalize w.heap.size = ib at *
  obtain ⟨-, -, -, -, q36, -⟩ := D0.out.a.told
  rw [hsl] at q36
  have A1 := D0.out.a
  go_wp2
  go_ret2
  exact ⟨rfl, A1, K0⟩
set_option maxRecDepth 100000 in
set_option maxHeartbeats 8000000 in
theorem br_31t (A : StAt w sb S) (ok : S.ok) (hs : s < 32) (ht : t < 32) (hd : d < 32) (m0 : 0 ≤ m) (m1 : m < 4294967296) (hk : k = 31) (hsl : S.sl = false) (hc : S.r s = S.r t) : Calls Tryz.prog 191 #[.pointer (some ⟨sb, 0, none⟩), .agg #[.int .i64 k, .int .i64 s, .int .i64 t, .int .i64 d, .int .u32 m]] w fun e w' => e = .returned (.tuple #[.int .i64 (branchD S k s t d m).1, .int .i64 (branchD S k s t d m).2.1]) ∧ StAt w' sb (branchD S k s t d m).2.2 ∧ Kept w w' (· = sb) := by
  subst hk
  have X : branchD S 31 s t d m = (lo (lo (S.pc + 4) + lo (4 * wd m 16 true)), -1, S) := by unfold branchD; rw [if_neg (by rw [hsl]; decide)]; simp [takenI, targI, hc, Low.immI]
  rw [X]
  clear X
  have hp4 := fun W => plus2_any S.pc 4 ok.pc.1 ok.pc.2 (by omega) (by omega) W
  have hi := fun W => immOf_any 31 s t d m m0 m1 W
  have hwb : u32 (wd m 16 true) := wd_bd m0 m1 _
  have hsg := fun W => signed_any (wd m 16 true) hwb.1 hwb.2 W
  obtain ⟨sb1, sb2⟩ := sg_bd hwb.1 hwb.2
  have e4w : IntKind.i64.wrap (4 * sg (wd m 16 true)) = 4 * sg (wd m 16 true) := by rw [IntKind.wrap_i64]; omega
  have hwd := fun W => word_any (4 * sg (wd m 16 true)) (by omega) (by omega) W
  rw [lo_sg4 hwb.1 hwb.2] at hwd
  have b4 := lo_bd (S.pc + 4)
  have b5 := lo_bd (4 * wd m 16 true)
  have hnr := fun W => plus2_any (lo (S.pc + 4)) (lo (4 * wd m 16 true)) b4.1 b4.2 b5.1 b5.2 W
  have bn := lo_bd (lo (S.pc + 4) + lo (4 * wd m 16 true))
  have hb0 : (S.r s == S.r t) = true := by simp [hc]
  clear hc
  obtain ⟨n0, n1⟩ := bn
  obtain ⟨p40, p41⟩ := b4
  have fa0 : 0 ≤ lo (S.pc + 4) / 268435456 := by omega
  have fa1 : lo (S.pc + 4) / 268435456 < 16 := by omega
  clear b5 hwb
  generalize lo (lo (S.pc + 4) + lo (4 * wd m 16 true)) = nr at *
  generalize lo (4 * wd m 16 true) = w5 at *
  generalize sg (wd m 16 true) = gi at *
  generalize wd m 16 true = wi at *
  generalize lo (S.pc + 4) = p4 at *
  have qd : p4.tdiv 268435456 = p4 / 268435456 := Int.tdiv_eq_ediv_of_nonneg p40
  generalize p4 / 268435456 = fq at *
  have wn : IntKind.i64.wrap nr = nr := by rw [IntKind.wrap_i64]; omega
  have wp : IntKind.i64.wrap p4 = p4 := by rw [IntKind.wrap_i64]; omega
  have wm : IntKind.i64.wrap m = m := by rw [IntKind.wrap_i64]; omega
  have w1 : IntKind.i64.wrap fq = fq := by rw [IntKind.wrap_i64]; omega
  have w2 : IntKind.i64.wrap (fq * 268435456) = fq * 268435456 := by rw [IntKind.wrap_i64]; omega
  have w3 : IntKind.i64.wrap (4 * m) = 4 * m := by rw [IntKind.wrap_i64]; omega
  have w4 : IntKind.i64.wrap (fq * 268435456 + 4 * m) = fq * 268435456 + 4 * m := by rw [IntKind.wrap_i64]; omega
  have D0 : Hid (Dq (w.alloc (.cells #[.int .i64 31, .int .i64 s, .int .i64 t, .int .i64 d, .int .u32 m] 113)) w.heap.size sb S 31 s t d m) := Dq.start A ok 31 hs ht hd m0 m1
  have K0 : Kept w (w.alloc (.cells #[.int .i64 31, .int .i64 s, .int .i64 t, .int .i64 d, .int .u32 m] 113)) (· = sb) := Kept.of_below _ ((Below.refl _ _).alloc (Nat.le_refl _) _)
  clear A
  go_enter Tryz.func191, Tryz.ntmps191
  go_upto_region 1 with fail
  generalize w.alloc (.cells #[.int .i64 31, .int .i64 s, .int .i64 t, .int .i64 d, .int .u32 m] 113) = W at *
  generalize w.heap.size = ib at *
  have i0 := D0.out.i0
  have i1 := D0.out.i1
  have i2 := D0.out.i2
  have i3 := D0.out.i3
  have i4 := D0.out.i4
  have qs := D0.out.a.reg D0.out.hs
  have fs := D0.out.a.fz s
  have hs' : (s : Int) < 32 := by have := D0.out.hs; omega
  have qt := D0.out.a.reg D0.out.ht
  have ft := D0.out.a.fz t
  have ht' : (t : Int) < 32 := by have := D0.out.ht; omega
  obtain ⟨-, -, -, -, q36, -⟩ := D0.out.a.told
  rw [hsl] at q36
  go_upto_region 3 with fail
  clear i0 i3 i4 q36
  refine wp_region_phase 8 [(0, 0), (1, 0), (2, 1), (3, 0), (4, 0), (5, 0), (6, 1), (7, 0)] (fun W => Dq W ib sb S 31 s t d m) (by kernel_rfl) (by kernel_rfl) (fun _ _ _ d _ h => by cases d <;> first | exact h | exact Dq.drew h) D0.out.drew ?_
  repeat (first | (refine wpPlanZ_free (by rfl) (by rfl) (fun W => by (go_simp; try with_reducible rfl)) (fun K hK => ?_); go_simp; refine hK _ ?_; clear hK K) | (refine wpPlanZ_quiet (by rfl) (by rfl) (fun W hW => by (have i1 := hW.i1; have qs := hW.a.reg hW.hs; go_simp; try with_reducible rfl)) (fun K hK => ?_); go_simp; refine hK _ ?_; clear hK K))
  refine wpPlanZ_nil ?_
  have D1 : Hid (Dq W.drew ib sb S 31 s t d m) := D0.out.drew
  have K1 : Kept w W.drew (· = sb) := K0.trans (Kept.drew _ _) (fun _ _ h => h)
  clear qt ft qs fs i1 i2
  generalize W.drew = W1 at *
  clear D0 K0
  have i2 := D1.out.i2
  have qt := D1.out.a.reg D1.out.ht
  go_upto_region 4 with fail
  refine wp_region_phase 8 [(0, 0), (1, 0), (2, 1), (3, 0), (4, 0), (5, 0), (6, 1), (7, 0)] (fun W => Dq W ib sb S 31 s t d m) (by kernel_rfl) (by kernel_rfl) (fun _ _ _ d _ h => by cases d <;> first | exact h | exact Dq.drew h) D1.out.drew ?_
  repeat (first | (refine wpPlanZ_free (by rfl) (by rfl) (fun W => by (go_simp; try with_reducible rfl)) (fun K hK => ?_); go_simp; refine hK _ ?_; clear hK K) | (refine wpPlanZ_quiet (by rfl) (by rfl) (fun W hW => by (have i2 := hW.i2; have qt := hW.a.reg hW.ht; go_simp; try with_reducible rfl)) (fun K hK => ?_); go_simp; refine hK _ ?_; clear hK K))
  refine wpPlanZ_nil ?_
  have D0 : Hid (Dq W1.drew ib sb S 31 s t d m) := D1.out.drew
  have K0 : Kept w W1.drew (· = sb) := K1.trans (Kept.drew _ _) (fun _ _ h => h)
  clear qt i2
  generalize W1.drew = W at *
  clear D1 K1 W1
  go_upto_region 5 with fail
  refine wp_region_phase 13 [(0, 0), (1, 0), (2, 0), (3, 1), (5, 1), (4, 2), (6, 2), (7, 2), (8, 0), (9, 2), (10, 2), (11, 0), (12, 0)] (fun W => Dq W ib sb S 31 s t d m) (by kernel_rfl) (by kernel_rfl) (fun _ _ _ d _ h => by cases d <;> first | exact h | exact Dq.drew h) D0.out.drew ?_
  repeat (first | (refine wpPlanZ_free (by rfl) (by rfl) (fun W => by (go_simp; try with_reducible rfl)) (fun K hK => ?_); go_simp; refine hK _ ?_; clear hK K) | (refine wpPlanZ_quiet (by rfl) (by rfl) (fun W hW => by (have i0 := hW.i0; have i1 := hW.i1; have i2 := hW.i2; have i3 := hW.i3; have i4 := hW.i4; have q34 := hW.a.told.2.2.1; go_simp; try with_reducible rfl)) (fun K hK => ?_); go_simp; refine hK _ ?_; clear hK K))
  refine wpPlanZ_serial (by rfl) (by rfl) (fun K hK => ?_)
  go_simp
  refine (hp4 _).mono ?_
  rintro e_ w_ ⟨rfl, rfl⟩
  refine hK _ _ (fun _ => D0.out.drew) ?_
  clear hK K
  repeat (first | (refine wpPlanZ_free (by rfl) (by rfl) (fun W => by (go_simp; try with_reducible rfl)) (fun K hK => ?_); go_simp; refine hK _ ?_; clear hK K) | (refine wpPlanZ_quiet (by rfl) (by rfl) (fun W hW => by (have i0 := hW.i0; have i1 := hW.i1; have i2 := hW.i2; have i3 := hW.i3; have i4 := hW.i4; have q34 := hW.a.told.2.2.1; go_simp; try with_reducible rfl)) (fun K hK => ?_); go_simp; refine hK _ ?_; clear hK K))
  refine wpPlanZ_serial (by rfl) (by rfl) (fun K hK => ?_)
  go_simp
  refine (hi _).mono ?_
  rintro e_ w_ ⟨rfl, hbx⟩
  refine hK _ _ (fun _ => D0.out.drew.stays hbx) ?_
  clear hK K
  repeat (first | (refine wpPlanZ_free (by rfl) (by rfl) (fun W => by (go_simp; try with_reducible rfl)) (fun K hK => ?_); go_simp; refine hK _ ?_; clear hK K) | (refine wpPlanZ_quiet (by rfl) (by rfl) (fun W hW => by (have i0 := hW.i0; have i1 := hW.i1; have i2 := hW.i2; have i3 := hW.i3; have i4 := hW.i4; have q34 := hW.a.told.2.2.1; go_simp; try with_reducible rfl)) (fun K hK => ?_); go_simp; refine hK _ ?_; clear hK K))
  refine wpPlanZ_serial (by rfl) (by rfl) (fun K hK => ?_)
  go_simp
  refine (hsg _).mono ?_
  rintro e_ w_ ⟨rfl, rfl⟩
  refine hK _ _ (fun _ => D0.out.drew.stays hbx) ?_
  clear hK K
  repeat (first | (refine wpPlanZ_free (by rfl) (by rfl) (fun W => by (go_simp; try with_reducible rfl)) (fun K hK => ?_); go_simp; refine hK _ ?_; clear hK K) | (refine wpPlanZ_quiet (by rfl) (by rfl) (fun W hW => by (have i0 := hW.i0; have i1 := hW.i1; have i2 := hW.i2; have i3 := hW.i3; have i4 := hW.i4; have q34 := hW.a.told.2.2.1; go_simp; try with_reducible rfl)) (fun K hK => ?_); go_simp; refine hK _ ?_; clear hK K))
  refine wpPlanZ_serial (by rfl) (by rfl) (fun K hK => ?_)
  go_simp
  refine (hwd _).mono ?_
  rintro e_ w_ ⟨rfl, rfl⟩
  refine hK _ _ (fun _ => D0.out.drew.stays hbx) ?_
  clear hK K
  repeat (first | (refine wpPlanZ_free (by rfl) (by rfl) (fun W => by (go_simp; try with_reducible rfl)) (fun K hK => ?_); go_simp; refine hK _ ?_; clear hK K) | (refine wpPlanZ_quiet (by rfl) (by rfl) (fun W hW => by (have i0 := hW.i0; have i1 := hW.i1; have i2 := hW.i2; have i3 := hW.i3; have i4 := hW.i4; have q34 := hW.a.told.2.2.1; go_simp; try with_reducible rfl)) (fun K hK => ?_); go_simp; refine hK _ ?_; clear hK K))
  refine wpPlanZ_serial (by rfl) (by rfl) (fun K hK => ?_)
  go_simp
  refine (hnr _).mono ?_
  rintro e_ w_ ⟨rfl, rfl⟩
  refine hK _ _ (fun _ => D0.out.drew.stays hbx) ?_
  clear hK K
  repeat (first | (refine wpPlanZ_free (by rfl) (by rfl) (fun W => by (go_simp; try with_reducible rfl)) (fun K hK => ?_); go_simp; refine hK _ ?_; clear hK K) | (refine wpPlanZ_quiet (by rfl) (by rfl) (fun W hW => by (have i0 := hW.i0; have i1 := hW.i1; have i2 := hW.i2; have i3 := hW.i3; have i4 := hW.i4; have q34 := hW.a.told.2.2.1; go_simp; try with_reducible rfl)) (fun K hK => ?_); go_simp; refine hK _ ?_; clear hK K))
  refine wpPlanZ_nil ?_
  have D1 : Hid (Dq w_ ib sb S 31 s t d m) := D0.out.drew.stays hbx
  have K1 : Kept w w_ (· = sb) := (K0.trans (Kept.drew _ _) (fun _ _ h => h)).trans (Kept.of_below _ hbx) (fun _ _ h => h)
  clear hbx
  generalize w_ = W1 at *
  clear D0 K0
  go_upto_region 6 with fail
  refine wp_region_phase 14 [(0, 0), (1, 0), (2, 0), (3, 1), (8, 0), (9, 1), (10, 0), (11, 0), (4, 2), (5, 0), (6, 0), (7, 0), (12, 0), (13, 0)] (fun W => Dq W ib sb S 31 s t d m) (by kernel_rfl) (by kernel_rfl) (fun _ _ _ d _ h => by cases d <;> first | exact h | exact Dq.drew h) D1.out.drew ?_
  repeat (first | (refine wpPlanZ_free (by rfl) (by rfl) (fun W => by (go_simp; try with_reducible rfl)) (fun K hK => ?_); go_simp; refine hK _ ?_; clear hK K) | (refine wpPlanZ_quiet (by rfl) (by rfl) (fun W hW => by (have i4 := hW.i4; have q34 := hW.a.told.2.2.1; go_simp; try with_reducible rfl)) (fun K hK => ?_); go_simp; refine hK _ ?_; clear hK K))
  refine wpPlanZ_serial (by rfl) (by rfl) (fun K hK => ?_)
  go_simp
  refine (hp4 _).mono ?_
  rintro e_ w_ ⟨rfl, rfl⟩
  refine hK _ _ (fun _ => D1.out.drew) ?_
  clear hK K
  repeat (first | (refine wpPlanZ_free (by rfl) (by rfl) (fun W => by (go_simp; try with_reducible rfl)) (fun K hK => ?_); go_simp; refine hK _ ?_; clear hK K) | (refine wpPlanZ_quiet (by rfl) (by rfl) (fun W hW => by (have i4 := hW.i4; have q34 := hW.a.told.2.2.1; go_simp; try with_reducible rfl)) (fun K hK => ?_); go_simp; refine hK _ ?_; clear hK K))
  refine wpPlanZ_nil ?_
  have D0 : Hid (Dq W1.drew ib sb S 31 s t d m) := D1.out.drew
  have K0 : Kept w W1.drew (· = sb) := K1.trans (Kept.drew _ _) (fun _ _ h => h)
  generalize W1.drew = W at *
  clear D1 K1 W1
  have i0 := D0.out.i0
  have A1 := D0.out.a
  go_wp2
  go_ret2
  exact ⟨rfl, A1, K0⟩
set_option maxRecDepth 100000 in
set_option maxHeartbeats 8000000 in
theorem br_31n (A : StAt w sb S) (ok : S.ok) (hs : s < 32) (ht : t < 32) (hd : d < 32) (m0 : 0 ≤ m) (m1 : m < 4294967296) (hk : k = 31) (hsl : S.sl = false) (hc : ¬ S.r s = S.r t) : Calls Tryz.prog 191 #[.pointer (some ⟨sb, 0, none⟩), .agg #[.int .i64 k, .int .i64 s, .int .i64 t, .int .i64 d, .int .u32 m]] w fun e w' => e = .returned (.tuple #[.int .i64 (branchD S k s t d m).1, .int .i64 (branchD S k s t d m).2.1]) ∧ StAt w' sb (branchD S k s t d m).2.2 ∧ Kept w w' (· = sb) := by
  subst hk
  have X : branchD S 31 s t d m = (-1, -1, S) := by unfold branchD; rw [if_neg (by rw [hsl]; decide)]; simp [takenI, hc]
  rw [X]
  clear X
  have hp4 := fun W => plus2_any S.pc 4 ok.pc.1 ok.pc.2 (by omega) (by omega) W
  have hi := fun W => immOf_any 31 s t d m m0 m1 W
  have hwb : u32 (wd m 16 true) := wd_bd m0 m1 _
  have hsg := fun W => signed_any (wd m 16 true) hwb.1 hwb.2 W
  obtain ⟨sb1, sb2⟩ := sg_bd hwb.1 hwb.2
  have e4w : IntKind.i64.wrap (4 * sg (wd m 16 true)) = 4 * sg (wd m 16 true) := by rw [IntKind.wrap_i64]; omega
  have hwd := fun W => word_any (4 * sg (wd m 16 true)) (by omega) (by omega) W
  rw [lo_sg4 hwb.1 hwb.2] at hwd
  have b4 := lo_bd (S.pc + 4)
  have b5 := lo_bd (4 * wd m 16 true)
  have hnr := fun W => plus2_any (lo (S.pc + 4)) (lo (4 * wd m 16 true)) b4.1 b4.2 b5.1 b5.2 W
  have bn := lo_bd (lo (S.pc + 4) + lo (4 * wd m 16 true))
  have hb0 : (S.r s == S.r t) = false := by simp [hc]
  clear hc
  obtain ⟨n0, n1⟩ := bn
  obtain ⟨p40, p41⟩ := b4
  have fa0 : 0 ≤ lo (S.pc + 4) / 268435456 := by omega
  have fa1 : lo (S.pc + 4) / 268435456 < 16 := by omega
  clear b5 hwb
  generalize lo (lo (S.pc + 4) + lo (4 * wd m 16 true)) = nr at *
  generalize lo (4 * wd m 16 true) = w5 at *
  generalize sg (wd m 16 true) = gi at *
  generalize wd m 16 true = wi at *
  generalize lo (S.pc + 4) = p4 at *
  have qd : p4.tdiv 268435456 = p4 / 268435456 := Int.tdiv_eq_ediv_of_nonneg p40
  generalize p4 / 268435456 = fq at *
  have wn : IntKind.i64.wrap nr = nr := by rw [IntKind.wrap_i64]; omega
  have wp : IntKind.i64.wrap p4 = p4 := by rw [IntKind.wrap_i64]; omega
  have wm : IntKind.i64.wrap m = m := by rw [IntKind.wrap_i64]; omega
  have w1 : IntKind.i64.wrap fq = fq := by rw [IntKind.wrap_i64]; omega
  have w2 : IntKind.i64.wrap (fq * 268435456) = fq * 268435456 := by rw [IntKind.wrap_i64]; omega
  have w3 : IntKind.i64.wrap (4 * m) = 4 * m := by rw [IntKind.wrap_i64]; omega
  have w4 : IntKind.i64.wrap (fq * 268435456 + 4 * m) = fq * 268435456 + 4 * m := by rw [IntKind.wrap_i64]; omega
  have D0 : Hid (Dq (w.alloc (.cells #[.int .i64 31, .int .i64 s, .int .i64 t, .int .i64 d, .int .u32 m] 113)) w.heap.size sb S 31 s t d m) := Dq.start A ok 31 hs ht hd m0 m1
  have K0 : Kept w (w.alloc (.cells #[.int .i64 31, .int .i64 s, .int .i64 t, .int .i64 d, .int .u32 m] 113)) (· = sb) := Kept.of_below _ ((Below.refl _ _).alloc (Nat.le_refl _) _)
  clear A
  go_enter Tryz.func191, Tryz.ntmps191
  go_upto_region 1 with fail
  generalize w.alloc (.cells #[.int .i64 31, .int .i64 s, .int .i64 t, .int .i64 d, .int .u32 m] 113) = W at *
  generalize w.heap.size = ib at *
  have i0 := D0.out.i0
  have i1 := D0.out.i1
  have i2 := D0.out.i2
  have i3 := D0.out.i3
  have i4 := D0.out.i4
  have qs := D0.out.a.reg D0.out.hs
  have fs := D0.out.a.fz s
  have hs' : (s : Int) < 32 := by have := D0.out.hs; omega
  have qt := D0.out.a.reg D0.out.ht
  have ft := D0.out.a.fz t
  have ht' : (t : Int) < 32 := by have := D0.out.ht; omega
  obtain ⟨-, -, -, -, q36, -⟩ := D0.out.a.told
  rw [hsl] at q36
  go_upto_region 3 with fail
  clear i0 i3 i4 q36
  refine wp_region_phase 8 [(0, 0), (1, 0), (2, 1), (3, 0), (4, 0), (5, 0), (6, 1), (7, 0)] (fun W => Dq W ib sb S 31 s t d m) (by kernel_rfl) (by kernel_rfl) (fun _ _ _ d _ h => by cases d <;> first | exact h | exact Dq.drew h) D0.out.drew ?_
  repeat (first | (refine wpPlanZ_free (by rfl) (by rfl) (fun W => by (go_simp; try with_reducible rfl)) (fun K hK => ?_); go_simp; refine hK _ ?_; clear hK K) | (refine wpPlanZ_quiet (by rfl) (by rfl) (fun W hW => by (have i1 := hW.i1; have qs := hW.a.reg hW.hs; go_simp; try with_reducible rfl)) (fun K hK => ?_); go_simp; refine hK _ ?_; clear hK K))
  refine wpPlanZ_nil ?_
  have D1 : Hid (Dq W.drew ib sb S 31 s t d m) := D0.out.drew
  have K1 : Kept w W.drew (· = sb) := K0.trans (Kept.drew _ _) (fun _ _ h => h)
  clear qt ft qs fs i1 i2
  generalize W.drew = W1 at *
  clear D0 K0
  have i2 := D1.out.i2
  have qt := D1.out.a.reg D1.out.ht
  go_upto_region 4 with fail
  refine wp_region_phase 8 [(0, 0), (1, 0), (2, 1), (3, 0), (4, 0), (5, 0), (6, 1), (7, 0)] (fun W => Dq W ib sb S 31 s t d m) (by kernel_rfl) (by kernel_rfl) (fun _ _ _ d _ h => by cases d <;> first | exact h | exact Dq.drew h) D1.out.drew ?_
  repeat (first | (refine wpPlanZ_free (by rfl) (by rfl) (fun W => by (go_simp; try with_reducible rfl)) (fun K hK => ?_); go_simp; refine hK _ ?_; clear hK K) | (refine wpPlanZ_quiet (by rfl) (by rfl) (fun W hW => by (have i2 := hW.i2; have qt := hW.a.reg hW.ht; go_simp; try with_reducible rfl)) (fun K hK => ?_); go_simp; refine hK _ ?_; clear hK K))
  refine wpPlanZ_nil ?_
  have D0 : Hid (Dq W1.drew ib sb S 31 s t d m) := D1.out.drew
  have K0 : Kept w W1.drew (· = sb) := K1.trans (Kept.drew _ _) (fun _ _ h => h)
  clear qt i2
  generalize W1.drew = W at *
  clear D1 K1 W1
  go_upto_region 5 with fail
  refine wp_region_phase 13 [(0, 0), (1, 0), (2, 0), (3, 1), (5, 1), (4, 2), (6, 2), (7, 2), (8, 0), (9, 2), (10, 2), (11, 0), (12, 0)] (fun W => Dq W ib sb S 31 s t d m) (by kernel_rfl) (by kernel_rfl) (fun _ _ _ d _ h => by cases d <;> first | exact h | exact Dq.drew h) D0.out.drew ?_
  repeat (first | (refine wpPlanZ_free (by rfl) (by rfl) (fun W => by (go_simp; try with_reducible rfl)) (fun K hK => ?_); go_simp; refine hK _ ?_; clear hK K) | (refine wpPlanZ_quiet (by rfl) (by rfl) (fun W hW => by (have i0 := hW.i0; have i1 := hW.i1; have i2 := hW.i2; have i3 := hW.i3; have i4 := hW.i4; have q34 := hW.a.told.2.2.1; go_simp; try with_reducible rfl)) (fun K hK => ?_); go_simp; refine hK _ ?_; clear hK K))
  refine wpPlanZ_serial (by rfl) (by rfl) (fun K hK => ?_)
  go_simp
  refine (hp4 _).mono ?_
  rintro e_ w_ ⟨rfl, rfl⟩
  refine hK _ _ (fun _ => D0.out.drew) ?_
  clear hK K
  repeat (first | (refine wpPlanZ_free (by rfl) (by rfl) (fun W => by (go_simp; try with_reducible rfl)) (fun K hK => ?_); go_simp; refine hK _ ?_; clear hK K) | (refine wpPlanZ_quiet (by rfl) (by rfl) (fun W hW => by (have i0 := hW.i0; have i1 := hW.i1; have i2 := hW.i2; have i3 := hW.i3; have i4 := hW.i4; have q34 := hW.a.told.2.2.1; go_simp; try with_reducible rfl)) (fun K hK => ?_); go_simp; refine hK _ ?_; clear hK K))
  refine wpPlanZ_serial (by rfl) (by rfl) (fun K hK => ?_)
  go_simp
  refine (hi _).mono ?_
  rintro e_ w_ ⟨rfl, hbx⟩
  refine hK _ _ (fun _ => D0.out.drew.stays hbx) ?_
  clear hK K
  repeat (first | (refine wpPlanZ_free (by rfl) (by rfl) (fun W => by (go_simp; try with_reducible rfl)) (fun K hK => ?_); go_simp; refine hK _ ?_; clear hK K) | (refine wpPlanZ_quiet (by rfl) (by rfl) (fun W hW => by (have i0 := hW.i0; have i1 := hW.i1; have i2 := hW.i2; have i3 := hW.i3; have i4 := hW.i4; have q34 := hW.a.told.2.2.1; go_simp; try with_reducible rfl)) (fun K hK => ?_); go_simp; refine hK _ ?_; clear hK K))
  refine wpPlanZ_serial (by rfl) (by rfl) (fun K hK => ?_)
  go_simp
  refine (hsg _).mono ?_
  rintro e_ w_ ⟨rfl, rfl⟩
  refine hK _ _ (fun _ => D0.out.drew.stays hbx) ?_
  clear hK K
  repeat (first | (refine wpPlanZ_free (by rfl) (by rfl) (fun W => by (go_simp; try with_reducible rfl)) (fun K hK => ?_); go_simp; refine hK _ ?_; clear hK K) | (refine wpPlanZ_quiet (by rfl) (by rfl) (fun W hW => by (have i0 := hW.i0; have i1 := hW.i1; have i2 := hW.i2; have i3 := hW.i3; have i4 := hW.i4; have q34 := hW.a.told.2.2.1; go_simp; try with_reducible rfl)) (fun K hK => ?_); go_simp; refine hK _ ?_; clear hK K))
  refine wpPlanZ_serial (by rfl) (by rfl) (fun K hK => ?_)
  go_simp
  refine (hwd _).mono ?_
  rintro e_ w_ ⟨rfl, rfl⟩
  refine hK _ _ (fun _ => D0.out.drew.stays hbx) ?_
  clear hK K
  repeat (first | (refine wpPlanZ_free (by rfl) (by rfl) (fun W => by (go_simp; try with_reducible rfl)) (fun K hK => ?_); go_simp; refine hK _ ?_; clear hK K) | (refine wpPlanZ_quiet (by rfl) (by rfl) (fun W hW => by (have i0 := hW.i0; have i1 := hW.i1; have i2 := hW.i2; have i3 := hW.i3; have i4 := hW.i4; have q34 := hW.a.told.2.2.1; go_simp; try with_reducible rfl)) (fun K hK => ?_); go_simp; refine hK _ ?_; clear hK K))
  refine wpPlanZ_serial (by rfl) (by rfl) (fun K hK => ?_)
  go_simp
  refine (hnr _).mono ?_
  rintro e_ w_ ⟨rfl, rfl⟩
  refine hK _ _ (fun _ => D0.out.drew.stays hbx) ?_
  clear hK K
  repeat (first | (refine wpPlanZ_free (by rfl) (by rfl) (fun W => by (go_simp; try with_reducible rfl)) (fun K hK => ?_); go_simp; refine hK _ ?_; clear hK K) | (refine wpPlanZ_quiet (by rfl) (by rfl) (fun W hW => by (have i0 := hW.i0; have i1 := hW.i1; have i2 := hW.i2; have i3 := hW.i3; have i4 := hW.i4; have q34 := hW.a.told.2.2.1; go_simp; try with_reducible rfl)) (fun K hK => ?_); go_simp; refine hK _ ?_; clear hK K))
  refine wpPlanZ_nil ?_
  have D1 : Hid (Dq w_ ib sb S 31 s t d m) := D0.out.drew.stays hbx
  have K1 : Kept w w_ (· = sb) := (K0.trans (Kept.drew _ _) (fun _ _ h => h)).trans (Kept.of_below _ hbx) (fun _ _ h => h)
  clear hbx
  generalize w_ = W1 at *
  clear D0 K0
  go_upto_region 6 with fail
  refine wp_region_phase 14 [(0, 0), (1, 0), (2, 0), (3, 1), (8, 0), (9, 1), (10, 0), (11, 0), (4, 2), (5, 0), (6, 0), (7, 0), (12, 0), (13, 0)] (fun W => Dq W ib sb S 31 s t d m) (by kernel_rfl) (by kernel_rfl) (fun _ _ _ d _ h => by cases d <;> first | exact h | exact Dq.drew h) D1.out.drew ?_
  repeat (first | (refine wpPlanZ_free (by rfl) (by rfl) (fun W => by (go_simp; try with_reducible rfl)) (fun K hK => ?_); go_simp; refine hK _ ?_; clear hK K) | (refine wpPlanZ_quiet (by rfl) (by rfl) (fun W hW => by (have i4 := hW.i4; have q34 := hW.a.told.2.2.1; go_simp; try with_reducible rfl)) (fun K hK => ?_); go_simp; refine hK _ ?_; clear hK K))
  refine wpPlanZ_serial (by rfl) (by rfl) (fun K hK => ?_)
  go_simp
  refine (hp4 _).mono ?_
  rintro e_ w_ ⟨rfl, rfl⟩
  refine hK _ _ (fun _ => D1.out.drew) ?_
  clear hK K
  repeat (first | (refine wpPlanZ_free (by rfl) (by rfl) (fun W => by (go_simp; try with_reducible rfl)) (fun K hK => ?_); go_simp; refine hK _ ?_; clear hK K) | (refine wpPlanZ_quiet (by rfl) (by rfl) (fun W hW => by (have i4 := hW.i4; have q34 := hW.a.told.2.2.1; go_simp; try with_reducible rfl)) (fun K hK => ?_); go_simp; refine hK _ ?_; clear hK K))
  refine wpPlanZ_nil ?_
  have D0 : Hid (Dq W1.drew ib sb S 31 s t d m) := D1.out.drew
  have K0 : Kept w W1.drew (· = sb) := K1.trans (Kept.drew _ _) (fun _ _ h => h)
  generalize W1.drew = W at *
  clear D1 K1 W1
  have i0 := D0.out.i0
  have A1 := D0.out.a
  go_wp2
  go_ret2
  exact ⟨rfl, A1, K0⟩
set_option maxRecDepth 100000 in
set_option maxHeartbeats 8000000 in
theorem br_32t (A : StAt w sb S) (ok : S.ok) (hs : s < 32) (ht : t < 32) (hd : d < 32) (m0 : 0 ≤ m) (m1 : m < 4294967296) (hk : k = 32) (hsl : S.sl = false) (hc : ¬ S.r s = S.r t) : Calls Tryz.prog 191 #[.pointer (some ⟨sb, 0, none⟩), .agg #[.int .i64 k, .int .i64 s, .int .i64 t, .int .i64 d, .int .u32 m]] w fun e w' => e = .returned (.tuple #[.int .i64 (branchD S k s t d m).1, .int .i64 (branchD S k s t d m).2.1]) ∧ StAt w' sb (branchD S k s t d m).2.2 ∧ Kept w w' (· = sb) := by
  subst hk
  have X : branchD S 32 s t d m = (lo (lo (S.pc + 4) + lo (4 * wd m 16 true)), -1, S) := by unfold branchD; rw [if_neg (by rw [hsl]; decide)]; simp [takenI, targI, hc, Low.immI]
  rw [X]
  clear X
  have hp4 := fun W => plus2_any S.pc 4 ok.pc.1 ok.pc.2 (by omega) (by omega) W
  have hi := fun W => immOf_any 32 s t d m m0 m1 W
  have hwb : u32 (wd m 16 true) := wd_bd m0 m1 _
  have hsg := fun W => signed_any (wd m 16 true) hwb.1 hwb.2 W
  obtain ⟨sb1, sb2⟩ := sg_bd hwb.1 hwb.2
  have e4w : IntKind.i64.wrap (4 * sg (wd m 16 true)) = 4 * sg (wd m 16 true) := by rw [IntKind.wrap_i64]; omega
  have hwd := fun W => word_any (4 * sg (wd m 16 true)) (by omega) (by omega) W
  rw [lo_sg4 hwb.1 hwb.2] at hwd
  have b4 := lo_bd (S.pc + 4)
  have b5 := lo_bd (4 * wd m 16 true)
  have hnr := fun W => plus2_any (lo (S.pc + 4)) (lo (4 * wd m 16 true)) b4.1 b4.2 b5.1 b5.2 W
  have bn := lo_bd (lo (S.pc + 4) + lo (4 * wd m 16 true))
  have hb0 : (S.r s != S.r t) = true := by simp [hc]
  have hb1 : (S.r s == S.r t) = false := by simp [hc]
  clear hc
  obtain ⟨n0, n1⟩ := bn
  obtain ⟨p40, p41⟩ := b4
  have fa0 : 0 ≤ lo (S.pc + 4) / 268435456 := by omega
  have fa1 : lo (S.pc + 4) / 268435456 < 16 := by omega
  clear b5 hwb
  generalize lo (lo (S.pc + 4) + lo (4 * wd m 16 true)) = nr at *
  generalize lo (4 * wd m 16 true) = w5 at *
  generalize sg (wd m 16 true) = gi at *
  generalize wd m 16 true = wi at *
  generalize lo (S.pc + 4) = p4 at *
  have qd : p4.tdiv 268435456 = p4 / 268435456 := Int.tdiv_eq_ediv_of_nonneg p40
  generalize p4 / 268435456 = fq at *
  have wn : IntKind.i64.wrap nr = nr := by rw [IntKind.wrap_i64]; omega
  have wp : IntKind.i64.wrap p4 = p4 := by rw [IntKind.wrap_i64]; omega
  have wm : IntKind.i64.wrap m = m := by rw [IntKind.wrap_i64]; omega
  have w1 : IntKind.i64.wrap fq = fq := by rw [IntKind.wrap_i64]; omega
  have w2 : IntKind.i64.wrap (fq * 268435456) = fq * 268435456 := by rw [IntKind.wrap_i64]; omega
  have w3 : IntKind.i64.wrap (4 * m) = 4 * m := by rw [IntKind.wrap_i64]; omega
  have w4 : IntKind.i64.wrap (fq * 268435456 + 4 * m) = fq * 268435456 + 4 * m := by rw [IntKind.wrap_i64]; omega
  have D0 : Hid (Dq (w.alloc (.cells #[.int .i64 32, .int .i64 s, .int .i64 t, .int .i64 d, .int .u32 m] 113)) w.heap.size sb S 32 s t d m) := Dq.start A ok 32 hs ht hd m0 m1
  have K0 : Kept w (w.alloc (.cells #[.int .i64 32, .int .i64 s, .int .i64 t, .int .i64 d, .int .u32 m] 113)) (· = sb) := Kept.of_below _ ((Below.refl _ _).alloc (Nat.le_refl _) _)
  clear A
  go_enter Tryz.func191, Tryz.ntmps191
  go_upto_region 1 with fail
  generalize w.alloc (.cells #[.int .i64 32, .int .i64 s, .int .i64 t, .int .i64 d, .int .u32 m] 113) = W at *
  generalize w.heap.size = ib at *
  have i0 := D0.out.i0
  have i1 := D0.out.i1
  have i2 := D0.out.i2
  have i3 := D0.out.i3
  have i4 := D0.out.i4
  have qs := D0.out.a.reg D0.out.hs
  have fs := D0.out.a.fz s
  have hs' : (s : Int) < 32 := by have := D0.out.hs; omega
  have qt := D0.out.a.reg D0.out.ht
  have ft := D0.out.a.fz t
  have ht' : (t : Int) < 32 := by have := D0.out.ht; omega
  obtain ⟨-, -, -, -, q36, -⟩ := D0.out.a.told
  rw [hsl] at q36
  go_upto_region 3 with fail
  clear i0 i3 i4 q36
  refine wp_region_phase 8 [(0, 0), (1, 0), (2, 1), (3, 0), (4, 0), (5, 0), (6, 1), (7, 0)] (fun W => Dq W ib sb S 32 s t d m) (by kernel_rfl) (by kernel_rfl) (fun _ _ _ d _ h => by cases d <;> first | exact h | exact Dq.drew h) D0.out.drew ?_
  repeat (first | (refine wpPlanZ_free (by rfl) (by rfl) (fun W => by (go_simp; try with_reducible rfl)) (fun K hK => ?_); go_simp; refine hK _ ?_; clear hK K) | (refine wpPlanZ_quiet (by rfl) (by rfl) (fun W hW => by (have i1 := hW.i1; have qs := hW.a.reg hW.hs; go_simp; try with_reducible rfl)) (fun K hK => ?_); go_simp; refine hK _ ?_; clear hK K))
  refine wpPlanZ_nil ?_
  have D1 : Hid (Dq W.drew ib sb S 32 s t d m) := D0.out.drew
  have K1 : Kept w W.drew (· = sb) := K0.trans (Kept.drew _ _) (fun _ _ h => h)
  clear qt ft qs fs i1 i2
  generalize W.drew = W1 at *
  clear D0 K0
  have i2 := D1.out.i2
  have qt := D1.out.a.reg D1.out.ht
  go_upto_region 4 with fail
  refine wp_region_phase 8 [(0, 0), (1, 0), (2, 1), (3, 0), (4, 0), (5, 0), (6, 1), (7, 0)] (fun W => Dq W ib sb S 32 s t d m) (by kernel_rfl) (by kernel_rfl) (fun _ _ _ d _ h => by cases d <;> first | exact h | exact Dq.drew h) D1.out.drew ?_
  repeat (first | (refine wpPlanZ_free (by rfl) (by rfl) (fun W => by (go_simp; try with_reducible rfl)) (fun K hK => ?_); go_simp; refine hK _ ?_; clear hK K) | (refine wpPlanZ_quiet (by rfl) (by rfl) (fun W hW => by (have i2 := hW.i2; have qt := hW.a.reg hW.ht; go_simp; try with_reducible rfl)) (fun K hK => ?_); go_simp; refine hK _ ?_; clear hK K))
  refine wpPlanZ_nil ?_
  have D0 : Hid (Dq W1.drew ib sb S 32 s t d m) := D1.out.drew
  have K0 : Kept w W1.drew (· = sb) := K1.trans (Kept.drew _ _) (fun _ _ h => h)
  clear qt i2
  generalize W1.drew = W at *
  clear D1 K1 W1
  go_upto_region 5 with fail
  refine wp_region_phase 13 [(0, 0), (1, 0), (2, 0), (3, 1), (5, 1), (4, 2), (6, 2), (7, 2), (8, 0), (9, 2), (10, 2), (11, 0), (12, 0)] (fun W => Dq W ib sb S 32 s t d m) (by kernel_rfl) (by kernel_rfl) (fun _ _ _ d _ h => by cases d <;> first | exact h | exact Dq.drew h) D0.out.drew ?_
  repeat (first | (refine wpPlanZ_free (by rfl) (by rfl) (fun W => by (go_simp; try with_reducible rfl)) (fun K hK => ?_); go_simp; refine hK _ ?_; clear hK K) | (refine wpPlanZ_quiet (by rfl) (by rfl) (fun W hW => by (have i0 := hW.i0; have i1 := hW.i1; have i2 := hW.i2; have i3 := hW.i3; have i4 := hW.i4; have q34 := hW.a.told.2.2.1; go_simp; try with_reducible rfl)) (fun K hK => ?_); go_simp; refine hK _ ?_; clear hK K))
  refine wpPlanZ_serial (by rfl) (by rfl) (fun K hK => ?_)
  go_simp
  refine (hp4 _).mono ?_
  rintro e_ w_ ⟨rfl, rfl⟩
  refine hK _ _ (fun _ => D0.out.drew) ?_
  clear hK K
  repeat (first | (refine wpPlanZ_free (by rfl) (by rfl) (fun W => by (go_simp; try with_reducible rfl)) (fun K hK => ?_); go_simp; refine hK _ ?_; clear hK K) | (refine wpPlanZ_quiet (by rfl) (by rfl) (fun W hW => by (have i0 := hW.i0; have i1 := hW.i1; have i2 := hW.i2; have i3 := hW.i3; have i4 := hW.i4; have q34 := hW.a.told.2.2.1; go_simp; try with_reducible rfl)) (fun K hK => ?_); go_simp; refine hK _ ?_; clear hK K))
  refine wpPlanZ_serial (by rfl) (by rfl) (fun K hK => ?_)
  go_simp
  refine (hi _).mono ?_
  rintro e_ w_ ⟨rfl, hbx⟩
  refine hK _ _ (fun _ => D0.out.drew.stays hbx) ?_
  clear hK K
  repeat (first | (refine wpPlanZ_free (by rfl) (by rfl) (fun W => by (go_simp; try with_reducible rfl)) (fun K hK => ?_); go_simp; refine hK _ ?_; clear hK K) | (refine wpPlanZ_quiet (by rfl) (by rfl) (fun W hW => by (have i0 := hW.i0; have i1 := hW.i1; have i2 := hW.i2; have i3 := hW.i3; have i4 := hW.i4; have q34 := hW.a.told.2.2.1; go_simp; try with_reducible rfl)) (fun K hK => ?_); go_simp; refine hK _ ?_; clear hK K))
  refine wpPlanZ_serial (by rfl) (by rfl) (fun K hK => ?_)
  go_simp
  refine (hsg _).mono ?_
  rintro e_ w_ ⟨rfl, rfl⟩
  refine hK _ _ (fun _ => D0.out.drew.stays hbx) ?_
  clear hK K
  repeat (first | (refine wpPlanZ_free (by rfl) (by rfl) (fun W => by (go_simp; try with_reducible rfl)) (fun K hK => ?_); go_simp; refine hK _ ?_; clear hK K) | (refine wpPlanZ_quiet (by rfl) (by rfl) (fun W hW => by (have i0 := hW.i0; have i1 := hW.i1; have i2 := hW.i2; have i3 := hW.i3; have i4 := hW.i4; have q34 := hW.a.told.2.2.1; go_simp; try with_reducible rfl)) (fun K hK => ?_); go_simp; refine hK _ ?_; clear hK K))
  refine wpPlanZ_serial (by rfl) (by rfl) (fun K hK => ?_)
  go_simp
  refine (hwd _).mono ?_
  rintro e_ w_ ⟨rfl, rfl⟩
  refine hK _ _ (fun _ => D0.out.drew.stays hbx) ?_
  clear hK K
  repeat (first | (refine wpPlanZ_free (by rfl) (by rfl) (fun W => by (go_simp; try with_reducible rfl)) (fun K hK => ?_); go_simp; refine hK _ ?_; clear hK K) | (refine wpPlanZ_quiet (by rfl) (by rfl) (fun W hW => by (have i0 := hW.i0; have i1 := hW.i1; have i2 := hW.i2; have i3 := hW.i3; have i4 := hW.i4; have q34 := hW.a.told.2.2.1; go_simp; try with_reducible rfl)) (fun K hK => ?_); go_simp; refine hK _ ?_; clear hK K))
  refine wpPlanZ_serial (by rfl) (by rfl) (fun K hK => ?_)
  go_simp
  refine (hnr _).mono ?_
  rintro e_ w_ ⟨rfl, rfl⟩
  refine hK _ _ (fun _ => D0.out.drew.stays hbx) ?_
  clear hK K
  repeat (first | (refine wpPlanZ_free (by rfl) (by rfl) (fun W => by (go_simp; try with_reducible rfl)) (fun K hK => ?_); go_simp; refine hK _ ?_; clear hK K) | (refine wpPlanZ_quiet (by rfl) (by rfl) (fun W hW => by (have i0 := hW.i0; have i1 := hW.i1; have i2 := hW.i2; have i3 := hW.i3; have i4 := hW.i4; have q34 := hW.a.told.2.2.1; go_simp; try with_reducible rfl)) (fun K hK => ?_); go_simp; refine hK _ ?_; clear hK K))
  refine wpPlanZ_nil ?_
  have D1 : Hid (Dq w_ ib sb S 32 s t d m) := D0.out.drew.stays hbx
  have K1 : Kept w w_ (· = sb) := (K0.trans (Kept.drew _ _) (fun _ _ h => h)).trans (Kept.of_below _ hbx) (fun _ _ h => h)
  clear hbx
  generalize w_ = W1 at *
  clear D0 K0
  go_upto_region 6 with fail
  refine wp_region_phase 14 [(0, 0), (1, 0), (2, 0), (3, 1), (8, 0), (9, 1), (10, 0), (11, 0), (4, 2), (5, 0), (6, 0), (7, 0), (12, 0), (13, 0)] (fun W => Dq W ib sb S 32 s t d m) (by kernel_rfl) (by kernel_rfl) (fun _ _ _ d _ h => by cases d <;> first | exact h | exact Dq.drew h) D1.out.drew ?_
  repeat (first | (refine wpPlanZ_free (by rfl) (by rfl) (fun W => by (go_simp; try with_reducible rfl)) (fun K hK => ?_); go_simp; refine hK _ ?_; clear hK K) | (refine wpPlanZ_quiet (by rfl) (by rfl) (fun W hW => by (have i4 := hW.i4; have q34 := hW.a.told.2.2.1; go_simp; try with_reducible rfl)) (fun K hK => ?_); go_simp; refine hK _ ?_; clear hK K))
  refine wpPlanZ_serial (by rfl) (by rfl) (fun K hK => ?_)
  go_simp
  refine (hp4 _).mono ?_
  rintro e_ w_ ⟨rfl, rfl⟩
  refine hK _ _ (fun _ => D1.out.drew) ?_
  clear hK K
  repeat (first | (refine wpPlanZ_free (by rfl) (by rfl) (fun W => by (go_simp; try with_reducible rfl)) (fun K hK => ?_); go_simp; refine hK _ ?_; clear hK K) | (refine wpPlanZ_quiet (by rfl) (by rfl) (fun W hW => by (have i4 := hW.i4; have q34 := hW.a.told.2.2.1; go_simp; try with_reducible rfl)) (fun K hK => ?_); go_simp; refine hK _ ?_; clear hK K))
  refine wpPlanZ_nil ?_
  have D0 : Hid (Dq W1.drew ib sb S 32 s t d m) := D1.out.drew
  have K0 : Kept w W1.drew (· = sb) := K1.trans (Kept.drew _ _) (fun _ _ h => h)
  generalize W1.drew = W at *
  clear D1 K1 W1
  have i0 := D0.out.i0
  have A1 := D0.out.a
  go_wp2
  go_ret2
  exact ⟨rfl, A1, K0⟩
set_option maxRecDepth 100000 in
set_option maxHeartbeats 8000000 in
theorem br_32n (A : StAt w sb S) (ok : S.ok) (hs : s < 32) (ht : t < 32) (hd : d < 32) (m0 : 0 ≤ m) (m1 : m < 4294967296) (hk : k = 32) (hsl : S.sl = false) (hc : S.r s = S.r t) : Calls Tryz.prog 191 #[.pointer (some ⟨sb, 0, none⟩), .agg #[.int .i64 k, .int .i64 s, .int .i64 t, .int .i64 d, .int .u32 m]] w fun e w' => e = .returned (.tuple #[.int .i64 (branchD S k s t d m).1, .int .i64 (branchD S k s t d m).2.1]) ∧ StAt w' sb (branchD S k s t d m).2.2 ∧ Kept w w' (· = sb) := by
  subst hk
  have X : branchD S 32 s t d m = (-1, -1, S) := by unfold branchD; rw [if_neg (by rw [hsl]; decide)]; simp [takenI, hc]
  rw [X]
  clear X
  have hp4 := fun W => plus2_any S.pc 4 ok.pc.1 ok.pc.2 (by omega) (by omega) W
  have hi := fun W => immOf_any 32 s t d m m0 m1 W
  have hwb : u32 (wd m 16 true) := wd_bd m0 m1 _
  have hsg := fun W => signed_any (wd m 16 true) hwb.1 hwb.2 W
  obtain ⟨sb1, sb2⟩ := sg_bd hwb.1 hwb.2
  have e4w : IntKind.i64.wrap (4 * sg (wd m 16 true)) = 4 * sg (wd m 16 true) := by rw [IntKind.wrap_i64]; omega
  have hwd := fun W => word_any (4 * sg (wd m 16 true)) (by omega) (by omega) W
  rw [lo_sg4 hwb.1 hwb.2] at hwd
  have b4 := lo_bd (S.pc + 4)
  have b5 := lo_bd (4 * wd m 16 true)
  have hnr := fun W => plus2_any (lo (S.pc + 4)) (lo (4 * wd m 16 true)) b4.1 b4.2 b5.1 b5.2 W
  have bn := lo_bd (lo (S.pc + 4) + lo (4 * wd m 16 true))
  have hb0 : (S.r s != S.r t) = false := by simp [hc]
  have hb1 : (S.r s == S.r t) = true := by simp [hc]
  clear hc
  obtain ⟨n0, n1⟩ := bn
  obtain ⟨p40, p41⟩ := b4
  have fa0 : 0 ≤ lo (S.pc + 4) / 268435456 := by omega
  have fa1 : lo (S.pc + 4) / 268435456 < 16 := by omega
  clear b5 hwb
  generalize lo (lo (S.pc + 4) + lo (4 * wd m 16 true)) = nr at *
  generalize lo (4 * wd m 16 true) = w5 at *
  generalize sg (wd m 16 true) = gi at *
  generalize wd m 16 true = wi at *
  generalize lo (S.pc + 4) = p4 at *
  have qd : p4.tdiv 268435456 = p4 / 268435456 := Int.tdiv_eq_ediv_of_nonneg p40
  generalize p4 / 268435456 = fq at *
  have wn : IntKind.i64.wrap nr = nr := by rw [IntKind.wrap_i64]; omega
  have wp : IntKind.i64.wrap p4 = p4 := by rw [IntKind.wrap_i64]; omega
  have wm : IntKind.i64.wrap m = m := by rw [IntKind.wrap_i64]; omega
  have w1 : IntKind.i64.wrap fq = fq := by rw [IntKind.wrap_i64]; omega
  have w2 : IntKind.i64.wrap (fq * 268435456) = fq * 268435456 := by rw [IntKind.wrap_i64]; omega
  have w3 : IntKind.i64.wrap (4 * m) = 4 * m := by rw [IntKind.wrap_i64]; omega
  have w4 : IntKind.i64.wrap (fq * 268435456 + 4 * m) = fq * 268435456 + 4 * m := by rw [IntKind.wrap_i64]; omega
  have D0 : Hid (Dq (w.alloc (.cells #[.int .i64 32, .int .i64 s, .int .i64 t, .int .i64 d, .int .u32 m] 113)) w.heap.size sb S 32 s t d m) := Dq.start A ok 32 hs ht hd m0 m1
  have K0 : Kept w (w.alloc (.cells #[.int .i64 32, .int .i64 s, .int .i64 t, .int .i64 d, .int .u32 m] 113)) (· = sb) := Kept.of_below _ ((Below.refl _ _).alloc (Nat.le_refl _) _)
  clear A
  go_enter Tryz.func191, Tryz.ntmps191
  go_upto_region 1 with fail
  generalize w.alloc (.cells #[.int .i64 32, .int .i64 s, .int .i64 t, .int .i64 d, .int .u32 m] 113) = W at *
  generalize w.heap.size = ib at *
  have i0 := D0.out.i0
  have i1 := D0.out.i1
  have i2 := D0.out.i2
  have i3 := D0.out.i3
  have i4 := D0.out.i4
  have qs := D0.out.a.reg D0.out.hs
  have fs := D0.out.a.fz s
  have hs' : (s : Int) < 32 := by have := D0.out.hs; omega
  have qt := D0.out.a.reg D0.out.ht
  have ft := D0.out.a.fz t
  have ht' : (t : Int) < 32 := by have := D0.out.ht; omega
  obtain ⟨-, -, -, -, q36, -⟩ := D0.out.a.told
  rw [hsl] at q36
  go_upto_region 3 with fail
  clear i0 i3 i4 q36
  refine wp_region_phase 8 [(0, 0), (1, 0), (2, 1), (3, 0), (4, 0), (5, 0), (6, 1), (7, 0)] (fun W => Dq W ib sb S 32 s t d m) (by kernel_rfl) (by kernel_rfl) (fun _ _ _ d _ h => by cases d <;> first | exact h | exact Dq.drew h) D0.out.drew ?_
  repeat (first | (refine wpPlanZ_free (by rfl) (by rfl) (fun W => by (go_simp; try with_reducible rfl)) (fun K hK => ?_); go_simp; refine hK _ ?_; clear hK K) | (refine wpPlanZ_quiet (by rfl) (by rfl) (fun W hW => by (have i1 := hW.i1; have qs := hW.a.reg hW.hs; go_simp; try with_reducible rfl)) (fun K hK => ?_); go_simp; refine hK _ ?_; clear hK K))
  refine wpPlanZ_nil ?_
  have D1 : Hid (Dq W.drew ib sb S 32 s t d m) := D0.out.drew
  have K1 : Kept w W.drew (· = sb) := K0.trans (Kept.drew _ _) (fun _ _ h => h)
  clear qt ft qs fs i1 i2
  generalize W.drew = W1 at *
  clear D0 K0
  have i2 := D1.out.i2
  have qt := D1.out.a.reg D1.out.ht
  go_upto_region 4 with fail
  refine wp_region_phase 8 [(0, 0), (1, 0), (2, 1), (3, 0), (4, 0), (5, 0), (6, 1), (7, 0)] (fun W => Dq W ib sb S 32 s t d m) (by kernel_rfl) (by kernel_rfl) (fun _ _ _ d _ h => by cases d <;> first | exact h | exact Dq.drew h) D1.out.drew ?_
  repeat (first | (refine wpPlanZ_free (by rfl) (by rfl) (fun W => by (go_simp; try with_reducible rfl)) (fun K hK => ?_); go_simp; refine hK _ ?_; clear hK K) | (refine wpPlanZ_quiet (by rfl) (by rfl) (fun W hW => by (have i2 := hW.i2; have qt := hW.a.reg hW.ht; go_simp; try with_reducible rfl)) (fun K hK => ?_); go_simp; refine hK _ ?_; clear hK K))
  refine wpPlanZ_nil ?_
  have D0 : Hid (Dq W1.drew ib sb S 32 s t d m) := D1.out.drew
  have K0 : Kept w W1.drew (· = sb) := K1.trans (Kept.drew _ _) (fun _ _ h => h)
  clear qt i2
  generalize W1.drew = W at *
  clear D1 K1 W1
  go_upto_region 5 with fail
  refine wp_region_phase 13 [(0, 0), (1, 0), (2, 0), (3, 1), (5, 1), (4, 2), (6, 2), (7, 2), (8, 0), (9, 2), (10, 2), (11, 0), (12, 0)] (fun W => Dq W ib sb S 32 s t d m) (by kernel_rfl) (by kernel_rfl) (fun _ _ _ d _ h => by cases d <;> first | exact h | exact Dq.drew h) D0.out.drew ?_
  repeat (first | (refine wpPlanZ_free (by rfl) (by rfl) (fun W => by (go_simp; try with_reducible rfl)) (fun K hK => ?_); go_simp; refine hK _ ?_; clear hK K) | (refine wpPlanZ_quiet (by rfl) (by rfl) (fun W hW => by (have i0 := hW.i0; have i1 := hW.i1; have i2 := hW.i2; have i3 := hW.i3; have i4 := hW.i4; have q34 := hW.a.told.2.2.1; go_simp; try with_reducible rfl)) (fun K hK => ?_); go_simp; refine hK _ ?_; clear hK K))
  refine wpPlanZ_serial (by rfl) (by rfl) (fun K hK => ?_)
  go_simp
  refine (hp4 _).mono ?_
  rintro e_ w_ ⟨rfl, rfl⟩
  refine hK _ _ (fun _ => D0.out.drew) ?_
  clear hK K
  repeat (first | (refine wpPlanZ_free (by rfl) (by rfl) (fun W => by (go_simp; try with_reducible rfl)) (fun K hK => ?_); go_simp; refine hK _ ?_; clear hK K) | (refine wpPlanZ_quiet (by rfl) (by rfl) (fun W hW => by (have i0 := hW.i0; have i1 := hW.i1; have i2 := hW.i2; have i3 := hW.i3; have i4 := hW.i4; have q34 := hW.a.told.2.2.1; go_simp; try with_reducible rfl)) (fun K hK => ?_); go_simp; refine hK _ ?_; clear hK K))
  refine wpPlanZ_serial (by rfl) (by rfl) (fun K hK => ?_)
  go_simp
  refine (hi _).mono ?_
  rintro e_ w_ ⟨rfl, hbx⟩
  refine hK _ _ (fun _ => D0.out.drew.stays hbx) ?_
  clear hK K
  repeat (first | (refine wpPlanZ_free (by rfl) (by rfl) (fun W => by (go_simp; try with_reducible rfl)) (fun K hK => ?_); go_simp; refine hK _ ?_; clear hK K) | (refine wpPlanZ_quiet (by rfl) (by rfl) (fun W hW => by (have i0 := hW.i0; have i1 := hW.i1; have i2 := hW.i2; have i3 := hW.i3; have i4 := hW.i4; have q34 := hW.a.told.2.2.1; go_simp; try with_reducible rfl)) (fun K hK => ?_); go_simp; refine hK _ ?_; clear hK K))
  refine wpPlanZ_serial (by rfl) (by rfl) (fun K hK => ?_)
  go_simp
  refine (hsg _).mono ?_
  rintro e_ w_ ⟨rfl, rfl⟩
  refine hK _ _ (fun _ => D0.out.drew.stays hbx) ?_
  clear hK K
  repeat (first | (refine wpPlanZ_free (by rfl) (by rfl) (fun W => by (go_simp; try with_reducible rfl)) (fun K hK => ?_); go_simp; refine hK _ ?_; clear hK K) | (refine wpPlanZ_quiet (by rfl) (by rfl) (fun W hW => by (have i0 := hW.i0; have i1 := hW.i1; have i2 := hW.i2; have i3 := hW.i3; have i4 := hW.i4; have q34 := hW.a.told.2.2.1; go_simp; try with_reducible rfl)) (fun K hK => ?_); go_simp; refine hK _ ?_; clear hK K))
  refine wpPlanZ_serial (by rfl) (by rfl) (fun K hK => ?_)
  go_simp
  refine (hwd _).mono ?_
  rintro e_ w_ ⟨rfl, rfl⟩
  refine hK _ _ (fun _ => D0.out.drew.stays hbx) ?_
  clear hK K
  repeat (first | (refine wpPlanZ_free (by rfl) (by rfl) (fun W => by (go_simp; try with_reducible rfl)) (fun K hK => ?_); go_simp; refine hK _ ?_; clear hK K) | (refine wpPlanZ_quiet (by rfl) (by rfl) (fun W hW => by (have i0 := hW.i0; have i1 := hW.i1; have i2 := hW.i2; have i3 := hW.i3; have i4 := hW.i4; have q34 := hW.a.told.2.2.1; go_simp; try with_reducible rfl)) (fun K hK => ?_); go_simp; refine hK _ ?_; clear hK K))
  refine wpPlanZ_serial (by rfl) (by rfl) (fun K hK => ?_)
  go_simp
  refine (hnr _).mono ?_
  rintro e_ w_ ⟨rfl, rfl⟩
  refine hK _ _ (fun _ => D0.out.drew.stays hbx) ?_
  clear hK K
  repeat (first | (refine wpPlanZ_free (by rfl) (by rfl) (fun W => by (go_simp; try with_reducible rfl)) (fun K hK => ?_); go_simp; refine hK _ ?_; clear hK K) | (refine wpPlanZ_quiet (by rfl) (by rfl) (fun W hW => by (have i0 := hW.i0; have i1 := hW.i1; have i2 := hW.i2; have i3 := hW.i3; have i4 := hW.i4; have q34 := hW.a.told.2.2.1; go_simp; try with_reducible rfl)) (fun K hK => ?_); go_simp; refine hK _ ?_; clear hK K))
  refine wpPlanZ_nil ?_
  have D1 : Hid (Dq w_ ib sb S 32 s t d m) := D0.out.drew.stays hbx
  have K1 : Kept w w_ (· = sb) := (K0.trans (Kept.drew _ _) (fun _ _ h => h)).trans (Kept.of_below _ hbx) (fun _ _ h => h)
  clear hbx
  generalize w_ = W1 at *
  clear D0 K0
  go_upto_region 6 with fail
  refine wp_region_phase 14 [(0, 0), (1, 0), (2, 0), (3, 1), (8, 0), (9, 1), (10, 0), (11, 0), (4, 2), (5, 0), (6, 0), (7, 0), (12, 0), (13, 0)] (fun W => Dq W ib sb S 32 s t d m) (by kernel_rfl) (by kernel_rfl) (fun _ _ _ d _ h => by cases d <;> first | exact h | exact Dq.drew h) D1.out.drew ?_
  repeat (first | (refine wpPlanZ_free (by rfl) (by rfl) (fun W => by (go_simp; try with_reducible rfl)) (fun K hK => ?_); go_simp; refine hK _ ?_; clear hK K) | (refine wpPlanZ_quiet (by rfl) (by rfl) (fun W hW => by (have i4 := hW.i4; have q34 := hW.a.told.2.2.1; go_simp; try with_reducible rfl)) (fun K hK => ?_); go_simp; refine hK _ ?_; clear hK K))
  refine wpPlanZ_serial (by rfl) (by rfl) (fun K hK => ?_)
  go_simp
  refine (hp4 _).mono ?_
  rintro e_ w_ ⟨rfl, rfl⟩
  refine hK _ _ (fun _ => D1.out.drew) ?_
  clear hK K
  repeat (first | (refine wpPlanZ_free (by rfl) (by rfl) (fun W => by (go_simp; try with_reducible rfl)) (fun K hK => ?_); go_simp; refine hK _ ?_; clear hK K) | (refine wpPlanZ_quiet (by rfl) (by rfl) (fun W hW => by (have i4 := hW.i4; have q34 := hW.a.told.2.2.1; go_simp; try with_reducible rfl)) (fun K hK => ?_); go_simp; refine hK _ ?_; clear hK K))
  refine wpPlanZ_nil ?_
  have D0 : Hid (Dq W1.drew ib sb S 32 s t d m) := D1.out.drew
  have K0 : Kept w W1.drew (· = sb) := K1.trans (Kept.drew _ _) (fun _ _ h => h)
  generalize W1.drew = W at *
  clear D1 K1 W1
  have i0 := D0.out.i0
  have A1 := D0.out.a
  go_wp2
  go_ret2
  exact ⟨rfl, A1, K0⟩
end
end Go.Proofs.YtflagpkmebdckaaGreatDoor
/-
  What the document's instruction makes is what the processor's does: in whole numbers.
-/
namespace Go.Proofs.YtflagpkmebdckaaGreatDoor
open Num
set_option linter.unusedVariables false
def St.fix (S : St) : St := { S.putR 0 0 with pc := S.nx, nx := Num.lo (S.nx + 4), sl := false }
def St.fixB (S : St) (to : Int) : St := { S.putR 0 0 with pc := S.nx, nx := (if (0 : Int) ≤ to then to else Num.lo (S.nx + 4)), sl := true }
theorem St.r_eq {S : St} {r' : Nat → Int} (h : ∀ i, r' i = S.r i) : ({ S with r := r' } : St) = S := by
  have e : r' = S.r := funext h
  rw [e]
theorem putR_0 {S : St} (h : S.r 0 = 0) : S.putR 0 0 = S := by
  unfold St.putR
  refine St.r_eq fun i => ?_
  split
  · rename_i e; rw [e, h]
  · rfl
theorem putR_set {S : St} (h : S.r 0 = 0) (n : Nat) (v : Int) : (S.putR n v).putR 0 0 = S.set n v := by
  unfold St.set
  split
  · refine St.r_eq (S := S) fun i => ?_
    show (if i = 0 then 0 else if i = n then v else S.r i) = S.r i
    by_cases e : i = 0
    · rw [if_pos e, e, h]
    · rw [if_neg e, if_neg (by omega)]
  · have e : (fun i => if i = 0 then (0 : Int) else if i = n then v else S.r i) = fun i => if i = n then v else S.r i := by
      funext i
      by_cases e : i = 0
      · rw [if_pos e, if_neg (by omega), e, h]
      · rw [if_neg e]
    show ({ S with r := fun i => if i = 0 then (0 : Int) else if i = n then v else S.r i } : St) = _
    rw [e]
theorem set_nx (S : St) (n : Nat) (v : Int) : (S.set n v).nx = S.nx := by unfold St.set; split <;> rfl
theorem fix_set {S : St} (h : S.r 0 = 0) (n : Nat) (v : Int) : (S.putR n v).fix = (S.set n v).on := by
  unfold St.fix St.on
  rw [putR_set h, set_nx]
  rfl
theorem fix_on {S : St} (h : S.r 0 = 0) : S.fix = S.on := by
  unfold St.fix St.on
  rw [putR_0 h]
theorem sumD_nx (S : St) (k s t d : Nat) (m : Int) : (sumD S k s t d m).2.nx = S.nx := by
  unfold sumD
  (repeat' split) <;> first | rfl | (dsimp only; split <;> rfl)
theorem sumD_eq {S : St} (h : S.r 0 = 0) (k s t d : Nat) (m : Int) : (sumD S k s t d m).1 = (sumP S k s t d m).1 ∧ ((sumP S k s t d m).1 = -1 → (sumD S k s t d m).2.fix = (sumP S k s t d m).2) ∧ ((sumP S k s t d m).1 ≠ -1 → (sumD S k s t d m).2 = (sumP S k s t d m).2) := by
  unfold sumD sumP
  by_cases h1 : k = 15 ∨ k = 16
  · rw [if_pos h1, if_pos h1]; exact ⟨rfl, fun _ => fix_on h, fun e => absurd rfl e⟩
  rw [if_neg h1, if_neg h1]
  by_cases h2 : k = 17 ∨ k = 18
  · rw [if_pos h2, if_pos h2]
    refine ⟨rfl, fun _ => ?_, fun e => absurd rfl e⟩
    dsimp only
    by_cases hz : opB S k s t m = 0
    · rw [if_pos hz, if_pos hz]; exact fix_on h
    · rw [if_neg hz, if_neg hz]; exact fix_on h
  rw [if_neg h2, if_neg h2]
  by_cases h3 : k = 12
  · rw [if_pos h3, if_pos h3]; exact ⟨rfl, fun _ => fix_on h, fun e => absurd rfl e⟩
  rw [if_neg h3, if_neg h3]
  by_cases h4 : k = 14
  · rw [if_pos h4, if_pos h4]; exact ⟨rfl, fun _ => fix_on h, fun e => absurd rfl e⟩
  rw [if_neg h4, if_neg h4]
  by_cases h5 : overI k (opA S k s t) (opB S k s t m) = true
  · rw [if_pos h5, if_pos h5]; exact ⟨rfl, fun e => absurd e (by simp), fun _ => rfl⟩
  · rw [if_neg h5, if_neg h5]; exact ⟨rfl, fun _ => fix_set h _ _, fun e => absurd rfl e⟩
theorem trapD_nx (S : St) (k t d : Nat) : (trapD S k t d).2.nx = S.nx := by
  unfold trapD fromD toD
  (repeat' split) <;> rfl
theorem trapD_eq {S : St} (ok : S.ok) (h : S.r 0 = 0) (k t d : Nat) (hk : k ≠ 45) : (trapD S k t d).1 = (trapP S k t d).1 ∧ ((trapP S k t d).1 = -1 → (trapD S k t d).2.fix = (trapP S k t d).2) ∧ ((trapP S k t d).1 ≠ -1 → (trapD S k t d).2 = (trapP S k t d).2) := by
  unfold trapD trapP
  by_cases h1 : k = 9
  · rw [if_pos h1, if_pos h1]; exact ⟨rfl, fun e => absurd e (by simp), fun _ => rfl⟩
  rw [if_neg h1, if_neg h1]
  by_cases h2 : k = 10
  · rw [if_pos h2, if_pos h2]; exact ⟨rfl, fun e => absurd e (by simp), fun _ => rfl⟩
  rw [if_neg h2, if_neg h2]
  by_cases h3 : k = 43
  · rw [if_pos h3, if_pos h3]
    unfold fromD fromP
    by_cases d8 : d = 8
    · rw [if_pos d8, if_pos d8]; exact ⟨rfl, fun _ => fix_set h _ _, fun e => absurd rfl e⟩
    rw [if_neg d8, if_neg d8]
    by_cases d9 : d = 9
    · rw [if_pos d9, if_pos d9]; exact ⟨rfl, fun _ => fix_set h _ _, fun e => absurd rfl e⟩
    rw [if_neg d9, if_neg d9]
    by_cases d11 : d = 11
    · rw [if_pos d11, if_pos d11]; exact ⟨rfl, fun _ => fix_set h _ _, fun e => absurd rfl e⟩
    rw [if_neg d11, if_neg d11]
    by_cases d12 : d = 12
    · rw [if_pos d12, if_pos d12]; exact ⟨rfl, fun _ => fix_set h _ _, fun e => absurd rfl e⟩
    rw [if_neg d12, if_neg d12]
    by_cases d13 : d = 13
    · rw [if_pos d13, if_pos d13]; exact ⟨rfl, fun _ => fix_set h _ _, fun e => absurd rfl e⟩
    rw [if_neg d13, if_neg d13]
    by_cases d14 : d = 14
    · rw [if_pos d14, if_pos d14]; exact ⟨rfl, fun _ => fix_set h _ _, fun e => absurd rfl e⟩
    rw [if_neg d14, if_neg d14]
    exact ⟨rfl, fun e => absurd e (by simp), fun _ => rfl⟩
  rw [if_neg h3, if_neg h3]
  by_cases h4 : k = 44
  · rw [if_pos h4, if_pos h4]
    unfold toD toP
    by_cases d11 : d = 11
    · rw [if_pos d11, if_pos d11]; exact ⟨rfl, fun _ => fix_on h, fun e => absurd rfl e⟩
    rw [if_neg d11, if_neg d11]
    by_cases d12 : d = 12
    · rw [if_pos d12, if_pos d12, and3_eq (ok.r t).1 (ok.r t).2]; exact ⟨rfl, fun _ => fix_on h, fun e => absurd rfl e⟩
    rw [if_neg d12, if_neg d12]
    by_cases d14 : d = 14
    · rw [if_pos d14, if_pos d14]; exact ⟨rfl, fun _ => fix_on h, fun e => absurd rfl e⟩
    rw [if_neg d14, if_neg d14]
    exact ⟨rfl, fun e => absurd e (by simp), fun _ => rfl⟩
  rw [if_neg h4, if_neg h4, if_neg hk]
  exact ⟨rfl, fun e => absurd e (by simp), fun _ => rfl⟩
theorem branchD_nx (S : St) (k s t d : Nat) (m : Int) : (branchD S k s t d m).2.2.nx = S.nx := by
  unfold branchD
  split
  · rfl
  · dsimp only
    (repeat' split) <;> rfl
theorem branchD_eq {S : St} (ok : S.ok) (h : S.r 0 = 0) (k s t d : Nat) (m : Int) (hsl : S.sl = false) : (branchD S k s t d m).2.2.fixB (branchD S k s t d m).1 = (branchP S k s t d m).2 ∧ (branchP S k s t d m).1 = -1 ∧ (branchD S k s t d m).2.1 = -1 ∧ ((branchD S k s t d m).1 = -1 ∨ u32 (branchD S k s t d m).1) := by
  have hn : ¬ S.sl = true := by rw [hsl]; decide
  unfold branchD branchP
  rw [if_neg hn, if_neg hn]
  have ht := targI_bd ok k s m
  have e : (if 0 ≤ (if takenI S k s t = true then targI S k s m else -1) then (if takenI S k s t = true then targI S k s m else -1) else lo (S.nx + 4)) = if takenI S k s t = true then targI S k s m else lo (S.nx + 4) := by
    by_cases hc : takenI S k s t = true
    · simp only [if_pos hc]; rw [if_pos ht.1]
    · simp only [if_neg hc]; rw [if_neg (by omega)]
  refine ⟨?_, rfl, rfl, ?_⟩
  · dsimp only
    unfold St.fixB
    by_cases k30 : k = 30
    · simp only [if_pos k30]
      rw [putR_set h]
      show ({ S.set 31 (lo (S.pc + 8)) with pc := S.nx, nx := _, sl := true } : St) = _
      rw [show (S.putR 31 (lo (S.pc + 8))).nx = S.nx from rfl, e]
    · by_cases k8 : k = 8
      · simp only [if_neg k30, if_pos k8]
        rw [putR_set h]
        show ({ S.set d (lo (S.pc + 8)) with pc := S.nx, nx := _, sl := true } : St) = _
        rw [show (S.putR d (lo (S.pc + 8))).nx = S.nx from rfl, e]
      · simp only [if_neg k30, if_neg k8]
        rw [putR_0 h, e]
  · dsimp only
    split
    · exact Or.inr ht
    · exact Or.inl rfl
end Go.Proofs.YtflagpkmebdckaaGreatDoor
