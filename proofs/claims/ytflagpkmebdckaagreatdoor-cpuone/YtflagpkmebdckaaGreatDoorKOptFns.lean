/-
  Package opt: which registers an op reads and writes.
-/
import Derived.RangeFuncBox
import Derived.RangeFuncLeaves
import Derived.RangeFuncNested
import Derived.Shelf.Abstract
import Derived.WalkKit
import Derived.OwnWalkIn
import Derived.TacticsInMore
import Derived.LoopNIn
import Derived.LoopIn
import Derived.Deep.QuietTactic
import Derived.Test.YtflagpkmebdckaaGreatDoorKNum
import Derived.Test.YtflagpkmebdckaaGreatDoorJDocW
import Derived.Test.YtflagpkmebdckaaGreatDoorKIrChk
import Derived.Test.YtflagpkmebdckaaGreatDoorKWords
namespace Go.Proofs.YtflagpkmebdckaaGreatDoor
open Go.RowKit Go.Maps
open Num
set_option linter.unusedVariables false
theorem below_drewN {B : Nat} {w w' : World} (h : Below B w w') (n : Nat) : Below B w (w'.drewN n) := ⟨h.os, h.tape, h.output, h.size, h.block⟩
def b2 (n m : Nat) : Bool := decide (n = m)
end Go.Proofs.YtflagpkmebdckaaGreatDoor
/-
  The closed fact of memory, and the walk of RamParts.
-/
namespace Go.Proofs.YtflagpkmebdckaaGreatDoor
open Go.RowKit Go.Maps
open Num
set_option linter.unusedVariables false
theorem RamIs.drewN {w : World} {sb bp bw bh N : Nat} {m : Nat → Int} {wt ht : Int → Bool} (R : RamIs w sb bp bw bh N m wt ht) (n : Nat) : RamIs (w.drewN n) sb bp bw bh N m wt ht :=
  ⟨R.c0, R.c1, R.c2, R.pw, R.ph, R.wh, R.sp, R.sh, R.ps, R.ws, R.hs, R.mb⟩
theorem mw_wf (xs : List Int) (h : ∀ x ∈ xs, 0 ≤ x ∧ x < 4294967296) : ∀ i, 0 ≤ mw xs i ∧ mw xs i < 4294967296 := by
  intro i
  unfold mw
  rw [List.getD_eq_getElem?_getD]
  cases e : xs[i]? with
  | none => exact ⟨Int.le_refl _, by decide⟩
  | some x => exact h x (List.mem_of_getElem? e)
end Go.Proofs.YtflagpkmebdckaaGreatDoor
/-
  What was stored is loaded; what other memory keeps.
-/
namespace Go.Proofs.YtflagpkmebdckaaGreatDoor
open Go.RowKit Go.Maps
open Num
set_option linter.unusedVariables false
theorem Turned.cell {w w' : World} {b c : Nat} (t : Turned w w' b c) {A : Addr} {v : Value} (h : w.cell? A = some v) (n1 : A.block ≠ b) (n2 : A.block ≠ c) : w'.cell? A = some v :=
  (World.cell?_of_block (t.block _ (World.block_lt_of_cell? _ _ h) n1 n2)).trans h
theorem RamIs.turned {w w' : World} {sb bp bw bh N b c : Nat} {m : Nat → Int} {wt ht : Int → Bool} (R : RamIs w sb bp bw bh N m wt ht) (t : Turned w w' b c) (s1 : sb ≠ b) (s2 : sb ≠ c) (p1 : bp ≠ b) (p2 : bp ≠ c) (w1 : bw ≠ b) (w2 : bw ≠ c) (h1 : bh ≠ b) (h2 : bh ≠ c) : RamIs w' sb bp bw bh N m wt ht := by
  refine ⟨t.cell R.c0 s1 s2, t.cell R.c1 s1 s2, t.cell R.c2 s1 s2, R.pw, R.ph, R.wh, R.sp, R.sh, ?_, ?_, ?_, R.mb⟩
  · obtain ⟨D, ⟨es, clock, hb, r⟩, h⟩ := R.ps
    exact ⟨D, ⟨es, clock, (t.block _ (Array.getElem?_eq_some_iff.1 hb).1 p1 p2).trans hb, r⟩, h⟩
  · obtain ⟨D, ⟨es, clock, hb, r⟩, h⟩ := R.ws
    exact ⟨D, ⟨es, clock, (t.block _ (Array.getElem?_eq_some_iff.1 hb).1 w1 w2).trans hb, r⟩, h⟩
  · obtain ⟨D, ⟨es, clock, hb, r⟩, h⟩ := R.hs
    exact ⟨D, ⟨es, clock, (t.block _ (Array.getElem?_eq_some_iff.1 hb).1 h1 h2).trans hb, r⟩, h⟩
/-- a list of words in memory -/
def WordsAt (w : World) (g : Nat) (m : Nat → Int) : Prop := ∀ i, i < 4096 → w.cell? ⟨g, 0 + i, none⟩ = some (.int .u32 (m i))
theorem WordsAt.stays {w w' : World} {g : Nat} {m : Nat → Int} (X : WordsAt w g m) (h : Below w.heap.size w w') : WordsAt w' g m :=
  fun i hi => by rw [h.cell (World.block_lt_of_cell? _ _ (X i hi))]; exact X i hi
theorem WordsAt.turned {w w' : World} {g b c : Nat} {m : Nat → Int} (X : WordsAt w g m) (t : Turned w w' b c) (h1 : g ≠ b) (h2 : g ≠ c) : WordsAt w' g m :=
  fun i hi => t.cell (X i hi) h1 h2
theorem WordsAt.drewN {w : World} {g : Nat} {m : Nat → Int} (X : WordsAt w g m) (n : Nat) : WordsAt (w.drewN n) g m := X
theorem WordsAt.lt {w : World} {g : Nat} {m : Nat → Int} (X : WordsAt w g m) : g < w.heap.size := World.block_lt_of_cell? _ _ (X 0 (by omega))
theorem words_at {w : World} {sb bp bw bh N : Nat} {m : Nat → Int} {wt ht : Int → Bool} (R : RamIs w sb bp bw bh N m wt ht) :
    Calls Tryz.prog 33 #[.pointer (some ⟨sb, 0, none⟩)] w fun e w' => ∃ g : Nat, e = .returned (.slice (some ⟨g, 0, none⟩) 4096 4096) ∧ WordsAt w' g m ∧ Below w.heap.size w w' ∧ w.heap.size ≤ g :=
  (words_any R).mono fun e w' ⟨h1, h2, h3⟩ => ⟨_, h1, fun i hi => by rw [Nat.zero_add]; exact h2 i hi, h3, Nat.le_refl _⟩
theorem alike_at {w : World} {g g' : Nat} {m : Nat → Int} (X : WordsAt w g m) (Y : WordsAt w g' m) :
    Calls Tryz.prog 26 #[.slice (some ⟨g, 0, none⟩) 4096 4096, .slice (some ⟨g', 0, none⟩) 4096 4096] w fun e w' => e = .returned (.int .i64 1) ∧ ∃ k, w' = w.drewN k :=
  alike_eq w g 0 g' 0 4096 4096 4096 m (by decide) X Y
end Go.Proofs.YtflagpkmebdckaaGreatDoor
/-
  Package opt: Reads.
-/
namespace Go.Proofs.YtflagpkmebdckaaGreatDoor
open Go.RowKit Go.Maps
open Num
set_option linter.unusedVariables false
end Go.Proofs.YtflagpkmebdckaaGreatDoor
/-
  Package ir's gate: a byte of memory, by what waits: slices.Backward over the stores that wait.
-/
namespace Go.Proofs.YtflagpkmebdckaaGreatDoor
open Go.RowKit Go.Maps Go.Shelf
open Num
set_option linter.unusedVariables false
attribute [local go_sem] Oper.semAt_some
abbrev Pq := { q : Pend // q.ok }
/-- the slice of stores that wait, in a block below n₀ -/
def PdIn (n₀ : Nat) (W : World) (sv : Value) (p : List Pq) : Prop :=
  (sv = .slice none 0 0 ∧ p = []) ∨ ∃ b off cap, sv = .slice (some ⟨b, off, none⟩) p.length cap ∧ b < n₀ ∧ ∀ (j : Nat) (q : Pq), p[j]? = some q → W.cell? ⟨b, off + j * 3, none⟩ = some (.int .u32 q.1.a) ∧ W.cell? ⟨b, off + j * 3 + 1, none⟩ = some (.int .i64 q.1.s) ∧ W.cell? ⟨b, off + j * 3 + 2, none⟩ = some (.int .u32 q.1.v)
theorem PdIn.below {n₀ : Nat} {A B : World} (h : Below n₀ A B) {sv : Value} {p : List Pq} : PdIn n₀ A sv p → PdIn n₀ B sv p
  | .inl e => .inl e
  | .inr ⟨b, off, cap, e, hb, hc⟩ => .inr ⟨b, off, cap, e, hb, fun j q hq => ⟨(h.cell (p := ⟨b, off + j * 3, none⟩) hb).trans (hc j q hq).1, (h.cell (p := ⟨b, off + j * 3 + 1, none⟩) hb).trans (hc j q hq).2.1, (h.cell (p := ⟨b, off + j * 3 + 2, none⟩) hb).trans (hc j q hq).2.2⟩⟩
end Go.Proofs.YtflagpkmebdckaaGreatDoor
/-
  The document's bits: two words, one by one, by a table of four.
-/
namespace Go.Proofs.YtflagpkmebdckaaGreatDoor
open Go.RowKit
open Num
set_option linter.unusedVariables false
def gB (T : Nat) : Nat → Nat → Nat → Nat
  | 0, _, _ => 0
  | n + 1, x, y => (T / 2 ^ (2 * (x % 2) + y % 2)) % 2 + 2 * gB T n (x / 2) (y / 2)
theorem gB_zero (T x y : Nat) : gB T 0 x y = 0 := rfl
theorem gB_succ (T n x y : Nat) : gB T (n + 1) x y = (T / 2 ^ (2 * (x % 2) + y % 2)) % 2 + 2 * gB T n (x / 2) (y / 2) := rfl
theorem gB_bd (T : Nat) : ∀ n x y, gB T n x y < 2 ^ n
  | 0, _, _ => by simp [gB]
  | n + 1, x, y => by
    have h1 := gB_bd T n (x / 2) (y / 2)
    have h2 := Nat.mod_lt (T / 2 ^ (2 * (x % 2) + y % 2)) (show 0 < 2 by omega)
    unfold gB
    rw [Nat.pow_succ]
    omega
theorem two_ways (x : Nat) : x % 2 = 0 ∨ x % 2 = 1 := by omega
theorem gB_and : ∀ n x y, x < 2 ^ n → y < 2 ^ n → gB 8 n x y = x &&& y
  | 0, x, y, hx, hy => by simp at hx hy; subst hx; subst hy; rfl
  | n + 1, x, y, hx, hy => by
    rw [Nat.pow_succ] at hx hy
    have ih := gB_and n (x / 2) (y / 2) (by omega) (by omega)
    have hd : (x &&& y) / 2 = x / 2 &&& y / 2 := by have := @Nat.shiftRight_and_distrib 1 x y; simpa [Nat.shiftRight_succ] using this
    have hm : (x &&& y) % 2 = (x % 2) &&& (y % 2) := by have := @Nat.and_mod_two_pow x y 1; rwa [Nat.pow_one] at this
    unfold gB
    rw [ih, ← hd]
    clear hd ih
    generalize (x &&& y) = z at *
    rcases two_ways x with h | h <;> rcases two_ways y with g | g <;> rw [h, g] at hm <;> rw [h, g] <;> simp at hm ⊢ <;> omega
theorem gB_or : ∀ n x y, x < 2 ^ n → y < 2 ^ n → gB 14 n x y = x ||| y
  | 0, x, y, hx, hy => by simp at hx hy; subst hx; subst hy; rfl
  | n + 1, x, y, hx, hy => by
    rw [Nat.pow_succ] at hx hy
    have ih := gB_or n (x / 2) (y / 2) (by omega) (by omega)
    have hd : (x ||| y) / 2 = x / 2 ||| y / 2 := by have := @Nat.shiftRight_or_distrib 1 x y; simpa [Nat.shiftRight_succ] using this
    have hm : (x ||| y) % 2 = (x % 2) ||| (y % 2) := by have := @Nat.or_mod_two_pow x y 1; rwa [Nat.pow_one] at this
    unfold gB
    rw [ih, ← hd]
    clear hd ih
    generalize (x ||| y) = z at *
    rcases two_ways x with h | h <;> rcases two_ways y with g | g <;> rw [h, g] at hm <;> rw [h, g] <;> simp at hm ⊢ <;> omega
theorem gB_xor : ∀ n x y, x < 2 ^ n → y < 2 ^ n → gB 6 n x y = x ^^^ y
  | 0, x, y, hx, hy => by simp at hx hy; subst hx; subst hy; rfl
  | n + 1, x, y, hx, hy => by
    rw [Nat.pow_succ] at hx hy
    have ih := gB_xor n (x / 2) (y / 2) (by omega) (by omega)
    have hd : (x ^^^ y) / 2 = x / 2 ^^^ y / 2 := by have := @Nat.shiftRight_xor_distrib 1 x y; simpa [Nat.shiftRight_succ] using this
    have hm : (x ^^^ y) % 2 = (x % 2) ^^^ (y % 2) := by have := @Nat.xor_mod_two_pow x y 1; rwa [Nat.pow_one] at this
    unfold gB
    rw [ih, ← hd]
    clear hd ih
    generalize (x ^^^ y) = z at *
    rcases two_ways x with h | h <;> rcases two_ways y with g | g <;> rw [h, g] at hm <;> rw [h, g] <;> simp at hm ⊢ <;> omega
theorem gB_nor (n x y : Nat) : gB 1 n x y + gB 14 n x y + 1 = 2 ^ n := by
  induction n generalizing x y with
  | zero => simp [gB]
  | succ n ih =>
    have := ih (x / 2) (y / 2)
    unfold gB
    rw [Nat.pow_succ]
    rcases two_ways x with h | h <;> rcases two_ways y with g | g <;> rw [h, g] <;> simp <;> omega
end Go.Proofs.YtflagpkmebdckaaGreatDoor
/-
  The document's bits, walked.
-/
namespace Go.Proofs.YtflagpkmebdckaaGreatDoor
open Go.RowKit
open Num
set_option linter.unusedVariables false
attribute [local irreducible] gB
set_option maxHeartbeats 400000 in
theorem bits_walk (T a b : Nat) (hT : T ≤ 15) (ha : a < 4294967296) (hb : b < 4294967296) (w : World) :
    Calls Tryz.prog 227 #[.int .u32 (a : Int), .int .u32 (b : Int), .int .i64 (T : Int)] w fun e w' => e = .returned (.int .u32 ((gB T 32 a b : Nat) : Int)) ∧ w' = w := by
  have ha' : (a : Int) < 4294967296 := by omega
  have hb' : (b : Int) < 4294967296 := by omega
  have hT' : (T : Int) ≤ 15 := by omega
  have HGB : Hid (gB T 32 a b < 4294967296) := gB_bd T 32 a b
  obtain ⟨R, hR⟩ : ∃ R, gB T 32 a b = R := ⟨_, rfl⟩
  rw [hR] at HGB ⊢
  have HG0 : Hid (R = gB T 32 a b) := hR.symm
  clear hR
  go_enter Tryz.func227, Tryz.ntmps227
  go_wp2
  go_loop [7, 8, 9, 10, 11] (fun o p x y i => ∃ (n O P X Y : Nat), n ≤ 32 ∧ i = .int .i64 n ∧ o = .int .i64 O ∧ p = .int .i64 P ∧ x = .int .i64 X ∧ y = .int .i64 Y ∧ O < P ∧ P = 2 ^ n ∧ X < 4294967296 ∧ Y < 4294967296 ∧ R = O + P * gB T (32 - n) X Y) (fun _ _ _ _ i => 32 - (intOf i).toNat)
  case atStart => exact ⟨0, 0, 1, a, b, by omega, rfl, rfl, rfl, rfl, rfl, by omega, rfl, ha, hb, by rw [Nat.zero_add, Nat.one_mul, Nat.sub_zero]; exact HG0.out⟩
  case round =>
    obtain ⟨n, O, P, X, Y, hn, rfl, rfl, rfl, rfl, rfl, hO, hP, hX, hY, hG⟩ := hrel
    have HP : Hid (P = 2 ^ n) := hP
    have HG : Hid (R = O + P * gB T (32 - n) X Y) := hG
    have hPb : P ≤ 4294967296 := by rw [hP]; exact Nat.le_trans (Nat.pow_le_pow_right (n := 2) (by omega) hn) (by decide)
    clear hP hG HG0
    by_cases hlt : n < 32
    · obtain ⟨p, X', hXe, hp, hpd, hpm⟩ : ∃ p X' : Nat, X = 2 * X' + p ∧ p < 2 ∧ X / 2 = X' ∧ X % 2 = p := ⟨X % 2, X / 2, by omega, by omega, rfl, rfl⟩
      obtain ⟨q, Y', hYe, hq, hqd, hqm⟩ : ∃ q Y' : Nat, Y = 2 * Y' + q ∧ q < 2 ∧ Y / 2 = Y' ∧ Y % 2 = q := ⟨Y % 2, Y / 2, by omega, by omega, rfl, rfl⟩
      have HS : Hid (gB T (32 - n) X Y = (T / 2 ^ (2 * p + q)) % 2 + 2 * gB T (32 - (n + 1)) X' Y') := by
        show _ = _
        rw [show 32 - n = (32 - (n + 1)) + 1 by omega, gB_succ, hpd, hpm, hqd, hqm]
      have x1 : (X : Int) % 2 = p := by omega
      have x2 : (X : Int) / 2 = X' := by omega
      have y1 : (Y : Int) % 2 = q := by omega
      have y2 : (Y : Int) / 2 = Y' := by omega
      have x3 : (X : Int).tmod 2 = p := by rw [Int.tmod_eq_emod_of_nonneg (by omega)]; exact x1
      have x4 : (X : Int).tdiv 2 = X' := by rw [Int.tdiv_eq_ediv_of_nonneg (by omega)]; exact x2
      have y3 : (Y : Int).tmod 2 = q := by rw [Int.tmod_eq_emod_of_nonneg (by omega)]; exact y1
      have y4 : (Y : Int).tdiv 2 = Y' := by rw [Int.tdiv_eq_ediv_of_nonneg (by omega)]; exact y2
      have hX' : X' < 4294967296 := by omega
      have hY' : Y' < 4294967296 := by omega
      have hp' : (p : Int) < 2 := by omega
      have hq' : (q : Int) < 2 := by omega
      have hX2 : (X : Int) < 4294967296 := by omega
      have hY2 : (Y : Int) < 4294967296 := by omega
      have hn' : (n : Int) < 32 := by omega
      have hO' : (O : Int) < P := by omega
      have hPb' : (P : Int) ≤ 4294967296 := by omega
      clear hXe hYe hpd hpm hqd hqm
      go_wp2
      go_loop [13, 14] (fun t j => ∃ jj z : Nat, jj ≤ 2 * p + q ∧ j = .int .i64 jj ∧ t = .int .i64 z ∧ z ≤ 15 ∧ T / 2 ^ (2 * p + q) = z / 2 ^ (2 * p + q - jj)) (fun _ j => 4 - (intOf j).toNat)
      case atStart => exact ⟨0, T, by omega, rfl, rfl, hT, rfl⟩
      case round =>
        obtain ⟨jj, z, hjj, rfl, rfl, hz, hTz⟩ := hrel
        have HTZ : Hid (T / 2 ^ (2 * p + q) = z / 2 ^ (2 * p + q - jj)) := hTz
        have hz' : (z : Int) ≤ 15 := by omega
        clear hTz
        by_cases hjl : jj < 2 * p + q
        · obtain ⟨z2, hz2⟩ : ∃ z2, z / 2 = z2 := ⟨_, rfl⟩
          have d1 : (z : Int) / 2 = z2 := by omega
          have d2 : (z : Int).tdiv 2 = z2 := by rw [Int.tdiv_eq_ediv_of_nonneg (by omega)]; exact d1
          have HT2 : Hid (T / 2 ^ (2 * p + q) = z2 / 2 ^ (2 * p + q - (jj + 1))) := by
            show _ = _
            rw [HTZ.out, ← hz2, show 2 * p + q - jj = (2 * p + q - (jj + 1)) + 1 by omega, Nat.pow_succ, Nat.mul_comm, Nat.div_div_eq_div_mul]
          have hjl' : (jj : Int) < 2 * p + q := by omega
          have hz2' : z2 ≤ 15 := by omega
          clear hz2
          go_wp2
          go_round
          case rel => exact ⟨jj + 1, z2, by omega, by go_num, rfl, hz2', HT2.out⟩
          case measure => simp [intOf]; omega
        · obtain rfl : jj = 2 * p + q := by omega
          obtain ⟨r, hr⟩ : ∃ r, z % 2 = r := ⟨_, rfl⟩
          have r1 : (z : Int) % 2 = r := by omega
          have r2 : (z : Int).tmod 2 = r := by rw [Int.tmod_eq_emod_of_nonneg (by omega)]; exact r1
          have HT2 : Hid (T / 2 ^ (2 * p + q) % 2 = r) := by show _ = _; rw [HTZ.out, Nat.sub_self, Nat.pow_zero, Nat.div_one, hr]
          have HE : Hid (R = (O + P * r) + (2 * P) * gB T (32 - (n + 1)) X' Y') := by
            show _ = _
            rw [HG.out, HS.out, HT2.out]
            generalize gB T (32 - (n + 1)) X' Y' = g
            rw [Nat.mul_add, ← Nat.mul_assoc, Nat.mul_comm P 2, Nat.add_assoc]
          have HP2 : Hid (2 * P = 2 ^ (n + 1)) := by show _ = _; rw [Nat.pow_succ, HP.out, Nat.mul_comm]
          have hr2 : r = 0 ∨ r = 1 := by omega
          clear hr HTZ HG HS HP HT2
          rcases hr2 with rfl | rfl
          · go_wp2
            go_round
            case rel => exact ⟨n + 1, O, 2 * P, X', Y', by omega, by go_num, by go_num, by go_num, rfl, rfl, by omega, HP2.out, hX', hY', by have := HE.out; rwa [Nat.mul_zero, Nat.add_zero] at this⟩
            case measure => simp [intOf]; omega
          · go_wp2
            go_round
            case rel => exact ⟨n + 1, O + P, 2 * P, X', Y', by omega, by go_num, by go_num, by go_num, rfl, rfl, by omega, HP2.out, hX', hY', by have := HE.out; rwa [Nat.mul_one] at this⟩
            case measure => simp [intOf]; omega
    · obtain rfl : n = 32 := by omega
      have HR : Hid (O = R) := by show _ = _; have := HG.out; rw [Nat.sub_self, gB_zero] at this; omega
      have hO' : (O : Int) < 4294967296 := by have := HR.out; have := HGB.out; omega
      go_wp2
      go_ret
      exact ⟨ret_int (by rw [← HR.out]), rfl⟩
end Go.Proofs.YtflagpkmebdckaaGreatDoor
/-
  The document's SumOf.
-/
namespace Go.Proofs.YtflagpkmebdckaaGreatDoor
open Go.RowKit
open Num
set_option linter.unusedVariables false
theorem gB_ones : ∀ n z, z < 2 ^ n → gB 6 n (2 ^ n - 1) z = 2 ^ n - 1 - z
  | 0, z, hz => by simp at hz; subst hz; rfl
  | n + 1, z, hz => by
    have h0 : 0 < 2 ^ n := Nat.two_pow_pos n
    rw [Nat.pow_succ] at hz
    have ih := gB_ones n (z / 2) (by omega)
    have e1 : (2 ^ (n + 1) - 1) % 2 = 1 := by rw [Nat.pow_succ]; omega
    have e2 : (2 ^ (n + 1) - 1) / 2 = 2 ^ n - 1 := by rw [Nat.pow_succ]; omega
    rw [gB_succ, e1, e2, ih, Nat.pow_succ]
    rcases two_ways z with g | g <;> rw [g] <;> simp <;> omega
theorem xor_ones (z : Nat) (hz : z < 4294967296) : 4294967295 ^^^ z = 4294967295 - z := by
  rw [← gB_xor 32 4294967295 z (by decide) hz]
  exact gB_ones 32 z hz
theorem bitsD (T : Nat) (hT : T ≤ 15) (op : BinOp) (a b : Int) (h0 : 0 ≤ a) (h1 : a < 4294967296) (g0 : 0 ≤ b) (g1 : b < 4294967296) (v : Int) (hv : ∀ x y : Nat, x < 4294967296 → y < 4294967296 → a = x → b = y → v = ((gB T 32 x y : Nat) : Int)) (w : World) :
    Calls Tryz.prog 227 #[.int .u32 a, .int .u32 b, .int .i64 (T : Int)] w fun e w' => e = .returned (.int .u32 v) ∧ w' = w := by
  obtain ⟨x, rfl⟩ : ∃ n : Nat, a = n := ⟨a.toNat, by omega⟩
  obtain ⟨y, rfl⟩ : ∃ n : Nat, b = n := ⟨b.toNat, by omega⟩
  rw [hv x y (by omega) (by omega) rfl rfl]
  exact bits_walk T x y hT (by omega) (by omega) w
theorem bits_8 (a b : Int) (h0 : 0 ≤ a) (h1 : a < 4294967296) (g0 : 0 ≤ b) (g1 : b < 4294967296) (w : World) : Calls Tryz.prog 227 #[.int .u32 a, .int .u32 b, .int .i64 8] w fun e w' => e = .returned (.int .u32 (bits .and .u32 a b)) ∧ w' = w :=
  bitsD 8 (by omega) .and a b h0 h1 g0 g1 _ (fun x y hx hy ea eb => by rw [ea, eb, u32_and_nat x y hx hy, gB_and 32 x y hx hy]) w
theorem bits_14 (a b : Int) (h0 : 0 ≤ a) (h1 : a < 4294967296) (g0 : 0 ≤ b) (g1 : b < 4294967296) (w : World) : Calls Tryz.prog 227 #[.int .u32 a, .int .u32 b, .int .i64 14] w fun e w' => e = .returned (.int .u32 (bits .or .u32 a b)) ∧ w' = w :=
  bitsD 14 (by omega) .or a b h0 h1 g0 g1 _ (fun x y hx hy ea eb => by rw [ea, eb, u32_or_nat x y hx hy, gB_or 32 x y hx hy]) w
theorem bits_6 (a b : Int) (h0 : 0 ≤ a) (h1 : a < 4294967296) (g0 : 0 ≤ b) (g1 : b < 4294967296) (w : World) : Calls Tryz.prog 227 #[.int .u32 a, .int .u32 b, .int .i64 6] w fun e w' => e = .returned (.int .u32 (bits .xor .u32 a b)) ∧ w' = w :=
  bitsD 6 (by omega) .xor a b h0 h1 g0 g1 _ (fun x y hx hy ea eb => by rw [ea, eb, u32_xor_nat x y hx hy, gB_xor 32 x y hx hy]) w
theorem bits_1 (a b : Int) (h0 : 0 ≤ a) (h1 : a < 4294967296) (g0 : 0 ≤ b) (g1 : b < 4294967296) (w : World) : Calls Tryz.prog 227 #[.int .u32 a, .int .u32 b, .int .i64 1] w fun e w' => e = .returned (.int .u32 (bits .xor .u32 4294967295 (bits .or .u32 a b))) ∧ w' = w :=
  bitsD 1 (by omega) .xor a b h0 h1 g0 g1 _ (fun x y hx hy ea eb => by
    have hz : (x ||| y) < 4294967296 := Nat.or_lt_two_pow (n := 32) hx hy
    have hn := gB_nor 32 x y
    rw [gB_or 32 x y hx hy] at hn
    have hn2 : gB 1 32 x y + (x ||| y) + 1 = 4294967296 := hn
    have e := u32_xor_nat 4294967295 (x ||| y) (by omega) hz
    rw [ea, eb, u32_or_nat x y hx hy]
    rw [show ((4294967295 : Nat) : Int) = 4294967295 from rfl] at e
    rw [e, xor_ones _ hz]
    omega) w
set_option maxHeartbeats 400000 in
theorem plus2_any (a b : Int) (h0 : 0 ≤ a) (h1 : a < 4294967296) (g0 : 0 ≤ b) (g1 : b < 4294967296) (w : World) : Calls Tryz.prog 102 #[.int .u32 a, .int .u32 b] w fun e w' => e = .returned (.int .u32 (lo (a + b))) ∧ w' = w := by
  go_enter Tryz.func102, Tryz.ntmps102
  go_wp2_with (go_at_call 101; refine (word_any _ (by omega) (by omega) _).mono ?_; rintro e w' ⟨rfl, rfl⟩)
  go_ret
  exact ⟨rfl, rfl⟩
set_option maxHeartbeats 400000 in
theorem bitD_any (y : Bool) (w : World) : Calls Tryz.prog 228 #[.bool y] w fun e w' => e = .returned (.int .u32 (if y = true then 1 else 0)) ∧ w' = w := by
  cases y
  all_goals
    go_enter Tryz.func228, Tryz.ntmps228
    go_wp2
    go_ret
    exact ⟨rfl, rfl⟩
set_option maxHeartbeats 1000000 in
theorem sumOf_3 (a b : Int) (h0 : 0 ≤ a) (h1 : a < 4294967296) (g0 : 0 ≤ b) (g1 : b < 4294967296) (w : World) : Calls Tryz.prog 190 #[.string ⟨#[97, 100, 100]⟩, .int .u32 a, .int .u32 b] w fun e w' => e = .returned (.int .u32 (lo (a + b))) ∧ w' = w := by
  have hc0 := fun w => plus2_any a b h0 h1 g0 g1 w
  go_enter Tryz.func190, Tryz.ntmps190
  go_wp2_with fail
  refine (hc0 _).mono ?_
  rintro e w1 ⟨rfl, hw⟩
  rw [hw]
  clear hw w1
  go_wp2
  go_ret
  exact ⟨rfl, rfl⟩
set_option maxHeartbeats 1000000 in
theorem sumOf_4 (a b : Int) (h0 : 0 ≤ a) (h1 : a < 4294967296) (g0 : 0 ≤ b) (g1 : b < 4294967296) (w : World) : Calls Tryz.prog 190 #[.string ⟨#[115, 117, 98]⟩, .int .u32 a, .int .u32 b] w fun e w' => e = .returned (.int .u32 (lo (a - b))) ∧ w' = w := by
  have hc0 := fun w => word_any (a - b) (by omega) (by omega) w
  go_enter Tryz.func190, Tryz.ntmps190
  go_wp2_with fail
  refine (hc0 _).mono ?_
  rintro e w1 ⟨rfl, hw⟩
  rw [hw]
  clear hw w1
  go_wp2
  go_ret
  exact ⟨rfl, rfl⟩
set_option maxHeartbeats 1000000 in
theorem sumOf_5 (a b : Int) (h0 : 0 ≤ a) (h1 : a < 4294967296) (g0 : 0 ≤ b) (g1 : b < 4294967296) (w : World) : Calls Tryz.prog 190 #[.string ⟨#[97, 110, 100]⟩, .int .u32 a, .int .u32 b] w fun e w' => e = .returned (.int .u32 (bits .and .u32 a b)) ∧ w' = w := by
  have hc0 := fun w => bits_8 a b h0 h1 g0 g1 w
  generalize bits .and .u32 a b = y at *
  go_enter Tryz.func190, Tryz.ntmps190
  go_wp2_with fail
  refine (hc0 _).mono ?_
  rintro e w1 ⟨rfl, hw⟩
  rw [hw]
  clear hw w1
  go_wp2
  go_ret
  exact ⟨rfl, rfl⟩
set_option maxHeartbeats 1000000 in
theorem sumOf_6 (a b : Int) (h0 : 0 ≤ a) (h1 : a < 4294967296) (g0 : 0 ≤ b) (g1 : b < 4294967296) (w : World) : Calls Tryz.prog 190 #[.string ⟨#[111, 114]⟩, .int .u32 a, .int .u32 b] w fun e w' => e = .returned (.int .u32 (bits .or .u32 a b)) ∧ w' = w := by
  have hc0 := fun w => bits_14 a b h0 h1 g0 g1 w
  generalize bits .or .u32 a b = y at *
  go_enter Tryz.func190, Tryz.ntmps190
  go_wp2_with fail
  refine (hc0 _).mono ?_
  rintro e w1 ⟨rfl, hw⟩
  rw [hw]
  clear hw w1
  go_wp2
  go_ret
  exact ⟨rfl, rfl⟩
set_option maxHeartbeats 1000000 in
theorem sumOf_7 (a b : Int) (h0 : 0 ≤ a) (h1 : a < 4294967296) (g0 : 0 ≤ b) (g1 : b < 4294967296) (w : World) : Calls Tryz.prog 190 #[.string ⟨#[120, 111, 114]⟩, .int .u32 a, .int .u32 b] w fun e w' => e = .returned (.int .u32 (bits .xor .u32 a b)) ∧ w' = w := by
  have hc0 := fun w => bits_6 a b h0 h1 g0 g1 w
  generalize bits .xor .u32 a b = y at *
  go_enter Tryz.func190, Tryz.ntmps190
  go_wp2_with fail
  refine (hc0 _).mono ?_
  rintro e w1 ⟨rfl, hw⟩
  rw [hw]
  clear hw w1
  go_wp2
  go_ret
  exact ⟨rfl, rfl⟩
set_option maxHeartbeats 1000000 in
theorem sumOf_8 (a b : Int) (h0 : 0 ≤ a) (h1 : a < 4294967296) (g0 : 0 ≤ b) (g1 : b < 4294967296) (w : World) : Calls Tryz.prog 190 #[.string ⟨#[110, 111, 114]⟩, .int .u32 a, .int .u32 b] w fun e w' => e = .returned (.int .u32 (bits .xor .u32 4294967295 (bits .or .u32 a b))) ∧ w' = w := by
  have hc0 := fun w => bits_1 a b h0 h1 g0 g1 w
  generalize bits .xor .u32 4294967295 (bits .or .u32 a b) = y at *
  go_enter Tryz.func190, Tryz.ntmps190
  go_wp2_with fail
  refine (hc0 _).mono ?_
  rintro e w1 ⟨rfl, hw⟩
  rw [hw]
  clear hw w1
  go_wp2
  go_ret
  exact ⟨rfl, rfl⟩
set_option maxHeartbeats 1000000 in
theorem sumOf_9 (a b : Int) (h0 : 0 ≤ a) (h1 : a < 4294967296) (g0 : 0 ≤ b) (g1 : b < 4294967296) (w : World) : Calls Tryz.prog 190 #[.string ⟨#[115, 108, 116]⟩, .int .u32 a, .int .u32 b] w fun e w' => e = .returned (.int .u32 (if lessB a b true = true then 1 else 0)) ∧ w' = w := by
  have hc0 := fun w => lessOf_any a b true h0 h1 g0 g1 w
  have hc1 := fun w => bitD_any (lessB a b true) w
  generalize lessB a b true = y at *
  generalize (if y = true then (1 : Int) else 0) = v at *
  go_enter Tryz.func190, Tryz.ntmps190
  go_wp2_with fail
  refine (hc0 _).mono ?_
  rintro e w1 ⟨rfl, hw⟩
  rw [hw]
  clear hw w1
  go_wp2_with fail
  refine (hc1 _).mono ?_
  rintro e w2 ⟨rfl, hw⟩
  rw [hw]
  clear hw w2
  go_wp2
  go_ret
  exact ⟨rfl, rfl⟩
set_option maxHeartbeats 1000000 in
theorem sumOf_10 (a b : Int) (h0 : 0 ≤ a) (h1 : a < 4294967296) (g0 : 0 ≤ b) (g1 : b < 4294967296) (w : World) : Calls Tryz.prog 190 #[.string ⟨#[115, 108, 116, 117]⟩, .int .u32 a, .int .u32 b] w fun e w' => e = .returned (.int .u32 (if lessB a b false = true then 1 else 0)) ∧ w' = w := by
  have hc0 := fun w => lessOf_any a b false h0 h1 g0 g1 w
  have hc1 := fun w => bitD_any (lessB a b false) w
  generalize lessB a b false = y at *
  generalize (if y = true then (1 : Int) else 0) = v at *
  go_enter Tryz.func190, Tryz.ntmps190
  go_wp2_with fail
  refine (hc0 _).mono ?_
  rintro e w1 ⟨rfl, hw⟩
  rw [hw]
  clear hw w1
  go_wp2_with fail
  refine (hc1 _).mono ?_
  rintro e w2 ⟨rfl, hw⟩
  rw [hw]
  clear hw w2
  go_wp2
  go_ret
  exact ⟨rfl, rfl⟩
set_option maxHeartbeats 1000000 in
theorem sumOf_11 (a b : Int) (h0 : 0 ≤ a) (h1 : a < 4294967296) (g0 : 0 ≤ b) (g1 : b < 4294967296) (w : World) : Calls Tryz.prog 190 #[.string ⟨#[115, 104, 108]⟩, .int .u32 a, .int .u32 b] w fun e w' => e = .returned (.int .u32 (shf 60 a b)) ∧ w' = w := by
  have hc0 := fun w => shiftOf_any 60 a b h0 h1 g0 w
  generalize shf 60 a b = y at *
  go_enter Tryz.func190, Tryz.ntmps190
  go_wp2_with fail
  refine (hc0 _).mono ?_
  rintro e w1 ⟨rfl, hw⟩
  rw [hw]
  clear hw w1
  go_wp2
  go_ret
  exact ⟨rfl, rfl⟩
set_option maxHeartbeats 1000000 in
theorem sumOf_12 (a b : Int) (h0 : 0 ≤ a) (h1 : a < 4294967296) (g0 : 0 ≤ b) (g1 : b < 4294967296) (w : World) : Calls Tryz.prog 190 #[.string ⟨#[115, 104, 114]⟩, .int .u32 a, .int .u32 b] w fun e w' => e = .returned (.int .u32 (shf 62 a b)) ∧ w' = w := by
  have hc0 := fun w => shiftOf_any 62 a b h0 h1 g0 w
  generalize shf 62 a b = y at *
  go_enter Tryz.func190, Tryz.ntmps190
  go_wp2_with fail
  refine (hc0 _).mono ?_
  rintro e w1 ⟨rfl, hw⟩
  rw [hw]
  clear hw w1
  go_wp2
  go_ret
  exact ⟨rfl, rfl⟩
set_option maxHeartbeats 1000000 in
theorem sumOf_13 (a b : Int) (h0 : 0 ≤ a) (h1 : a < 4294967296) (g0 : 0 ≤ b) (g1 : b < 4294967296) (w : World) : Calls Tryz.prog 190 #[.string ⟨#[115, 97, 114]⟩, .int .u32 a, .int .u32 b] w fun e w' => e = .returned (.int .u32 (shf 126 a b)) ∧ w' = w := by
  have hc0 := fun w => shiftOf_any 126 a b h0 h1 g0 w
  generalize shf 126 a b = y at *
  go_enter Tryz.func190, Tryz.ntmps190
  go_wp2_with fail
  refine (hc0 _).mono ?_
  rintro e w1 ⟨rfl, hw⟩
  rw [hw]
  clear hw w1
  go_wp2
  go_ret
  exact ⟨rfl, rfl⟩
set_option maxHeartbeats 1000000 in
theorem sumOf_14 (a b : Int) (h0 : 0 ≤ a) (h1 : a < 4294967296) (g0 : 0 ≤ b) (g1 : b < 4294967296) (w : World) : Calls Tryz.prog 190 #[.string ⟨#[109, 117, 108]⟩, .int .u32 a, .int .u32 b] w fun e w' => e = .returned (.int .u32 (lo (a * b))) ∧ w' = w := by
  have hc0 := fun w => mulOf_u a b h0 h1 g0 g1 w
  generalize lo (a * b) = y at *
  go_enter Tryz.func190, Tryz.ntmps190
  go_wp2_with fail
  refine (hc0 _).mono ?_
  rintro e w1 ⟨rfl, hw⟩
  rw [hw]
  clear hw w1
  go_wp2
  go_ret
  exact ⟨rfl, rfl⟩
set_option maxHeartbeats 1000000 in
theorem sumOf_15 (a b : Int) (h0 : 0 ≤ a) (h1 : a < 4294967296) (g0 : 0 ≤ b) (g1 : b < 4294967296) (w : World) : Calls Tryz.prog 190 #[.string ⟨#[109, 117, 108, 104]⟩, .int .u32 a, .int .u32 b] w fun e w' => e = .returned (.int .u32 (hi (nm a true * nm b true))) ∧ w' = w := by
  have hc0 := fun w => mulOf_any a b true h0 h1 g0 g1 w
  generalize hi (nm a true * nm b true) = y at *
  go_enter Tryz.func190, Tryz.ntmps190
  go_wp2_with fail
  refine (hc0 _).mono ?_
  rintro e w1 ⟨rfl, hw⟩
  rw [hw]
  clear hw w1
  go_wp2
  go_ret
  exact ⟨rfl, rfl⟩
set_option maxHeartbeats 1000000 in
theorem sumOf_16 (a b : Int) (h0 : 0 ≤ a) (h1 : a < 4294967296) (g0 : 0 ≤ b) (g1 : b < 4294967296) (w : World) : Calls Tryz.prog 190 #[.string ⟨#[109, 117, 108, 104, 117]⟩, .int .u32 a, .int .u32 b] w fun e w' => e = .returned (.int .u32 (hi (a * b))) ∧ w' = w := by
  have hc0 := fun w => mulOf_u a b h0 h1 g0 g1 w
  generalize hi (a * b) = y at *
  go_enter Tryz.func190, Tryz.ntmps190
  go_wp2_with fail
  refine (hc0 _).mono ?_
  rintro e w1 ⟨rfl, hw⟩
  rw [hw]
  clear hw w1
  go_wp2
  go_ret
  exact ⟨rfl, rfl⟩
theorem sumOf_any (k : Nat) (hk : 3 ≤ k ∧ k ≤ 16) (a b d i : Int) (h0 : 0 ≤ a) (h1 : a < 4294967296) (g0 : 0 ≤ b) (g1 : b < 4294967296) (w : World) : Calls Tryz.prog 190 #[.string (kindS k), .int .u32 a, .int .u32 b] w fun e w' => e = .returned (.int .u32 (valV k a b d i)) ∧ w' = w := by
  have h : k = 3 ∨ k = 4 ∨ k = 5 ∨ k = 6 ∨ k = 7 ∨ k = 8 ∨ k = 9 ∨ k = 10 ∨ k = 11 ∨ k = 12 ∨ k = 13 ∨ k = 14 ∨ k = 15 ∨ k = 16 := by omega
  rcases h with rfl | rfl | rfl | rfl | rfl | rfl | rfl | rfl | rfl | rfl | rfl | rfl | rfl | rfl
  · exact sumOf_3 a b h0 h1 g0 g1 w
  · exact sumOf_4 a b h0 h1 g0 g1 w
  · exact sumOf_5 a b h0 h1 g0 g1 w
  · exact sumOf_6 a b h0 h1 g0 g1 w
  · exact sumOf_7 a b h0 h1 g0 g1 w
  · exact sumOf_8 a b h0 h1 g0 g1 w
  · exact sumOf_9 a b h0 h1 g0 g1 w
  · exact sumOf_10 a b h0 h1 g0 g1 w
  · exact sumOf_11 a b h0 h1 g0 g1 w
  · exact sumOf_12 a b h0 h1 g0 g1 w
  · exact sumOf_13 a b h0 h1 g0 g1 w
  · exact sumOf_14 a b h0 h1 g0 g1 w
  · exact sumOf_15 a b h0 h1 g0 g1 w
  · exact sumOf_16 a b h0 h1 g0 g1 w
end Go.Proofs.YtflagpkmebdckaaGreatDoor
