/-
  Package ir: what a kind makes of two registers.
-/
import Derived.Maps.OwnSet
import Derived.WalkSpells
import Derived.Test.YtflagpkmebdckaaGreatDoorKNum
import Derived.Test.YtflagpkmebdckaaGreatDoorKIrChk
import Derived.Test.YtflagpkmebdckaaGreatDoorKOptPure
import Derived.Test.YtflagpkmebdckaaGreatDoorJDocW
import Derived.Test.YtflagpkmebdckaaGreatDoorKSerial
import Derived.Test.YtflagpkmebdckaaGreatDoorKOptFns
import Derived.Test.YtflagpkmebdckaaGreatDoorKRowsI
namespace Go.Proofs.YtflagpkmebdckaaGreatDoor
open Go.RowKit
open Num
set_option linter.unusedVariables false
set_option maxHeartbeats 400000 in
theorem bit_any (y : Bool) (w : World) : Calls Tryz.prog 238 #[.bool y] w fun e w' => e = .returned (.int .u32 (if y = true then 1 else 0)) ∧ w' = w := by
  cases y
  all_goals
    go_enter Tryz.func238, Tryz.ntmps238
    go_wp2
    go_ret
    exact ⟨rfl, rfl⟩
set_option maxHeartbeats 1000000 in
theorem result_3 (a b : Int) (h0 : 0 ≤ a) (h1 : a < 4294967296) (g0 : 0 ≤ b) (g1 : b < 4294967296) (w : World) : Calls Tryz.prog 200 #[.string ⟨#[97, 100, 100]⟩, .int .u32 a, .int .u32 b] w fun e w' => e = .returned (.int .u32 (lo (a + b))) ∧ w' = w := by
  go_enter Tryz.func200, Tryz.ntmps200
  go_wp2
  all_goals
    go_ret
    exact ⟨ret_int (by unfold lo; rfl), rfl⟩
set_option maxHeartbeats 1000000 in
theorem result_4 (a b : Int) (h0 : 0 ≤ a) (h1 : a < 4294967296) (g0 : 0 ≤ b) (g1 : b < 4294967296) (w : World) : Calls Tryz.prog 200 #[.string ⟨#[115, 117, 98]⟩, .int .u32 a, .int .u32 b] w fun e w' => e = .returned (.int .u32 (lo (a - b))) ∧ w' = w := by
  go_enter Tryz.func200, Tryz.ntmps200
  go_wp2
  all_goals
    go_ret
    exact ⟨ret_int (by unfold lo; rfl), rfl⟩
set_option maxHeartbeats 1000000 in
theorem result_5 (a b : Int) (h0 : 0 ≤ a) (h1 : a < 4294967296) (g0 : 0 ≤ b) (g1 : b < 4294967296) (w : World) : Calls Tryz.prog 200 #[.string ⟨#[97, 110, 100]⟩, .int .u32 a, .int .u32 b] w fun e w' => e = .returned (.int .u32 (bits .and .u32 a b)) ∧ w' = w := by
  go_enter Tryz.func200, Tryz.ntmps200
  go_wp2
  all_goals
    go_ret
    exact ⟨rfl, rfl⟩
set_option maxHeartbeats 1000000 in
theorem result_6 (a b : Int) (h0 : 0 ≤ a) (h1 : a < 4294967296) (g0 : 0 ≤ b) (g1 : b < 4294967296) (w : World) : Calls Tryz.prog 200 #[.string ⟨#[111, 114]⟩, .int .u32 a, .int .u32 b] w fun e w' => e = .returned (.int .u32 (bits .or .u32 a b)) ∧ w' = w := by
  go_enter Tryz.func200, Tryz.ntmps200
  go_wp2
  all_goals
    go_ret
    exact ⟨rfl, rfl⟩
set_option maxHeartbeats 1000000 in
theorem result_7 (a b : Int) (h0 : 0 ≤ a) (h1 : a < 4294967296) (g0 : 0 ≤ b) (g1 : b < 4294967296) (w : World) : Calls Tryz.prog 200 #[.string ⟨#[120, 111, 114]⟩, .int .u32 a, .int .u32 b] w fun e w' => e = .returned (.int .u32 (bits .xor .u32 a b)) ∧ w' = w := by
  go_enter Tryz.func200, Tryz.ntmps200
  go_wp2
  all_goals
    go_ret
    exact ⟨rfl, rfl⟩
set_option maxHeartbeats 1000000 in
theorem result_8 (a b : Int) (h0 : 0 ≤ a) (h1 : a < 4294967296) (g0 : 0 ≤ b) (g1 : b < 4294967296) (w : World) : Calls Tryz.prog 200 #[.string ⟨#[110, 111, 114]⟩, .int .u32 a, .int .u32 b] w fun e w' => e = .returned (.int .u32 (bits .xor .u32 4294967295 (bits .or .u32 a b))) ∧ w' = w := by
  go_enter Tryz.func200, Tryz.ntmps200
  go_wp2
  all_goals
    go_ret
    exact ⟨rfl, rfl⟩
set_option maxHeartbeats 1000000 in
theorem result_9 (a b : Int) (h0 : 0 ≤ a) (h1 : a < 4294967296) (g0 : 0 ≤ b) (g1 : b < 4294967296) (w : World) : Calls Tryz.prog 200 #[.string ⟨#[115, 108, 116]⟩, .int .u32 a, .int .u32 b] w fun e w' => e = .returned (.int .u32 (if lessB a b true = true then 1 else 0)) ∧ w' = w := by
  have hl := less_any a b true h0 h1 g0 g1
  generalize lessB a b true = y at *
  go_enter Tryz.func200, Tryz.ntmps200
  go_wp2_with (first | (go_at_call 217; refine (hl _).mono ?_; rintro e w' ⟨rfl, rfl⟩) | (go_at_call 238; refine (bit_any _ _).mono ?_; rintro e w' ⟨rfl, rfl⟩))
  all_goals
    go_ret
    exact ⟨rfl, rfl⟩
set_option maxHeartbeats 1000000 in
theorem result_10 (a b : Int) (h0 : 0 ≤ a) (h1 : a < 4294967296) (g0 : 0 ≤ b) (g1 : b < 4294967296) (w : World) : Calls Tryz.prog 200 #[.string ⟨#[115, 108, 116, 117]⟩, .int .u32 a, .int .u32 b] w fun e w' => e = .returned (.int .u32 (if lessB a b false = true then 1 else 0)) ∧ w' = w := by
  have hl := less_any a b false h0 h1 g0 g1
  generalize lessB a b false = y at *
  go_enter Tryz.func200, Tryz.ntmps200
  go_wp2_with (first | (go_at_call 217; refine (hl _).mono ?_; rintro e w' ⟨rfl, rfl⟩) | (go_at_call 238; refine (bit_any _ _).mono ?_; rintro e w' ⟨rfl, rfl⟩))
  all_goals
    go_ret
    exact ⟨rfl, rfl⟩
set_option maxHeartbeats 1000000 in
theorem result_11 (a b : Int) (h0 : 0 ≤ a) (h1 : a < 4294967296) (g0 : 0 ≤ b) (g1 : b < 4294967296) (w : World) : Calls Tryz.prog 200 #[.string ⟨#[115, 104, 108]⟩, .int .u32 a, .int .u32 b] w fun e w' => e = .returned (.int .u32 (shf 60 a b)) ∧ w' = w := by
  go_enter Tryz.func200, Tryz.ntmps200
  go_wp2_with (first | (go_at_call 84; refine (shift_any _ _ _ h0 h1 g0 _).mono ?_; rintro e w' ⟨rfl, rfl⟩))
  all_goals
    go_ret
    exact ⟨rfl, rfl⟩
set_option maxHeartbeats 1000000 in
theorem result_12 (a b : Int) (h0 : 0 ≤ a) (h1 : a < 4294967296) (g0 : 0 ≤ b) (g1 : b < 4294967296) (w : World) : Calls Tryz.prog 200 #[.string ⟨#[115, 104, 114]⟩, .int .u32 a, .int .u32 b] w fun e w' => e = .returned (.int .u32 (shf 62 a b)) ∧ w' = w := by
  go_enter Tryz.func200, Tryz.ntmps200
  go_wp2_with (first | (go_at_call 84; refine (shift_any _ _ _ h0 h1 g0 _).mono ?_; rintro e w' ⟨rfl, rfl⟩))
  all_goals
    go_ret
    exact ⟨rfl, rfl⟩
set_option maxHeartbeats 1000000 in
theorem result_13 (a b : Int) (h0 : 0 ≤ a) (h1 : a < 4294967296) (g0 : 0 ≤ b) (g1 : b < 4294967296) (w : World) : Calls Tryz.prog 200 #[.string ⟨#[115, 97, 114]⟩, .int .u32 a, .int .u32 b] w fun e w' => e = .returned (.int .u32 (shf 126 a b)) ∧ w' = w := by
  go_enter Tryz.func200, Tryz.ntmps200
  go_wp2_with (first | (go_at_call 84; refine (shift_any _ _ _ h0 h1 g0 _).mono ?_; rintro e w' ⟨rfl, rfl⟩))
  all_goals
    go_ret
    exact ⟨rfl, rfl⟩
set_option maxHeartbeats 1000000 in
theorem result_14 (a b : Int) (h0 : 0 ≤ a) (h1 : a < 4294967296) (g0 : 0 ≤ b) (g1 : b < 4294967296) (w : World) : Calls Tryz.prog 200 #[.string ⟨#[109, 117, 108]⟩, .int .u32 a, .int .u32 b] w fun e w' => e = .returned (.int .u32 (lo (a * b))) ∧ w' = w := by
  go_enter Tryz.func200, Tryz.ntmps200
  go_wp2_with (first | (go_at_call 170; refine (mul_any _ _ _ h0 h1 g0 g1 _).mono ?_; rintro e w' ⟨rfl, rfl⟩))
  all_goals
    go_ret
    exact ⟨rfl, rfl⟩
set_option maxHeartbeats 1000000 in
theorem result_15 (a b : Int) (h0 : 0 ≤ a) (h1 : a < 4294967296) (g0 : 0 ≤ b) (g1 : b < 4294967296) (w : World) : Calls Tryz.prog 200 #[.string ⟨#[109, 117, 108, 104]⟩, .int .u32 a, .int .u32 b] w fun e w' => e = .returned (.int .u32 (hi (nm a true * nm b true))) ∧ w' = w := by
  go_enter Tryz.func200, Tryz.ntmps200
  go_wp2_with (first | (go_at_call 170; refine (mul_any _ _ _ h0 h1 g0 g1 _).mono ?_; rintro e w' ⟨rfl, rfl⟩))
  all_goals
    go_ret
    exact ⟨rfl, rfl⟩
set_option maxHeartbeats 1000000 in
theorem result_16 (a b : Int) (h0 : 0 ≤ a) (h1 : a < 4294967296) (g0 : 0 ≤ b) (g1 : b < 4294967296) (w : World) : Calls Tryz.prog 200 #[.string ⟨#[109, 117, 108, 104, 117]⟩, .int .u32 a, .int .u32 b] w fun e w' => e = .returned (.int .u32 (hi (a * b))) ∧ w' = w := by
  go_enter Tryz.func200, Tryz.ntmps200
  go_wp2_with (first | (go_at_call 170; refine (mul_any _ _ _ h0 h1 g0 g1 _).mono ?_; rintro e w' ⟨rfl, rfl⟩))
  all_goals
    go_ret
    exact ⟨rfl, rfl⟩
theorem result_any (k : Nat) (hk : 3 ≤ k ∧ k ≤ 16) (a b d i : Int) (h0 : 0 ≤ a) (h1 : a < 4294967296) (g0 : 0 ≤ b) (g1 : b < 4294967296) (w : World) : Calls Tryz.prog 200 #[.string (kindS k), .int .u32 a, .int .u32 b] w fun e w' => e = .returned (.int .u32 (valV k a b d i)) ∧ w' = w := by
  have h : k = 3 ∨ k = 4 ∨ k = 5 ∨ k = 6 ∨ k = 7 ∨ k = 8 ∨ k = 9 ∨ k = 10 ∨ k = 11 ∨ k = 12 ∨ k = 13 ∨ k = 14 ∨ k = 15 ∨ k = 16 := by omega
  rcases h with rfl | rfl | rfl | rfl | rfl | rfl | rfl | rfl | rfl | rfl | rfl | rfl | rfl | rfl
  · exact result_3 a b h0 h1 g0 g1 w
  · exact result_4 a b h0 h1 g0 g1 w
  · exact result_5 a b h0 h1 g0 g1 w
  · exact result_6 a b h0 h1 g0 g1 w
  · exact result_7 a b h0 h1 g0 g1 w
  · exact result_8 a b h0 h1 g0 g1 w
  · exact result_9 a b h0 h1 g0 g1 w
  · exact result_10 a b h0 h1 g0 g1 w
  · exact result_11 a b h0 h1 g0 g1 w
  · exact result_12 a b h0 h1 g0 g1 w
  · exact result_13 a b h0 h1 g0 g1 w
  · exact result_14 a b h0 h1 g0 g1 w
  · exact result_15 a b h0 h1 g0 g1 w
  · exact result_16 a b h0 h1 g0 g1 w
end Go.Proofs.YtflagpkmebdckaaGreatDoor
/-
  Package opt: what is known of registers, in a map.
-/
namespace Go.Proofs.YtflagpkmebdckaaGreatDoor
open Go.RowKit Go.Maps
open Num
set_option linter.unusedVariables false
theorem zeroU (w : World) : (zeroValue 22).run Tryz.prog w = .ok (.int .u32 0) w := by kernel_rfl
/-- facts in a map -/
structure FactsAt (w : World) (b N : Nat) (f : Fx) : Prop where
  own : ∃ D : DataW Value, w.ownsMap Tryz.prog 3 heldE b N D ∧ (∀ x : Int, Maps.has D (.int .i64 x) = (f x).isSome) ∧ ∀ (x v : Int), f x = some v → D.atKey (.int .i64 x) (.held (.int .u32 0)) = .held (.int .u32 v)
  bd : ∀ x v, f x = some v → 0 ≤ v ∧ v < 4294967296
theorem FactsAt.lt {w : World} {b N : Nat} {f : Fx} (F : FactsAt w b N f) : b < w.heap.size := let ⟨_, h, _⟩ := F.own; h.lt
theorem FactsAt.stays {w w' : World} {b N : Nat} {f : Fx} (F : FactsAt w b N f) (h : Below w.heap.size w w') : FactsAt w' b N f := by
  obtain ⟨D, h1, h2, h3⟩ := F.own
  exact ⟨⟨D, h1.kept ⟨h.os, h.tape, h.output, h.size, fun k hk _ => h.block k hk⟩ (row := none) (by simp), h2, h3⟩, F.bd⟩
theorem FactsAt.look {w : World} {b N : Nat} {f : Fx} (F : FactsAt w b N f) (n v : Int) (h : f n = some v) (h0 : -9223372036854775808 ≤ n) (h1 : n ≤ 9223372036854775807) : (Instr.lookup 222 (.map (some b)) (.int .i64 n) false).run Tryz.prog w = .ok (.int .u32 v) w := by
  obtain ⟨D, g1, g2, g3⟩ := F.own
  obtain ⟨u, ps, hrun, hv⟩ := g1.lookup law3 Tryz.underlying222 (zeroU w) (zd := .held (.int .u32 0)) (zp := []) rfl (key3 h0 h1)
  rw [g3 n v h] at hv
  simp only [heldE, Option.some.injEq, Prod.mk.injEq, DataW.held.injEq] at hv
  rw [hrun, hv.1]
theorem FactsAt.has {w : World} {b N : Nat} {f : Fx} (F : FactsAt w b N f) (n : Int) (h0 : -9223372036854775808 ≤ n) (h1 : n ≤ 9223372036854775807) : ∃ u, (Instr.lookup 222 (.map (some b)) (.int .i64 n) true).run Tryz.prog w = .ok (.tuple #[u, .bool (f n).isSome]) w := by
  obtain ⟨D, g1, g2, g3⟩ := F.own
  obtain ⟨u, ps, hrun, hv⟩ := g1.look_ok law3 Tryz.underlying222 (zeroU w) (zd := .held (.int .u32 0)) (zp := []) rfl (key3 h0 h1)
  exact ⟨u, by rw [hrun, g2 n]⟩
theorem facts_put {w w' : World} {b N : Nat} {f : Fx} {n v : Int} {D : DataW Value} (g2 : ∀ x : Int, Maps.has D (.int .i64 x) = (f x).isSome) (g3 : ∀ (x v : Int), f x = some v → D.atKey (.int .i64 x) (.held (.int .u32 0)) = .held (.int .u32 v)) (hD : IsMap D) (bd : ∀ x v, f x = some v → 0 ≤ v ∧ v < 4294967296) (v0 : 0 ≤ v) (v1 : v < 4294967296)
    (h1 : w'.ownsMap Tryz.prog 3 heldE b N (D.put (.int .i64 n) (.held (.int .u32 v)))) : FactsAt w' b N (putF f n (some v)) := by
  refine ⟨⟨_, h1, fun x => ?_, fun x u hx => ?_⟩, fun x u hx => ?_⟩
  · unfold putF
    by_cases e : x = n
    · subst e; rw [if_pos rfl]; exact has_put_same hD isKey_i64 _
    · rw [if_neg e, has_put_other (lit_ne e), g2]
  · unfold putF at hx
    by_cases e : x = n
    · subst e; rw [if_pos rfl] at hx; cases hx; exact atKey_put_same hD isKey_i64 _ _
    · rw [if_neg e] at hx; rw [atKey_put_other (lit_ne e), g3 x u hx]
  · unfold putF at hx
    by_cases e : x = n
    · rw [if_pos e] at hx; cases hx; exact ⟨v0, v1⟩
    · rw [if_neg e] at hx; exact bd x u hx
theorem facts_del {w' : World} {b N : Nat} {f : Fx} {n : Int} {D : DataW Value} (g2 : ∀ x : Int, Maps.has D (.int .i64 x) = (f x).isSome) (g3 : ∀ (x v : Int), f x = some v → D.atKey (.int .i64 x) (.held (.int .u32 0)) = .held (.int .u32 v)) (bd : ∀ x v, f x = some v → 0 ≤ v ∧ v < 4294967296)
    (h1 : w'.ownsMap Tryz.prog 3 heldE b N (D.del (.int .i64 n))) : FactsAt w' b N (putF f n none) := by
  refine ⟨⟨_, h1, fun x => ?_, fun x u hx => ?_⟩, fun x u hx => ?_⟩
  · unfold putF
    by_cases e : x = n
    · subst e; rw [if_pos rfl]; exact has_del_same
    · rw [if_neg e, has_del_other (lit_ne e), g2]
  · unfold putF at hx
    by_cases e : x = n
    · rw [if_pos e] at hx; cases hx
    · rw [if_neg e] at hx; rw [atKey_del_other (lit_ne e), g3 x u hx]
  · unfold putF at hx
    by_cases e : x = n
    · rw [if_pos e] at hx; cases hx
    · rw [if_neg e] at hx; exact bd x u hx
/-- bounds of an op's registers -/
structure Opx.rg (o : Opx) : Prop where
  a0 : -9223372036854775808 ≤ o.a
  a1 : o.a ≤ 9223372036854775807
  b0 : -9223372036854775808 ≤ o.b
  b1 : o.b ≤ 9223372036854775807
  d0 : -9223372036854775808 ≤ o.d
  d1 : o.d ≤ 9223372036854775807
theorem Opx.ok.rg {o : Opx} (h : o.ok) : o.rg := ⟨h.a0, h.a1, h.b0, h.b1, h.d0, h.d1⟩
set_option maxHeartbeats 1000000 in
theorem know_any {w : World} {b N : Nat} {f : Fx} (F : FactsAt w b N f) (n : Int) (h0 : -9223372036854775808 ≤ n) (h1 : n ≤ 9223372036854775807) : Calls Tryz.prog 198 #[.map (some b), .int .i64 n] w fun e w' => e = .returned (.bool (f n).isSome) ∧ w' = w := by
  obtain ⟨u, hu⟩ := F.has n h0 h1
  generalize (f n).isSome = r at *
  clear F
  go_enter Tryz.func198, Tryz.ntmps198
  go_wp2
  go_ret
  exact ⟨rfl, rfl⟩
set_option maxRecDepth 100000 in
set_option maxHeartbeats 2000000 in
theorem newFacts_any (w : World) : Calls Tryz.prog 132 #[] w fun e w' => ∃ b, e = .returned (.map (some b)) ∧ FactsAt w' b 1 fx0 ∧ Below w.heap.size w w' ∧ w.heap.size ≤ b := by
  have hmm := @run_makeMap Tryz.prog
  have hk := key3 (n := 0) (by omega) (by omega)
  obtain ⟨w1, hrun, ho, ht⟩ := (World.ownsMap_made (H := Value) w Tryz.prog 3 heldE).store law3 Tryz.underlying222 (by unfold maxLen; omega) hk (val := .int .u32 0) (d := .held (.int .u32 0)) (ps := []) rfl
  have HT : Hid (Below w.heap.size w w1) := ((Below.refl _ _).alloc (Nat.le_refl _) _).grown ht.grown (by simp) (fun k e => by cases e; exact Nat.le_refl _)
  have HF : Hid (FactsAt w1 w.heap.size 1 fx0) := by
    have := facts_put (w := w) (f := fun _ => none) (n := 0) (v := 0) (fun x => rfl) (fun x v e => by cases e) ⟨[], rfl⟩ (fun x v e => by cases e) (by omega) (by omega) ho
    exact this
  clear ho ht hk
  go_enter Tryz.func132, Tryz.ntmps132
  go_wp2
  go_ret
  exact ⟨_, rfl, HF.out, HT.out, Nat.le_refl _⟩
set_option maxRecDepth 100000 in
set_option maxHeartbeats 4000000 in
theorem tell_any {w : World} {b N : Nat} {f : Fx} (F : FactsAt w b N f) (o : Opx) (ok : o.rg) : Calls Tryz.prog 199 #[.map (some b), opV o] w fun e w' => e = .returned (.bool (tellB f o)) ∧ Below w.heap.size w w' := by
  have hr := fun w => registers_any o.s w
  unfold regV at hr
  have hd := fun w => divides_any o w
  have ka := fun w' (h : Below w.heap.size w w') => know_any (F.stays h) o.a ok.a0 ok.a1
  have kb := fun w' (h : Below w.heap.size w w') => know_any (F.stays h) o.b ok.b0 ok.b1
  have HT : Hid (tellB f o = (b2 (rD (kn o.s)) 2 && b2 (rA (kn o.s)) 1 && b2 (rB (kn o.s)) 1 && !dvB o.k && (f o.a).isSome && (f o.b).isSome)) := by
    show _ = _
    unfold tellB
    congr 2
    have hl := kn_lt o.s
    unfold b2 rD rA rB dvB Opx.k
    generalize kn o.s = k at *
    rw [Bool.eq_iff_iff]
    simp only [Bool.and_eq_true, decide_eq_true_eq, Bool.not_eq_true', decide_eq_false_iff_not]
    constructor
    · intro h
      rw [if_pos (by omega), if_pos (by omega), if_pos (by omega)]; omega
    · rintro ⟨⟨⟨h1, h2⟩, h3⟩, h4⟩
      by_cases c1 : 1 ≤ k ∧ k ≤ 20 ∨ k = 23
      · by_cases c3 : 3 ≤ k ∧ k ≤ 22 ∨ k = 24
        · omega
        · rw [if_neg c3] at h3; split at h3 <;> omega
      · rw [if_neg c1] at h1; split at h1 <;> omega
  clear F ok
  unfold opV at *
  generalize b2 (rD (kn o.s)) 2 = x1 at *
  generalize b2 (rA (kn o.s)) 1 = x2 at *
  generalize b2 (rB (kn o.s)) 1 = x3 at *
  generalize dvB o.k = x4 at *
  generalize (f o.a).isSome = x5 at *
  generalize (f o.b).isSome = x6 at *
  obtain ⟨r, hr0⟩ : ∃ r, tellB f o = r := ⟨_, rfl⟩
  rw [hr0] at HT ⊢
  clear hr0
  cases x1 with
  | false =>
    have HT : r = false := by rw [HT.out]; rfl
    subst HT
    go_enter Tryz.func199, Tryz.ntmps199
    go_wp2_with fail
    refine (hr _).mono ?_
    rintro e w1 ⟨rfl, hb1⟩
    have HB : Hid (Below w.heap.size w w1) := ((Below.refl _ _).alloc (Nat.le_refl _) _).trans (hb1.mono (by simp))
    clear hr hb1 hd ka kb
    go_wp2
    go_ret
    exact ⟨rfl, HB.out⟩
  | true =>
  cases x2 with
  | false =>
    have HT : r = false := by rw [HT.out]; rfl
    subst HT
    go_enter Tryz.func199, Tryz.ntmps199
    go_wp2_with fail
    refine (hr _).mono ?_
    rintro e w1 ⟨rfl, hb1⟩
    have HB : Hid (Below w.heap.size w w1) := ((Below.refl _ _).alloc (Nat.le_refl _) _).trans (hb1.mono (by simp))
    clear hr hb1 hd ka kb
    go_wp2
    go_ret
    exact ⟨rfl, HB.out⟩
  | true =>
  cases x3 with
  | false =>
    have HT : r = false := by rw [HT.out]; rfl
    subst HT
    go_enter Tryz.func199, Tryz.ntmps199
    go_wp2_with fail
    refine (hr _).mono ?_
    rintro e w1 ⟨rfl, hb1⟩
    have HB : Hid (Below w.heap.size w w1) := ((Below.refl _ _).alloc (Nat.le_refl _) _).trans (hb1.mono (by simp))
    clear hr hb1 hd ka kb
    go_wp2
    go_ret
    exact ⟨rfl, HB.out⟩
  | true =>
    go_enter Tryz.func199, Tryz.ntmps199
    go_wp2_with fail
    refine (hr _).mono ?_
    rintro e w1 ⟨rfl, hb1⟩
    obtain ⟨c, hf⟩ := bcellO hb1
    have hz : w.heap.size < w1.heap.size := by have := hb1.size; simp at this; omega
    have HB : Hid (Below w.heap.size w w1) := ((Below.refl _ _).alloc (Nat.le_refl _) _).trans (hb1.mono (by simp))
    clear hr hb1
    go_wp2_with fail
    refine (hd _).mono ?_
    rintro e w2 ⟨rfl, hb2⟩
    have c' : ∀ o, w2.cell? ⟨w.heap.size, o, none⟩ = _ := fun o => (hb2.cell (p := ⟨w.heap.size, o, none⟩) hz).trans (c o)
    have HB2 : Hid (Below w.heap.size w w2) := HB.out.trans (hb2.mono (by omega))
    have hz2 : w.heap.size < w2.heap.size := by have := hb2.size; omega
    have ka := ka w2 HB2.out
    have kb := kb w2 HB2.out
    clear hd hb2 c hf
    cases x4 with
    | true =>
      have HT : r = false := by rw [HT.out]; rfl
      subst HT
      go_wp2
      go_ret
      exact ⟨rfl, HB2.out⟩
    | false =>
    cases x5 with
    | false =>
      have HT : r = false := by rw [HT.out]; rfl
      subst HT
      go_wp2_with fail
      refine ka.mono ?_
      rintro e w3 ⟨rfl, rfl⟩
      go_wp2
      go_ret
      exact ⟨rfl, HB2.out⟩
    | true =>
      have HT : r = x6 := by rw [HT.out]; rfl
      subst HT
      go_wp2_with fail
      refine ka.mono ?_
      rintro e w3 ⟨rfl, rfl⟩
      go_wp2_with fail
      refine kb.mono ?_
      rintro e w3 ⟨rfl, rfl⟩
      go_wp2
      go_ret
      exact ⟨rfl, HB2.out⟩
set_option maxRecDepth 100000 in
set_option maxHeartbeats 4000000 in
theorem result_known {w : World} {b N : Nat} {f : Fx} (F : FactsAt w b N f) (o : Opx) (ok : o.rg) : Calls Tryz.prog 133 #[.map (some b), opV o] w fun e w' => e = .returned (.tuple #[.int .u32 ((resF f o).getD 0), .bool (resF f o).isSome]) ∧ Below w.heap.size w w' := by
  have ht := fun w' (h : Below w.heap.size w w') => tell_any (F.stays h) o ok
  have ka := fun w' (h : Below w.heap.size w w') => know_any (F.stays h) o.a ok.a0 ok.a1
  have h2 := kn_eq o.s 2 (by omega) (by omega)
  have hB0 : Below w.heap.size w (w.alloc (.cells #[.string o.s, .int .i64 o.d, .int .i64 o.a, .int .i64 o.b, .int .u32 o.i, .int .i64 o.t] 139)) := (Below.refl _ _).alloc (Nat.le_refl _) _
  have hstep : ∀ (hc : ¬ (o.k = 2 ∧ (f o.a).isSome = true)), resF f o = if tellB f o = true then some (valV o.k ((f o.a).getD 0) ((f o.b).getD 0) 0 0) else none := fun hc => by unfold resF; rw [if_neg hc]
  by_cases hk : o.k = 2
  · have h2' : (o.s.toList == [99, 111, 112, 121]) = true := by rw [show (o.s.toList == [99, 111, 112, 121]) = _ from h2]; simpa [Opx.k] using hk
    cases hfa : f o.a with
    | some v =>
      have HR : Hid (resF f o = some v) := by show _ = _; unfold resF; rw [if_pos ⟨hk, by rw [hfa]; rfl⟩, hfa]
      have hlk := fun w' (h : Below w.heap.size w w') => (F.stays h).look o.a v hfa ok.a0 ok.a1
      have ka : ∀ w', Below w.heap.size w w' → Calls Tryz.prog 198 #[.map (some b), .int .i64 o.a] w' fun e w'' => e = .returned (.bool true) ∧ w'' = w' := fun w' h => by have := ka w' h; rw [hfa] at this; exact this
      clear F ht h2 hstep hk hfa
      unfold opV
      have hlk := hlk _ hB0
      have ka := ka _ hB0
      go_enter Tryz.func133, Tryz.ntmps133
      go_wp2_with fail
      refine ka.mono ?_
      rintro e w3 ⟨rfl, rfl⟩
      go_wp2
      go_ret2
      exact ⟨by rw [HR.out]; rfl, hB0⟩
    | none =>
      have HR : Hid (resF f o = none) := by show _ = _; rw [hstep (by rw [hfa]; simp)]; unfold tellB; rw [hk]; simp
      have HT : tellB f o = false := by unfold tellB; rw [hk]; simp
      rw [HT] at ht
      have ka : ∀ w', Below w.heap.size w w' → Calls Tryz.prog 198 #[.map (some b), .int .i64 o.a] w' fun e w'' => e = .returned (.bool false) ∧ w'' = w' := fun w' h => by have := ka w' h; rw [hfa] at this; exact this
      clear F h2 hstep hk hfa HT
      unfold opV at *
      have ka := ka _ hB0
      have ht := ht _ hB0
      go_enter Tryz.func133, Tryz.ntmps133
      go_wp2_with fail
      refine ka.mono ?_
      rintro e w3 ⟨rfl, rfl⟩
      go_wp2_with fail
      refine ht.mono ?_
      rintro e w3 ⟨rfl, hb3⟩
      have HB3 : Hid (Below w.heap.size w w3) := hB0.trans (hb3.mono (by simp))
      clear ka ht hb3
      go_wp2
      go_ret2
      exact ⟨by rw [HR.out]; rfl, HB3.out⟩
  · have h2' : (o.s.toList == [99, 111, 112, 121]) = false := by rw [show (o.s.toList == [99, 111, 112, 121]) = _ from h2]; simpa [Opx.k] using hk
    have hRF := hstep (by simp [hk])
    cases hT : tellB f o with
    | false =>
      have HR : Hid (resF f o = none) := by show _ = _; rw [hRF, hT]; rfl
      rw [hT] at ht
      clear F h2 hstep hk hT ka hRF
      unfold opV at *
      have ht := ht _ hB0
      go_enter Tryz.func133, Tryz.ntmps133
      go_wp2_with fail
      refine ht.mono ?_
      rintro e w3 ⟨rfl, hb3⟩
      have HB3 : Hid (Below w.heap.size w w3) := hB0.trans (hb3.mono (by simp))
      clear ht hb3
      go_wp2
      go_ret2
      exact ⟨by rw [HR.out]; rfl, HB3.out⟩
    | true =>
      have HR : Hid (resF f o = some (valV o.k ((f o.a).getD 0) ((f o.b).getD 0) 0 0)) := by show _ = _; rw [hRF, hT]; rfl
      rw [hT] at ht
      unfold tellB at hT
      simp only [Bool.and_eq_true, decide_eq_true_eq, Option.isSome_iff_exists] at hT
      obtain ⟨⟨h3, va, ha⟩, vb, hbb⟩ := hT
      rw [ha, hbb] at HR
      have la := fun w' (h : Below w.heap.size w w') => (F.stays h).look o.a va ha ok.a0 ok.a1
      have lb := fun w' (h : Below w.heap.size w w') => (F.stays h).look o.b vb hbb ok.b0 ok.b1
      obtain ⟨a0, a1⟩ := F.bd _ _ ha
      obtain ⟨b0, b1⟩ := F.bd _ _ hbb
      have hs := kn_word (s := o.s) (by unfold Opx.k at h3; omega)
      have hres := fun w => result_any o.k h3 va vb 0 0 a0 a1 b0 b1 w
      rw [show kindS o.k = o.s from hs.symm] at hres
      have HR : Hid (resF f o = some (valV o.k va vb 0 0)) := HR
      clear F h2 hstep hk ka hRF ha hbb hs
      unfold opV at *
      generalize valV o.k va vb 0 0 = rv at *
      have ht := ht _ hB0
      go_enter Tryz.func133, Tryz.ntmps133
      go_wp2_with fail
      refine ht.mono ?_
      rintro e w3 ⟨rfl, hb3⟩
      obtain ⟨c, hf⟩ := bcellO hb3
      have hz3 : w.heap.size < w3.heap.size := by have := hb3.size; simp at this; omega
      have HB3 : Hid (Below w.heap.size w w3) := hB0.trans (hb3.mono (by simp))
      have la := la _ HB3.out
      have lb := lb _ HB3.out
      clear ht hb3
      go_wp2_with fail
      refine (hres _).mono ?_
      rintro e w4 ⟨rfl, rfl⟩
      go_wp2
      go_ret2
      exact ⟨by rw [HR.out]; rfl, HB3.out⟩
set_option maxRecDepth 100000 in
set_option maxHeartbeats 4000000 in
theorem learn_any {w : World} {b N : Nat} {f : Fx} (F : FactsAt w b N f) (hN : N < maxLen) (o : Opx) (ok : o.ok) : Calls Tryz.prog 134 #[.map (some b), opV o] w fun e w' => e = .returned (.tuple #[]) ∧ FactsAt w' b (N + 1) (learnF f o) ∧ w.grownBy w' (some b) := by
  have hwr := fun w => writes_any o w
  have h1 := kn_eq o.s 1 (by omega) (by omega)
  have hB0 : Below w.heap.size w (w.alloc (.cells #[.string o.s, .int .i64 o.d, .int .i64 o.a, .int .i64 o.b, .int .u32 o.i, .int .i64 o.t] 139)) := (Below.refl _ _).alloc (Nat.le_refl _) _
  have hFB : ∀ w', Below w.heap.size w w' → FactsAt w' b N f := fun w' h => F.stays h
  have FM : ∀ {w' : World} {g : Fx}, FactsAt w' b N g → FactsAt w' b (N + 1) g := fun {w' g} G => ⟨let ⟨D, g1, g2⟩ := G.own; ⟨D, g1.mono (by omega), g2⟩, G.bd⟩
  have ob : -9223372036854775808 ≤ wrX o ∧ wrX o ≤ 9223372036854775807 := by unfold wrX; split; exact ⟨ok.d0, ok.d1⟩; omega
  have i0 := ok.i0
  have i1 := ok.i1
  have G0 : ∀ {w' : World}, Below w.heap.size w w' → w.grownBy w' (some b) := fun {w'} h => ⟨h.os, h.tape, h.output, h.size, fun k hk _ => h.block k hk⟩
  have HG : Hid (∀ {w' w'' : World}, Below w.heap.size w w' → w'.grownBy w'' (some b) → w.grownBy w'' (some b)) := fun {w' w''} h g => ⟨g.os.trans h.os, g.tape.trans h.tape, g.output.trans h.output, Nat.le_trans h.size g.size, fun k hk hn => (g.block k (Nat.lt_of_lt_of_le hk h.size) hn).trans (h.block k hk)⟩
  have FM : Hid (∀ {w' : World} {g : Fx}, FactsAt w' b N g → FactsAt w' b (N + 1) g) := FM
  have G0 : Hid (∀ {w' : World}, Below w.heap.size w w' → w.grownBy w' (some b)) := G0
  have hFB : Hid (∀ w', Below w.heap.size w w' → FactsAt w' b N f) := hFB
  have HL : Hid (learnF f o = if wrX o = 0 then f else putF f (wrX o) (if o.k = 1 then some o.i else none)) := rfl
  clear F ok
  unfold opV at *
  generalize learnF f o = g at *
  generalize wrX o = n at *
  by_cases hn : n = 0
  · have HL : Hid (g = f) := by show _ = _; rw [HL.out, if_pos hn]
    subst hn
    go_enter Tryz.func134, Tryz.ntmps134
    go_wp2_with fail
    refine (hwr _).mono ?_
    rintro e w3 ⟨rfl, hb3⟩
    have HB3 : Hid (Below w.heap.size w w3) := hB0.trans (hb3.mono (by simp))
    clear hwr hb3
    go_wp2
    go_end0
    exact ⟨rfl, by rw [HL.out]; exact FM.out (hFB.out _ HB3.out), G0.out HB3.out⟩
  · have hn' : (n == 0) = false := by simpa using hn
    have hk := key3 (n := n) ob.1 ob.2
    by_cases hk1 : o.k = 1
    · have h1' : (o.s.toList == [115, 101, 116]) = true := by rw [show (o.s.toList == [115, 101, 116]) = _ from h1]; simpa [Opx.k] using hk1
      have HL : Hid (g = putF f n (some o.i)) := by show _ = _; rw [HL.out, if_neg hn, if_pos hk1]
      clear h1 hk1 hn
      go_enter Tryz.func134, Tryz.ntmps134
      go_wp2_with fail
      refine (hwr _).mono ?_
      rintro e w3 ⟨rfl, hb3⟩
      obtain ⟨c, hf⟩ := bcellO hb3
      have hz3 : w.heap.size < w3.heap.size := by have := hb3.size; simp at this; omega
      have HB3 : Hid (Below w.heap.size w w3) := hB0.trans (hb3.mono (by simp))
      have HF3 : Hid (FactsAt w3 b N f) := hFB.out _ HB3.out
      obtain ⟨D, hD1, hD2⟩ := HF3.out.own
      have HD2 : Hid _ := hD2
      clear hwr hb3 hD2
      go_wp2_with (at_mapUpdate; refine wpList_mapUpdate_own _ rfl _ _ _ 222 rfl 3 22 law3 Tryz.underlying222 heldE b N D rfl hD1 hN _ _ _ rfl rfl hk (.held (.int .u32 o.i)) [] rfl ?_; intro w4 hown4 hg4)
      go_end0
      exact ⟨rfl, by rw [HL.out]; exact facts_put (w := w) HD2.out.1 HD2.out.2 hD1.isMap HF3.out.bd i0 i1 hown4, HG.out HB3.out hg4⟩
    · have h1' : (o.s.toList == [115, 101, 116]) = false := by rw [show (o.s.toList == [115, 101, 116]) = _ from h1]; simpa [Opx.k] using hk1
      have HL : Hid (g = putF f n none) := by show _ = _; rw [HL.out, if_neg hn, if_neg hk1]
      clear h1 hk1 hn
      go_enter Tryz.func134, Tryz.ntmps134
      go_wp2_with fail
      refine (hwr _).mono ?_
      rintro e w3 ⟨rfl, hb3⟩
      obtain ⟨c, hf⟩ := bcellO hb3
      have hz3 : w.heap.size < w3.heap.size := by have := hb3.size; simp at this; omega
      have HB3 : Hid (Below w.heap.size w w3) := hB0.trans (hb3.mono (by simp))
      have HF3 : Hid (FactsAt w3 b N f) := hFB.out _ HB3.out
      obtain ⟨D, hD1, hD2⟩ := HF3.out.own
      have HD2 : Hid _ := hD2
      clear hwr hb3 hD2
      go_wp2_with (at_delete; refine wpList_delete_own _ rfl _ _ 222 3 rfl 22 law3 Tryz.underlying222 heldE b N D rfl hD1 _ _ rfl hk ?_; intro w4 hown4 ht4)
      go_end0
      exact ⟨rfl, by rw [HL.out]; exact FM.out (facts_del HD2.out.1 HD2.out.2 HF3.out.bd hown4), HG.out HB3.out ht4.grown⟩
end Go.Proofs.YtflagpkmebdckaaGreatDoor
/-
  Package ir's gate, within a Guest: load, admits, hold.
-/
namespace Go.Proofs.YtflagpkmebdckaaGreatDoor
open Go.RowKit Go.Maps
open Num
set_option linter.unusedVariables false
theorem wpPlanZ_skipG {P : Program} {ops : Array Oper} {Q : Exit → Act → World → Prop} {C : World → Prop} {z : Nat} {on : Bool} {i k : Nat} {rest : List (Nat × Nat)} {a : Act} {w : World} {o : Oper} (ho : ops[i]? = some o) (hwt : Region.wanted o (yielded ops a.tmps) = false) (h : ∀ K : Act → Prop, (∀ a', wpPlanZ P ops C z Q (on && i != z) rest a' w → K a') → K (a.put o.dst undef)) : wpPlanZ P ops C z Q on ((i, k) :: rest) a w :=
  ⟨o, ho, by unfold oneZ; rw [if_neg (by simp [hwt])]; exact h _ (fun _ h => h)⟩
theorem oper_append_movedG {P : Program} {o : Oper} {a : Act} {w : World} {K : Act → World → Prop} {Q : Exit → Act → World → Prop} (s x : Operand) (t : TypeId)
    (ho : o.op = .call { callee := .builtin .append, args := #[s, x], argTypes := #[t, t] })
    (base : Nat) (e : TypeId) (i : TypeInfo) (z : Value) (size bytes : Nat) (ht : P.underlying t = some (.slice e)) (hi : P.info? e = some i) (hz : i.zero = some z)
    (hsize : i.size = size) (hby : i.bytes = bytes) (hzs : z.cells.size = size) (hsz : 0 < size)
    (v : Value) (n : Nat) (xs : List Value) (hs : a.eval s = v) (hown : w.ownsRow base e size v n xs)
    (ad : Addr) (m c : Nat) (news : List Value) (hx : a.eval x = .slice (some ad) m c) (hl : news.length = m * size) (hnews : ∀ j u, news[j]? = some u → w.cell? (ad.add j) = some u) (h1 : ∀ u ∈ news, u.oneCell' = true)
    (h63 : n + m ≤ maxLen) (hbytes : (n + m) * bytes ≤ 140737488355328) (hbase : base ≤ w.heap.size)
    (h : ∀ v' w', w'.ownsRow base e size v' (n + m) (xs ++ news) → w.grownBy w' v.ownBlock → Moved w v v' → K (a.put o.dst v') w') : Oper.wp P o a w K Q := by
  obtain ⟨v', w', hr, h2, h3, h4⟩ := run_append_moved (P := P) w base t o.type e i z size bytes ht hi hz hsize hby hzs hsz v n xs hown ad m c news hl hnews h1 h63 hbytes hbase
  unfold Oper.wp execOp
  simp only [ho, resolve, invoke, builtin, Sem.run_bind, Sem.run_pure, Result.andThen_ok, List.map_toArray, List.map_cons, List.map_nil, hs, hx, hr]
  exact h v' w' h2 h3 h4
def pdL (p : List Pq) : List Value := p.flatMap fun q => pdC q.1
theorem pdL_snoc (p : List Pq) (q : Pq) : pdL (p ++ [q]) = pdL p ++ pdC q.1 := by unfold pdL; rw [List.flatMap_append]; simp
theorem pdL_get : ∀ (p : List Pq) (j : Nat) (q : Pq) (i : Nat), p[j]? = some q → i < 3 → (pdL p)[j * 3 + i]? = (pdC q.1)[i]?
  | [], j, q, i, h, _ => by simp at h
  | r :: p, 0, q, i, h, hi => by
    simp at h; subst h
    show (pdC r.1 ++ pdL p)[0 * 3 + i]? = _
    rw [List.getElem?_append_left (by simp [pdC]; omega)]; simp
  | r :: p, j + 1, q, i, h, hi => by
    show (pdC r.1 ++ pdL p)[(j + 1) * 3 + i]? = _
    rw [List.getElem?_append_right (by simp [pdC]; omega), ← pdL_get p j q i (by simpa using h) hi]
    congr 1; simp [pdC]; omega
/-- a code on its way: registers, memory, what waits -/
structure GAt (w : World) (base mb stb sb : Nat) (X : Nat → Int) (p : List Pq) (vi : Value) : Prop where
  x : ∀ j, j < 64 → w.cell? ⟨mb, 1 + j, none⟩ = some (.int .u32 (X j))
  s0 : w.cell? ⟨mb, 0, none⟩ = some (.pointer (some ⟨stb, 0, none⟩))
  g0 : w.cell? ⟨mb, 65, none⟩ = some (.pointer (some ⟨sb, 0, none⟩))
  g1 : w.cell? ⟨mb, 66, none⟩ = some vi
  fz : ∀ j, w.frozen? ⟨mb, j, none⟩ = false
  row : w.ownsRow base 158 3 vi p.length (pdL p)
  lb : base ≤ mb
  ne : ∀ k, vi.ownBlock = some k → k ≠ mb
  xb : ∀ j, u32 (X j)
  bs : base ≤ w.heap.size
section
variable {w w' : World} {base mb stb sb : Nat} {X : Nat → Int} {p : List Pq} {vi : Value}
theorem GAt.lt (M : GAt w base mb stb sb X p vi) : mb < w.heap.size := World.block_lt_of_cell? _ _ M.g0
theorem GAt.blk (M : GAt w base mb stb sb X p vi) : ∀ k, vi.ownBlock = some k → k < w.heap.size ∧ base ≤ k := by
  intro k hk
  rcases M.row.2 with ⟨rfl, _⟩ | ⟨g, cap, cur, rfl, hg, hh, _⟩
  · cases hk
  · injection hk with hk; subst hk; exact ⟨(Array.getElem?_eq_some_iff.1 hh).1, hg⟩
theorem GAt.blocks (M : GAt w base mb stb sb X p vi) (hs : w.heap.size ≤ w'.heap.size) (h : ∀ k, k = mb ∨ vi.ownBlock = some k → w'.heap[k]? = w.heap[k]?) : GAt w' base mb stb sb X p vi := by
  have hb := h mb (.inl rfl)
  have c : ∀ (j : Nat) (v : Value), w.cell? ⟨mb, j, none⟩ = some v → w'.cell? ⟨mb, j, none⟩ = some v := fun j v e => (World.cell?_of_block (a := ⟨mb, j, none⟩) hb).trans e
  exact ⟨fun j hj => c _ _ (M.x j hj), c _ _ M.s0, c _ _ M.g0, c _ _ M.g1, fun j => (World.frozen?_of_block (a := ⟨mb, j, none⟩) hb).trans (M.fz j), owns_blocks M.row (fun k hk => h k (.inr hk)), M.lb, M.ne, M.xb, Nat.le_trans M.bs hs⟩
theorem GAt.stays (M : GAt w base mb stb sb X p vi) (h : Below w.heap.size w w') : GAt w' base mb stb sb X p vi :=
  M.blocks h.size (fun k hk => h.block k (by
    rcases hk with rfl | hk
    · exact M.lt
    · exact (M.blk k hk).1))
theorem GAt.drewN (M : GAt w base mb stb sb X p vi) (n : Nat) : GAt (w.drewN n) base mb stb sb X p vi := ⟨M.x, M.s0, M.g0, M.g1, M.fz, M.row, M.lb, M.ne, M.xb, M.bs⟩
theorem GAt.turned {b c : Nat} (M : GAt w base mb stb sb X p vi) (t : Turned w w' b c) (hb : b < base) (hc : c < base) : GAt w' base mb stb sb X p vi :=
  M.blocks t.size (fun k hk => t.block k (by
    rcases hk with rfl | hk
    · exact M.lt
    · exact (M.blk k hk).1) (by
    rcases hk with rfl | hk
    · have := M.lb; omega
    · have := M.blk k hk; omega) (by
    rcases hk with rfl | hk
    · have := M.lb; omega
    · have := M.blk k hk; omega))
theorem GAt.pd (M : GAt w base mb stb sb X p vi) : PdIn w.heap.size w vi p := by
  rcases M.row.2 with ⟨rfl, h⟩ | ⟨g, cap, cur, rfl, hg, hh, hn, _⟩
  · exact .inl ⟨rfl, List.length_eq_zero_iff.1 h⟩
  · refine .inr ⟨g, 0, cap, rfl, (Array.getElem?_eq_some_iff.1 hh).1, fun j q hq => ?_⟩
    have c : ∀ i, i < 3 → ∀ u, (pdC q.1)[i]? = some u → w.cell? ⟨g, 0 + j * 3 + i, none⟩ = some u := by
      intro i hi u hu
      have := M.row.cells (g := g) rfl (j * 3 + i) u (by rw [pdL_get p j q i hq hi]; exact hu)
      rw [add_lit] at this
      rw [Nat.zero_add]; exact this
    exact ⟨c 0 (by omega) _ rfl, c 1 (by omega) _ rfl, c 2 (by omega) _ rfl⟩
end
theorem or_byte (v b : Int) (h0 : 0 ≤ v) (h1 : v < 16777216) (b0 : 0 ≤ b) (b1 : b < 256) : bits .or .u32 (v * 256) b = v * 256 + b := by
  obtain ⟨n, rfl⟩ : ∃ n : Nat, v = n := ⟨v.toNat, by omega⟩
  obtain ⟨k, rfl⟩ : ∃ n : Nat, b = n := ⟨b.toNat, by omega⟩
  have e : (n : Int) * 256 = ((n * 256 : Nat) : Int) := by rw [Int.natCast_mul]; rfl
  rw [e, u32_or_nat _ _ (by omega) (by omega), nat_join 8 (n * 256) k (by omega) (by omega), Int.natCast_add]
theorem byV_bd (f : Int → Int) (a : Int) (hf : ∀ x, 0 ≤ f x ∧ f x < 256) : ∀ n, 0 ≤ byV f a n ∧ byV f a n < 256 ^ n
  | 0 => by simp [byV]
  | n + 1 => by
    have := byV_bd f a hf n
    have h := hf (a + n)
    rw [byV, Int.pow_succ]
    omega
section
variable {w : World} {base mb stb sb bp bw bh N : Nat} {X : Nat → Int} {p : List Pq} {vi : Value} {m : Nat → Int} {wt ht : Int → Bool}
theorem pq_ok (p : List Pq) : ∀ q ∈ pqs p, q.ok := by
  intro q hq
  obtain ⟨r, _, rfl⟩ := List.mem_map.1 hq
  exact r.2
theorem byte_is (R : RamIs w sb bp bw bh N m wt ht) (x : Int) (h0 : 0 ≤ x) : lastB m x (pqs p).reverse = ld (vw m (pqs p)) x 1 false := by
  have := vw_byte R.mb x h0 (pqs p).reverse (fun q hq => pq_ok p q (List.mem_reverse.1 hq))
  rw [List.reverse_reverse] at this
  exact this.symm
set_option maxRecDepth 100000 in
set_option maxHeartbeats 4000000 in
theorem gload_ok (R : RamIs w sb bp bw bh N m wt ht) (G : GAt w base mb stb sb X p vi) (hp : p.length ≤ 1000000) (a s : Int) (sg : Bool) (h0 : 0 ≤ a) (h1 : a < 4294967296) (hc : chk a s = 0) :
    Calls Tryz.prog 146 #[.pointer (some ⟨mb, 65, none⟩), .int .u32 a, .int .i64 s, .bool sg] w fun e w' => e = .returned (.tuple #[.int .u32 (ld (vw m (pqs p)) a s sg), .bool true]) ∧ Below w.heap.size w w' := by
  obtain ⟨hs, hm, hf⟩ := chk_ok hc
  have HF : Hid (ld (vw m (pqs p)) a s sg = wd (byV (fun x => ld (vw m (pqs p)) x 1 false) a s.toNat) (8 * s) sg) := ld_bytes _ a s sg hc h0 (vw_bd R.mb _ (pq_ok p))
  have hfb : ∀ x, 0 ≤ ld (vw m (pqs p)) x 1 false ∧ ld (vw m (pqs p)) x 1 false < 256 := fun x => ld1_bd _ x
  have hby : ∀ w', Below w.heap.size w w' → ∀ x, 0 ≤ x → x < 16384 → Calls Tryz.prog 210 #[.pointer (some ⟨mb, 65, none⟩), .int .u32 x] w' fun e w'' => e = .returned (.int .u32 (ld (vw m (pqs p)) x 1 false)) ∧ Below w'.heap.size w' w'' := by
    intro w' hb x x0 x1
    have R' := R.stays hb (Nat.le_refl _)
    have G' := G.stays hb
    have := byteAt_any R' mb 65 vi p hp G'.g0 G'.g1 G'.pd x x0 x1
    rw [byte_is R x x0] at this
    exact this
  have hld := load_ok R a s sg h0 h1 hc
  have g0 := G.g0
  have hs' : 1 ≤ s ∧ s ≤ 4 := by omega
  have hlim : ∀ k : Nat, (k : Int) < s → a + k < 16384 := by intro k hk; rcases hs with rfl | rfl | rfl <;> omega
  obtain ⟨s0, s1⟩ := hs'
  generalize vw m (pqs p) = M at *
  have hbv := byV_bd (fun x => ld M x 1 false) a hfb
  have HBV : Hid (∀ n, 0 ≤ byV (fun x => ld M x 1 false) a n ∧ byV (fun x => ld M x 1 false) a n < 256 ^ n) := hbv
  clear R G hs hm hc hbv
  go_enter Tryz.func146, Tryz.ntmps146
  go_wp2_with (go_at_call 88; refine hld.mono ?_; rintro e w' ⟨rfl, nq, rfl⟩)
  clear hld
  go_loopw [12, 29] (fun v i wr => ∃ k : Nat, (k : Int) ≤ s ∧ i = .int .u32 k ∧ v = .int .u32 (byV (fun x => ld M x 1 false) a k) ∧ Below w.heap.size w wr) (fun _ i _ => s.toNat - (intOf i).toNat)
  case atStart => exact ⟨0, by omega, rfl, rfl, below_drewN (Below.refl _ _) _⟩
  case round =>
    obtain ⟨k, hk, rfl, rfl, hB⟩ := hrel
    have hv := HBV.out k
    by_cases hlt : (k : Int) < s
    · have hk3 : k ≤ 3 := by omega
      have hv1 : byV (fun x => ld M x 1 false) a k < 16777216 := by
        have : (256 : Int) ^ k ≤ 256 ^ 3 := by
          have : k = 0 ∨ k = 1 ∨ k = 2 ∨ k = 3 := by omega
          rcases this with rfl | rfl | rfl | rfl <;> decide
        have e : (256 : Int) ^ 3 = 16777216 := by decide
        omega
      have hv0 := hv.1
      have hbb := hfb (a + k)
      have HE : Hid (byV (fun x => ld M x 1 false) a (k + 1) = byV (fun x => ld M x 1 false) a k * 256 + ld M (a + k) 1 false) := rfl
      have hcl := hby wr hB (a + k) (by omega) (hlim k hlt)
      have hor := or_byte (byV (fun x => ld M x 1 false) a k) (ld M (a + k) 1 false) hv0 hv1 hbb.1 hbb.2
      have hlm := hlim k hlt
      generalize byV (fun x => ld M x 1 false) a k = V at *
      clear hby hlim hv
      go_wp2_with fail
      refine hcl.mono ?_
      rintro e w2 ⟨rfl, hb2⟩
      have hz2 := hb2.size
      go_wp2
      go_roundw
      case rel => exact ⟨k + 1, by omega, by go_num, by rw [HE.out], hB.trans (hb2.mono (by have := hB.size; omega))⟩
      case measure => simp [intOf]; omega
    · have hks : (k : Int) = s := by omega
      have hk4 : byV (fun x => ld M x 1 false) a k < 4294967296 := by
        have : (256 : Int) ^ k ≤ 256 ^ 4 := by
          have : k = 1 ∨ k = 2 ∨ k = 4 ∨ k = 3 := by omega
          rcases this with rfl | rfl | rfl | rfl <;> decide
        have e : (256 : Int) ^ 4 = 4294967296 := by decide
        omega
      have HK : Hid (k = s.toNat) := by show _ = _; omega
      have hv0 := hv.1
      have hwd := wide_any (byV (fun x => ld M x 1 false) a k) (8 * s) sg hv0 hk4
      clear hby hlim hfb hks hv
      have hlt' : ¬ (k : Int) < s := hlt
      go_wp2_with (go_at_call 42; refine (hwd _).mono ?_; rintro e w' ⟨rfl, rfl⟩)
      go_ret2
      exact ⟨by rw [HF.out, ← HK.out]; rfl, hB⟩
set_option maxRecDepth 100000 in
set_option maxHeartbeats 1000000 in
theorem gload_no (pe : Nat → Addr) (E : Eg pe w) (G : GAt w base mb stb sb X p vi) (a s : Int) (sg : Bool) (h0 : 0 ≤ a) (h1 : a < 4294967296) (s0 : -9223372036854775808 ≤ s) (s1 : s ≤ 9223372036854775807) (hc : chk a s ≠ 0) :
    Calls Tryz.prog 146 #[.pointer (some ⟨mb, 65, none⟩), .int .u32 a, .int .i64 s, .bool sg] w fun e w' => e = .returned (.tuple #[.int .u32 0, .bool false]) ∧ Below w.heap.size w w' := by
  have hld := load_no _ _ _ E.er (.pointer (some ⟨sb, 0, none⟩)) a s sg h0 h1 s0 s1 hc
  have g0 := G.g0
  clear G hc
  go_enter Tryz.func146, Tryz.ntmps146
  go_wp2_with (go_at_call 88; refine hld.mono ?_; rintro e w' ⟨rfl, rfl⟩)
  go_ret2
  exact ⟨rfl, Below.refl _ _⟩
/-- w' is w but for the run's own blocks, and new ones -/
structure Kx (w w' : World) (mb : Nat) (vi : Value) : Prop where
  os : w'.os = w.os
  tape : w'.tape = w.tape
  output : w'.output = w.output
  size : w.heap.size ≤ w'.heap.size
  block : ∀ k, k < w.heap.size → k ≠ mb → vi.ownBlock ≠ some k → w'.heap[k]? = w.heap[k]?
theorem Kx.alloc (w : World) (o : Obj) (mb : Nat) (vi : Value) : Kx w (w.alloc o) mb vi := ⟨rfl, rfl, rfl, by simp, fun k hk _ _ => Below.heap_alloc w o k hk⟩
theorem Kx.drew {w w' : World} {mb : Nat} {vi : Value} (h : Kx w w' mb vi) : Kx w w'.drew mb vi := ⟨h.os, h.tape, h.output, h.size, h.block⟩
theorem Kx.setCell {w w' : World} {mb : Nat} {vi : Value} (h : Kx w w' mb vi) (j : Nat) (v : Value) : Kx w (w'.setCell ⟨mb, j, none⟩ v) mb vi :=
  ⟨h.os, h.tape, h.output, by simp; exact h.size, fun k hk k1 k2 => (Below.heap_setCell w' ⟨mb, j, none⟩ v k k1).trans (h.block k hk k1 k2)⟩
theorem Kx.trans {w w1 w2 : World} {mb : Nat} {vi : Value} (h : Kx w w1 mb vi) (g : Kx w1 w2 mb vi) : Kx w w2 mb vi :=
  ⟨g.os.trans h.os, g.tape.trans h.tape, g.output.trans h.output, Nat.le_trans h.size g.size, fun k hk k1 k2 => (g.block k (Nat.lt_of_lt_of_le hk h.size) k1 k2).trans (h.block k hk k1 k2)⟩
theorem Kx.below {w w1 w2 : World} {mb : Nat} {vi : Value} (h : Kx w w1 mb vi) (g : Below w1.heap.size w1 w2) : Kx w w2 mb vi :=
  ⟨g.os.trans h.os, g.tape.trans h.tape, g.output.trans h.output, Nat.le_trans h.size g.size, fun k hk k1 k2 => (g.block k (Nat.lt_of_lt_of_le hk h.size)).trans (h.block k hk k1 k2)⟩
theorem infoPd : (Tryz.prog.info? 158).map (fun i => (i.zero, i.size, i.bytes)) = some (some (.agg #[.int .u32 0, .int .i64 0, .int .u32 0]), 3, 24) := by kernel_rfl
theorem GAt.wait {w w1 : World} {v' : Value} (M : GAt w base mb stb sb X p vi) (q : Pq) (hg : w.grownBy w1 vi.ownBlock) (hr : w1.ownsRow base 158 3 v' (p.length + 1) (pdL p ++ pdC q.1)) (hm : Moved w vi v') : GAt (w1.setCell ⟨mb, 66, none⟩ v') base mb stb sb X (p ++ [q]) v' := by
  have hb : w1.heap[mb]? = w.heap[mb]? := hg.block mb M.lt (fun e => M.ne mb e.symm rfl)
  have c : ∀ (j : Nat) (v : Value), w.cell? ⟨mb, j, none⟩ = some v → w1.cell? ⟨mb, j, none⟩ = some v := fun j v e => (World.cell?_of_block (a := ⟨mb, j, none⟩) hb).trans e
  have o : ∀ (j : Nat) (v : Value), j ≠ 66 → w1.cell? ⟨mb, j, none⟩ = some v → (w1.setCell ⟨mb, 66, none⟩ v').cell? ⟨mb, j, none⟩ = some v := fun j v hj e => by
    rw [World.cell?_setCell_other _ _ _ _ (by intro e'; injection e' with e1 e2; exact hj e2.symm)]; exact e
  have hne : ∀ k, v'.ownBlock = some k → k ≠ mb := by
    intro k hk
    rcases hm k hk with h | h
    · exact M.ne k h
    · have := M.lt; omega
  refine ⟨fun j hj => o _ _ (by omega) (c _ _ (M.x j hj)), o _ _ (by omega) (c _ _ M.s0), o _ _ (by omega) (c _ _ M.g0), World.cell?_setCell_same _ _ _ (c _ _ M.g1), fun j => by rw [World.frozen?_setCell]; exact (World.frozen?_of_block (a := ⟨mb, j, none⟩) hb).trans (M.fz j), ?_, M.lb, hne, M.xb, by simp; exact Nat.le_trans M.bs hg.size⟩
  rw [pdL_snoc, List.length_append]
  exact owns_blocks hr (fun k hk => Below.heap_setCell w1 ⟨mb, 66, none⟩ v' k (fun e => hne k hk e))
set_option maxRecDepth 100000 in
set_option maxHeartbeats 1000000 in
theorem admits_any (pe : Nat → Addr) (E : Eg pe w) (R : RamIs w sb bp bw bh N m wt ht) (G : GAt w base mb stb sb X p vi) (a s v : Int) (h0 : 0 ≤ a) (h1 : a < 4294967296) (s0 : -9223372036854775808 ≤ s) (s1 : s ≤ 9223372036854775807) :
    Calls Tryz.prog 147 #[.pointer (some ⟨mb, 65, none⟩), .agg #[.int .u32 a, .int .i64 s, .int .u32 v]] w fun e w' => e = .returned (.bool (decide (chk a s = 0) && !wt (a / 256))) ∧ Below w.heap.size w w' := by
  have B0 : Below w.heap.size w (w.alloc (.cells #[.int .u32 a, .int .i64 s, .int .u32 v] 158)) := (Below.refl _ _).alloc (Nat.le_refl _) _
  have k0 : (w.alloc (.cells #[.int .u32 a, .int .i64 s, .int .u32 v] 158)).cell? ⟨w.heap.size, 0, none⟩ = some (.int .u32 a) := by simp
  have k1 : (w.alloc (.cells #[.int .u32 a, .int .i64 s, .int .u32 v] 158)).cell? ⟨w.heap.size, 1, none⟩ = some (.int .i64 s) := by simp
  have g0 := (G.stays B0).g0
  have hzw := G.lt
  have HR : Hid (∀ W, Below w.heap.size w W → RamIs W sb bp bw bh N m wt ht) := fun W hW => R.stays hW (Nat.le_refl _)
  have HE : Hid (∀ W, Below w.heap.size w W → Eg pe W) := fun W hW => E.stays hW
  have HB0 : Hid (Below w.heap.size w (w.alloc (.cells #[.int .u32 a, .int .i64 s, .int .u32 v] 158))) := B0
  have hVs : w.heap.size < (w.alloc (.cells #[.int .u32 a, .int .i64 s, .int .u32 v] 158)).heap.size := by simp
  clear G R E B0
  by_cases hk : chk a s = 0
  · rw [decide_eq_true hk, Bool.true_and]
    go_enter Tryz.func147, Tryz.ntmps147
    go_upto_region 1 with fail
    generalize w.alloc (.cells #[.int .u32 a, .int .i64 s, .int .u32 v] 158) = V at *
    refine wp_region_phase 14 [(0, 0), (1, 0), (2, 0), (3, 1), (4, 0), (5, 1), (6, 0), (7, 1), (8, 2), (9, 0), (10, 0), (11, 0), (12, 0), (13, 0)] (fun W => W.cell? ⟨mb, 65, none⟩ = some (.pointer (some ⟨sb, 0, none⟩)) ∧ W.cell? ⟨w.heap.size, 0, none⟩ = some (.int .u32 a) ∧ W.cell? ⟨w.heap.size, 1, none⟩ = some (.int .i64 s)) (by kernel_rfl) (by kernel_rfl) (fun _ _ _ d _ h => by cases d <;> exact h) ⟨by simpa using g0, by simpa using k0, by simpa using k1⟩ ?_
    repeat (first | (refine wpPlanZ_free (by rfl) (by rfl) (fun W => by (go_simp; try with_reducible rfl)) (fun K hK => ?_); go_simp; refine hK _ ?_; clear hK K) | (refine wpPlanZ_quiet (by rfl) (by rfl) (fun W hW => by (obtain ⟨z0, z1, z2⟩ := hW; go_simp; try with_reducible rfl)) (fun K hK => ?_); go_simp; refine hK _ ?_; clear hK K))
    refine wpPlanZ_serial (by rfl) (by rfl) (fun K hK => ?_)
    go_simp
    have B1 : Below w.heap.size w V.drew := HB0.out.drew
    refine (load_ok (HR.out _ B1) a s false h0 h1 hk).mono ?_
    rintro e w1 ⟨rfl, n, rfl⟩
    refine hK _ _ (fun _ => ⟨g0, k0, k1⟩) ?_
    clear hK K
    repeat (first | (refine wpPlanZ_free (by rfl) (by rfl) (fun W => by (go_simp; try with_reducible rfl)) (fun K hK => ?_); go_simp; refine hK _ ?_; clear hK K) | (refine wpPlanZ_quiet (by rfl) (by rfl) (fun W hW => by (obtain ⟨z0, z1, z2⟩ := hW; go_simp; try with_reducible rfl)) (fun K hK => ?_); go_simp; refine hK _ ?_; clear hK K))
    refine wpPlanZ_nil ?_
    have c0 : (V.drew.drewN n).cell? ⟨mb, 65, none⟩ = some (.pointer (some ⟨sb, 0, none⟩)) := g0
    have c1 : (V.drew.drewN n).cell? ⟨w.heap.size, 0, none⟩ = some (.int .u32 a) := k0
    have c2 : (V.drew.drewN n).cell? ⟨w.heap.size, 1, none⟩ = some (.int .i64 s) := k1
    have B2 : Hid (Below w.heap.size w (V.drew.drewN n)) := below_drewN B1 n
    generalize V.drew.drewN n = U at *
    clear g0 k0 k1 HB0 B1
    go_upto_region 2 with fail
    refine wp_region_phase 13 [(0, 0), (1, 0), (2, 0), (3, 0), (4, 0), (5, 0), (6, 1), (7, 0), (8, 1), (9, 2), (10, 0), (11, 0), (12, 0)] (fun W => W.cell? ⟨mb, 65, none⟩ = some (.pointer (some ⟨sb, 0, none⟩)) ∧ W.cell? ⟨w.heap.size, 0, none⟩ = some (.int .u32 a) ∧ W.cell? ⟨w.heap.size, 1, none⟩ = some (.int .i64 s)) (by kernel_rfl) (by kernel_rfl) (fun _ _ _ d _ h => by cases d <;> exact h) ⟨c0, c1, c2⟩ ?_
    repeat (first | (refine wpPlanZ_free (by rfl) (by rfl) (fun W => by (go_simp; try with_reducible rfl)) (fun K hK => ?_); go_simp; refine hK _ ?_; clear hK K) | (refine wpPlanZ_quiet (by rfl) (by rfl) (fun W hW => by (obtain ⟨z0, z1, z2⟩ := hW; go_simp; try with_reducible rfl)) (fun K hK => ?_); go_simp; refine hK _ ?_; clear hK K))
    refine wpPlanZ_serial (by rfl) (by rfl) (fun K hK => ?_)
    go_simp
    have B3 : Below w.heap.size w U.drew := B2.out.drew
    refine (watched_any (HR.out _ B3) a h0 h1).mono ?_
    rintro e w3 ⟨rfl, hb3⟩
    have hmz : mb < U.drew.heap.size := World.block_lt_of_cell? U _ c0
    have hwz : w.heap.size < U.drew.heap.size := World.block_lt_of_cell? U _ c1
    refine hK _ _ (fun _ => ⟨(hb3.cell (p := ⟨mb, 65, none⟩) hmz).trans c0, (hb3.cell (p := ⟨w.heap.size, 0, none⟩) hwz).trans c1, (hb3.cell (p := ⟨w.heap.size, 1, none⟩) hwz).trans c2⟩) ?_
    have B4 : Hid (Below w.heap.size w w3) := B3.trans (hb3.mono B3.size)
    clear hK K c0 c1 c2 B2 B3 hb3 hmz hwz
    repeat (first | (refine wpPlanZ_free (by rfl) (by rfl) (fun W => by (go_simp; try with_reducible rfl)) (fun K hK => ?_); go_simp; refine hK _ ?_; clear hK K) | (refine wpPlanZ_quiet (by rfl) (by rfl) (fun W hW => by (obtain ⟨z0, z1, z2⟩ := hW; go_simp; try with_reducible rfl)) (fun K hK => ?_); go_simp; refine hK _ ?_; clear hK K))
    refine wpPlanZ_nil ?_
    go_wp2
    go_ret
    exact ⟨rfl, B4.out⟩
  · rw [decide_eq_false hk, Bool.false_and]
    go_enter Tryz.func147, Tryz.ntmps147
    go_upto_region 1 with fail
    generalize w.alloc (.cells #[.int .u32 a, .int .i64 s, .int .u32 v] 158) = V at *
    refine wp_region_phase 14 [(0, 0), (1, 0), (2, 0), (3, 1), (4, 0), (5, 1), (6, 0), (7, 1), (8, 2), (9, 0), (10, 0), (11, 0), (12, 0), (13, 0)] (fun W => W.cell? ⟨mb, 65, none⟩ = some (.pointer (some ⟨sb, 0, none⟩)) ∧ W.cell? ⟨w.heap.size, 0, none⟩ = some (.int .u32 a) ∧ W.cell? ⟨w.heap.size, 1, none⟩ = some (.int .i64 s)) (by kernel_rfl) (by kernel_rfl) (fun _ _ _ d _ h => by cases d <;> exact h) ⟨by simpa using g0, by simpa using k0, by simpa using k1⟩ ?_
    repeat (first | (refine wpPlanZ_free (by rfl) (by rfl) (fun W => by (go_simp; try with_reducible rfl)) (fun K hK => ?_); go_simp; refine hK _ ?_; clear hK K) | (refine wpPlanZ_quiet (by rfl) (by rfl) (fun W hW => by (obtain ⟨z0, z1, z2⟩ := hW; go_simp; try with_reducible rfl)) (fun K hK => ?_); go_simp; refine hK _ ?_; clear hK K))
    refine wpPlanZ_serial (by rfl) (by rfl) (fun K hK => ?_)
    go_simp
    have B1 : Below w.heap.size w V.drew := HB0.out.drew
    refine (load_no _ _ _ (HE.out _ B1).er (.pointer (some ⟨sb, 0, none⟩)) a s false h0 h1 s0 s1 hk).mono ?_
    rintro e w1 ⟨rfl, rfl⟩
    refine hK _ _ (fun _ => ⟨g0, k0, k1⟩) ?_
    clear hK K
    repeat (first | (refine wpPlanZ_free (by rfl) (by rfl) (fun W => by (go_simp; try with_reducible rfl)) (fun K hK => ?_); go_simp; refine hK _ ?_; clear hK K) | (refine wpPlanZ_quiet (by rfl) (by rfl) (fun W hW => by (obtain ⟨z0, z1, z2⟩ := hW; go_simp; try with_reducible rfl)) (fun K hK => ?_); go_simp; refine hK _ ?_; clear hK K))
    refine wpPlanZ_nil ?_
    have B2 : Hid (Below w.heap.size w V.drew) := B1
    generalize V.drew = U at *
    clear g0 k0 k1 HB0 B1
    go_upto_region 2 with fail
    refine wp_region_phase 13 [(0, 0), (1, 0), (2, 0), (3, 0), (4, 0), (5, 0), (6, 1), (7, 0), (8, 1), (9, 2), (10, 0), (11, 0), (12, 0)] (fun W => True) (by kernel_rfl) (by kernel_rfl) (fun _ _ _ d _ h => by cases d <;> exact h) trivial ?_
    repeat (first | (refine wpPlanZ_free (by rfl) (by rfl) (fun W => by (go_simp; try with_reducible rfl)) (fun K hK => ?_); go_simp; refine hK _ ?_; clear hK K) | (refine wpPlanZ_skipG (by rfl) (by rfl) (fun K hK => ?_); go_simp; refine hK _ ?_; clear hK K))
    refine wpPlanZ_nil ?_
    go_wp2
    go_ret
    exact ⟨rfl, B2.out.drew⟩
set_option maxRecDepth 100000 in
set_option maxHeartbeats 1000000 in
theorem hold_any (G : GAt w base mb stb sb X p vi) (hp : p.length ≤ 1000) (q : Pq) :
    Calls Tryz.prog 149 #[.pointer (some ⟨mb, 65, none⟩), .agg #[.int .u32 q.1.a, .int .i64 q.1.s, .int .u32 q.1.v]] w fun e w' => e = .returned (.tuple #[]) ∧ ∃ vi', GAt w' base mb stb sb X (p ++ [q]) vi' ∧ Moved w vi vi' ∧ Kx w w' mb vi := by
  obtain ⟨⟨qa, qs, qv⟩, hq⟩ := q
  have B0 : Below w.heap.size w (w.alloc (.cells #[.int .u32 qa, .int .i64 qs, .int .u32 qv] 158)) := (Below.refl _ _).alloc (Nat.le_refl _) _
  have k0 : (w.alloc (.cells #[.int .u32 qa, .int .i64 qs, .int .u32 qv] 158)).cell? ⟨w.heap.size, 0, none⟩ = some (.int .u32 qa) := by simp
  have k1 : (w.alloc (.cells #[.int .u32 qa, .int .i64 qs, .int .u32 qv] 158)).cell? ⟨w.heap.size, 1, none⟩ = some (.int .i64 qs) := by simp
  have k2 : (w.alloc (.cells #[.int .u32 qa, .int .i64 qs, .int .u32 qv] 158)).cell? ⟨w.heap.size, 2, none⟩ = some (.int .u32 qv) := by simp
  have G0 : Hid (GAt (w.alloc (.cells #[.int .u32 qa, .int .i64 qs, .int .u32 qv] 158)) base mb stb sb X p vi) := G.stays B0
  have hvb : ∀ k, vi.ownBlock = some k → k < w.heap.size := fun k hk => (G.blk k hk).1
  have hbs := G.bs
  have hmw := G.lt
  have HB0 : Hid (Below w.heap.size w (w.alloc (.cells #[.int .u32 qa, .int .i64 qs, .int .u32 qv] 158))) := B0
  have hVs : (w.alloc (.cells #[.int .u32 qa, .int .i64 qs, .int .u32 qv] 158)).heap.size = w.heap.size + 1 := by simp
  obtain ⟨i0, hi, hz0, hz1, hz2⟩ := info_parts infoPd
  clear G B0
  go_enter Tryz.func149, Tryz.ntmps149
  go_upto_region 1 with fail
  generalize w.alloc (.cells #[.int .u32 qa, .int .i64 qs, .int .u32 qv] 158) = V at *
  have g1 := G0.out.g1
  refine wp_region_phase 10 [(0, 0), (1, 0), (2, 0), (3, 0), (4, 1), (5, 1), (6, 2), (7, 2), (8, 0), (9, 0), (10, 2)] (fun W => W.cell? ⟨mb, 66, none⟩ = some vi ∧ W.cell? ⟨w.heap.size, 0, none⟩ = some (.int .u32 qa) ∧ W.cell? ⟨w.heap.size, 1, none⟩ = some (.int .i64 qs) ∧ W.cell? ⟨w.heap.size, 2, none⟩ = some (.int .u32 qv)) (by kernel_rfl) (by kernel_rfl) (fun _ _ _ d _ h => by cases d <;> exact h) ⟨g1, k0, k1, k2⟩ ?_
  repeat (first | (refine wpPlanZ_free (by rfl) (by rfl) (fun W => by (go_simp; try with_reducible rfl)) (fun K hK => ?_); go_simp; refine hK _ ?_; clear hK K) | (refine wpPlanZ_quiet (by rfl) (by rfl) (fun W hW => by (obtain ⟨z0, z1, z2, z3⟩ := hW; go_simp; try with_reducible rfl)) (fun K hK => ?_); go_simp; refine hK _ ?_; clear hK K))
  refine wpPlanZ_serial (by rfl) (by rfl) (fun K hK => ?_)
  go_simp
  have hmV : mb < V.heap.size := by omega
  have cU : ∀ (b j : Nat) (u : Value), V.cell? ⟨b, j, none⟩ = some u → ((V.alloc (.cells #[.int .u32 qa, .int .i64 qs, .int .u32 qv] 158)).drew).cell? ⟨b, j, none⟩ = some u := fun b j u h => (World.grownBy_alloc V _ none).cell h (by simp)
  refine hK _ _ (fun _ => ⟨cU _ _ _ g1, cU _ _ _ k0, cU _ _ _ k1, cU _ _ _ k2⟩) ?_
  clear hK K
  have G1 : Hid (GAt ((V.alloc (.cells #[.int .u32 qa, .int .i64 qs, .int .u32 qv] 158)).drew) base mb stb sb X p vi) := (G0.out.stays ((Below.refl _ _).alloc (Nat.le_refl _) _)).drewN 1
  have HB1 : Hid (Below w.heap.size w ((V.alloc (.cells #[.int .u32 qa, .int .i64 qs, .int .u32 qv] 158)).drew)) := (HB0.out.alloc (by omega) _).drew
  have hnews : ∀ (j : Nat) (u : Value), (pdC ⟨qa, qs, qv⟩)[j]? = some u → ((V.alloc (.cells #[.int .u32 qa, .int .i64 qs, .int .u32 qv] 158)).drew).cell? ((⟨V.heap.size, 0, none⟩ : Addr).add j) = some u := by
    intro j u hj
    show (V.alloc (.cells #[.int .u32 qa, .int .i64 qs, .int .u32 qv] 158)).cell? _ = _
    rw [add_lit, cell_of_row _ _ _ _ _ _ (heap_alloc_new V _)]
    simpa [pdC] using hj
  rw [hVs] at hnews
  have hU0 := cU _ _ _ k0
  have hU1 := cU _ _ _ k1
  have hU2 := cU _ _ _ k2
  have hUs : ((V.alloc (.cells #[.int .u32 qa, .int .i64 qs, .int .u32 qv] 158)).drew).heap.size = w.heap.size + 2 := by simp [hVs]
  generalize (V.alloc (.cells #[.int .u32 qa, .int .i64 qs, .int .u32 qv] 158)).drew = U at *
  refine wpPlanZ_serial (by rfl) (by rfl) (fun K hK => ?_)
  refine oper_append_movedG _ _ 234 rfl base 158 i0 (.agg #[.int .u32 0, .int .i64 0, .int .u32 0]) 3 24 Tryz.underlying234 hi hz0 hz1 hz2 rfl (by decide) vi p.length (pdL p) (by rfl) G1.out.row ⟨w.heap.size + 1, 0, none⟩ 1 1 (pdC ⟨qa, qs, qv⟩) (by rfl) rfl hnews (by simp [pdC, Value.oneCell']) (by unfold maxLen; omega) (by omega) (by omega) ?_
  intro v' w3 ho hg hm
  obtain ⟨g', cap', rfl⟩ := own_pos ho
  have hbk : w3.heap[mb]? = U.heap[mb]? := hg.block mb (by omega) (fun e => G1.out.ne mb e.symm rfl)
  have hbw : w3.heap[w.heap.size]? = U.heap[w.heap.size]? := hg.block w.heap.size (by omega) (fun e => by have := hvb _ e.symm; omega)
  have hc1 : w3.cell? ⟨mb, 66, none⟩ = some vi := (World.cell?_of_block (a := ⟨mb, 66, none⟩) hbk).trans G1.out.g1
  have hf1 : w3.frozen? ⟨mb, 66, none⟩ = false := (World.frozen?_of_block (a := ⟨mb, 66, none⟩) hbk).trans (G1.out.fz 66)
  refine hK _ _ (fun _ => ⟨hc1, (World.cell?_of_block (a := ⟨w.heap.size, 0, none⟩) hbw).trans hU0, (World.cell?_of_block (a := ⟨w.heap.size, 1, none⟩) hbw).trans hU1, (World.cell?_of_block (a := ⟨w.heap.size, 2, none⟩) hbw).trans hU2⟩) ?_
  clear hK K
  refine wpPlanZ_free (by rfl) (by rfl) (fun W => by (go_simp; try with_reducible rfl)) (fun K hK => ?_); go_simp; refine hK _ ?_; clear hK K
  refine wpPlanZ_free (by rfl) (by rfl) (fun W => by (go_simp; try with_reducible rfl)) (fun K hK => ?_); go_simp; refine hK _ ?_; clear hK K
  refine wpPlanZ_serial (by rfl) (by rfl) (fun K hK => ?_)
  go_simp
  refine hK _ _ (fun h => absurd h (by decide)) ?_
  clear hK K
  refine wpPlanZ_nil ?_
  go_wp2
  go_end0
  refine ⟨rfl, _, G1.out.wait ⟨⟨qa, qs, qv⟩, hq⟩ hg ho hm, ?_, ?_⟩
  · intro k hk
    rcases hm k hk with h | h
    · exact .inl h
    · exact .inr (by omega)
  · refine ⟨hg.os.trans HB1.out.os, hg.tape.trans HB1.out.tape, hg.output.trans HB1.out.output, ?_, fun k hk hm1 hv1 => ?_⟩
    · have := HB1.out.size; have := hg.size; simp; omega
    · rw [Below.heap_setCell w3 ⟨mb, 66, none⟩ _ k hm1, hg.block k (by omega) (fun e => hv1 e.symm)]
      exact HB1.out.block k hk
end
end Go.Proofs.YtflagpkmebdckaaGreatDoor
/-
  A Guest's registers, an op in its box, an effect in its box.
-/
namespace Go.Proofs.YtflagpkmebdckaaGreatDoor
open Go.RowKit Go.Maps
open Num
set_option linter.unusedVariables false
section
variable {w : World} {base mb stb sb bp bw bh N : Nat} {X : Nat → Int} {p : List Pq} {vi : Value} {m : Nat → Int} {wt ht : Int → Bool}
/-- a register, written -/
theorem GAt.put {w : World} (M : GAt w base mb stb sb X p vi) (d : Nat) (hd : d < 64) (v : Int) (hv : u32 v) : GAt (w.setCell ⟨mb, 1 + d, none⟩ (.int .u32 v)) base mb stb sb (setX X d v) p vi := by
  have o : ∀ (j : Nat) (u : Value), j ≠ 1 + d → w.cell? ⟨mb, j, none⟩ = some u → (w.setCell ⟨mb, 1 + d, none⟩ (.int .u32 v)).cell? ⟨mb, j, none⟩ = some u := fun j u hj e => by
    rw [World.cell?_setCell_other _ _ _ _ (by intro e'; injection e' with e1 e2; exact hj e2.symm)]; exact e
  refine ⟨fun j hj => ?_, o _ _ (by omega) M.s0, o _ _ (by omega) M.g0, o _ _ (by omega) M.g1, fun j => by rw [World.frozen?_setCell]; exact M.fz j, owns_blocks M.row (fun k hk => Below.heap_setCell w ⟨mb, 1 + d, none⟩ _ k (fun e => M.ne k hk e)), M.lb, M.ne, fun j => ?_, by simp; exact M.bs⟩
  · unfold setX
    by_cases e : j = d
    · subst e; rw [if_pos (by simp)]; exact World.cell?_setCell_same _ _ _ (M.x j hj)
    · rw [if_neg (by simpa using e)]; exact o _ _ (by omega) (M.x j hj)
  · unfold setX; split
    · exact hv
    · exact M.xb j
theorem GAt.drew {w : World} (M : GAt w base mb stb sb X p vi) : GAt w.drew base mb stb sb X p vi := ⟨M.x, M.s0, M.g0, M.g1, M.fz, M.row, M.lb, M.ne, M.xb, M.bs⟩
theorem GAt.opened {w : World} (M : GAt w base mb stb sb X p vi) (o : Obj) : GAt (w.alloc o) base mb stb sb X p vi := M.stays ((Below.refl _ _).alloc (Nat.le_refl _) _)
end
/-- an op's box -/
structure OAt (W : World) (B : Nat) (s : ByteArray) (d a b i t : Int) : Prop where
  c0 : W.cell? ⟨B, 0, none⟩ = some (.string s)
  c1 : W.cell? ⟨B, 1, none⟩ = some (.int .i64 d)
  c2 : W.cell? ⟨B, 2, none⟩ = some (.int .i64 a)
  c3 : W.cell? ⟨B, 3, none⟩ = some (.int .i64 b)
  c4 : W.cell? ⟨B, 4, none⟩ = some (.int .u32 i)
  c5 : W.cell? ⟨B, 5, none⟩ = some (.int .i64 t)
theorem OAt.new (w : World) (s : ByteArray) (d a b i t : Int) : OAt (w.alloc (.cells #[.string s, .int .i64 d, .int .i64 a, .int .i64 b, .int .u32 i, .int .i64 t] 139)) w.heap.size s d a b i t := by
  refine ⟨?_, ?_, ?_, ?_, ?_, ?_⟩ <;> simp
theorem OAt.stays {W W' : World} {B : Nat} {s : ByteArray} {d a b i t : Int} (O : OAt W B s d a b i t) (h : Below W.heap.size W W') : OAt W' B s d a b i t := by
  have c : ∀ (j : Nat) (u : Value), W.cell? ⟨B, j, none⟩ = some u → W'.cell? ⟨B, j, none⟩ = some u := fun j u e => (h.cell (p := ⟨B, j, none⟩) (World.block_lt_of_cell? W ⟨B, j, none⟩ e)).trans e
  exact ⟨c _ _ O.c0, c _ _ O.c1, c _ _ O.c2, c _ _ O.c3, c _ _ O.c4, c _ _ O.c5⟩
theorem OAt.drew {W : World} {B : Nat} {s : ByteArray} {d a b i t : Int} (O : OAt W B s d a b i t) : OAt W.drew B s d a b i t := ⟨O.c0, O.c1, O.c2, O.c3, O.c4, O.c5⟩
theorem OAt.lt {W : World} {B : Nat} {s : ByteArray} {d a b i t : Int} (O : OAt W B s d a b i t) : B < W.heap.size := World.block_lt_of_cell? _ _ O.c0
theorem wrap_u32 (n : Int) : IntKind.u32.wrap n = lo n := by unfold lo; simp [IntKind.wrap, IntKind.signed, IntKind.bits]
theorem maxw (b : Int) (hb : b = 1 ∨ b = 2 ∨ b = 4 ∨ b = -1 ∨ b = -2) : max b (IntKind.i64.wrap (-b)) = if b < 0 then -b else b := by
  rcases hb with rfl | rfl | rfl | rfl | rfl <;> decide
theorem kt (k j : Nat) (h1 : 1 ≤ k) (h2 : k < 28) (g1 : 1 ≤ j) (g2 : j < 28) (hne : k ≠ j) : ((kindS k).toList == kinds.getD j []) = false := by
  rw [kn_eq _ j g1 g2, kn_kind k h1 h2]; simpa using hne
/-- an effect's box -/
structure XBox (W : World) (x : Nat) : Prop where
  c : ∀ j, j < 7 → ∃ u, W.cell? ⟨x, j, none⟩ = some u
  f : ∀ j, W.frozen? ⟨x, j, none⟩ = false
theorem XBox.lt {W : World} {x : Nat} (F : XBox W x) : x < W.heap.size := by obtain ⟨u, a⟩ := F.c 0 (by omega); exact World.block_lt_of_cell? _ _ a
theorem XBox.block {W W' : World} {x : Nat} (F : XBox W x) (h : W'.heap[x]? = W.heap[x]?) : XBox W' x :=
  ⟨fun j hj => by obtain ⟨u, a⟩ := F.c j hj; exact ⟨u, (World.cell?_of_block (a := ⟨x, j, none⟩) h).trans a⟩, fun j => (World.frozen?_of_block (a := ⟨x, j, none⟩) h).trans (F.f j)⟩
theorem XBox.stays {W W' : World} {x : Nat} (F : XBox W x) (h : Below W.heap.size W W') : XBox W' x := F.block (h.block _ F.lt)
theorem XBox.drew {W : World} {x : Nat} (F : XBox W x) : XBox W.drew x := ⟨F.c, F.f⟩
theorem XBox.new (w : World) : XBox (w.alloc (.cells #[.int .i64 0, .int .u32 0, .int .u32 0, .int .i64 0, .int .u32 0, .bool false, .int .u32 0] 160)) w.heap.size := by
  refine ⟨fun j hj => ?_, fun j => World.frozen?_alloc_at _ _ _ _ rfl⟩
  have : j = 0 ∨ j = 1 ∨ j = 2 ∨ j = 3 ∨ j = 4 ∨ j = 5 ∨ j = 6 := by omega
  rcases this with rfl | rfl | rfl | rfl | rfl | rfl | rfl
  · exact ⟨.int .i64 0, by simp⟩
  · exact ⟨.int .u32 0, by simp⟩
  · exact ⟨.int .u32 0, by simp⟩
  · exact ⟨.int .i64 0, by simp⟩
  · exact ⟨.int .u32 0, by simp⟩
  · exact ⟨.bool false, by simp⟩
  · exact ⟨.int .u32 0, by simp⟩
theorem ef_load {w : World} {B : Nat} {v : Nat → Value} (z : ∀ j, j < 7 → w.cell? ⟨B, j, none⟩ = some (v j)) : (loadVar 160 ⟨B, 0, none⟩).run Tryz.prog w = .ok (.agg #[v 0, v 1, v 2, v 3, v 4, v 5, v 6]) w := by
  have z0 := z 0 (by omega)
  have z1 := z 1 (by omega)
  have z2 := z 2 (by omega)
  have z3 := z 3 (by omega)
  have z4 := z 4 (by omega)
  have z5 := z 5 (by omega)
  have z6 := z 6 (by omega)
  simp [go_sem, z0, z1, z2, z3, z4, z5, z6]
def putN (W : World) (B : Nat) (v : Nat → Value) : Nat → World
  | 0 => W
  | n + 1 => (putN W B v n).setCell ⟨B, n, none⟩ (v n)
theorem putN_cell {W : World} {B : Nat} {v : Nat → Value} : ∀ n j, (∃ u, W.cell? ⟨B, j, none⟩ = some u) → (putN W B v n).cell? ⟨B, j, none⟩ = if j < n then some (v j) else W.cell? ⟨B, j, none⟩
  | 0, j, _ => by rw [if_neg (by omega)]; rfl
  | n + 1, j, h => by
    have ih := putN_cell (v := v) n j h
    show ((putN W B v n).setCell ⟨B, n, none⟩ (v n)).cell? ⟨B, j, none⟩ = _
    by_cases e : j = n
    · subst e
      rw [if_neg (by omega)] at ih
      rw [if_pos (by omega)]
      obtain ⟨u, hu⟩ := h
      exact World.cell?_setCell_same _ _ _ (ih.trans hu)
    · rw [World.cell?_setCell_other _ _ _ _ (by intro e'; injection e' with e1 e2; exact e e2.symm), ih]
      by_cases h1 : j < n
      · rw [if_pos h1, if_pos (by omega)]
      · rw [if_neg h1, if_neg (by omega)]
theorem ef_put {W : World} {B : Nat} (F : XBox W B) (v0 v1 v2 v3 v4 v5 v6 : Value) : (loadVar 160 ⟨B, 0, none⟩).run Tryz.prog (((((((W.setCell ⟨B, 0, none⟩ v0).setCell ⟨B, 1, none⟩ v1).setCell ⟨B, 2, none⟩ v2).setCell ⟨B, 3, none⟩ v3).setCell ⟨B, 4, none⟩ v4).setCell ⟨B, 5, none⟩ v5).setCell ⟨B, 6, none⟩ v6) = .ok (.agg #[v0, v1, v2, v3, v4, v5, v6]) (((((((W.setCell ⟨B, 0, none⟩ v0).setCell ⟨B, 1, none⟩ v1).setCell ⟨B, 2, none⟩ v2).setCell ⟨B, 3, none⟩ v3).setCell ⟨B, 4, none⟩ v4).setCell ⟨B, 5, none⟩ v5).setCell ⟨B, 6, none⟩ v6) := by
  have h := ef_load (w := putN W B (fun j => match j with | 0 => v0 | 1 => v1 | 2 => v2 | 3 => v3 | 4 => v4 | 5 => v5 | _ => v6) 7) (B := B) (v := fun j => match j with | 0 => v0 | 1 => v1 | 2 => v2 | 3 => v3 | 4 => v4 | 5 => v5 | _ => v6) (fun j hj => by rw [putN_cell 7 j (F.c j hj), if_pos hj])
  exact h
theorem ef_below {w W : World} {b B : Nat} (h : Below b w W) (hB : b ≤ B) (v0 v1 v2 v3 v4 v5 v6 : Value) : Below b w (((((((W.setCell ⟨B, 0, none⟩ v0).setCell ⟨B, 1, none⟩ v1).setCell ⟨B, 2, none⟩ v2).setCell ⟨B, 3, none⟩ v3).setCell ⟨B, 4, none⟩ v4).setCell ⟨B, 5, none⟩ v5).setCell ⟨B, 6, none⟩ v6) :=
  ((((((h.setCell (p := ⟨B, 0, none⟩) hB _).setCell (p := ⟨B, 1, none⟩) hB _).setCell (p := ⟨B, 2, none⟩) hB _).setCell (p := ⟨B, 3, none⟩) hB _).setCell (p := ⟨B, 4, none⟩) hB _).setCell (p := ⟨B, 5, none⟩) hB _).setCell (p := ⟨B, 6, none⟩) hB _
end Go.Proofs.YtflagpkmebdckaaGreatDoor
/-
  Package ir's gate: open: memory takes what waits.
-/
namespace Go.Proofs.YtflagpkmebdckaaGreatDoor
open Go.RowKit Go.Maps
open Num
set_option linter.unusedVariables false
section
variable {w : World} {base mb stb sb bp bw bh N : Nat} {X : Nat → Int} {p : List Pq} {vi : Value} {m : Nat → Int} {wt ht : Int → Bool}
theorem Turned.refl (w : World) (b c : Nat) : Turned w w b c := ⟨rfl, rfl, rfl, Nat.le_refl _, fun _ _ _ _ => rfl⟩
theorem Turned.trans {w w1 w2 : World} {b c : Nat} (h : Turned w w1 b c) (g : Turned w1 w2 b c) : Turned w w2 b c :=
  ⟨g.os.trans h.os, g.tape.trans h.tape, g.output.trans h.output, Nat.le_trans h.size g.size, fun k hk n1 n2 => (g.block k (Nat.lt_of_lt_of_le hk h.size) n1 n2).trans (h.block k hk n1 n2)⟩
theorem turned_drew (w : World) (b c : Nat) : Turned w w.drew b c := ⟨rfl, rfl, rfl, Nat.le_refl _, fun _ _ _ _ => rfl⟩
theorem RamIs.drew (R : RamIs w sb bp bw bh N m wt ht) : RamIs w.drew sb bp bw bh N m wt ht := ⟨R.c0, R.c1, R.c2, R.pw, R.ph, R.wh, R.sp, R.sh, R.ps, R.ws, R.hs, R.mb⟩
theorem pqs_take_snoc {j : Nat} {q : Pq} (h : p[j]? = some q) : pqs (p.take (j + 1)) = pqs (p.take j) ++ [q.1] := by
  unfold pqs; rw [List.take_add_one, h]; simp
set_option maxRecDepth 100000 in
set_option maxHeartbeats 4000000 in
theorem gopen_any (R : RamIs w sb bp bw bh N m wt ht) (G : GAt w base mb stb sb X p vi) (hp : p.length ≤ 1000) (hN : N ≤ 1000000) (hbp : bp < base) (hbh : bh < base) (hwt : ∀ q ∈ pqs p, wt (q.a / 256) = false) :
    Calls Tryz.prog 150 #[.pointer (some ⟨mb, 65, none⟩)] w fun e w' => e = .returned (.tuple #[]) ∧ RamIs w' sb bp bw bh (N + 2 * p.length) (vw m (pqs p)) wt ht ∧ Turned w w' bp bh := by
  have g1 := G.g1
  have GH : Hid (GAt w base mb stb sb X p vi) := G
  have RH : Hid (RamIs w sb bp bw bh N m wt ht) := R
  have WH : Hid (∀ q ∈ pqs p, wt (q.a / 256) = false) := hwt
  obtain ⟨ao, cap, hvi⟩ : ∃ ao cap, vi = .slice ao p.length cap := by
    rcases G.row.2 with ⟨rfl, h⟩ | ⟨g, cap, cur, rfl, _⟩
    · exact ⟨none, 0, by rw [h]⟩
    · exact ⟨_, _, rfl⟩
  clear G R hwt
  rw [hvi] at g1
  go_enter Tryz.func150, Tryz.ntmps150
  go_wp2
  go_loopw [9] (fun i wr => ∃ j : Nat, j ≤ p.length ∧ i = .int .i64 j ∧ RamIs wr sb bp bw bh (N + 2 * j) (vw m (pqs (p.take j))) wt ht ∧ Turned w wr bp bh) (fun i _ => p.length - (intOf i).toNat)
  case atStart => exact ⟨0, Nat.zero_le _, rfl, RH.out, Turned.refl _ _ _⟩
  case round =>
    obtain ⟨j, hj, rfl, Rr, Tr⟩ := hrel
    by_cases hlt : j < p.length
    · obtain ⟨q, hq⟩ : ∃ q, p[j]? = some q := ⟨p[j], List.getElem?_eq_getElem hlt⟩
      have Gr := GH.out.turned Tr hbp hbh
      have hpd := Gr.pd
      have q0 := Gr.g0
      have hmr := Gr.lt
      rcases hpd with ⟨_, rfl⟩ | ⟨b, off, cap2, e, hb, hc⟩
      · simp at hlt
      rw [hvi] at e
      injection e with e1 e2 e3
      subst e1 e3
      obtain ⟨c0, c1, c2⟩ := hc j q hq
      have hqo := q.2
      have hqm : q.1 ∈ pqs p := List.mem_map.2 ⟨q, List.mem_of_getElem? hq, rfl⟩
      have hqw := WH.out _ hqm
      have HV : Hid (vw m (pqs (p.take (j + 1))) = q.1.put (vw m (pqs (p.take j)))) := by
        show _ = _; rw [pqs_take_snoc hq, vw_snoc]
      have RR : Hid (RamIs wr sb bp bw bh (N + 2 * j) (vw m (pqs (p.take j))) wt ht) := Rr
      have TT : Hid (Turned w wr bp bh) := Tr
      have hlt' : (j : Int) < p.length := by omega
      clear hc Rr Tr Gr hqm hq g1
      generalize vw m (pqs (p.take j)) = mj at *
      obtain ⟨⟨qa, qs, qv⟩, hqk⟩ := q
      simp only at c0 c1 c2 hqw
      have hqk : Hid (Pend.ok ⟨qa, qs, qv⟩) := hqk
      clear hqo
      go_upto_region 3 with fail
      have k0 : (wr.alloc (.cells #[.int .u32 qa, .int .i64 qs, .int .u32 qv] 158)).cell? ⟨mb, 65, none⟩ = some (.pointer (some ⟨sb, 0, none⟩)) := (World.grownBy_alloc wr _ none).cell q0 (by simp)
      have k1 : (wr.alloc (.cells #[.int .u32 qa, .int .i64 qs, .int .u32 qv] 158)).cell? ⟨wr.heap.size, 0, none⟩ = some (.int .u32 qa) := by simp
      have k2 : (wr.alloc (.cells #[.int .u32 qa, .int .i64 qs, .int .u32 qv] 158)).cell? ⟨wr.heap.size, 1, none⟩ = some (.int .i64 qs) := by simp
      have k3 : (wr.alloc (.cells #[.int .u32 qa, .int .i64 qs, .int .u32 qv] 158)).cell? ⟨wr.heap.size, 2, none⟩ = some (.int .u32 qv) := by simp
      have R1 : Hid (RamIs (wr.alloc (.cells #[.int .u32 qa, .int .i64 qs, .int .u32 qv] 158)).drew sb bp bw bh (N + 2 * j) mj wt ht) := (RR.out.grow (World.grownBy_alloc wr _ none)).drew
      have T1 : Hid (Turned w (wr.alloc (.cells #[.int .u32 qa, .int .i64 qs, .int .u32 qv] 158)).drew bp bh) := (TT.out.of_below ((Below.refl _ _).alloc (Nat.le_refl _) _)).trans (turned_drew _ _ _)
      generalize wr.alloc (.cells #[.int .u32 qa, .int .i64 qs, .int .u32 qv] 158) = V at *
      have hst := store_ok R1.out qa qs qv hqk.out.a0 (by have := (chk_ok hqk.out.c).2.2; simp only at this; omega) hqk.out.v0 hqk.out.v1 (by unfold maxLen; omega) hqk.out.c
      refine wp_region_phase 11 [(0, 0), (1, 0), (2, 0), (3, 1), (4, 0), (5, 1), (6, 0), (7, 1), (8, 0), (9, 1), (10, 2)] (fun W => W.cell? ⟨mb, 65, none⟩ = some (.pointer (some ⟨sb, 0, none⟩)) ∧ W.cell? ⟨wr.heap.size, 0, none⟩ = some (.int .u32 qa) ∧ W.cell? ⟨wr.heap.size, 1, none⟩ = some (.int .i64 qs) ∧ W.cell? ⟨wr.heap.size, 2, none⟩ = some (.int .u32 qv)) (by kernel_rfl) (by kernel_rfl) (fun _ _ _ d _ h => by cases d <;> exact h) ⟨by simpa using k0, by simpa using k1, by simpa using k2, by simpa using k3⟩ ?_
      repeat (first | (refine wpPlanZ_free (by rfl) (by rfl) (fun W => by (go_simp; try with_reducible rfl)) (fun K hK => ?_); go_simp; refine hK _ ?_; clear hK K) | (refine wpPlanZ_quiet (by rfl) (by rfl) (fun W hW => by (obtain ⟨z0, z1, z2, z3⟩ := hW; go_simp; try with_reducible rfl)) (fun K hK => ?_); go_simp; refine hK _ ?_; clear hK K))
      refine wpPlanZ_serial (by rfl) (by rfl) (fun K hK => ?_)
      go_simp
      refine hst.mono ?_
      rintro e w2 ⟨rfl, R2, t2⟩
      have nm1 : mb ≠ bp ∧ mb ≠ bh := by have := GH.out.lb; omega
      have nw1 : wr.heap.size ≠ bp ∧ wr.heap.size ≠ bh := by have := GH.out.bs; have := TT.out.size; omega
      refine hK _ _ (fun _ => ⟨t2.cell (A := ⟨mb, 65, none⟩) (by simpa using k0) nm1.1 nm1.2, t2.cell (A := ⟨wr.heap.size, 0, none⟩) (by simpa using k1) nw1.1 nw1.2, t2.cell (A := ⟨wr.heap.size, 1, none⟩) (by simpa using k2) nw1.1 nw1.2, t2.cell (A := ⟨wr.heap.size, 2, none⟩) (by simpa using k3) nw1.1 nw1.2⟩) ?_
      clear hK K
      refine wpPlanZ_nil ?_
      have R3 : Hid (RamIs w2 sb bp bw bh (N + 2 * (j + 1)) (Pend.put mj ⟨qa, qs, qv⟩) wt ht) := (R2.hits (fun x => by rw [hqw]; simp)).mono (by omega)
      have T3 : Hid (Turned w w2 bp bh) := T1.out.trans t2
      clear R2 t2 hst k0 k1 k2 k3 R1 T1
      go_wp2
      go_roundw
      case rel => exact ⟨j + 1, by omega, by go_num, by rw [HV.out]; exact R3.out, T3.out⟩
      case measure => simp [intOf]; omega
    · obtain rfl : j = p.length := by omega
      rw [List.take_length] at Rr
      go_wp2
      go_end0
      exact ⟨rfl, Rr, Tr⟩
end
end Go.Proofs.YtflagpkmebdckaaGreatDoor
