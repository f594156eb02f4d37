/-
  Package ir: what a kind makes of two registers.
-/
import Derived.Maps.OwnSet
import Derived.WalkSpells
import Derived.Test.YtjkencgcdlfjhaaGreatDoorJBase
import Derived.Test.YtjkencgcdlfjhaaGreatDoorJOptP
import Derived.Test.YtjkencgcdlfjhaaGreatDoorJReads
import Derived.Test.YtjkencgcdlfjhaaGreatDoorJPhase
import Derived.Test.YtjkencgcdlfjhaaGreatDoorJDocW
import Derived.Test.YtjkencgcdlfjhaaGreatDoorQGGt
namespace Go.Proofs.YtjkencgcdlfjhaaGreatDoor
open Go.RowKit
open Num
set_option linter.unusedVariables false
set_option maxHeartbeats 400000 in
theorem bit_any (y : Bool) (w : World) : Calls Tryz.prog 200 #[.bool y] w fun e w' => e = .returned (.int .u32 (if y = true then 1 else 0)) ∧ w' = w := by
  cases y
  all_goals
    go_enter Tryz.func200, Tryz.ntmps200
    go_wp2
    go_ret
    exact ⟨rfl, rfl⟩
set_option maxHeartbeats 1000000 in
theorem result_3 (a b : Int) (h0 : 0 ≤ a) (h1 : a < 4294967296) (g0 : 0 ≤ b) (g1 : b < 4294967296) (w : World) : Calls Tryz.prog 156 #[.string ⟨#[97, 100, 100]⟩, .int .u32 a, .int .u32 b] w fun e w' => e = .returned (.int .u32 (lo (a + b))) ∧ w' = w := by
  go_enter Tryz.func156, Tryz.ntmps156
  go_wp2
  all_goals
    go_ret
    exact ⟨ret_int (by unfold lo; rfl), rfl⟩
set_option maxHeartbeats 1000000 in
theorem result_4 (a b : Int) (h0 : 0 ≤ a) (h1 : a < 4294967296) (g0 : 0 ≤ b) (g1 : b < 4294967296) (w : World) : Calls Tryz.prog 156 #[.string ⟨#[115, 117, 98]⟩, .int .u32 a, .int .u32 b] w fun e w' => e = .returned (.int .u32 (lo (a - b))) ∧ w' = w := by
  go_enter Tryz.func156, Tryz.ntmps156
  go_wp2
  all_goals
    go_ret
    exact ⟨ret_int (by unfold lo; rfl), rfl⟩
set_option maxHeartbeats 1000000 in
theorem result_5 (a b : Int) (h0 : 0 ≤ a) (h1 : a < 4294967296) (g0 : 0 ≤ b) (g1 : b < 4294967296) (w : World) : Calls Tryz.prog 156 #[.string ⟨#[97, 110, 100]⟩, .int .u32 a, .int .u32 b] w fun e w' => e = .returned (.int .u32 (bits .and .u32 a b)) ∧ w' = w := by
  go_enter Tryz.func156, Tryz.ntmps156
  go_wp2
  all_goals
    go_ret
    exact ⟨rfl, rfl⟩
set_option maxHeartbeats 1000000 in
theorem result_6 (a b : Int) (h0 : 0 ≤ a) (h1 : a < 4294967296) (g0 : 0 ≤ b) (g1 : b < 4294967296) (w : World) : Calls Tryz.prog 156 #[.string ⟨#[111, 114]⟩, .int .u32 a, .int .u32 b] w fun e w' => e = .returned (.int .u32 (bits .or .u32 a b)) ∧ w' = w := by
  go_enter Tryz.func156, Tryz.ntmps156
  go_wp2
  all_goals
    go_ret
    exact ⟨rfl, rfl⟩
set_option maxHeartbeats 1000000 in
theorem result_7 (a b : Int) (h0 : 0 ≤ a) (h1 : a < 4294967296) (g0 : 0 ≤ b) (g1 : b < 4294967296) (w : World) : Calls Tryz.prog 156 #[.string ⟨#[120, 111, 114]⟩, .int .u32 a, .int .u32 b] w fun e w' => e = .returned (.int .u32 (bits .xor .u32 a b)) ∧ w' = w := by
  go_enter Tryz.func156, Tryz.ntmps156
  go_wp2
  all_goals
    go_ret
    exact ⟨rfl, rfl⟩
set_option maxHeartbeats 1000000 in
theorem result_8 (a b : Int) (h0 : 0 ≤ a) (h1 : a < 4294967296) (g0 : 0 ≤ b) (g1 : b < 4294967296) (w : World) : Calls Tryz.prog 156 #[.string ⟨#[110, 111, 114]⟩, .int .u32 a, .int .u32 b] w fun e w' => e = .returned (.int .u32 (bits .xor .u32 4294967295 (bits .or .u32 a b))) ∧ w' = w := by
  go_enter Tryz.func156, Tryz.ntmps156
  go_wp2
  all_goals
    go_ret
    exact ⟨rfl, rfl⟩
set_option maxHeartbeats 1000000 in
theorem result_9 (a b : Int) (h0 : 0 ≤ a) (h1 : a < 4294967296) (g0 : 0 ≤ b) (g1 : b < 4294967296) (w : World) : Calls Tryz.prog 156 #[.string ⟨#[115, 108, 116]⟩, .int .u32 a, .int .u32 b] w fun e w' => e = .returned (.int .u32 (if lessB a b true = true then 1 else 0)) ∧ w' = w := by
  have hl := less_any a b true h0 h1 g0 g1
  generalize lessB a b true = y at *
  go_enter Tryz.func156, Tryz.ntmps156
  go_wp2_with (first | (go_at_call 201; refine (hl _).mono ?_; rintro e w' ⟨rfl, rfl⟩) | (go_at_call 200; refine (bit_any _ _).mono ?_; rintro e w' ⟨rfl, rfl⟩))
  all_goals
    go_ret
    exact ⟨rfl, rfl⟩
set_option maxHeartbeats 1000000 in
theorem result_10 (a b : Int) (h0 : 0 ≤ a) (h1 : a < 4294967296) (g0 : 0 ≤ b) (g1 : b < 4294967296) (w : World) : Calls Tryz.prog 156 #[.string ⟨#[115, 108, 116, 117]⟩, .int .u32 a, .int .u32 b] w fun e w' => e = .returned (.int .u32 (if lessB a b false = true then 1 else 0)) ∧ w' = w := by
  have hl := less_any a b false h0 h1 g0 g1
  generalize lessB a b false = y at *
  go_enter Tryz.func156, Tryz.ntmps156
  go_wp2_with (first | (go_at_call 201; refine (hl _).mono ?_; rintro e w' ⟨rfl, rfl⟩) | (go_at_call 200; refine (bit_any _ _).mono ?_; rintro e w' ⟨rfl, rfl⟩))
  all_goals
    go_ret
    exact ⟨rfl, rfl⟩
set_option maxHeartbeats 1000000 in
theorem result_11 (a b : Int) (h0 : 0 ≤ a) (h1 : a < 4294967296) (g0 : 0 ≤ b) (g1 : b < 4294967296) (w : World) : Calls Tryz.prog 156 #[.string ⟨#[115, 104, 108]⟩, .int .u32 a, .int .u32 b] w fun e w' => e = .returned (.int .u32 (shf 60 a b)) ∧ w' = w := by
  go_enter Tryz.func156, Tryz.ntmps156
  go_wp2_with (first | (go_at_call 198; refine (shift_any _ _ _ h0 h1 g0 _).mono ?_; rintro e w' ⟨rfl, rfl⟩))
  all_goals
    go_ret
    exact ⟨rfl, rfl⟩
set_option maxHeartbeats 1000000 in
theorem result_12 (a b : Int) (h0 : 0 ≤ a) (h1 : a < 4294967296) (g0 : 0 ≤ b) (g1 : b < 4294967296) (w : World) : Calls Tryz.prog 156 #[.string ⟨#[115, 104, 114]⟩, .int .u32 a, .int .u32 b] w fun e w' => e = .returned (.int .u32 (shf 62 a b)) ∧ w' = w := by
  go_enter Tryz.func156, Tryz.ntmps156
  go_wp2_with (first | (go_at_call 198; refine (shift_any _ _ _ h0 h1 g0 _).mono ?_; rintro e w' ⟨rfl, rfl⟩))
  all_goals
    go_ret
    exact ⟨rfl, rfl⟩
set_option maxHeartbeats 1000000 in
theorem result_13 (a b : Int) (h0 : 0 ≤ a) (h1 : a < 4294967296) (g0 : 0 ≤ b) (g1 : b < 4294967296) (w : World) : Calls Tryz.prog 156 #[.string ⟨#[115, 97, 114]⟩, .int .u32 a, .int .u32 b] w fun e w' => e = .returned (.int .u32 (shf 126 a b)) ∧ w' = w := by
  go_enter Tryz.func156, Tryz.ntmps156
  go_wp2_with (first | (go_at_call 198; refine (shift_any _ _ _ h0 h1 g0 _).mono ?_; rintro e w' ⟨rfl, rfl⟩))
  all_goals
    go_ret
    exact ⟨rfl, rfl⟩
set_option maxHeartbeats 1000000 in
theorem result_14 (a b : Int) (h0 : 0 ≤ a) (h1 : a < 4294967296) (g0 : 0 ≤ b) (g1 : b < 4294967296) (w : World) : Calls Tryz.prog 156 #[.string ⟨#[109, 117, 108]⟩, .int .u32 a, .int .u32 b] w fun e w' => e = .returned (.int .u32 (lo (a * b))) ∧ w' = w := by
  go_enter Tryz.func156, Tryz.ntmps156
  go_wp2_with (first | (go_at_call 202; refine (mul_any _ _ _ h0 h1 g0 g1 _).mono ?_; rintro e w' ⟨rfl, rfl⟩))
  all_goals
    go_ret
    exact ⟨rfl, rfl⟩
set_option maxHeartbeats 1000000 in
theorem result_15 (a b : Int) (h0 : 0 ≤ a) (h1 : a < 4294967296) (g0 : 0 ≤ b) (g1 : b < 4294967296) (w : World) : Calls Tryz.prog 156 #[.string ⟨#[109, 117, 108, 104]⟩, .int .u32 a, .int .u32 b] w fun e w' => e = .returned (.int .u32 (hi (nm a true * nm b true))) ∧ w' = w := by
  go_enter Tryz.func156, Tryz.ntmps156
  go_wp2_with (first | (go_at_call 202; refine (mul_any _ _ _ h0 h1 g0 g1 _).mono ?_; rintro e w' ⟨rfl, rfl⟩))
  all_goals
    go_ret
    exact ⟨rfl, rfl⟩
set_option maxHeartbeats 1000000 in
theorem result_16 (a b : Int) (h0 : 0 ≤ a) (h1 : a < 4294967296) (g0 : 0 ≤ b) (g1 : b < 4294967296) (w : World) : Calls Tryz.prog 156 #[.string ⟨#[109, 117, 108, 104, 117]⟩, .int .u32 a, .int .u32 b] w fun e w' => e = .returned (.int .u32 (hi (a * b))) ∧ w' = w := by
  go_enter Tryz.func156, Tryz.ntmps156
  go_wp2_with (first | (go_at_call 202; refine (mul_any _ _ _ h0 h1 g0 g1 _).mono ?_; rintro e w' ⟨rfl, rfl⟩))
  all_goals
    go_ret
    exact ⟨rfl, rfl⟩
theorem result_any (k : Nat) (hk : 3 ≤ k ∧ k ≤ 16) (a b d i : Int) (h0 : 0 ≤ a) (h1 : a < 4294967296) (g0 : 0 ≤ b) (g1 : b < 4294967296) (w : World) : Calls Tryz.prog 156 #[.string (kindS k), .int .u32 a, .int .u32 b] w fun e w' => e = .returned (.int .u32 (valV k a b d i)) ∧ w' = w := by
  have h : k = 3 ∨ k = 4 ∨ k = 5 ∨ k = 6 ∨ k = 7 ∨ k = 8 ∨ k = 9 ∨ k = 10 ∨ k = 11 ∨ k = 12 ∨ k = 13 ∨ k = 14 ∨ k = 15 ∨ k = 16 := by omega
  rcases h with rfl | rfl | rfl | rfl | rfl | rfl | rfl | rfl | rfl | rfl | rfl | rfl | rfl | rfl
  · exact result_3 a b h0 h1 g0 g1 w
  · exact result_4 a b h0 h1 g0 g1 w
  · exact result_5 a b h0 h1 g0 g1 w
  · exact result_6 a b h0 h1 g0 g1 w
  · exact result_7 a b h0 h1 g0 g1 w
  · exact result_8 a b h0 h1 g0 g1 w
  · exact result_9 a b h0 h1 g0 g1 w
  · exact result_10 a b h0 h1 g0 g1 w
  · exact result_11 a b h0 h1 g0 g1 w
  · exact result_12 a b h0 h1 g0 g1 w
  · exact result_13 a b h0 h1 g0 g1 w
  · exact result_14 a b h0 h1 g0 g1 w
  · exact result_15 a b h0 h1 g0 g1 w
  · exact result_16 a b h0 h1 g0 g1 w
end Go.Proofs.YtjkencgcdlfjhaaGreatDoor
/-
  A Guest's registers, an op in its box, an effect in its box.
-/
namespace Go.Proofs.YtjkencgcdlfjhaaGreatDoor
open Go.RowKit Go.Maps
open Num
set_option linter.unusedVariables false
section
variable {w : World} {base mb stb sb bp bw bh N : Nat} {X : Nat → Int} {p : List Pq} {vi : Value} {m : Nat → Int} {wt ht : Int → Bool}
/-- a register, written -/
theorem GAt.put {w : World} (M : GAt w base mb stb sb X p vi) (d : Nat) (hd : d < 64) (v : Int) (hv : u32 v) : GAt (w.setCell ⟨mb, 1 + d, none⟩ (.int .u32 v)) base mb stb sb (setX X d v) p vi := by
  have o : ∀ (j : Nat) (u : Value), j ≠ 1 + d → w.cell? ⟨mb, j, none⟩ = some u → (w.setCell ⟨mb, 1 + d, none⟩ (.int .u32 v)).cell? ⟨mb, j, none⟩ = some u := fun j u hj e => by
    rw [World.cell?_setCell_other _ _ _ _ (by intro e'; injection e' with e1 e2; exact hj e2.symm)]; exact e
  refine ⟨fun j hj => ?_, o _ _ (by omega) M.s0, o _ _ (by omega) M.g0, o _ _ (by omega) M.g1, fun j => by rw [World.frozen?_setCell]; exact M.fz j, owns_blocks M.row (fun k hk => Below.heap_setCell w ⟨mb, 1 + d, none⟩ _ k (fun e => M.ne k hk e)), M.lb, M.ne, fun j => ?_, by simp; exact M.bs⟩
  · unfold setX
    by_cases e : j = d
    · subst e; rw [if_pos (by simp)]; exact World.cell?_setCell_same _ _ _ (M.x j hj)
    · rw [if_neg (by simpa using e)]; exact o _ _ (by omega) (M.x j hj)
  · unfold setX; split
    · exact hv
    · exact M.xb j
theorem GAt.drew {w : World} (M : GAt w base mb stb sb X p vi) : GAt w.drew base mb stb sb X p vi := ⟨M.x, M.s0, M.g0, M.g1, M.fz, M.row, M.lb, M.ne, M.xb, M.bs⟩
theorem GAt.opened {w : World} (M : GAt w base mb stb sb X p vi) (o : Obj) : GAt (w.alloc o) base mb stb sb X p vi := M.stays ((Below.refl _ _).alloc (Nat.le_refl _) _)
end
/-- an op's box -/
structure OAt (W : World) (B : Nat) (s : ByteArray) (d a b i t : Int) : Prop where
  c0 : W.cell? ⟨B, 0, none⟩ = some (.string s)
  c1 : W.cell? ⟨B, 1, none⟩ = some (.int .i64 d)
  c2 : W.cell? ⟨B, 2, none⟩ = some (.int .i64 a)
  c3 : W.cell? ⟨B, 3, none⟩ = some (.int .i64 b)
  c4 : W.cell? ⟨B, 4, none⟩ = some (.int .u32 i)
  c5 : W.cell? ⟨B, 5, none⟩ = some (.int .i64 t)
theorem OAt.new (w : World) (s : ByteArray) (d a b i t : Int) : OAt (w.alloc (.cells #[.string s, .int .i64 d, .int .i64 a, .int .i64 b, .int .u32 i, .int .i64 t] 92)) w.heap.size s d a b i t := by
  refine ⟨?_, ?_, ?_, ?_, ?_, ?_⟩ <;> simp
theorem OAt.stays {W W' : World} {B : Nat} {s : ByteArray} {d a b i t : Int} (O : OAt W B s d a b i t) (h : Below W.heap.size W W') : OAt W' B s d a b i t := by
  have c : ∀ (j : Nat) (u : Value), W.cell? ⟨B, j, none⟩ = some u → W'.cell? ⟨B, j, none⟩ = some u := fun j u e => (h.cell (p := ⟨B, j, none⟩) (World.block_lt_of_cell? W ⟨B, j, none⟩ e)).trans e
  exact ⟨c _ _ O.c0, c _ _ O.c1, c _ _ O.c2, c _ _ O.c3, c _ _ O.c4, c _ _ O.c5⟩
theorem OAt.drew {W : World} {B : Nat} {s : ByteArray} {d a b i t : Int} (O : OAt W B s d a b i t) : OAt W.drew B s d a b i t := ⟨O.c0, O.c1, O.c2, O.c3, O.c4, O.c5⟩
theorem OAt.lt {W : World} {B : Nat} {s : ByteArray} {d a b i t : Int} (O : OAt W B s d a b i t) : B < W.heap.size := World.block_lt_of_cell? _ _ O.c0
theorem wrap_u32 (n : Int) : IntKind.u32.wrap n = lo n := by unfold lo; simp [IntKind.wrap, IntKind.signed, IntKind.bits]
theorem maxw (b : Int) (hb : b = 1 ∨ b = 2 ∨ b = 4 ∨ b = -1 ∨ b = -2) : max b (IntKind.i64.wrap (-b)) = if b < 0 then -b else b := by
  rcases hb with rfl | rfl | rfl | rfl | rfl <;> decide
theorem kt (k j : Nat) (h1 : 1 ≤ k) (h2 : k < 28) (g1 : 1 ≤ j) (g2 : j < 28) (hne : k ≠ j) : ((kindS k).toList == kinds.getD j []) = false := by
  rw [kn_eq _ j g1 g2, kn_kind k h1 h2]; simpa using hne
/-- an effect's box -/
structure XBox (W : World) (x : Nat) : Prop where
  c : ∀ j, j < 7 → ∃ u, W.cell? ⟨x, j, none⟩ = some u
  f : ∀ j, W.frozen? ⟨x, j, none⟩ = false
theorem XBox.lt {W : World} {x : Nat} (F : XBox W x) : x < W.heap.size := by obtain ⟨u, a⟩ := F.c 0 (by omega); exact World.block_lt_of_cell? _ _ a
theorem XBox.block {W W' : World} {x : Nat} (F : XBox W x) (h : W'.heap[x]? = W.heap[x]?) : XBox W' x :=
  ⟨fun j hj => by obtain ⟨u, a⟩ := F.c j hj; exact ⟨u, (World.cell?_of_block (a := ⟨x, j, none⟩) h).trans a⟩, fun j => (World.frozen?_of_block (a := ⟨x, j, none⟩) h).trans (F.f j)⟩
theorem XBox.stays {W W' : World} {x : Nat} (F : XBox W x) (h : Below W.heap.size W W') : XBox W' x := F.block (h.block _ F.lt)
theorem XBox.drew {W : World} {x : Nat} (F : XBox W x) : XBox W.drew x := ⟨F.c, F.f⟩
theorem XBox.new (w : World) : XBox (w.alloc (.cells #[.int .i64 0, .int .u32 0, .int .u32 0, .int .i64 0, .int .u32 0, .bool false, .int .u32 0] 110)) w.heap.size := by
  refine ⟨fun j hj => ?_, fun j => World.frozen?_alloc_at _ _ _ _ rfl⟩
  have : j = 0 ∨ j = 1 ∨ j = 2 ∨ j = 3 ∨ j = 4 ∨ j = 5 ∨ j = 6 := by omega
  rcases this with rfl | rfl | rfl | rfl | rfl | rfl | rfl
  · exact ⟨.int .i64 0, by simp⟩
  · exact ⟨.int .u32 0, by simp⟩
  · exact ⟨.int .u32 0, by simp⟩
  · exact ⟨.int .i64 0, by simp⟩
  · exact ⟨.int .u32 0, by simp⟩
  · exact ⟨.bool false, by simp⟩
  · exact ⟨.int .u32 0, by simp⟩
theorem ef_load {w : World} {B : Nat} {v : Nat → Value} (z : ∀ j, j < 7 → w.cell? ⟨B, j, none⟩ = some (v j)) : (loadVar 110 ⟨B, 0, none⟩).run Tryz.prog w = .ok (.agg #[v 0, v 1, v 2, v 3, v 4, v 5, v 6]) w := by
  have z0 := z 0 (by omega)
  have z1 := z 1 (by omega)
  have z2 := z 2 (by omega)
  have z3 := z 3 (by omega)
  have z4 := z 4 (by omega)
  have z5 := z 5 (by omega)
  have z6 := z 6 (by omega)
  simp [go_sem, z0, z1, z2, z3, z4, z5, z6]
def putN (W : World) (B : Nat) (v : Nat → Value) : Nat → World
  | 0 => W
  | n + 1 => (putN W B v n).setCell ⟨B, n, none⟩ (v n)
theorem putN_cell {W : World} {B : Nat} {v : Nat → Value} : ∀ n j, (∃ u, W.cell? ⟨B, j, none⟩ = some u) → (putN W B v n).cell? ⟨B, j, none⟩ = if j < n then some (v j) else W.cell? ⟨B, j, none⟩
  | 0, j, _ => by rw [if_neg (by omega)]; rfl
  | n + 1, j, h => by
    have ih := putN_cell (v := v) n j h
    show ((putN W B v n).setCell ⟨B, n, none⟩ (v n)).cell? ⟨B, j, none⟩ = _
    by_cases e : j = n
    · subst e
      rw [if_neg (by omega)] at ih
      rw [if_pos (by omega)]
      obtain ⟨u, hu⟩ := h
      exact World.cell?_setCell_same _ _ _ (ih.trans hu)
    · rw [World.cell?_setCell_other _ _ _ _ (by intro e'; injection e' with e1 e2; exact e e2.symm), ih]
      by_cases h1 : j < n
      · rw [if_pos h1, if_pos (by omega)]
      · rw [if_neg h1, if_neg (by omega)]
theorem ef_put {W : World} {B : Nat} (F : XBox W B) (v0 v1 v2 v3 v4 v5 v6 : Value) : (loadVar 110 ⟨B, 0, none⟩).run Tryz.prog (((((((W.setCell ⟨B, 0, none⟩ v0).setCell ⟨B, 1, none⟩ v1).setCell ⟨B, 2, none⟩ v2).setCell ⟨B, 3, none⟩ v3).setCell ⟨B, 4, none⟩ v4).setCell ⟨B, 5, none⟩ v5).setCell ⟨B, 6, none⟩ v6) = .ok (.agg #[v0, v1, v2, v3, v4, v5, v6]) (((((((W.setCell ⟨B, 0, none⟩ v0).setCell ⟨B, 1, none⟩ v1).setCell ⟨B, 2, none⟩ v2).setCell ⟨B, 3, none⟩ v3).setCell ⟨B, 4, none⟩ v4).setCell ⟨B, 5, none⟩ v5).setCell ⟨B, 6, none⟩ v6) := by
  have h := ef_load (w := putN W B (fun j => match j with | 0 => v0 | 1 => v1 | 2 => v2 | 3 => v3 | 4 => v4 | 5 => v5 | _ => v6) 7) (B := B) (v := fun j => match j with | 0 => v0 | 1 => v1 | 2 => v2 | 3 => v3 | 4 => v4 | 5 => v5 | _ => v6) (fun j hj => by rw [putN_cell 7 j (F.c j hj), if_pos hj])
  exact h
theorem ef_below {w W : World} {b B : Nat} (h : Below b w W) (hB : b ≤ B) (v0 v1 v2 v3 v4 v5 v6 : Value) : Below b w (((((((W.setCell ⟨B, 0, none⟩ v0).setCell ⟨B, 1, none⟩ v1).setCell ⟨B, 2, none⟩ v2).setCell ⟨B, 3, none⟩ v3).setCell ⟨B, 4, none⟩ v4).setCell ⟨B, 5, none⟩ v5).setCell ⟨B, 6, none⟩ v6) :=
  ((((((h.setCell (p := ⟨B, 0, none⟩) hB _).setCell (p := ⟨B, 1, none⟩) hB _).setCell (p := ⟨B, 2, none⟩) hB _).setCell (p := ⟨B, 3, none⟩) hB _).setCell (p := ⟨B, 4, none⟩) hB _).setCell (p := ⟨B, 5, none⟩) hB _).setCell (p := ⟨B, 6, none⟩) hB _
end Go.Proofs.YtjkencgcdlfjhaaGreatDoor
/-
  Package ir's gate: open: memory takes what waits.
-/
namespace Go.Proofs.YtjkencgcdlfjhaaGreatDoor
open Go.RowKit Go.Maps
open Num
set_option linter.unusedVariables false
section
variable {w : World} {base mb stb sb bp bw bh N : Nat} {X : Nat → Int} {p : List Pq} {vi : Value} {m : Nat → Int} {wt ht : Int → Bool}
theorem Turned.refl (w : World) (b c : Nat) : Turned w w b c := ⟨rfl, rfl, rfl, Nat.le_refl _, fun _ _ _ _ => rfl⟩
theorem Turned.trans {w w1 w2 : World} {b c : Nat} (h : Turned w w1 b c) (g : Turned w1 w2 b c) : Turned w w2 b c :=
  ⟨g.os.trans h.os, g.tape.trans h.tape, g.output.trans h.output, Nat.le_trans h.size g.size, fun k hk n1 n2 => (g.block k (Nat.lt_of_lt_of_le hk h.size) n1 n2).trans (h.block k hk n1 n2)⟩
theorem turned_drew (w : World) (b c : Nat) : Turned w w.drew b c := ⟨rfl, rfl, rfl, Nat.le_refl _, fun _ _ _ _ => rfl⟩
theorem RamIs.drew (R : RamIs w sb bp bw bh N m wt ht) : RamIs w.drew sb bp bw bh N m wt ht := ⟨R.c0, R.c1, R.c2, R.pw, R.ph, R.wh, R.sp, R.sh, R.ps, R.ws, R.hs, R.mb⟩
theorem pqs_take_snoc {j : Nat} {q : Pq} (h : p[j]? = some q) : pqs (p.take (j + 1)) = pqs (p.take j) ++ [q.1] := by
  unfold pqs; rw [List.take_add_one, h]; simp
set_option maxRecDepth 100000 in
set_option maxHeartbeats 4000000 in
theorem gopen_any (R : RamIs w sb bp bw bh N m wt ht) (G : GAt w base mb stb sb X p vi) (hp : p.length ≤ 1000) (hN : N ≤ 1000000) (hbp : bp < base) (hbh : bh < base) (hwt : ∀ q ∈ pqs p, wt (q.a / 256) = false) :
    Calls Tryz.prog 95 #[.pointer (some ⟨mb, 65, none⟩)] w fun e w' => e = .returned (.tuple #[]) ∧ RamIs w' sb bp bw bh (N + 2 * p.length) (vw m (pqs p)) wt ht ∧ Turned w w' bp bh := by
  have g1 := G.g1
  have GH : Hid (GAt w base mb stb sb X p vi) := G
  have RH : Hid (RamIs w sb bp bw bh N m wt ht) := R
  have WH : Hid (∀ q ∈ pqs p, wt (q.a / 256) = false) := hwt
  obtain ⟨ao, cap, hvi⟩ : ∃ ao cap, vi = .slice ao p.length cap := by
    rcases G.row.2 with ⟨rfl, h⟩ | ⟨g, cap, cur, rfl, _⟩
    · exact ⟨none, 0, by rw [h]⟩
    · exact ⟨_, _, rfl⟩
  clear G R hwt
  rw [hvi] at g1
  go_enter Tryz.func95, Tryz.ntmps95
  go_wp2
  go_loopw [9] (fun i wr => ∃ j : Nat, j ≤ p.length ∧ i = .int .i64 j ∧ RamIs wr sb bp bw bh (N + 2 * j) (vw m (pqs (p.take j))) wt ht ∧ Turned w wr bp bh) (fun i _ => p.length - (intOf i).toNat)
  case atStart => exact ⟨0, Nat.zero_le _, rfl, RH.out, Turned.refl _ _ _⟩
  case round =>
    obtain ⟨j, hj, rfl, Rr, Tr⟩ := hrel
    by_cases hlt : j < p.length
    · obtain ⟨q, hq⟩ : ∃ q, p[j]? = some q := ⟨p[j], List.getElem?_eq_getElem hlt⟩
      have Gr := GH.out.turned Tr hbp hbh
      have hpd := Gr.pd
      have q0 := Gr.g0
      have hmr := Gr.lt
      rcases hpd with ⟨_, rfl⟩ | ⟨b, off, cap2, e, hb, hc⟩
      · simp at hlt
      rw [hvi] at e
      injection e with e1 e2 e3
      subst e1 e3
      obtain ⟨c0, c1, c2⟩ := hc j q hq
      have hqo := q.2
      have hqm : q.1 ∈ pqs p := List.mem_map.2 ⟨q, List.mem_of_getElem? hq, rfl⟩
      have hqw := WH.out _ hqm
      have HV : Hid (vw m (pqs (p.take (j + 1))) = q.1.put (vw m (pqs (p.take j)))) := by
        show _ = _; rw [pqs_take_snoc hq, vw_snoc]
      have RR : Hid (RamIs wr sb bp bw bh (N + 2 * j) (vw m (pqs (p.take j))) wt ht) := Rr
      have TT : Hid (Turned w wr bp bh) := Tr
      have hlt' : (j : Int) < p.length := by omega
      clear hc Rr Tr Gr hqm hq g1
      generalize vw m (pqs (p.take j)) = mj at *
      obtain ⟨⟨qa, qs, qv⟩, hqk⟩ := q
      simp only at c0 c1 c2 hqw
      have hqk : Hid (Pend.ok ⟨qa, qs, qv⟩) := hqk
      clear hqo
      go_upto_region 3 with fail
      have k0 : (wr.alloc (.cells #[.int .u32 qa, .int .i64 qs, .int .u32 qv] 108)).cell? ⟨mb, 65, none⟩ = some (.pointer (some ⟨sb, 0, none⟩)) := (World.grownBy_alloc wr _ none).cell q0 (by simp)
      have k1 : (wr.alloc (.cells #[.int .u32 qa, .int .i64 qs, .int .u32 qv] 108)).cell? ⟨wr.heap.size, 0, none⟩ = some (.int .u32 qa) := by simp
      have k2 : (wr.alloc (.cells #[.int .u32 qa, .int .i64 qs, .int .u32 qv] 108)).cell? ⟨wr.heap.size, 1, none⟩ = some (.int .i64 qs) := by simp
      have k3 : (wr.alloc (.cells #[.int .u32 qa, .int .i64 qs, .int .u32 qv] 108)).cell? ⟨wr.heap.size, 2, none⟩ = some (.int .u32 qv) := by simp
      have R1 : Hid (RamIs (wr.alloc (.cells #[.int .u32 qa, .int .i64 qs, .int .u32 qv] 108)).drew sb bp bw bh (N + 2 * j) mj wt ht) := (RR.out.grow (World.grownBy_alloc wr _ none)).drew
      have T1 : Hid (Turned w (wr.alloc (.cells #[.int .u32 qa, .int .i64 qs, .int .u32 qv] 108)).drew bp bh) := (TT.out.of_below ((Below.refl _ _).alloc (Nat.le_refl _) _)).trans (turned_drew _ _ _)
      generalize wr.alloc (.cells #[.int .u32 qa, .int .i64 qs, .int .u32 qv] 108) = V at *
      have hst := store_ok R1.out qa qs qv hqk.out.a0 (by have := (chk_ok hqk.out.c).2.2; simp only at this; omega) hqk.out.v0 hqk.out.v1 (by unfold maxLen; omega) hqk.out.c
      refine wp_region_phase 11 [(0, 0), (1, 0), (2, 0), (3, 1), (4, 0), (5, 1), (6, 0), (7, 1), (8, 0), (9, 1), (10, 2)] (fun W => W.cell? ⟨mb, 65, none⟩ = some (.pointer (some ⟨sb, 0, none⟩)) ∧ W.cell? ⟨wr.heap.size, 0, none⟩ = some (.int .u32 qa) ∧ W.cell? ⟨wr.heap.size, 1, none⟩ = some (.int .i64 qs) ∧ W.cell? ⟨wr.heap.size, 2, none⟩ = some (.int .u32 qv)) (by kernel_rfl) (by kernel_rfl) (fun _ _ _ d _ h => by cases d <;> exact h) ⟨by simpa using k0, by simpa using k1, by simpa using k2, by simpa using k3⟩ ?_
      repeat (first | (refine wpPlanZ_free (by rfl) (by rfl) (fun W => by (go_simp; try with_reducible rfl)) (fun K hK => ?_); go_simp; refine hK _ ?_; clear hK K) | (refine wpPlanZ_quiet (by rfl) (by rfl) (fun W hW => by (obtain ⟨z0, z1, z2, z3⟩ := hW; go_simp; try with_reducible rfl)) (fun K hK => ?_); go_simp; refine hK _ ?_; clear hK K))
      refine wpPlanZ_serial (by rfl) (by rfl) (fun K hK => ?_)
      go_simp
      refine hst.mono ?_
      rintro e w2 ⟨rfl, R2, t2⟩
      have nm1 : mb ≠ bp ∧ mb ≠ bh := by have := GH.out.lb; omega
      have nw1 : wr.heap.size ≠ bp ∧ wr.heap.size ≠ bh := by have := GH.out.bs; have := TT.out.size; omega
      refine hK _ _ (fun _ => ⟨t2.cell (A := ⟨mb, 65, none⟩) (by simpa using k0) nm1.1 nm1.2, t2.cell (A := ⟨wr.heap.size, 0, none⟩) (by simpa using k1) nw1.1 nw1.2, t2.cell (A := ⟨wr.heap.size, 1, none⟩) (by simpa using k2) nw1.1 nw1.2, t2.cell (A := ⟨wr.heap.size, 2, none⟩) (by simpa using k3) nw1.1 nw1.2⟩) ?_
      clear hK K
      refine wpPlanZ_nil ?_
      have R3 : Hid (RamIs w2 sb bp bw bh (N + 2 * (j + 1)) (Pend.put mj ⟨qa, qs, qv⟩) wt ht) := (R2.hits (fun x => by rw [hqw]; simp)).mono (by omega)
      have T3 : Hid (Turned w w2 bp bh) := T1.out.trans t2
      clear R2 t2 hst k0 k1 k2 k3 R1 T1
      go_wp2
      go_roundw
      case rel => exact ⟨j + 1, by omega, by go_num, by rw [HV.out]; exact R3.out, T3.out⟩
      case measure => simp [intOf]; omega
    · obtain rfl : j = p.length := by omega
      rw [List.take_length] at Rr
      go_wp2
      go_end0
      exact ⟨rfl, Rr, Tr⟩
end
end Go.Proofs.YtjkencgcdlfjhaaGreatDoor
/-
  Package opt: what is known of registers, in a map.
-/
namespace Go.Proofs.YtjkencgcdlfjhaaGreatDoor
open Go.RowKit Go.Maps
open Num
set_option linter.unusedVariables false
theorem zeroU (w : World) : (zeroValue 22).run Tryz.prog w = .ok (.int .u32 0) w := by kernel_rfl
/-- facts in a map -/
structure FactsAt (w : World) (b N : Nat) (f : Fx) : Prop where
  own : ∃ D : DataW Value, w.ownsMap Tryz.prog 3 heldE b N D ∧ (∀ x : Int, Maps.has D (.int .i64 x) = (f x).isSome) ∧ ∀ (x v : Int), f x = some v → D.atKey (.int .i64 x) (.held (.int .u32 0)) = .held (.int .u32 v)
  bd : ∀ x v, f x = some v → 0 ≤ v ∧ v < 4294967296
theorem FactsAt.lt {w : World} {b N : Nat} {f : Fx} (F : FactsAt w b N f) : b < w.heap.size := let ⟨_, h, _⟩ := F.own; h.lt
theorem FactsAt.stays {w w' : World} {b N : Nat} {f : Fx} (F : FactsAt w b N f) (h : Below w.heap.size w w') : FactsAt w' b N f := by
  obtain ⟨D, h1, h2, h3⟩ := F.own
  exact ⟨⟨D, h1.kept ⟨h.os, h.tape, h.output, h.size, fun k hk _ => h.block k hk⟩ (row := none) (by simp), h2, h3⟩, F.bd⟩
theorem FactsAt.look {w : World} {b N : Nat} {f : Fx} (F : FactsAt w b N f) (n v : Int) (h : f n = some v) (h0 : -9223372036854775808 ≤ n) (h1 : n ≤ 9223372036854775807) : (Instr.lookup 213 (.map (some b)) (.int .i64 n) false).run Tryz.prog w = .ok (.int .u32 v) w := by
  obtain ⟨D, g1, g2, g3⟩ := F.own
  obtain ⟨u, ps, hrun, hv⟩ := g1.lookup law3 Tryz.underlying213 (zeroU w) (zd := .held (.int .u32 0)) (zp := []) rfl (key3 h0 h1)
  rw [g3 n v h] at hv
  simp only [heldE, Option.some.injEq, Prod.mk.injEq, DataW.held.injEq] at hv
  rw [hrun, hv.1]
theorem FactsAt.has {w : World} {b N : Nat} {f : Fx} (F : FactsAt w b N f) (n : Int) (h0 : -9223372036854775808 ≤ n) (h1 : n ≤ 9223372036854775807) : ∃ u, (Instr.lookup 213 (.map (some b)) (.int .i64 n) true).run Tryz.prog w = .ok (.tuple #[u, .bool (f n).isSome]) w := by
  obtain ⟨D, g1, g2, g3⟩ := F.own
  obtain ⟨u, ps, hrun, hv⟩ := g1.look_ok law3 Tryz.underlying213 (zeroU w) (zd := .held (.int .u32 0)) (zp := []) rfl (key3 h0 h1)
  exact ⟨u, by rw [hrun, g2 n]⟩
/-- bounds of an op's registers -/
structure Opx.rg (o : Opx) : Prop where
  a0 : -9223372036854775808 ≤ o.a
  a1 : o.a ≤ 9223372036854775807
  b0 : -9223372036854775808 ≤ o.b
  b1 : o.b ≤ 9223372036854775807
  d0 : -9223372036854775808 ≤ o.d
  d1 : o.d ≤ 9223372036854775807
theorem Opx.ok.rg {o : Opx} (h : o.ok) : o.rg := ⟨h.a0, h.a1, h.b0, h.b1, h.d0, h.d1⟩
end Go.Proofs.YtjkencgcdlfjhaaGreatDoor
