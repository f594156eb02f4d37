/-
  A Guest's registers, an op in its box, an effect in its box.
-/
import Derived.Test.YtkehhlibkebomaaDoorKPure
import Derived.Test.YtkehhlibkebomaaDoorQIrRes
import Derived.Test.YtkehhlibkebomaaDoorQGGt
namespace Go.Proofs.YtkehhlibkebomaaDoor
open Go.RowKit Go.Maps
open Num
set_option linter.unusedVariables false
section
variable {w : World} {base mb stb sb bp bw bh N : Nat} {X : Nat → Int} {p : List Pq} {vi : Value} {m : Nat → Int} {wt ht : Int → Bool}
/-- a register, written -/
theorem GAt.put {w : World} (M : GAt w base mb stb sb X p vi) (d : Nat) (hd : d < 64) (v : Int) (hv : u32 v) : GAt (w.setCell ⟨mb, 1 + d, none⟩ (.int .u32 v)) base mb stb sb (setX X d v) p vi := by
  have o : ∀ (j : Nat) (u : Value), j ≠ 1 + d → w.cell? ⟨mb, j, none⟩ = some u → (w.setCell ⟨mb, 1 + d, none⟩ (.int .u32 v)).cell? ⟨mb, j, none⟩ = some u := fun j u hj e => by
    rw [World.cell?_setCell_other _ _ _ _ (by intro e'; injection e' with e1 e2; exact hj e2.symm)]; exact e
  refine ⟨fun j hj => ?_, o _ _ (by omega) M.s0, o _ _ (by omega) M.g0, o _ _ (by omega) M.g1, fun j => by rw [World.frozen?_setCell]; exact M.fz j, owns_blocks M.row (fun k hk => Below.heap_setCell w ⟨mb, 1 + d, none⟩ _ k (fun e => M.ne k hk e)), M.lb, M.ne, fun j => ?_, by simp; exact M.bs⟩
  · unfold setX
    by_cases e : j = d
    · subst e; rw [if_pos (by simp)]; exact World.cell?_setCell_same _ _ _ (M.x j hj)
    · rw [if_neg (by simpa using e)]; exact o _ _ (by omega) (M.x j hj)
  · unfold setX; split
    · exact hv
    · exact M.xb j
theorem GAt.drew {w : World} (M : GAt w base mb stb sb X p vi) : GAt w.drew base mb stb sb X p vi := ⟨M.x, M.s0, M.g0, M.g1, M.fz, M.row, M.lb, M.ne, M.xb, M.bs⟩
theorem GAt.opened {w : World} (M : GAt w base mb stb sb X p vi) (o : Obj) : GAt (w.alloc o) base mb stb sb X p vi := M.stays ((Below.refl _ _).alloc (Nat.le_refl _) _)
end
/-- an op's box -/
structure OAt (W : World) (B : Nat) (s : ByteArray) (d a b i t : Int) : Prop where
  c0 : W.cell? ⟨B, 0, none⟩ = some (.string s)
  c1 : W.cell? ⟨B, 1, none⟩ = some (.int .i64 d)
  c2 : W.cell? ⟨B, 2, none⟩ = some (.int .i64 a)
  c3 : W.cell? ⟨B, 3, none⟩ = some (.int .i64 b)
  c4 : W.cell? ⟨B, 4, none⟩ = some (.int .u32 i)
  c5 : W.cell? ⟨B, 5, none⟩ = some (.int .i64 t)
theorem OAt.new (w : World) (s : ByteArray) (d a b i t : Int) : OAt (w.alloc (.cells #[.string s, .int .i64 d, .int .i64 a, .int .i64 b, .int .u32 i, .int .i64 t] 53)) w.heap.size s d a b i t := by
  refine ⟨?_, ?_, ?_, ?_, ?_, ?_⟩ <;> simp
theorem OAt.stays {W W' : World} {B : Nat} {s : ByteArray} {d a b i t : Int} (O : OAt W B s d a b i t) (h : Below W.heap.size W W') : OAt W' B s d a b i t := by
  have c : ∀ (j : Nat) (u : Value), W.cell? ⟨B, j, none⟩ = some u → W'.cell? ⟨B, j, none⟩ = some u := fun j u e => (h.cell (p := ⟨B, j, none⟩) (World.block_lt_of_cell? W ⟨B, j, none⟩ e)).trans e
  exact ⟨c _ _ O.c0, c _ _ O.c1, c _ _ O.c2, c _ _ O.c3, c _ _ O.c4, c _ _ O.c5⟩
theorem OAt.drew {W : World} {B : Nat} {s : ByteArray} {d a b i t : Int} (O : OAt W B s d a b i t) : OAt W.drew B s d a b i t := ⟨O.c0, O.c1, O.c2, O.c3, O.c4, O.c5⟩
theorem OAt.lt {W : World} {B : Nat} {s : ByteArray} {d a b i t : Int} (O : OAt W B s d a b i t) : B < W.heap.size := World.block_lt_of_cell? _ _ O.c0
theorem wrap_u32 (n : Int) : IntKind.u32.wrap n = lo n := by unfold lo; simp [IntKind.wrap, IntKind.signed, IntKind.bits]
theorem maxw (b : Int) (hb : b = 1 ∨ b = 2 ∨ b = 4 ∨ b = -1 ∨ b = -2) : max b (IntKind.i64.wrap (-b)) = if b < 0 then -b else b := by
  rcases hb with rfl | rfl | rfl | rfl | rfl <;> decide
theorem kt (k j : Nat) (h1 : 1 ≤ k) (h2 : k < 28) (g1 : 1 ≤ j) (g2 : j < 28) (hne : k ≠ j) : ((kindS k).toList == kinds.getD j []) = false := by
  rw [kn_eq _ j g1 g2, kn_kind k h1 h2]; simpa using hne
/-- an effect's box -/
structure XBox (W : World) (x : Nat) : Prop where
  c : ∀ j, j < 7 → ∃ u, W.cell? ⟨x, j, none⟩ = some u
  f : ∀ j, W.frozen? ⟨x, j, none⟩ = false
theorem XBox.lt {W : World} {x : Nat} (F : XBox W x) : x < W.heap.size := by obtain ⟨u, a⟩ := F.c 0 (by omega); exact World.block_lt_of_cell? _ _ a
theorem XBox.block {W W' : World} {x : Nat} (F : XBox W x) (h : W'.heap[x]? = W.heap[x]?) : XBox W' x :=
  ⟨fun j hj => by obtain ⟨u, a⟩ := F.c j hj; exact ⟨u, (World.cell?_of_block (a := ⟨x, j, none⟩) h).trans a⟩, fun j => (World.frozen?_of_block (a := ⟨x, j, none⟩) h).trans (F.f j)⟩
theorem XBox.stays {W W' : World} {x : Nat} (F : XBox W x) (h : Below W.heap.size W W') : XBox W' x := F.block (h.block _ F.lt)
theorem XBox.drew {W : World} {x : Nat} (F : XBox W x) : XBox W.drew x := ⟨F.c, F.f⟩
theorem XBox.new (w : World) : XBox (w.alloc (.cells #[.int .i64 0, .int .u32 0, .int .u32 0, .int .i64 0, .int .u32 0, .bool false, .int .u32 0] 62)) w.heap.size := by
  refine ⟨fun j hj => ?_, fun j => World.frozen?_alloc_at _ _ _ _ rfl⟩
  have : j = 0 ∨ j = 1 ∨ j = 2 ∨ j = 3 ∨ j = 4 ∨ j = 5 ∨ j = 6 := by omega
  rcases this with rfl | rfl | rfl | rfl | rfl | rfl | rfl
  · exact ⟨.int .i64 0, by simp⟩
  · exact ⟨.int .u32 0, by simp⟩
  · exact ⟨.int .u32 0, by simp⟩
  · exact ⟨.int .i64 0, by simp⟩
  · exact ⟨.int .u32 0, by simp⟩
  · exact ⟨.bool false, by simp⟩
  · exact ⟨.int .u32 0, by simp⟩
theorem ef_load {w : World} {B : Nat} {v : Nat → Value} (z : ∀ j, j < 7 → w.cell? ⟨B, j, none⟩ = some (v j)) : (loadVar 62 ⟨B, 0, none⟩).run Tryd.prog w = .ok (.agg #[v 0, v 1, v 2, v 3, v 4, v 5, v 6]) w := by
  have z0 := z 0 (by omega)
  have z1 := z 1 (by omega)
  have z2 := z 2 (by omega)
  have z3 := z 3 (by omega)
  have z4 := z 4 (by omega)
  have z5 := z 5 (by omega)
  have z6 := z 6 (by omega)
  simp [go_sem, z0, z1, z2, z3, z4, z5, z6]
def putN (W : World) (B : Nat) (v : Nat → Value) : Nat → World
  | 0 => W
  | n + 1 => (putN W B v n).setCell ⟨B, n, none⟩ (v n)
theorem putN_cell {W : World} {B : Nat} {v : Nat → Value} : ∀ n j, (∃ u, W.cell? ⟨B, j, none⟩ = some u) → (putN W B v n).cell? ⟨B, j, none⟩ = if j < n then some (v j) else W.cell? ⟨B, j, none⟩
  | 0, j, _ => by rw [if_neg (by omega)]; rfl
  | n + 1, j, h => by
    have ih := putN_cell (v := v) n j h
    show ((putN W B v n).setCell ⟨B, n, none⟩ (v n)).cell? ⟨B, j, none⟩ = _
    by_cases e : j = n
    · subst e
      rw [if_neg (by omega)] at ih
      rw [if_pos (by omega)]
      obtain ⟨u, hu⟩ := h
      exact World.cell?_setCell_same _ _ _ (ih.trans hu)
    · rw [World.cell?_setCell_other _ _ _ _ (by intro e'; injection e' with e1 e2; exact e e2.symm), ih]
      by_cases h1 : j < n
      · rw [if_pos h1, if_pos (by omega)]
      · rw [if_neg h1, if_neg (by omega)]
theorem ef_put {W : World} {B : Nat} (F : XBox W B) (v0 v1 v2 v3 v4 v5 v6 : Value) : (loadVar 62 ⟨B, 0, none⟩).run Tryd.prog (((((((W.setCell ⟨B, 0, none⟩ v0).setCell ⟨B, 1, none⟩ v1).setCell ⟨B, 2, none⟩ v2).setCell ⟨B, 3, none⟩ v3).setCell ⟨B, 4, none⟩ v4).setCell ⟨B, 5, none⟩ v5).setCell ⟨B, 6, none⟩ v6) = .ok (.agg #[v0, v1, v2, v3, v4, v5, v6]) (((((((W.setCell ⟨B, 0, none⟩ v0).setCell ⟨B, 1, none⟩ v1).setCell ⟨B, 2, none⟩ v2).setCell ⟨B, 3, none⟩ v3).setCell ⟨B, 4, none⟩ v4).setCell ⟨B, 5, none⟩ v5).setCell ⟨B, 6, none⟩ v6) := by
  have h := ef_load (w := putN W B (fun j => match j with | 0 => v0 | 1 => v1 | 2 => v2 | 3 => v3 | 4 => v4 | 5 => v5 | _ => v6) 7) (B := B) (v := fun j => match j with | 0 => v0 | 1 => v1 | 2 => v2 | 3 => v3 | 4 => v4 | 5 => v5 | _ => v6) (fun j hj => by rw [putN_cell 7 j (F.c j hj), if_pos hj])
  exact h
theorem ef_below {w W : World} {b B : Nat} (h : Below b w W) (hB : b ≤ B) (v0 v1 v2 v3 v4 v5 v6 : Value) : Below b w (((((((W.setCell ⟨B, 0, none⟩ v0).setCell ⟨B, 1, none⟩ v1).setCell ⟨B, 2, none⟩ v2).setCell ⟨B, 3, none⟩ v3).setCell ⟨B, 4, none⟩ v4).setCell ⟨B, 5, none⟩ v5).setCell ⟨B, 6, none⟩ v6) :=
  ((((((h.setCell (p := ⟨B, 0, none⟩) hB _).setCell (p := ⟨B, 1, none⟩) hB _).setCell (p := ⟨B, 2, none⟩) hB _).setCell (p := ⟨B, 3, none⟩) hB _).setCell (p := ⟨B, 4, none⟩) hB _).setCell (p := ⟨B, 5, none⟩) hB _).setCell (p := ⟨B, 6, none⟩) hB _
end Go.Proofs.YtkehhlibkebomaaDoor
