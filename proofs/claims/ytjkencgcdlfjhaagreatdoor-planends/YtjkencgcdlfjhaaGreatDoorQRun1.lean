/-
  The document's RunOf: what it holds of the world on its way.
-/
import Derived.Test.YtjkencgcdlfjhaaGreatDoorJPhase
import Derived.Test.YtjkencgcdlfjhaaGreatDoorQOwnOps
import Derived.Test.YtjkencgcdlfjhaaGreatDoorJNew
import Derived.Test.YtjkencgcdlfjhaaGreatDoorJPass
import Derived.Test.YtjkencgcdlfjhaaGreatDoorJDoc6
import Derived.Test.YtjkencgcdlfjhaaGreatDoorJBits
import Derived.Test.YtjkencgcdlfjhaaGreatDoorJRun0
namespace Go.Proofs.YtjkencgcdlfjhaaGreatDoor
open Go.RowKit Go.Maps
open Num
set_option linter.unusedVariables false
/-- the machine and its memory, on their way -/
structure RnAt (V W : World) (mb rb gb kb : Nat) (x m : Nat → Int) (wt : Int → Bool) : Prop where
  bx : MBox W mb x (.pointer (some ⟨rb, 0, none⟩))
  d : DRam W rb gb kb m wt
  b : Below V.heap.size V W
theorem RnAt.blocks {V W W' : World} {base mb rb gb kb : Nat} {x m : Nat → Int} {wt : Int → Bool} (R : RnAt V W mb rb gb kb x m wt) (hV : V.heap.size ≤ base) (h1 : mb < base) (h2 : rb < base) (h3 : gb < base) (h4 : kb < base) (h : Below base W W') : RnAt V W' mb rb gb kb x m wt :=
  ⟨R.bx.block (h.block _ h1), R.d.blocks (fun k hk => h.block k (by rcases hk with rfl | rfl | rfl <;> assumption)), R.b.trans (h.mono hV)⟩
theorem RnAt.drew {V W : World} {mb rb gb kb : Nat} {x m : Nat → Int} {wt : Int → Bool} (R : RnAt V W mb rb gb kb x m wt) : RnAt V W.drew mb rb gb kb x m wt := ⟨R.bx.drew, R.d.blocks fun _ _ => rfl, R.b.drew⟩
theorem RnAt.setx {V W : World} {mb rb gb kb : Nat} {x m : Nat → Int} {wt : Int → Bool} (R : RnAt V W mb rb gb kb x m wt) (hV : V.heap.size ≤ mb) (h2 : rb ≠ mb) (h3 : gb ≠ mb) (h4 : kb ≠ mb) (i : Nat) (hi : i < 64) (v : Int) (x' : Nat → Int) (h : ∀ j, j < 64 → x' j = if j = i then v else x j) : RnAt V (W.setCell ⟨mb, i, none⟩ (.int .u32 v)).drew mb rb gb kb x' m wt :=
  ⟨(R.bx.put i hi v h).drew, R.d.blocks (fun k hk => Below.heap_setCell W ⟨mb, i, none⟩ _ k (by rcases hk with rfl | rfl | rfl <;> assumption)), (R.b.setCell hV _).drew⟩
theorem RnAt.store {V W W' : World} {mb rb gb kb : Nat} {x m m' : Nat → Int} {wt : Int → Bool} (R : RnAt V W mb rb gb kb x m wt) (hV : V.heap.size ≤ gb) (h1 : mb ≠ gb) (D : DRam W' rb gb kb m' wt) (g : W.grownBy W' (some gb)) : RnAt V W' mb rb gb kb x m' wt :=
  ⟨R.bx.block (g.block _ R.bx.lt (by intro e; exact h1 (Option.some.inj e))), D, ⟨g.os.trans R.b.os, g.tape.trans R.b.tape, g.output.trans R.b.output, Nat.le_trans R.b.size g.size, fun k hk => (g.block k (Nat.lt_of_lt_of_le hk R.b.size) (by intro e; have := Option.some.inj e; omega)).trans (R.b.block k hk)⟩⟩
structure Ck22 (W : World) (mb rb g q xb : Nat) (ro : Ro) (o : Opx) : Prop where
  a : W.cell? ⟨mb, 64, none⟩ = some (.pointer (some ⟨rb, 0, none⟩))
  b : W.cell? ⟨g, q + 1, none⟩ = some (.int .u32 ro.a)
  c : W.cell? ⟨xb, 1, none⟩ = some (.int .i64 o.d)
  d : W.cell? ⟨g, q, none⟩ = some (.int .u32 ro.v)
/-- a state that was left -/
def stF (f : Nat → Value) (M : Mz) (many ct : Int) (j : Nat) : Value :=
  if 1 ≤ j ∧ j < 34 then .int .u32 (M.x j) else if j = 34 then .int .u32 M.lv else if j = 35 then .int .u32 (lo (M.lv + 4)) else if j = 42 then .int .i64 (ct + many) else f j
def wbF (f : Nat → Value) (X : Nat → Int) (k j : Nat) : Value := if 1 ≤ j ∧ j < k then .int .u32 (X j) else f j
theorem wbF_succ (f : Nat → Value) (X : Nat → Int) (k j : Nat) (hk : 1 ≤ k) : wbF f X (k + 1) j = if j = k then .int .u32 (X k) else wbF f X k j := by
  unfold wbF
  by_cases e : j = k
  · subst e; rw [if_pos rfl, if_pos (by omega)]
  · rw [if_neg e]
    by_cases h : 1 ≤ j ∧ j < k
    · rw [if_pos h, if_pos (by omega)]
    · rw [if_neg h, if_neg (by omega)]
theorem RowIs.congrP {w : World} {b : Nat} {t : TypeId} {n : Nat} {f g : Nat → Value} (h : RowIs w b t n f) (e : ∀ j, j < n → g j = f j) : RowIs w b t n g := by
  obtain ⟨cur, h1, h2, h3⟩ := h
  exact ⟨cur, h1, h2, fun j hj => by rw [h3 j hj, e j hj]⟩
/-- a state that is being written back -/
structure LvAt (wL W : World) (sb : Nat) (g : Nat → Value) : Prop where
  s : RowIs W sb 26 43 g
  g : wL.grownBy W (some sb)
theorem LvAt.block {wL W : World} {sb : Nat} {g : Nat → Value} (A : LvAt wL W sb g) (k : Nat) (hk : k < wL.heap.size) (h : k ≠ sb) : W.heap[k]? = wL.heap[k]? := A.g.block k hk (by intro e; exact h (Option.some.inj e))
theorem LvAt.put {wL W : World} {sb : Nat} {g : Nat → Value} (A : LvAt wL W sb g) (i : Nat) (v : Value) (g' : Nat → Value) (hg : g' i = v) (ho : ∀ j, j < 43 → j ≠ i → g' j = g j) : LvAt wL (W.setCell ⟨sb, i, none⟩ v) sb g' := ⟨RowIs.put A.s i v g' hg ho, grown_trans A.g (grown_set _ _)⟩
theorem LvAt.drew {wL W : World} {sb : Nat} {g : Nat → Value} (A : LvAt wL W sb g) : LvAt wL W.drew sb g := ⟨A.s, ⟨A.g.os, A.g.tape, A.g.output, A.g.size, A.g.block⟩⟩
/-- how it ends -/
def RunPost (w : World) (sb rb : Nat) (f : Nat → Value) (many ct : Int) : Oz → Ending → World → Prop
  | .trap t, e, w' => e = .returned (.agg #[.bool true, .int .i64 t, .bool false]) ∧ Below w.heap.size w w'
  | .fell, e, w' => e = .returned (.agg #[.bool false, .int .i64 0, .bool true]) ∧ Below w.heap.size w w'
  | .leave M, e, w' => e = .returned (.agg #[.bool false, .int .i64 0, .bool false]) ∧ RowIs w' sb 26 43 (stF f M many ct) ∧ (∃ gb', w'.cell? ⟨rb, 0, none⟩ = some (.slice (some ⟨gb', 0, none⟩) 4096 4096) ∧ w.heap.size ≤ gb' ∧ ∀ i, i < 4096 → w'.cell? ⟨gb', i, none⟩ = some (.int .u32 (M.m i))) ∧ (∀ k, k < w.heap.size → k ≠ sb → k ≠ rb → w'.heap[k]? = w.heap[k]?) ∧ w.heap.size ≤ w'.heap.size ∧ w'.os = w.os ∧ w'.tape = w.tape ∧ w'.output = w.output
/-- where an end is written -/
structure EBox (W : World) (x : Nat) : Prop where
  c0 : ∃ u, W.cell? ⟨x, 0, none⟩ = some u
  c1 : ∃ u, W.cell? ⟨x, 1, none⟩ = some u
  c2 : ∃ u, W.cell? ⟨x, 2, none⟩ = some u
  f : ∀ j, W.frozen? ⟨x, j, none⟩ = false
theorem EBox.lt {W : World} {x : Nat} (F : EBox W x) : x < W.heap.size := by obtain ⟨⟨u, a⟩, _⟩ := F; exact World.block_lt_of_cell? _ _ a
theorem EBox.block {W W' : World} {x : Nat} (F : EBox W x) (h : W'.heap[x]? = W.heap[x]?) : EBox W' x := by
  obtain ⟨⟨u, a⟩, ⟨v, b⟩, ⟨t, c⟩, d⟩ := F
  exact ⟨⟨u, (World.cell?_of_block (a := ⟨x, 0, none⟩) h).trans a⟩, ⟨v, (World.cell?_of_block (a := ⟨x, 1, none⟩) h).trans b⟩, ⟨t, (World.cell?_of_block (a := ⟨x, 2, none⟩) h).trans c⟩, fun j => (World.frozen?_of_block (a := ⟨x, j, none⟩) h).trans (d j)⟩
theorem EBox.new (w : World) : EBox (w.alloc (.cells #[.bool false, .int .i64 0, .bool false] 56)) w.heap.size := ⟨⟨.bool false, by simp⟩, ⟨.int .i64 0, by simp⟩, ⟨.bool false, by simp⟩, fun j => World.frozen?_alloc_at _ _ _ _ rfl⟩
theorem end_load {w : World} {B : Nat} {a b c : Value} (z0 : w.cell? ⟨B, 0, none⟩ = some a) (z1 : w.cell? ⟨B, 1, none⟩ = some b) (z2 : w.cell? ⟨B, 2, none⟩ = some c) : (loadVar 56 ⟨B, 0, none⟩).run Tryz.prog w = .ok (.agg #[a, b, c]) w := by
  simp [go_sem, z0, z1, z2]
theorem ofsE {B i j : Nat} (h : i ≠ j) : (⟨B, i, none⟩ : Addr) ≠ ⟨B, j, none⟩ := by intro e; injection e with e1 e2; exact h e2
theorem end_put {W : World} {B : Nat} (F : EBox W B) (v0 v1 v2 : Value) : (loadVar 56 ⟨B, 0, none⟩).run Tryz.prog (((W.setCell ⟨B, 0, none⟩ v0).setCell ⟨B, 1, none⟩ v1).setCell ⟨B, 2, none⟩ v2) = .ok (.agg #[v0, v1, v2]) (((W.setCell ⟨B, 0, none⟩ v0).setCell ⟨B, 1, none⟩ v1).setCell ⟨B, 2, none⟩ v2) := by
  obtain ⟨⟨u0, z0⟩, ⟨u1, z1⟩, ⟨u2, z2⟩, _⟩ := F
  have a1 := World.cell?_setCell_same W ⟨B, 0, none⟩ v0 z0
  have a2 : (W.setCell ⟨B, 0, none⟩ v0).cell? ⟨B, 1, none⟩ = some u1 := by rw [World.cell?_setCell_other _ _ _ _ (ofsE (by omega))]; exact z1
  have a3 : (W.setCell ⟨B, 0, none⟩ v0).cell? ⟨B, 2, none⟩ = some u2 := by rw [World.cell?_setCell_other _ _ _ _ (ofsE (by omega))]; exact z2
  have b1 := World.cell?_setCell_same (W.setCell ⟨B, 0, none⟩ v0) ⟨B, 1, none⟩ v1 a2
  have b3 : ((W.setCell ⟨B, 0, none⟩ v0).setCell ⟨B, 1, none⟩ v1).cell? ⟨B, 2, none⟩ = some u2 := by rw [World.cell?_setCell_other _ _ _ _ (ofsE (by omega))]; exact a3
  have b0 : ((W.setCell ⟨B, 0, none⟩ v0).setCell ⟨B, 1, none⟩ v1).cell? ⟨B, 0, none⟩ = some v0 := by rw [World.cell?_setCell_other _ _ _ _ (ofsE (by omega))]; exact a1
  exact end_load (by rw [World.cell?_setCell_other _ _ _ _ (ofsE (by omega))]; exact b0) (by rw [World.cell?_setCell_other _ _ _ _ (ofsE (by omega))]; exact b1) (World.cell?_setCell_same _ _ _ b3)
theorem nwX_bd {r : Nat → Int} (h : ∀ j, j < 34 → 0 ≤ r j ∧ r j < 4294967296) : ∀ i, i < 64 → 0 ≤ nwX r 34 i ∧ nwX r 34 i < 4294967296 := by
  intro i hi
  unfold nwX
  split
  · exact h i (by omega)
  · omega
theorem rowZ_lv {wt : Int → Bool} {x m : Nat → Int} {many : Int} (hx : ∀ i, i < 64 → 0 ≤ x i ∧ x i < 4294967296) (mb : ∀ i, 0 ≤ m i ∧ m i < 4294967296) : ∀ (row : List Opx) (M : Mz), (∀ o ∈ row, o.ok ∧ opE o many = 0) → (M.lv = -1 ∨ u32 M.lv) → ((row.foldl (fun M o => appZ M o (resZ wt x m o)) M).lv = -1 ∨ u32 (row.foldl (fun M o => appZ M o (resZ wt x m o)) M).lv)
  | [], M, _, h => h
  | o :: row, M, hw, h => by
    refine rowZ_lv hx mb row _ (fun q hq => hw q (by simp [hq])) ?_
    show (if (resZ wt x m o).leave = true then (resZ wt x m o).a else M.lv) = -1 ∨ u32 (if (resZ wt x m o).leave = true then (resZ wt x m o).a else M.lv)
    split
    · exact .inr (resZ_bd (hw o (by simp)).1 (hw o (by simp)).2 hx mb).2
    · exact h
theorem rowZ_xbd {wt : Int → Bool} {x m : Nat → Int} {many : Int} (hx : ∀ i, i < 64 → 0 ≤ x i ∧ x i < 4294967296) (mb : ∀ i, 0 ≤ m i ∧ m i < 4294967296) : ∀ (row : List Opx) (M : Mz), (∀ o ∈ row, o.ok ∧ opE o many = 0) → (∀ i, i < 64 → 0 ≤ M.x i ∧ M.x i < 4294967296) → ∀ i, i < 64 → 0 ≤ (row.foldl (fun M o => appZ M o (resZ wt x m o)) M).x i ∧ (row.foldl (fun M o => appZ M o (resZ wt x m o)) M).x i < 4294967296
  | [], M, _, h => h
  | o :: row, M, hw, h => rowZ_xbd hx mb row _ (fun q hq => hw q (by simp [hq])) (appZ_bd h (resZ_bd (hw o (by simp)).1 (hw o (by simp)).2 hx mb).1)
theorem runZ_cons (wt : Int → Bool) (row : List Opx) (rows : List (List Opx)) (x m : Nat → Int) : runZ wt (row :: rows) x m = match trapZ wt x m row with
    | some t => .trap t
    | none => if (rowZ wt x m row).lv < 0 then runZ wt rows (rowZ wt x m row).x (rowZ wt x m row).m else .leave (rowZ wt x m row) := rfl
/-- what region 9 reads -/
structure Ck9 (W : World) (mb rb b o1 b1 o2 : Nat) (x : Nat → Int) (u : Value) (o : Opx) : Prop where
  bx : MBox W mb x (.pointer (some ⟨rb, 0, none⟩))
  c : W.cell? ⟨b, o1, none⟩ = some u
  c0 : W.cell? ⟨b1, o2, none⟩ = some (.string o.s)
  c1 : W.cell? ⟨b1, o2 + 1, none⟩ = some (.int .i64 o.d)
  c2 : W.cell? ⟨b1, o2 + 2, none⟩ = some (.int .i64 o.a)
  c3 : W.cell? ⟨b1, o2 + 3, none⟩ = some (.int .i64 o.b)
  c4 : W.cell? ⟨b1, o2 + 4, none⟩ = some (.int .u32 o.i)
  c5 : W.cell? ⟨b1, o2 + 5, none⟩ = some (.int .i64 o.t)
theorem Ck9.blocks {W W' : World} {mb rb b o1 b1 o2 : Nat} {x : Nat → Int} {u : Value} {o : Opx} (C : Ck9 W mb rb b o1 b1 o2 x u o) (h1 : W'.heap[mb]? = W.heap[mb]?) (h2 : W'.heap[b]? = W.heap[b]?) (h3 : W'.heap[b1]? = W.heap[b1]?) : Ck9 W' mb rb b o1 b1 o2 x u o :=
  have c : ∀ j, W'.cell? ⟨b1, j, none⟩ = W.cell? ⟨b1, j, none⟩ := fun j => World.cell?_of_block (a := ⟨b1, j, none⟩) h3
  ⟨C.bx.block h1, (World.cell?_of_block (a := ⟨b, o1, none⟩) h2).trans C.c, (c _).trans C.c0, (c _).trans C.c1, (c _).trans C.c2, (c _).trans C.c3, (c _).trans C.c4, (c _).trans C.c5⟩
/-- a result in its box -/
structure RoB (W : World) (x : Nat) (r : Ro) : Prop where
  c0 : W.cell? ⟨x, 0, none⟩ = some (.int .u32 r.v)
  c1 : W.cell? ⟨x, 1, none⟩ = some (.int .u32 r.a)
  c2 : W.cell? ⟨x, 2, none⟩ = some (.bool r.trap)
  c3 : W.cell? ⟨x, 3, none⟩ = some (.bool r.leave)
theorem putRo {w : World} {B : Nat} {u0 u1 u2 u3 : Value} (r : Ro) (z0 : w.cell? ⟨B, 0, none⟩ = some u0) (z1 : w.cell? ⟨B, 1, none⟩ = some u1) (z2 : w.cell? ⟨B, 2, none⟩ = some u2) (z3 : w.cell? ⟨B, 3, none⟩ = some u3) : RoB ((((w.setCell ⟨B, 0, none⟩ (.int .u32 r.v)).setCell ⟨B, 1, none⟩ (.int .u32 r.a)).setCell ⟨B, 2, none⟩ (.bool r.trap)).setCell ⟨B, 3, none⟩ (.bool r.leave)) B r := by
  have o : ∀ {W : World} {i j : Nat} {v t : Value}, i ≠ j → W.cell? ⟨B, j, none⟩ = some t → (W.setCell ⟨B, i, none⟩ v).cell? ⟨B, j, none⟩ = some t := fun {W i j v t} h e => by rw [World.cell?_setCell_other _ _ _ _ (ofsE h)]; exact e
  exact ⟨o (by omega) (o (by omega) (o (by omega) (World.cell?_setCell_same _ _ _ z0))), o (by omega) (o (by omega) (World.cell?_setCell_same _ _ _ (o (by omega) z1))), o (by omega) (World.cell?_setCell_same _ _ _ (o (by omega) (o (by omega) z2))), World.cell?_setCell_same _ _ _ (o (by omega) (o (by omega) (o (by omega) z3)))⟩
end Go.Proofs.YtjkencgcdlfjhaaGreatDoor
