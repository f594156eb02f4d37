/-
  Package opt: which registers are still asked for.
-/
import Derived.Test.YtjkencgcdlfjhaaGreatDoorJReads
import Derived.Test.YtjkencgcdlfjhaaGreatDoorJPhase
namespace Go.Proofs.YtjkencgcdlfjhaaGreatDoor
open Go.RowKit Go.Maps
open Num
set_option linter.unusedVariables false
/-- block b holds what is asked for -/
def NeedAt (w : World) (b : Nat) (n : Nx) : Prop := RowIs w b 217 64 (fun j => .bool (n j))
theorem NeedAt.congr {w : World} {b : Nat} {n n' : Nx} (N : NeedAt w b n) (h : ∀ j : Nat, j < 64 → n' j = n j) : NeedAt w b n' := by
  obtain ⟨cur, h1, h2, h3⟩ := N
  exact ⟨cur, h1, h2, fun j hj => by rw [h3 j hj]; show some (Value.bool (n j)) = some (Value.bool (n' j)); rw [h j hj]⟩
theorem grown_set {w : World} (a : Addr) (v : Value) : w.grownBy (w.setCell a v) (some a.block) := ⟨rfl, rfl, rfl, by simp [World.setCell], fun k hk hn => Below.heap_setCell _ _ _ _ (by intro e; exact hn (by rw [e]))⟩
theorem grown_trans {w w1 w2 : World} {g : Option Nat} (a : w.grownBy w1 g) (b : w1.grownBy w2 g) : w.grownBy w2 g :=
  ⟨b.os.trans a.os, b.tape.trans a.tape, b.output.trans a.output, Nat.le_trans a.size b.size, fun k hk hn => (b.block k (Nat.lt_of_lt_of_le hk a.size) hn).trans (a.block k hk hn)⟩
theorem grown_below {w w' : World} {g : Option Nat} (h : Below w.heap.size w w') : w.grownBy w' g := ⟨h.os, h.tape, h.output, h.size, fun k hk _ => h.block k hk⟩
theorem grown_refl (w : World) (g : Option Nat) : w.grownBy w g := ⟨rfl, rfl, rfl, Nat.le_refl _, fun _ _ _ => rfl⟩
end Go.Proofs.YtjkencgcdlfjhaaGreatDoor
/-
  Package opt: an op that is passed.
-/
namespace Go.Proofs.YtjkencgcdlfjhaaGreatDoor
open Go.RowKit Go.Maps
open Num
set_option linter.unusedVariables false
/-- six cells of an op in a box -/
structure BoxO (W : World) (x : Nat) (o : Opx) : Prop where
  c0 : W.cell? ⟨x, 0, none⟩ = some (.string o.s)
  c1 : W.cell? ⟨x, 1, none⟩ = some (.int .i64 o.d)
  c2 : W.cell? ⟨x, 2, none⟩ = some (.int .i64 o.a)
  c3 : W.cell? ⟨x, 3, none⟩ = some (.int .i64 o.b)
  c4 : W.cell? ⟨x, 4, none⟩ = some (.int .u32 o.i)
  c5 : W.cell? ⟨x, 5, none⟩ = some (.int .i64 o.t)
theorem BoxO.lt {W : World} {x : Nat} {o : Opx} (B : BoxO W x o) : x < W.heap.size := World.block_lt_of_cell? _ _ B.c0
theorem BoxO.block {W W' : World} {x : Nat} {o : Opx} (B : BoxO W x o) (h : W'.heap[x]? = W.heap[x]?) : BoxO W' x o := by
  have c : ∀ j, W'.cell? ⟨x, j, none⟩ = W.cell? ⟨x, j, none⟩ := fun j => World.cell?_of_block (a := ⟨x, j, none⟩) h
  exact ⟨(c 0).trans B.c0, (c 1).trans B.c1, (c 2).trans B.c2, (c 3).trans B.c3, (c 4).trans B.c4, (c 5).trans B.c5⟩
theorem BoxO.new (w : World) (o : Opx) : BoxO (w.alloc (.cells #[.string o.s, .int .i64 o.d, .int .i64 o.a, .int .i64 o.b, .int .u32 o.i, .int .i64 o.t] 92)) w.heap.size o := by
  have c : ∀ j, (w.alloc (.cells #[.string o.s, .int .i64 o.d, .int .i64 o.a, .int .i64 o.b, .int .u32 o.i, .int .i64 o.t] 92)).cell? ⟨w.heap.size, j, none⟩ = (#[.string o.s, .int .i64 o.d, .int .i64 o.a, .int .i64 o.b, .int .u32 o.i, .int .i64 o.t] : Array Value)[j]? := fun j => cell_of_row _ _ _ _ _ _ (heap_alloc_new w _)
  exact ⟨c 0, c 1, c 2, c 3, c 4, c 5⟩
/-- pass, on its way: w as it began, W now -/
structure PsAt (w W : World) (b : Nat) (o : Opx) (n : Nx) : Prop where
  g : w.grownBy W (some b)
  nd : NeedAt W b n
  bx : BoxO W w.heap.size o
  hb : b < w.heap.size
theorem PsAt.stays {w W W' : World} {b : Nat} {o : Opx} {n : Nx} (P : PsAt w W b o n) (h : Below W.heap.size W W') : PsAt w W' b o n :=
  ⟨grown_trans P.g (grown_below h), RowIs.stays P.nd h, P.bx.block (h.block _ P.bx.lt), P.hb⟩
theorem PsAt.turn {w W W' : World} {b : Nat} {o : Opx} {n n' : Nx} (P : PsAt w W b o n) (h : W.grownBy W' (some b)) (hn : NeedAt W' b n') : PsAt w W' b o n' :=
  ⟨grown_trans P.g h, hn, P.bx.block (h.block _ P.bx.lt (by intro e; have := Option.some.inj e; have := P.hb; omega)), P.hb⟩
theorem PsAt.drew {w W : World} {b : Nat} {o : Opx} {n : Nx} (P : PsAt w W b o n) : PsAt w W.drew b o n := ⟨⟨P.g.os, P.g.tape, P.g.output, P.g.size, P.g.block⟩, P.nd, ⟨P.bx.c0, P.bx.c1, P.bx.c2, P.bx.c3, P.bx.c4, P.bx.c5⟩, P.hb⟩
theorem PsAt.put {w W : World} {b : Nat} {o : Opx} {n : Nx} (P : PsAt w W b o n) (i : Nat) (v : Bool) : PsAt w (W.setCell ⟨b, i, none⟩ (.bool v)) b o (fun r => if r = i then v else n r) := by
  refine P.turn (grown_set ⟨b, i, none⟩ _) (RowIs.put P.nd i (.bool v) _ ?_ ?_)
  · simp
  · intro j hj hne
    simp only [Value.bool.injEq]
    rw [if_neg (by omega)]
end Go.Proofs.YtjkencgcdlfjhaaGreatDoor
