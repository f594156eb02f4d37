/-
  Package plan: a maker in memory; first.
-/
import Derived.Laws.Cover1
import Derived.Test.YtjkencgcdlfjhaaGreatDoorJReads
import Derived.Test.YtjkencgcdlfjhaaGreatDoorJPlP
import Derived.Test.YtjkencgcdlfjhaaGreatDoorJPl1
namespace Go.Proofs.YtjkencgcdlfjhaaGreatDoor
open Go.RowKit Go.Maps
open Num
set_option linter.unusedVariables false
/-- a maker's 132 cells -/
def mkF (M : Mk) (vr : Value) (j : Nat) : Value :=
  if j = 0 then vr else if j < 65 then .int .i64 (M.rdy (j - 1) : Int) else if j < 129 then .int .i64 (M.ask (j - 65) : Int) else if j = 129 then .int .i64 (M.bI : Int) else if j = 130 then .int .i64 (M.bS : Int) else .int .i64 (M.bM : Int)
def MkC (W : World) (mb : Nat) (M : Mk) (vr : Value) : Prop := RowIs W mb 146 132 (mkF M vr)
theorem MkC.c0 {W : World} {mb : Nat} {M : Mk} {vr : Value} (C : MkC W mb M vr) : W.cell? ⟨mb, 0, none⟩ = some vr := RowIs.cell C (j := 0) (by omega)
theorem MkC.rd {W : World} {mb : Nat} {M : Mk} {vr : Value} (C : MkC W mb M vr) (r : Nat) (h : r < 64) : W.cell? ⟨mb, 1 + r, none⟩ = some (.int .i64 (M.rdy r : Int)) := by
  have := RowIs.cell C (j := 1 + r) (by omega)
  rw [this]; unfold mkF; rw [if_neg (by omega), if_pos (by omega), show 1 + r - 1 = r by omega]
theorem MkC.i {W : World} {mb : Nat} {M : Mk} {vr : Value} (C : MkC W mb M vr) : W.cell? ⟨mb, 129, none⟩ = some (.int .i64 (M.bI : Int)) := RowIs.cell C (j := 129) (by omega)
theorem MkC.s {W : World} {mb : Nat} {M : Mk} {vr : Value} (C : MkC W mb M vr) : W.cell? ⟨mb, 130, none⟩ = some (.int .i64 (M.bS : Int)) := RowIs.cell C (j := 130) (by omega)
theorem MkC.m {W : World} {mb : Nat} {M : Mk} {vr : Value} (C : MkC W mb M vr) : W.cell? ⟨mb, 131, none⟩ = some (.int .i64 (M.bM : Int)) := RowIs.cell C (j := 131) (by omega)
theorem MkC.stays {W W' : World} {mb : Nat} {M : Mk} {vr : Value} (C : MkC W mb M vr) (h : Below W.heap.size W W') : MkC W' mb M vr := RowIs.stays C h
theorem MkC.lt {W : World} {mb : Nat} {M : Mk} {vr : Value} (C : MkC W mb M vr) : mb < W.heap.size := RowIs.lt C
structure CkF (W : World) (mb : Nat) (r : Nat) (x y : Int) : Prop where
  a : W.cell? ⟨mb, 1 + r, none⟩ = some (.int .i64 x)
  b : W.cell? ⟨mb, 65 + r, none⟩ = some (.int .i64 y)
end Go.Proofs.YtjkencgcdlfjhaaGreatDoor
/-
  Package plan: note.
-/
namespace Go.Proofs.YtjkencgcdlfjhaaGreatDoor
open Go.RowKit Go.Maps
open Num
set_option linter.unusedVariables false
theorem grown_transP {w w1 w2 : World} {g : Option Nat} (a : w.grownBy w1 g) (b : w1.grownBy w2 g) : w.grownBy w2 g :=
  ⟨b.os.trans a.os, b.tape.trans a.tape, b.output.trans a.output, Nat.le_trans a.size b.size, fun k hk hn => (b.block k (Nat.lt_of_lt_of_le hk a.size) hn).trans (a.block k hk hn)⟩
theorem grown_belowP {w w' : World} {g : Option Nat} (h : Below w.heap.size w w') : w.grownBy w' g := ⟨h.os, h.tape, h.output, h.size, fun k hk _ => h.block k hk⟩
theorem MkC.drew {W : World} {mb : Nat} {M : Mk} {vr : Value} (C : MkC W mb M vr) : MkC W.drew mb M vr := C
theorem BoxP.drew {W : World} {x : Nat} {o : Opx} (B : BoxP W x o) : BoxP W.drew x o := ⟨B.c0, B.c1, B.c2, B.c3, B.c4, B.c5⟩
theorem BoxP.put {W : World} {x mb i : Nat} {v : Value} {o : Opx} (B : BoxP W x o) (h : x ≠ mb) : BoxP (W.setCell ⟨mb, i, none⟩ v) x o := B.block (Below.heap_setCell _ _ _ _ (fun e => h e))
theorem mkF_r {M : Mk} {vr : Value} {j : Nat} (h1 : 1 ≤ j) (h2 : j < 65) : mkF M vr j = .int .i64 (M.rdy (j - 1) : Int) := by unfold mkF; rw [if_neg (by omega), if_pos h2]
theorem mkF_a {M : Mk} {vr : Value} {j : Nat} (h1 : 65 ≤ j) (h2 : j < 129) : mkF M vr j = .int .i64 (M.ask (j - 65) : Int) := by unfold mkF; rw [if_neg (by omega), if_neg (by omega), if_pos h2]
theorem MkC.fz {W : World} {mb : Nat} {M : Mk} {vr : Value} (C : MkC W mb M vr) (j : Nat) : W.frozen? ⟨mb, j, none⟩ = false := RowIs.fz C j
theorem MkC.putR {W : World} {mb : Nat} {M : Mk} {vr : Value} (C : MkC W mb M vr) (r : Nat) (hr : r < 64) (v : Nat) : MkC (W.setCell ⟨mb, 1 + r, none⟩ (.int .i64 (v : Int))) mb { M with rdy := setN M.rdy r v } vr := by
  refine RowIs.put C (1 + r) _ _ ?_ (fun j hj hne => ?_)
  · rw [mkF_r (by omega) (by omega)]; show Value.int .i64 ((if 1 + r - 1 = r then v else M.rdy (1 + r - 1) : Nat) : Int) = _; rw [if_pos (by omega)]
  · have hc : j = 0 ∨ (1 ≤ j ∧ j < 65) ∨ (65 ≤ j ∧ j < 129) ∨ j = 129 ∨ j = 130 ∨ j = 131 := by omega
    rcases hc with hc | hc | hc | hc | hc | hc
    · subst hc; rfl
    · rw [mkF_r hc.1 hc.2, mkF_r hc.1 hc.2]; show Value.int .i64 ((if j - 1 = r then v else M.rdy (j - 1) : Nat) : Int) = _; rw [if_neg (by omega)]
    · rw [mkF_a hc.1 hc.2, mkF_a hc.1 hc.2]
    · subst hc; first | rfl | omega
    · subst hc; first | rfl | omega
    · subst hc; first | rfl | omega
structure NtAt (w W : World) (mb : Nat) (M : Mk) (vr : Value) (o : Opx) : Prop where
  g : w.grownBy W (some mb)
  c : MkC W mb M vr
  x : BoxP W w.heap.size o
theorem NtAt.stays {w W W' : World} {mb : Nat} {M : Mk} {vr : Value} {o : Opx} (N : NtAt w W mb M vr o) (h : Below W.heap.size W W') : NtAt w W' mb M vr o := ⟨grown_transP N.g (grown_belowP h), N.c.stays h, N.x.stays h⟩
theorem NtAt.turn {w W W' : World} {mb : Nat} {M M' : Mk} {vr : Value} {o : Opx} (N : NtAt w W mb M vr o) (hmb : mb < w.heap.size) (h : W.grownBy W' (some mb)) (C : MkC W' mb M' vr) : NtAt w W' mb M' vr o := ⟨grown_transP N.g h, C, N.x.block (h.block _ N.x.lt (by intro e; have := Option.some.inj e; omega))⟩
structure CkN (W : World) (mb r : Nat) (x : Int) : Prop where
  a : W.cell? ⟨mb, 65 + r, none⟩ = some (.int .i64 x)
end Go.Proofs.YtjkencgcdlfjhaaGreatDoor
