/-
  Store.
-/
import Derived.Test.YtlfemkclapgcdaaDoorLoad
import Derived.Deep.RegionWith
import Derived.Deep.Cut
import Derived.StillTailTactics
namespace Go.Proofs.YtlfemkclapgcdaaDoor
open Go.RowKit Go.Maps
open Num
set_option linter.unusedVariables false
/-- w' is w but for two blocks, and new ones -/
structure Turned (w w' : World) (b c : Nat) : Prop where
  os : w'.os = w.os
  tape : w'.tape = w.tape
  output : w'.output = w.output
  size : w.heap.size ≤ w'.heap.size
  block : ∀ k, k < w.heap.size → k ≠ b → k ≠ c → w'.heap[k]? = w.heap[k]?
theorem Turned.below {w0 w w' : World} {B b c : Nat} (h : Turned w w' b c) (h0 : Below B w0 w) (hB : B ≤ w0.heap.size) (hb : B ≤ b) (hc : B ≤ c) : Below B w0 w' :=
  ⟨h.os.trans h0.os, h.tape.trans h0.tape, h.output.trans h0.output, Nat.le_trans h0.size h.size, fun k hk => (h.block k (by have := h0.size; omega) (by omega) (by omega)).trans (h0.block k hk)⟩
theorem Turned.of_below {w w2 w3 : World} {b c : Nat} (t : Turned w w2 b c) (h : Below w2.heap.size w2 w3) : Turned w w3 b c :=
  ⟨h.os.trans t.os, h.tape.trans t.tape, h.output.trans t.output, Nat.le_trans t.size h.size, fun k hk n1 n2 => (h.block k (Nat.lt_of_lt_of_le hk t.size)).trans (t.block k hk n1 n2)⟩
theorem Turned.of_grown {w w2 w3 : World} {b c d : Nat} (t : Turned w w2 b c) (h : w2.grownBy w3 (some d)) (hd : d = b ∨ d = c) : Turned w w3 b c :=
  ⟨h.os.trans t.os, h.tape.trans t.tape, h.output.trans t.output, Nat.le_trans t.size h.size, fun k hk n1 n2 => (h.block k (Nat.lt_of_lt_of_le hk t.size) (by intro e; injection e with e; rcases hd with hd | hd <;> omega)).trans (t.block k hk n1 n2)⟩
theorem grown_of_drew {W w2 : World} {r : Option Nat} (h : W.drew.grownBy w2 r) : W.grownBy w2 r := ⟨h.os, h.tape, h.output, h.size, h.block⟩
theorem RamIs.mono {w : World} {sb bp bw bh N N' : Nat} {m : Nat → Int} {wt ht : Int → Bool} (R : RamIs w sb bp bw bh N m wt ht) (h : N ≤ N') : RamIs w sb bp bw bh N' m wt ht :=
  ⟨R.c0, R.c1, R.c2, R.pw, R.ph, R.wh, R.sp, R.sh, R.ps.mono h, R.ws.mono h, R.hs.mono h, R.mb⟩
theorem RamIs.hits {w : World} {sb bp bw bh N : Nat} {m : Nat → Int} {wt ht ht' : Int → Bool} (R : RamIs w sb bp bw bh N m wt ht) (h : ∀ x, ht x = ht' x) : RamIs w sb bp bw bh N m wt ht' := by
  obtain rfl : ht = ht' := funext h
  exact R
/-- a row that was laid last, written anew -/
theorem setRow_new (w : World) (old cs : Array Value) (t : TypeId) : (w.alloc (.cells old t)).setRow w.heap.size cs = w.alloc (.cells cs t) := by
  unfold World.setRow World.alloc
  congr 1
  apply Array.ext
  · simp
  · intro k h1 h2
    simp only [Array.getElem_modify, Array.getElem_push]
    by_cases hk : k < w.heap.size
    · simp [hk]; omega
    · have : k = w.heap.size := by simp at h2; omega
      subst this; simp
theorem setCell_new (w : World) (cs : Array Value) (t : TypeId) (i : Nat) (v : Value) : (w.alloc (.cells cs t)).setCell ⟨w.heap.size, i, none⟩ v = w.alloc (.cells (cs.setIfInBounds i v) t) := by
  rw [setCell_eq_setRow _ _ _ cs t (0, 0) _ (heap_alloc_new w _), setRow_new]
theorem wpList_alloc61 {ops : Array Oper} {rest : List Oper} {o : Oper} {a : Act} {w : World} {Q : Exit → Act → World → Prop} (hg : o.guard = none) (hop : o.op = Op.alloc 65)
    (h : wpList Tryd.prog ops Q rest (a.put o.dst (.pointer (some ⟨w.heap.size, 0, none⟩))) (w.alloc (.cells zeroPg 65))) : wpList Tryd.prog ops Q (o :: rest) a w := by
  refine wpList_plain hg fun K hK => ?_
  unfold Oper.wp
  have e : (execOp a.eval o).run Tryd.prog w = .ok (.value (.pointer (some ⟨w.heap.size, 0, none⟩))) (w.alloc (.cells zeroPg 65)) := by
    unfold execOp; rw [hop]
    simp [Instr.alloc, newVar, newRow, Value.cells, go_sem]
    rfl
  rw [e, Oper.upon_value]
  exact hK _ _ h
theorem wpList_store61 {ops : Array Oper} {rest : List Oper} {o : Oper} {a : Act} {w : World} {Q : Exit → Act → World → Prop} (hgd : o.guard = none) (x y : Operand) (ho : o.op = .store 65 x y)
    (old cells : Array Value) (hx : a.eval x = .pointer (some ⟨w.heap.size, 0, none⟩)) (hy : a.eval y = .agg cells) (ho : old.size = 64) (hs : cells.size = 64) (h1 : cells.all (·.oneCell') = true)
    (h : wpList Tryd.prog ops Q rest (a.put o.dst undef) (w.alloc (.cells cells 65))) : wpList Tryd.prog ops Q (o :: rest) a (w.alloc (.cells old 65)) := by
  refine wpList_store_row hgd 65 x y ‹_› w.heap.size cells hx hy 65 old (heap_alloc_new w _) (by rw [info61, hs]) (by omega) h1 ?_
  rw [setRow_new]; exact h
theorem pgA_set (m m' : Nat → Int) (n i : Nat) (x : Int) (hi : i < 64) (hx : m' (64 * n + i) = x) (ho : ∀ j, j < 64 → j ≠ i → m' (64 * n + j) = m (64 * n + j)) : (pgA m n).setIfInBounds i (.int .u32 x) = pgA m' n := by
  apply Array.ext_getElem?
  intro k
  by_cases hk : k < 64
  · rw [pgA_get m' n k hk]
    by_cases e : i = k
    · subst e; rw [Array.getElem?_setIfInBounds_self, if_pos (by rw [pgA_size]; exact hk), hx]
    · rw [Array.getElem?_setIfInBounds_ne e, pgA_get m n k hk, ho k hk (Ne.symm e)]
  · rw [Array.getElem?_eq_none (by rw [Array.size_setIfInBounds, pgA_size]; omega), Array.getElem?_eq_none (by rw [pgA_size]; omega)]
theorem wpStill_load {P : Program} {ops : Array Oper} {w : World} {Q : Act → Prop} {a : Act} {o : Oper} {rest : List Oper} (hg : o.guard = none) (t : TypeId) (x : Operand) (ho : o.op = .load t x) (A : Addr) (hx : a.eval x = .pointer (some A)) (v : Value)
    (hrun : (loadVar t A).run P w = .ok v w) (h : wpStill P ops w Q rest (a.put o.dst v)) : wpStill P ops w Q (o :: rest) a := by
  refine wpStill_step fun K hK => ?_
  have hw : Region.wanted o (yielded ops a.tmps) = true := by simp [Region.wanted, hg]
  rw [if_pos hw]
  unfold Oper.still
  have e : (execOp a.eval o).run P w = .ok (.value v) w := by
    unfold execOp
    simp [ho, hx, Instr.loadAt, Instr.sureAddr, hrun]
  rw [e, Oper.stillUpon_value]
  exact hK _ h
theorem drew_lit (W : World) : ({ heap := W.heap, tape := W.tape, drawn := W.drawn + 1, os := W.os, output := W.output } : World) = W.drew := rfl
end Go.Proofs.YtlfemkclapgcdaaDoor
