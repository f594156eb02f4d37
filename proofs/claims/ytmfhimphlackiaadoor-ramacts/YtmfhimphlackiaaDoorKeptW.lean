/-
  A world that is another's but for some blocks.
-/
import Derived.Test.YtmfhimphlackiaaDoorWatch
import Derived.Below
namespace Go.Proofs.YtmfhimphlackiaaDoor
open Go.RowKit Go.Maps
open Num
set_option linter.unusedVariables false
/-- w' is w but for some blocks, and new ones -/
structure Kept (w w' : World) (X : Nat → Prop) : Prop where
  os : w'.os = w.os
  tape : w'.tape = w.tape
  output : w'.output = w.output
  size : w.heap.size ≤ w'.heap.size
  block : ∀ k, k < w.heap.size → ¬ X k → w'.heap[k]? = w.heap[k]?
theorem Kept.refl (w : World) (X : Nat → Prop) : Kept w w X := ⟨rfl, rfl, rfl, Nat.le_refl _, fun _ _ _ => rfl⟩
theorem Kept.trans {w w1 w2 : World} {X Y : Nat → Prop} (a : Kept w w1 X) (b : Kept w1 w2 Y) (h : ∀ k, k < w.heap.size → Y k → X k) : Kept w w2 X :=
  ⟨b.os.trans a.os, b.tape.trans a.tape, b.output.trans a.output, Nat.le_trans a.size b.size, fun k hk hx => (b.block k (Nat.lt_of_lt_of_le hk a.size) (fun hy => hx (h k hk hy))).trans (a.block k hk hx)⟩
theorem Kept.mono {w w' : World} {X Y : Nat → Prop} (a : Kept w w' X) (h : ∀ k, X k → Y k) : Kept w w' Y := ⟨a.os, a.tape, a.output, a.size, fun k hk hy => a.block k hk (fun hx => hy (h k hx))⟩
theorem Kept.of_below {w w' : World} (X : Nat → Prop) (h : Below w.heap.size w w') : Kept w w' X := ⟨h.os, h.tape, h.output, h.size, fun k hk _ => h.block k hk⟩
theorem Kept.setCell (w : World) (a : Addr) (v : Value) (X : Nat → Prop) (h : X a.block) : Kept w (w.setCell a v) X :=
  ⟨rfl, rfl, rfl, by simp, fun k _ hx => Below.heap_setCell w a v k (fun e => hx (e ▸ h))⟩
theorem Kept.put {w w1 : World} {sb : Nat} (h : Kept w w1 (· = sb)) (j : Nat) (v : Value) : Kept w (w1.setCell ⟨sb, j, none⟩ v) (· = sb) :=
  h.trans (Kept.setCell w1 ⟨sb, j, none⟩ v (· = sb) rfl) (fun _ _ h => h)
theorem Kept.drew (w : World) (X : Nat → Prop) : Kept w w.drew X := ⟨rfl, rfl, rfl, Nat.le_refl _, fun _ _ _ => rfl⟩
theorem Kept.cell {w w' : World} {X : Nat → Prop} (h : Kept w w' X) {a : Addr} {v : Value} (hc : w.cell? a = some v) (hx : ¬ X a.block) : w'.cell? a = some v :=
  (World.cell?_of_block (h.block _ (World.block_lt_of_cell? _ _ hc) hx)).trans hc
theorem Kept.below {w0 w w' : World} {B : Nat} {X : Nat → Prop} (h : Kept w w' X) (h0 : Below B w0 w) (hB : B ≤ w0.heap.size) (hx : ∀ k, k < B → ¬ X k) : Below B w0 w' :=
  ⟨h.os.trans h0.os, h.tape.trans h0.tape, h.output.trans h0.output, Nat.le_trans h0.size h.size, fun k hk => (h.block k (by have := h0.size; omega) (hx k hk)).trans (h0.block k hk)⟩
end Go.Proofs.YtmfhimphlackiaaDoor
