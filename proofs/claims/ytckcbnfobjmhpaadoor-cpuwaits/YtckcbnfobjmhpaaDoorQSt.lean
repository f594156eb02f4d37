/-
  A processor's state: its numbers, and how memory holds them; one instruction on its way.
-/
import Derived.Below
import Derived.Test.YtckcbnfobjmhpaaDoorQWords
import Derived.Test.YtckcbnfobjmhpaaDoorQSt0
namespace Go.Proofs.YtckcbnfobjmhpaaDoor
open Go.RowKit Go.Maps
open Num
set_option linter.unusedVariables false
/-- w' is w but for some blocks, and new ones -/
structure Kept (w w' : World) (X : Nat → Prop) : Prop where
  os : w'.os = w.os
  tape : w'.tape = w.tape
  output : w'.output = w.output
  size : w.heap.size ≤ w'.heap.size
  block : ∀ k, k < w.heap.size → ¬ X k → w'.heap[k]? = w.heap[k]?
theorem Kept.refl (w : World) (X : Nat → Prop) : Kept w w X := ⟨rfl, rfl, rfl, Nat.le_refl _, fun _ _ _ => rfl⟩
theorem Kept.trans {w w1 w2 : World} {X Y : Nat → Prop} (a : Kept w w1 X) (b : Kept w1 w2 Y) (h : ∀ k, k < w.heap.size → Y k → X k) : Kept w w2 X :=
  ⟨b.os.trans a.os, b.tape.trans a.tape, b.output.trans a.output, Nat.le_trans a.size b.size, fun k hk hx => (b.block k (Nat.lt_of_lt_of_le hk a.size) (fun hy => hx (h k hk hy))).trans (a.block k hk hx)⟩
theorem Kept.mono {w w' : World} {X Y : Nat → Prop} (a : Kept w w' X) (h : ∀ k, X k → Y k) : Kept w w' Y := ⟨a.os, a.tape, a.output, a.size, fun k hk hy => a.block k hk (fun hx => hy (h k hx))⟩
theorem Kept.of_below {w w' : World} (X : Nat → Prop) (h : Below w.heap.size w w') : Kept w w' X := ⟨h.os, h.tape, h.output, h.size, fun k hk _ => h.block k hk⟩
theorem Kept.setCell (w : World) (a : Addr) (v : Value) (X : Nat → Prop) (h : X a.block) : Kept w (w.setCell a v) X :=
  ⟨rfl, rfl, rfl, by simp, fun k _ hx => Below.heap_setCell w a v k (fun e => hx (e ▸ h))⟩
theorem Kept.put {w w1 : World} {sb : Nat} (h : Kept w w1 (· = sb)) (j : Nat) (v : Value) : Kept w (w1.setCell ⟨sb, j, none⟩ v) (· = sb) :=
  h.trans (Kept.setCell w1 ⟨sb, j, none⟩ v (· = sb) rfl) (fun _ _ h => h)
theorem Kept.drew (w : World) (X : Nat → Prop) : Kept w w.drew X := ⟨rfl, rfl, rfl, Nat.le_refl _, fun _ _ _ => rfl⟩
theorem Kept.cell {w w' : World} {X : Nat → Prop} (h : Kept w w' X) {a : Addr} {v : Value} (hc : w.cell? a = some v) (hx : ¬ X a.block) : w'.cell? a = some v :=
  (World.cell?_of_block (h.block _ (World.block_lt_of_cell? _ _ hc) hx)).trans hc
theorem Kept.below {w0 w w' : World} {B : Nat} {X : Nat → Prop} (h : Kept w w' X) (h0 : Below B w0 w) (hB : B ≤ w0.heap.size) (hx : ∀ k, k < B → ¬ X k) : Below B w0 w' :=
  ⟨h.os.trans h0.os, h.tape.trans h0.tape, h.output.trans h0.output, Nat.le_trans h0.size h.size, fun k hk => (h.block k (by have := h0.size; omega) (hx k hk)).trans (h0.block k hk)⟩
theorem StAt.kept {w w' : World} {sb : Nat} {S : St} {X : Nat → Prop} (h : StAt w sb S) (k : Kept w w' X) (hx : ¬ X sb) : StAt w' sb S := h.block (k.block _ h.lt hx)
theorem StAt.putPc {w : World} {sb : Nat} {S : St} (h : StAt w sb S) (x : Int) : StAt (w.setCell ⟨sb, 34, none⟩ (.int .u32 x)) sb { S with pc := x } :=
  h.put (by omega) rfl fun i hi hn => by simp [stV, hn]
theorem StAt.putNx {w : World} {sb : Nat} {S : St} (h : StAt w sb S) (x : Int) : StAt (w.setCell ⟨sb, 35, none⟩ (.int .u32 x)) sb { S with nx := x } :=
  h.put (by omega) rfl fun i hi hn => by simp [stV, hn]
theorem StAt.putSl {w : World} {sb : Nat} {S : St} (h : StAt w sb S) (x : Bool) : StAt (w.setCell ⟨sb, 36, none⟩ (.bool x)) sb { S with sl := x } :=
  h.put (by omega) rfl fun i hi hn => by simp [stV, hn]
theorem StAt.putHi {w : World} {sb : Nat} {S : St} (h : StAt w sb S) (x : Int) : StAt (w.setCell ⟨sb, 32, none⟩ (.int .u32 x)) sb { S with hi := x } :=
  h.put (by omega) rfl fun i hi hn => by simp [stV, hn]
theorem StAt.putLo {w : World} {sb : Nat} {S : St} (h : StAt w sb S) (x : Int) : StAt (w.setCell ⟨sb, 33, none⟩ (.int .u32 x)) sb { S with lo := x } :=
  h.put (by omega) rfl fun i hi hn => by simp [stV, hn]
theorem StAt.putSt {w : World} {sb : Nat} {S : St} (h : StAt w sb S) (x : Int) : StAt (w.setCell ⟨sb, 37, none⟩ (.int .u32 x)) sb { S with st := x } :=
  h.put (by omega) rfl fun i hi hn => by simp [stV, hn]
theorem StAt.putCa {w : World} {sb : Nat} {S : St} (h : StAt w sb S) (x : Int) : StAt (w.setCell ⟨sb, 38, none⟩ (.int .u32 x)) sb { S with ca := x } :=
  h.put (by omega) rfl fun i hi hn => by simp [stV, hn]
theorem StAt.putEp {w : World} {sb : Nat} {S : St} (h : StAt w sb S) (x : Int) : StAt (w.setCell ⟨sb, 39, none⟩ (.int .u32 x)) sb { S with ep := x } :=
  h.put (by omega) rfl fun i hi hn => by simp [stV, hn]
theorem StAt.putBd {w : World} {sb : Nat} {S : St} (h : StAt w sb S) (x : Int) : StAt (w.setCell ⟨sb, 40, none⟩ (.int .u32 x)) sb { S with bd := x } :=
  h.put (by omega) rfl fun i hi hn => by simp [stV, hn]
theorem StAt.putCm {w : World} {sb : Nat} {S : St} (h : StAt w sb S) (x : Int) : StAt (w.setCell ⟨sb, 41, none⟩ (.int .u32 x)) sb { S with cm := x } :=
  h.put (by omega) rfl fun i hi hn => by simp [stV, hn]
theorem StAt.putCt {w : World} {sb : Nat} {S : St} (h : StAt w sb S) (x : Int) : StAt (w.setCell ⟨sb, 42, none⟩ (.int .i64 x)) sb { S with ct := x } :=
  h.put (by omega) rfl fun i hi hn => by unfold stV; by_cases h1 : i < 32 <;> by_cases h2 : i = 32 <;> by_cases h3 : i = 33 <;> by_cases h4 : i = 34 <;> by_cases h5 : i = 35 <;> by_cases h6 : i = 36 <;> by_cases h7 : i = 37 <;> by_cases h8 : i = 38 <;> by_cases h9 : i = 39 <;> by_cases h10 : i = 40 <;> by_cases h11 : i = 41 <;> first | (exfalso; omega) | simp [h1, h2, h3, h4, h5, h6, h7, h8, h9, h10, h11]
theorem StAt.putR {w : World} {sb : Nat} {S : St} (h : StAt w sb S) (n : Nat) (hn : n < 32) (x : Int) : StAt (w.setCell ⟨sb, n, none⟩ (.int .u32 x)) sb { S with r := fun i => if i = n then x else S.r i } :=
  h.put (by omega) (by unfold stV; rw [if_pos hn]; simp) fun i hi hne => by simp [stV, hne]
/-- an instruction on its way -/
structure PAt (w : World) (pb sb bb : Nat) (k s t d : Nat) (m : Int) : Prop where
  p0 : w.cell? ⟨pb, 0, none⟩ = some (.pointer (some ⟨sb, 0, none⟩))
  p1 : w.cell? ⟨pb, 1, none⟩ = some (.int .i64 k)
  p2 : w.cell? ⟨pb, 2, none⟩ = some (.int .i64 s)
  p3 : w.cell? ⟨pb, 3, none⟩ = some (.int .i64 t)
  p4 : w.cell? ⟨pb, 4, none⟩ = some (.int .i64 d)
  p5 : w.cell? ⟨pb, 5, none⟩ = some (.int .u32 m)
  p6 : w.cell? ⟨pb, 6, none⟩ = some (.pointer (some ⟨bb, 0, none⟩))
theorem PAt.lt {w : World} {pb sb bb k s t d : Nat} {m : Int} (h : PAt w pb sb bb k s t d m) : pb < w.heap.size := World.block_lt_of_cell? _ _ h.p0
theorem PAt.block {w w' : World} {pb sb bb k s t d : Nat} {m : Int} (h : PAt w pb sb bb k s t d m) (hb : w'.heap[pb]? = w.heap[pb]?) : PAt w' pb sb bb k s t d m := by
  have c : ∀ (j : Nat) (v : Value), w.cell? ⟨pb, j, none⟩ = some v → w'.cell? ⟨pb, j, none⟩ = some v := fun j v e => (World.cell?_of_block (a := ⟨pb, j, none⟩) hb).trans e
  exact ⟨c _ _ h.p0, c _ _ h.p1, c _ _ h.p2, c _ _ h.p3, c _ _ h.p4, c _ _ h.p5, c _ _ h.p6⟩
/-- all that a method of it sees -/
structure Cp (w : World) (pb sb bb : Nat) (S : St) (k s t d : Nat) (m : Int) : Prop where
  p : PAt w pb sb bb k s t d m
  a : StAt w sb S
  ok : S.ok
  ne : pb ≠ sb
  hs : s < 32
  ht : t < 32
  hd : d < 32
  m0 : 0 ≤ m
  m1 : m < 4294967296
section
variable {w : World} {pb sb bb : Nat} {S : St} {k s t d : Nat} {m : Int}
theorem Cp.drew (c : Cp w pb sb bb S k s t d m) : Cp w.drew pb sb bb S k s t d m := ⟨⟨c.p.p0, c.p.p1, c.p.p2, c.p.p3, c.p.p4, c.p.p5, c.p.p6⟩, c.a.drew, c.ok, c.ne, c.hs, c.ht, c.hd, c.m0, c.m1⟩
theorem Cp.drewN (c : Cp w pb sb bb S k s t d m) (n : Nat) : Cp (w.drewN n) pb sb bb S k s t d m := ⟨⟨c.p.p0, c.p.p1, c.p.p2, c.p.p3, c.p.p4, c.p.p5, c.p.p6⟩, c.a.drewN n, c.ok, c.ne, c.hs, c.ht, c.hd, c.m0, c.m1⟩
theorem Cp.turn {w' : World} {S' : St} (c : Cp w pb sb bb S k s t d m) (h : Kept w w' (· = sb)) (a : StAt w' sb S') (ok : S'.ok) : Cp w' pb sb bb S' k s t d m :=
  ⟨c.p.block (h.block _ c.p.lt c.ne), a, ok, c.ne, c.hs, c.ht, c.hd, c.m0, c.m1⟩
theorem Cp.kept {w' : World} {X : Nat → Prop} (c : Cp w pb sb bb S k s t d m) (h : Kept w w' X) (h1 : ¬ X pb) (h2 : ¬ X sb) : Cp w' pb sb bb S k s t d m :=
  ⟨c.p.block (h.block _ c.p.lt h1), c.a.kept h h2, c.ok, c.ne, c.hs, c.ht, c.hd, c.m0, c.m1⟩
end
end Go.Proofs.YtckcbnfobjmhpaaDoor
