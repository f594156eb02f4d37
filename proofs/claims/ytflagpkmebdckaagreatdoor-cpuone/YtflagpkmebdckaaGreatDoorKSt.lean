/-
  A processor's state: its numbers, and how memory holds them; one instruction on its way.
-/
import Derived.Below
import Derived.Great.Walk
import Derived.Deep.Cut
import Derived.Handy
import Derived.Test.YtflagpkmebdckaaGreatDoorKNum
import Derived.Test.YtflagpkmebdckaaGreatDoorJNew
import Derived.Test.YtflagpkmebdckaaGreatDoorKWords
import Derived.Test.YtflagpkmebdckaaGreatDoorKSt0
namespace Go.Proofs.YtflagpkmebdckaaGreatDoor
open Go.RowKit Go.Maps
open Num
set_option linter.unusedVariables false
/-- w' is w but for some blocks, and new ones -/
structure Kept (w w' : World) (X : Nat → Prop) : Prop where
  os : w'.os = w.os
  tape : w'.tape = w.tape
  output : w'.output = w.output
  size : w.heap.size ≤ w'.heap.size
  block : ∀ k, k < w.heap.size → ¬ X k → w'.heap[k]? = w.heap[k]?
theorem Kept.refl (w : World) (X : Nat → Prop) : Kept w w X := ⟨rfl, rfl, rfl, Nat.le_refl _, fun _ _ _ => rfl⟩
theorem Kept.trans {w w1 w2 : World} {X Y : Nat → Prop} (a : Kept w w1 X) (b : Kept w1 w2 Y) (h : ∀ k, k < w.heap.size → Y k → X k) : Kept w w2 X :=
  ⟨b.os.trans a.os, b.tape.trans a.tape, b.output.trans a.output, Nat.le_trans a.size b.size, fun k hk hx => (b.block k (Nat.lt_of_lt_of_le hk a.size) (fun hy => hx (h k hk hy))).trans (a.block k hk hx)⟩
theorem Kept.mono {w w' : World} {X Y : Nat → Prop} (a : Kept w w' X) (h : ∀ k, X k → Y k) : Kept w w' Y := ⟨a.os, a.tape, a.output, a.size, fun k hk hy => a.block k hk (fun hx => hy (h k hx))⟩
theorem Kept.of_below {w w' : World} (X : Nat → Prop) (h : Below w.heap.size w w') : Kept w w' X := ⟨h.os, h.tape, h.output, h.size, fun k hk _ => h.block k hk⟩
theorem Kept.setCell (w : World) (a : Addr) (v : Value) (X : Nat → Prop) (h : X a.block) : Kept w (w.setCell a v) X :=
  ⟨rfl, rfl, rfl, by simp, fun k _ hx => Below.heap_setCell w a v k (fun e => hx (e ▸ h))⟩
theorem Kept.put {w w1 : World} {sb : Nat} (h : Kept w w1 (· = sb)) (j : Nat) (v : Value) : Kept w (w1.setCell ⟨sb, j, none⟩ v) (· = sb) :=
  h.trans (Kept.setCell w1 ⟨sb, j, none⟩ v (· = sb) rfl) (fun _ _ h => h)
theorem Kept.drew (w : World) (X : Nat → Prop) : Kept w w.drew X := ⟨rfl, rfl, rfl, Nat.le_refl _, fun _ _ _ => rfl⟩
theorem Kept.cell {w w' : World} {X : Nat → Prop} (h : Kept w w' X) {a : Addr} {v : Value} (hc : w.cell? a = some v) (hx : ¬ X a.block) : w'.cell? a = some v :=
  (World.cell?_of_block (h.block _ (World.block_lt_of_cell? _ _ hc) hx)).trans hc
theorem Kept.below {w0 w w' : World} {B : Nat} {X : Nat → Prop} (h : Kept w w' X) (h0 : Below B w0 w) (hB : B ≤ w0.heap.size) (hx : ∀ k, k < B → ¬ X k) : Below B w0 w' :=
  ⟨h.os.trans h0.os, h.tape.trans h0.tape, h.output.trans h0.output, Nat.le_trans h0.size h.size, fun k hk => (h.block k (by have := h0.size; omega) (hx k hk)).trans (h0.block k hk)⟩
theorem StAt.kept {w w' : World} {sb : Nat} {S : St} {X : Nat → Prop} (h : StAt w sb S) (k : Kept w w' X) (hx : ¬ X sb) : StAt w' sb S := h.block (k.block _ h.lt hx)
theorem StAt.putPc {w : World} {sb : Nat} {S : St} (h : StAt w sb S) (x : Int) : StAt (w.setCell ⟨sb, 34, none⟩ (.int .u32 x)) sb { S with pc := x } :=
  h.put (by omega) rfl fun i hi hn => by simp [stV, hn]
theorem StAt.putNx {w : World} {sb : Nat} {S : St} (h : StAt w sb S) (x : Int) : StAt (w.setCell ⟨sb, 35, none⟩ (.int .u32 x)) sb { S with nx := x } :=
  h.put (by omega) rfl fun i hi hn => by simp [stV, hn]
theorem StAt.putSl {w : World} {sb : Nat} {S : St} (h : StAt w sb S) (x : Bool) : StAt (w.setCell ⟨sb, 36, none⟩ (.bool x)) sb { S with sl := x } :=
  h.put (by omega) rfl fun i hi hn => by simp [stV, hn]
theorem StAt.putHi {w : World} {sb : Nat} {S : St} (h : StAt w sb S) (x : Int) : StAt (w.setCell ⟨sb, 32, none⟩ (.int .u32 x)) sb { S with hi := x } :=
  h.put (by omega) rfl fun i hi hn => by simp [stV, hn]
theorem StAt.putLo {w : World} {sb : Nat} {S : St} (h : StAt w sb S) (x : Int) : StAt (w.setCell ⟨sb, 33, none⟩ (.int .u32 x)) sb { S with lo := x } :=
  h.put (by omega) rfl fun i hi hn => by simp [stV, hn]
theorem StAt.putSt {w : World} {sb : Nat} {S : St} (h : StAt w sb S) (x : Int) : StAt (w.setCell ⟨sb, 37, none⟩ (.int .u32 x)) sb { S with st := x } :=
  h.put (by omega) rfl fun i hi hn => by simp [stV, hn]
theorem StAt.putCa {w : World} {sb : Nat} {S : St} (h : StAt w sb S) (x : Int) : StAt (w.setCell ⟨sb, 38, none⟩ (.int .u32 x)) sb { S with ca := x } :=
  h.put (by omega) rfl fun i hi hn => by simp [stV, hn]
theorem StAt.putEp {w : World} {sb : Nat} {S : St} (h : StAt w sb S) (x : Int) : StAt (w.setCell ⟨sb, 39, none⟩ (.int .u32 x)) sb { S with ep := x } :=
  h.put (by omega) rfl fun i hi hn => by simp [stV, hn]
theorem StAt.putBd {w : World} {sb : Nat} {S : St} (h : StAt w sb S) (x : Int) : StAt (w.setCell ⟨sb, 40, none⟩ (.int .u32 x)) sb { S with bd := x } :=
  h.put (by omega) rfl fun i hi hn => by simp [stV, hn]
theorem StAt.putCm {w : World} {sb : Nat} {S : St} (h : StAt w sb S) (x : Int) : StAt (w.setCell ⟨sb, 41, none⟩ (.int .u32 x)) sb { S with cm := x } :=
  h.put (by omega) rfl fun i hi hn => by simp [stV, hn]
theorem StAt.putCt {w : World} {sb : Nat} {S : St} (h : StAt w sb S) (x : Int) : StAt (w.setCell ⟨sb, 42, none⟩ (.int .i64 x)) sb { S with ct := x } :=
  h.put (by omega) rfl fun i hi hn => by unfold stV; by_cases h1 : i < 32 <;> by_cases h2 : i = 32 <;> by_cases h3 : i = 33 <;> by_cases h4 : i = 34 <;> by_cases h5 : i = 35 <;> by_cases h6 : i = 36 <;> by_cases h7 : i = 37 <;> by_cases h8 : i = 38 <;> by_cases h9 : i = 39 <;> by_cases h10 : i = 40 <;> by_cases h11 : i = 41 <;> first | (exfalso; omega) | simp [h1, h2, h3, h4, h5, h6, h7, h8, h9, h10, h11]
theorem StAt.putR {w : World} {sb : Nat} {S : St} (h : StAt w sb S) (n : Nat) (hn : n < 32) (x : Int) : StAt (w.setCell ⟨sb, n, none⟩ (.int .u32 x)) sb { S with r := fun i => if i = n then x else S.r i } :=
  h.put (by omega) (by unfold stV; rw [if_pos hn]; simp) fun i hi hne => by simp [stV, hne]
/-- an instruction on its way -/
structure PAt (w : World) (pb sb bb : Nat) (k s t d : Nat) (m : Int) : Prop where
  p0 : w.cell? ⟨pb, 0, none⟩ = some (.pointer (some ⟨sb, 0, none⟩))
  p1 : w.cell? ⟨pb, 1, none⟩ = some (.int .i64 k)
  p2 : w.cell? ⟨pb, 2, none⟩ = some (.int .i64 s)
  p3 : w.cell? ⟨pb, 3, none⟩ = some (.int .i64 t)
  p4 : w.cell? ⟨pb, 4, none⟩ = some (.int .i64 d)
  p5 : w.cell? ⟨pb, 5, none⟩ = some (.int .u32 m)
  p6 : w.cell? ⟨pb, 6, none⟩ = some (.pointer (some ⟨bb, 0, none⟩))
theorem PAt.lt {w : World} {pb sb bb k s t d : Nat} {m : Int} (h : PAt w pb sb bb k s t d m) : pb < w.heap.size := World.block_lt_of_cell? _ _ h.p0
theorem PAt.block {w w' : World} {pb sb bb k s t d : Nat} {m : Int} (h : PAt w pb sb bb k s t d m) (hb : w'.heap[pb]? = w.heap[pb]?) : PAt w' pb sb bb k s t d m := by
  have c : ∀ (j : Nat) (v : Value), w.cell? ⟨pb, j, none⟩ = some v → w'.cell? ⟨pb, j, none⟩ = some v := fun j v e => (World.cell?_of_block (a := ⟨pb, j, none⟩) hb).trans e
  exact ⟨c _ _ h.p0, c _ _ h.p1, c _ _ h.p2, c _ _ h.p3, c _ _ h.p4, c _ _ h.p5, c _ _ h.p6⟩
/-- all that a method of it sees -/
structure Cp (w : World) (pb sb bb : Nat) (S : St) (k s t d : Nat) (m : Int) : Prop where
  p : PAt w pb sb bb k s t d m
  a : StAt w sb S
  ok : S.ok
  ne : pb ≠ sb
  hs : s < 32
  ht : t < 32
  hd : d < 32
  m0 : 0 ≤ m
  m1 : m < 4294967296
section
variable {w : World} {pb sb bb : Nat} {S : St} {k s t d : Nat} {m : Int}
theorem Cp.drew (c : Cp w pb sb bb S k s t d m) : Cp w.drew pb sb bb S k s t d m := ⟨⟨c.p.p0, c.p.p1, c.p.p2, c.p.p3, c.p.p4, c.p.p5, c.p.p6⟩, c.a.drew, c.ok, c.ne, c.hs, c.ht, c.hd, c.m0, c.m1⟩
theorem Cp.drewN (c : Cp w pb sb bb S k s t d m) (n : Nat) : Cp (w.drewN n) pb sb bb S k s t d m := ⟨⟨c.p.p0, c.p.p1, c.p.p2, c.p.p3, c.p.p4, c.p.p5, c.p.p6⟩, c.a.drewN n, c.ok, c.ne, c.hs, c.ht, c.hd, c.m0, c.m1⟩
theorem Cp.turn {w' : World} {S' : St} (c : Cp w pb sb bb S k s t d m) (h : Kept w w' (· = sb)) (a : StAt w' sb S') (ok : S'.ok) : Cp w' pb sb bb S' k s t d m :=
  ⟨c.p.block (h.block _ c.p.lt c.ne), a, ok, c.ne, c.hs, c.ht, c.hd, c.m0, c.m1⟩
theorem Cp.kept {w' : World} {X : Nat → Prop} (c : Cp w pb sb bb S k s t d m) (h : Kept w w' X) (h1 : ¬ X pb) (h2 : ¬ X sb) : Cp w' pb sb bb S k s t d m :=
  ⟨c.p.block (h.block _ c.p.lt h1), c.a.kept h h2, c.ok, c.ne, c.hs, c.ht, c.hd, c.m0, c.m1⟩
end
end Go.Proofs.YtflagpkmebdckaaGreatDoor
/-
  The document's table of operations, as the verifier's rows() lays it: one new block of cells.
-/
namespace Go.Proofs.YtflagpkmebdckaaGreatDoor.K
open Go.RowKit
open Num Tab Fm Go.Great
set_option linter.unusedVariables false
/-- the names, and the order of the fields in a text -/
def str (l : List UInt8) : Value := .string ⟨l.toArray⟩
def kindR (k : Nat) : List UInt8 := if k = 0 then [] else kind k
/-- the cells of a row -/
def rowC (k : Nat) : List Value := [str (nme k), .int .i64 (mj k), .int .i64 (mn k), str (flds k), str (ordr k), str (kindR k)]
/-- the cells of all -/
def rowCells : Array Value := ((List.range 54).flatMap rowC).toArray
set_option maxRecDepth 100000 in
set_option maxHeartbeats 4000000 in
theorem rows_any (w : World) : Calls Tryz.prog 174 #[] w fun e w' => e = .returned (.slice (some ⟨w.heap.size, 0, none⟩) 54 54) ∧ w' = w.alloc (.cells rowCells 198) := by
  go_enter Tryz.func174, Tryz.ntmps174
  go_upto_region 1 with fail
  apply wp_region_lit
  refine wpList_buildTo rfl 198 _ rfl (some 1) rfl (rowC 0).toArray (by as_aux_lemma => kernel_rfl) ?_
  refine wpList_buildTo rfl 198 _ rfl (some 2) rfl (rowC 1).toArray (by as_aux_lemma => kernel_rfl) ?_
  refine wpList_buildTo rfl 198 _ rfl (some 3) rfl (rowC 2).toArray (by as_aux_lemma => kernel_rfl) ?_
  refine wpList_buildTo rfl 198 _ rfl (some 4) rfl (rowC 3).toArray (by as_aux_lemma => kernel_rfl) ?_
  refine wpList_buildTo rfl 198 _ rfl (some 5) rfl (rowC 4).toArray (by as_aux_lemma => kernel_rfl) ?_
  refine wpList_buildTo rfl 198 _ rfl (some 6) rfl (rowC 5).toArray (by as_aux_lemma => kernel_rfl) ?_
  refine wpList_buildTo rfl 198 _ rfl (some 7) rfl (rowC 6).toArray (by as_aux_lemma => kernel_rfl) ?_
  refine wpList_buildTo rfl 198 _ rfl (some 8) rfl (rowC 7).toArray (by as_aux_lemma => kernel_rfl) ?_
  refine wpList_buildTo rfl 198 _ rfl (some 9) rfl (rowC 8).toArray (by as_aux_lemma => kernel_rfl) ?_
  refine wpList_buildTo rfl 198 _ rfl (some 10) rfl (rowC 9).toArray (by as_aux_lemma => kernel_rfl) ?_
  refine wpList_buildTo rfl 198 _ rfl (some 11) rfl (rowC 10).toArray (by as_aux_lemma => kernel_rfl) ?_
  refine wpList_buildTo rfl 198 _ rfl (some 12) rfl (rowC 11).toArray (by as_aux_lemma => kernel_rfl) ?_
  refine wpList_buildTo rfl 198 _ rfl (some 13) rfl (rowC 12).toArray (by as_aux_lemma => kernel_rfl) ?_
  refine wpList_buildTo rfl 198 _ rfl (some 14) rfl (rowC 13).toArray (by as_aux_lemma => kernel_rfl) ?_
  refine wpList_buildTo rfl 198 _ rfl (some 15) rfl (rowC 14).toArray (by as_aux_lemma => kernel_rfl) ?_
  refine wpList_buildTo rfl 198 _ rfl (some 16) rfl (rowC 15).toArray (by as_aux_lemma => kernel_rfl) ?_
  refine wpList_buildTo rfl 198 _ rfl (some 17) rfl (rowC 16).toArray (by as_aux_lemma => kernel_rfl) ?_
  refine wpList_buildTo rfl 198 _ rfl (some 18) rfl (rowC 17).toArray (by as_aux_lemma => kernel_rfl) ?_
  refine wpList_buildTo rfl 198 _ rfl (some 19) rfl (rowC 18).toArray (by as_aux_lemma => kernel_rfl) ?_
  refine wpList_buildTo rfl 198 _ rfl (some 20) rfl (rowC 19).toArray (by as_aux_lemma => kernel_rfl) ?_
  refine wpList_buildTo rfl 198 _ rfl (some 21) rfl (rowC 20).toArray (by as_aux_lemma => kernel_rfl) ?_
  refine wpList_buildTo rfl 198 _ rfl (some 22) rfl (rowC 21).toArray (by as_aux_lemma => kernel_rfl) ?_
  refine wpList_buildTo rfl 198 _ rfl (some 23) rfl (rowC 22).toArray (by as_aux_lemma => kernel_rfl) ?_
  refine wpList_buildTo rfl 198 _ rfl (some 24) rfl (rowC 23).toArray (by as_aux_lemma => kernel_rfl) ?_
  refine wpList_buildTo rfl 198 _ rfl (some 25) rfl (rowC 24).toArray (by as_aux_lemma => kernel_rfl) ?_
  refine wpList_buildTo rfl 198 _ rfl (some 26) rfl (rowC 25).toArray (by as_aux_lemma => kernel_rfl) ?_
  refine wpList_buildTo rfl 198 _ rfl (some 27) rfl (rowC 26).toArray (by as_aux_lemma => kernel_rfl) ?_
  refine wpList_buildTo rfl 198 _ rfl (some 28) rfl (rowC 27).toArray (by as_aux_lemma => kernel_rfl) ?_
  refine wpList_buildTo rfl 198 _ rfl (some 29) rfl (rowC 28).toArray (by as_aux_lemma => kernel_rfl) ?_
  refine wpList_buildTo rfl 198 _ rfl (some 30) rfl (rowC 29).toArray (by as_aux_lemma => kernel_rfl) ?_
  refine wpList_buildTo rfl 198 _ rfl (some 31) rfl (rowC 30).toArray (by as_aux_lemma => kernel_rfl) ?_
  refine wpList_buildTo rfl 198 _ rfl (some 32) rfl (rowC 31).toArray (by as_aux_lemma => kernel_rfl) ?_
  refine wpList_buildTo rfl 198 _ rfl (some 33) rfl (rowC 32).toArray (by as_aux_lemma => kernel_rfl) ?_
  refine wpList_buildTo rfl 198 _ rfl (some 34) rfl (rowC 33).toArray (by as_aux_lemma => kernel_rfl) ?_
  refine wpList_buildTo rfl 198 _ rfl (some 35) rfl (rowC 34).toArray (by as_aux_lemma => kernel_rfl) ?_
  refine wpList_buildTo rfl 198 _ rfl (some 36) rfl (rowC 35).toArray (by as_aux_lemma => kernel_rfl) ?_
  refine wpList_buildTo rfl 198 _ rfl (some 37) rfl (rowC 36).toArray (by as_aux_lemma => kernel_rfl) ?_
  refine wpList_buildTo rfl 198 _ rfl (some 38) rfl (rowC 37).toArray (by as_aux_lemma => kernel_rfl) ?_
  refine wpList_buildTo rfl 198 _ rfl (some 39) rfl (rowC 38).toArray (by as_aux_lemma => kernel_rfl) ?_
  refine wpList_buildTo rfl 198 _ rfl (some 40) rfl (rowC 39).toArray (by as_aux_lemma => kernel_rfl) ?_
  refine wpList_buildTo rfl 198 _ rfl (some 41) rfl (rowC 40).toArray (by as_aux_lemma => kernel_rfl) ?_
  refine wpList_buildTo rfl 198 _ rfl (some 42) rfl (rowC 41).toArray (by as_aux_lemma => kernel_rfl) ?_
  refine wpList_buildTo rfl 198 _ rfl (some 43) rfl (rowC 42).toArray (by as_aux_lemma => kernel_rfl) ?_
  refine wpList_buildTo rfl 198 _ rfl (some 44) rfl (rowC 43).toArray (by as_aux_lemma => kernel_rfl) ?_
  refine wpList_buildTo rfl 198 _ rfl (some 45) rfl (rowC 44).toArray (by as_aux_lemma => kernel_rfl) ?_
  refine wpList_buildTo rfl 198 _ rfl (some 46) rfl (rowC 45).toArray (by as_aux_lemma => kernel_rfl) ?_
  refine wpList_buildTo rfl 198 _ rfl (some 47) rfl (rowC 46).toArray (by as_aux_lemma => kernel_rfl) ?_
  refine wpList_buildTo rfl 198 _ rfl (some 48) rfl (rowC 47).toArray (by as_aux_lemma => kernel_rfl) ?_
  refine wpList_buildTo rfl 198 _ rfl (some 49) rfl (rowC 48).toArray (by as_aux_lemma => kernel_rfl) ?_
  refine wpList_buildTo rfl 198 _ rfl (some 50) rfl (rowC 49).toArray (by as_aux_lemma => kernel_rfl) ?_
  refine wpList_buildTo rfl 198 _ rfl (some 51) rfl (rowC 50).toArray (by as_aux_lemma => kernel_rfl) ?_
  refine wpList_buildTo rfl 198 _ rfl (some 52) rfl (rowC 51).toArray (by as_aux_lemma => kernel_rfl) ?_
  refine wpList_buildTo rfl 198 _ rfl (some 53) rfl (rowC 52).toArray (by as_aux_lemma => kernel_rfl) ?_
  refine wpList_buildTo rfl 198 _ rfl (some 54) rfl (rowC 53).toArray (by as_aux_lemma => kernel_rfl) ?_
  refine wpList_buildSliceTo rfl 259 198 54 _ rfl w.heap.size rfl (some 55) rfl (by as_aux_lemma => kernel_rfl) rowCells (by as_aux_lemma => kernel_rfl) ?_
  refine wpList_frame (a' := ⟨#[.slice none 0 0, .agg (rowC 0).toArray, .agg (rowC 1).toArray, .agg (rowC 2).toArray, .agg (rowC 3).toArray, .agg (rowC 4).toArray, .agg (rowC 5).toArray, .agg (rowC 6).toArray, .agg (rowC 7).toArray, .agg (rowC 8).toArray, .agg (rowC 9).toArray, .agg (rowC 10).toArray, .agg (rowC 11).toArray, .agg (rowC 12).toArray, .agg (rowC 13).toArray, .agg (rowC 14).toArray, .agg (rowC 15).toArray, .agg (rowC 16).toArray, .agg (rowC 17).toArray, .agg (rowC 18).toArray, .agg (rowC 19).toArray, .agg (rowC 20).toArray, .agg (rowC 21).toArray, .agg (rowC 22).toArray, .agg (rowC 23).toArray, .agg (rowC 24).toArray, .agg (rowC 25).toArray, .agg (rowC 26).toArray, .agg (rowC 27).toArray, .agg (rowC 28).toArray, .agg (rowC 29).toArray, .agg (rowC 30).toArray, .agg (rowC 31).toArray, .agg (rowC 32).toArray, .agg (rowC 33).toArray, .agg (rowC 34).toArray, .agg (rowC 35).toArray, .agg (rowC 36).toArray, .agg (rowC 37).toArray, .agg (rowC 38).toArray, .agg (rowC 39).toArray, .agg (rowC 40).toArray, .agg (rowC 41).toArray, .agg (rowC 42).toArray, .agg (rowC 43).toArray, .agg (rowC 44).toArray, .agg (rowC 45).toArray, .agg (rowC 46).toArray, .agg (rowC 47).toArray, .agg (rowC 48).toArray, .agg (rowC 49).toArray, .agg (rowC 50).toArray, .agg (rowC 51).toArray, .agg (rowC 52).toArray, .agg (rowC 53).toArray, .slice (some ⟨w.heap.size, 0, none⟩) 54 54], []⟩) (by as_aux_lemma => kernel_rfl) ?_
  go_wp2
  go_ret
  exact ⟨rfl, rfl⟩
/-- one row's cells among all -/
theorem flat6 {α : Type} (f : Nat → List α) (h : ∀ k, (f k).length = 6) : ∀ (n s k j : Nat), k < n → j < 6 → ((List.range' s n).flatMap f)[6 * k + j]? = (f (s + k))[j]?
  | 0, s, k, j, hk, hj => absurd hk (by omega)
  | n + 1, s, k, j, hk, hj => by
    rw [List.range'_succ, List.flatMap_cons]
    cases k with
    | zero => rw [List.getElem?_append_left (by rw [h]; omega)]; simp
    | succ k =>
      rw [List.getElem?_append_right (by rw [h]; omega), h, show 6 * (k + 1) + j - 6 = 6 * k + j by omega, flat6 f h n (s + 1) k j (by omega) hj, show s + 1 + k = s + (k + 1) by omega]
theorem rowCells_at (k : Nat) (hk : k < 54) (j : Nat) (hj : j < 6) : rowCells[6 * k + j]? = (rowC k)[j]? := by
  have := flat6 rowC (fun _ => rfl) 54 0 k j hk hj
  rw [Nat.zero_add] at this
  rw [← this, ← List.range_eq_range']
  unfold rowCells
  simp
end Go.Proofs.YtflagpkmebdckaaGreatDoor.K
/-
  What RowOf and KindOf of the verifier's answer: a row of the document's table, or an empty one.
-/
namespace Go.Proofs.YtflagpkmebdckaaGreatDoor.K
open Go.RowKit Go.Extern.Stop Go.Stop Go.Extern
open Num Tab Fm
set_option linter.unusedVariables false
/-- a row of the table stands at a block -/
structure RowAt (b k : Nat) (w : World) : Prop where
  c0 : w.cell? ⟨b, k * 6, none⟩ = some (.string ⟨(nme k).toArray⟩)
  c1 : w.cell? ⟨b, k * 6 + 1, none⟩ = some (.int .i64 (mj k))
  c2 : w.cell? ⟨b, k * 6 + 2, none⟩ = some (.int .i64 (mn k))
  c3 : w.cell? ⟨b, k * 6 + 3, none⟩ = some (.string ⟨(flds k).toArray⟩)
  c4 : w.cell? ⟨b, k * 6 + 4, none⟩ = some (.string ⟨(ordr k).toArray⟩)
  c5 : w.cell? ⟨b, k * 6 + 5, none⟩ = some (.string ⟨(kindR k).toArray⟩)
/-- the table stands at a block -/
def TabAt (b : Nat) (w : World) : Prop := ∀ k, k < 54 → RowAt b k w
theorem tabAt_alloc (w : World) : TabAt w.heap.size (w.alloc (.cells rowCells 198)) := fun k hk => by
  have h := fun j hj => rowCells_at k hk j hj
  have g : ∀ o, (w.alloc (.cells rowCells 198)).cell? ⟨w.heap.size, o, none⟩ = rowCells[o]? := fun o => by rw [World.cell?_alloc_at _ _ _ _ rfl]
  constructor
  · rw [g, show k * 6 = 6 * k + 0 by omega, h 0 (by omega)]; rfl
  · rw [g, show k * 6 + 1 = 6 * k + 1 by omega, h 1 (by omega)]; rfl
  · rw [g, show k * 6 + 2 = 6 * k + 2 by omega, h 2 (by omega)]; rfl
  · rw [g, show k * 6 + 3 = 6 * k + 3 by omega, h 3 (by omega)]; rfl
  · rw [g, show k * 6 + 4 = 6 * k + 4 by omega, h 4 (by omega)]; rfl
  · rw [g, show k * 6 + 5 = 6 * k + 5 by omega, h 5 (by omega)]; rfl
theorem TabAt.stays {b : Nat} {w w' : World} (t : TabAt b w) (h : Below w.heap.size w w') : TabAt b w' := fun k hk => by
  have r := t k hk
  have s : ∀ {o v}, w.cell? ⟨b, o, none⟩ = some v → w'.cell? ⟨b, o, none⟩ = some v := fun e => by rw [h.cell (cell_lt e)]; exact e
  exact ⟨s r.c0, s r.c1, s r.c2, s r.c3, s r.c4, s r.c5⟩
theorem rows_any' (w : World) : Calls Tryz.prog 174 #[] w fun e w' => e = .returned (.slice (some ⟨w.heap.size, 0, none⟩) 54 54) ∧ Below w.heap.size w w' ∧ TabAt w.heap.size w' := by
  refine (rows_any w).mono ?_
  rintro e w' ⟨rfl, rfl⟩
  exact ⟨rfl, (Below.refl _ _).alloc (Nat.le_refl _) _, tabAt_alloc w⟩
set_option maxHeartbeats 1000000 in
theorem rowOf_in (k : Nat) (h0 : 1 ≤ (k : Int)) (h1 : (k : Int) < 54) (w : World) : Calls Tryz.prog 117 #[.int .i64 k] w fun e w' => e = .returned (.agg #[.string ⟨(nme k).toArray⟩, .int .i64 (mj k), .int .i64 (mn k), .string ⟨(flds k).toArray⟩, .string ⟨(ordr k).toArray⟩, .string ⟨(kindR k).toArray⟩]) ∧ Below w.heap.size w w' := by
  go_enter Tryz.func117, Tryz.ntmps117
  go_wp2_with fail
  refine (rows_any' _).mono ?_
  rintro e w1 ⟨rfl, hb, ht⟩
  obtain ⟨c0, c1, c2, c3, c4, c5⟩ := ht k (by omega)
  simp only [World.size_alloc] at c0 c1 c2 c3 c4 c5
  have hz : w.heap.size < w1.heap.size := by have := hb.size; simp at this; omega
  have bA : Below w.heap.size w w1 := ((Below.refl _ _).alloc (Nat.le_refl _) _).trans (hb.mono (by simp))
  obtain ⟨d0, d1, d2, d3, d4, d5⟩ : (w1.cell? ⟨w.heap.size, 0, none⟩ = some (.string ⟨#[]⟩)) ∧ (w1.cell? ⟨w.heap.size, 1, none⟩ = some (.int .i64 0)) ∧ (w1.cell? ⟨w.heap.size, 2, none⟩ = some (.int .i64 0)) ∧ (w1.cell? ⟨w.heap.size, 3, none⟩ = some (.string ⟨#[]⟩)) ∧ (w1.cell? ⟨w.heap.size, 4, none⟩ = some (.string ⟨#[]⟩)) ∧ (w1.cell? ⟨w.heap.size, 5, none⟩ = some (.string ⟨#[]⟩)) := by
    have g : ∀ o, w1.cell? ⟨w.heap.size, o, none⟩ = _ := fun o => hb.cell (p := ⟨w.heap.size, o, none⟩) (by simp)
    refine ⟨?_, ?_, ?_, ?_, ?_, ?_⟩ <;> (rw [g]; simp)
  have f0 : ∀ o, w1.frozen? ⟨w.heap.size, o, none⟩ = false := fun o => by rw [hb.frozen (p := ⟨w.heap.size, o, none⟩) (by simp)]; simp
  go_wp2
  exact bodyPost_ret (v := .agg #[.string ⟨(nme k).toArray⟩, .int .i64 (mj k), .int .i64 (mn k), .string ⟨(flds k).toArray⟩, .string ⟨(ordr k).toArray⟩, .string ⟨(kindR k).toArray⟩]) (by simp [results, Tryz.results117, go_sem, d0, d1, d2, d3, d4, d5]) rfl ⟨rfl, (((((bA.setCell (by simp) _).setCell (by simp) _).setCell (by simp) _).setCell (by simp) _).setCell (by simp) _).setCell (by simp) _⟩
end Go.Proofs.YtflagpkmebdckaaGreatDoor.K
/-
  The kind of an operation, by the document.
-/
namespace Go.Proofs.YtflagpkmebdckaaGreatDoor
open Go.RowKit Go.Maps
open Num
set_option linter.unusedVariables false
theorem fieldKindD (a b c d e f : Value) (w : World) : (Instr.field 198 (.agg #[a, b, c, d, e, f]) 5).run Tryz.prog w = .ok f w := by kernel_rfl
set_option maxRecDepth 10000 in
set_option maxHeartbeats 1000000 in
theorem kindD_any (k : Nat) (hk : k < 54) (w : World) : Calls Tryz.prog 61 #[.int .i64 k] w fun e w' => e = .returned (.string ⟨(Tab.kind k).toArray⟩) ∧ Below w.heap.size w w' := by
  by_cases hz : k = 0
  · subst hz
    go_enter Tryz.func61, Tryz.ntmps61
    go_wp2
    go_ret
    exact ⟨rfl, Below.refl _ _⟩
  · have h0 : ((k : Int) == 0) = false := by simp; omega
    have e : Hid (K.kindR k = Tab.kind k) := by
      show K.kindR k = _
      unfold K.kindR; rw [if_neg hz]
    have hfk := fieldKindD
    go_enter Tryz.func61, Tryz.ntmps61
    go_wp2_with fail
    refine (K.rowOf_in k (by omega) (by omega) _).mono ?_
    rintro e w' ⟨rfl, hb⟩
    go_wp2
    go_ret
    exact ⟨by rw [← e.out]; rfl, hb⟩
theorem kind_br {k : Nat} : k < 54 → Tab.kind k = [98, 114, 97, 110, 99, 104] → (k = 31 ∨ k = 32 ∨ k = 33 ∨ k = 34 ∨ k = 29 ∨ k = 30 ∨ k = 7 ∨ k = 8) := by
  have h : ∀ k, k < 54 → Tab.kind k = [98, 114, 97, 110, 99, 104] → (k = 31 ∨ k = 32 ∨ k = 33 ∨ k = 34 ∨ k = 29 ∨ k = 30 ∨ k = 7 ∨ k = 8) := by decide
  exact h k
theorem kind_ld {k : Nat} : k < 54 → Tab.kind k = [108, 111, 97, 100] → 46 ≤ k ∧ k ≤ 53 := by
  have h : ∀ k, k < 54 → Tab.kind k = [108, 111, 97, 100] → 46 ≤ k ∧ k ≤ 53 := by decide
  exact h k
theorem kind_st {k : Nat} : k < 54 → Tab.kind k = [115, 116, 111, 114, 101] → 51 ≤ k ∧ k ≤ 53 := by
  have h : ∀ k, k < 54 → Tab.kind k = [115, 116, 111, 114, 101] → 51 ≤ k ∧ k ≤ 53 := by decide
  exact h k
theorem kind_sm {k : Nat} : k < 54 → Tab.kind k = [115, 117, 109] → (1 ≤ k ∧ k ≤ 6) ∨ (11 ≤ k ∧ k ≤ 28) ∨ (35 ≤ k ∧ k ≤ 42) := by
  have h : ∀ k, k < 54 → Tab.kind k = [115, 117, 109] → (1 ≤ k ∧ k ≤ 6) ∨ (11 ≤ k ∧ k ≤ 28) ∨ (35 ≤ k ∧ k ≤ 42) := by decide
  exact h k
end Go.Proofs.YtflagpkmebdckaaGreatDoor
/-
  A store into the document's memory, of which pages may be watched.
-/
namespace Go.Proofs.YtflagpkmebdckaaGreatDoor
open Go.RowKit Go.Maps
open Num
set_option linter.unusedVariables false
def hitN (wt ht : Int → Bool) (a : Int) : Int → Bool := fun p => ht p || (wt p && decide (p = a / 256))
theorem DMem.blk {w w' : World} {rb gb kb hb : Nat} {m : Nat → Int} {wt ht : Int → Bool} (D : DMem w rb gb kb hb m wt ht) (h : ∀ k, k = rb ∨ k = gb ∨ k = kb ∨ k = hb → w'.heap[k]? = w.heap[k]?) : DMem w' rb gb kb hb m wt ht := by
  have c : ∀ (k j : Nat) (v : Value), k = rb ∨ k = gb ∨ k = kb ∨ k = hb → w.cell? ⟨k, j, none⟩ = some v → w'.cell? ⟨k, j, none⟩ = some v := fun k j v hk e => (World.cell?_of_block (a := ⟨k, j, none⟩) (h k hk)).trans e
  have f : ∀ (k j : Nat), k = rb ∨ k = gb ∨ k = kb ∨ k = hb → w.frozen? ⟨k, j, none⟩ = false → w'.frozen? ⟨k, j, none⟩ = false := fun k j hk e => (World.frozen?_of_block (a := ⟨k, j, none⟩) (h k hk)).trans e
  exact ⟨D.d.blocks (fun k hk => h k (by rcases hk with h | h | h <;> simp [h])), c _ _ _ (by simp) D.c2, fun p hp => c _ _ _ (by simp) (D.hc p hp), fun p => f _ _ (by simp) (D.fk p), fun p => f _ _ (by simp) (D.fh p), D.ng, D.nr, D.nk, D.kr, fun p => f _ _ (by simp) (D.fr p)⟩
theorem DMem.lts {w : World} {rb gb kb hb : Nat} {m : Nat → Int} {wt ht : Int → Bool} (D : DMem w rb gb kb hb m wt ht) {k : Nat} (h : k = rb ∨ k = gb ∨ k = kb ∨ k = hb) : k < w.heap.size := by
  rcases h with h | h | h | h
  · exact D.d.lt (Or.inl h)
  · exact D.d.lt (Or.inr (Or.inl h))
  · exact D.d.lt (Or.inr (Or.inr h))
  · subst h; exact World.block_lt_of_cell? _ _ (D.hc 0 (by omega))
/-- the words alone are turned -/
theorem DMem.words {w w' : World} {rb gb kb hb : Nat} {m m' : Nat → Int} {wt ht : Int → Bool} (D : DMem w rb gb kb hb m wt ht) (d : DRam w' rb gb kb m' wt) (g : w.grownBy w' (some gb)) : DMem w' rb gb kb hb m' wt ht := by
  have h : ∀ k, k = rb ∨ k = kb ∨ k = hb → w'.heap[k]? = w.heap[k]? := fun k hk => g.block k (D.lts (by rcases hk with h | h | h <;> simp [h])) (by
    have a1 := D.d.nr; have a2 := D.d.nk; have a3 := D.ng
    rcases hk with rfl | rfl | rfl <;> simp <;> omega)
  have c : ∀ (k j : Nat) (v : Value), k = rb ∨ k = kb ∨ k = hb → w.cell? ⟨k, j, none⟩ = some v → w'.cell? ⟨k, j, none⟩ = some v := fun k j v hk e => (World.cell?_of_block (a := ⟨k, j, none⟩) (h k hk)).trans e
  have f : ∀ (k j : Nat), k = rb ∨ k = kb ∨ k = hb → w.frozen? ⟨k, j, none⟩ = false → w'.frozen? ⟨k, j, none⟩ = false := fun k j hk e => (World.frozen?_of_block (a := ⟨k, j, none⟩) (h k hk)).trans e
  exact ⟨d, c _ _ _ (by simp) D.c2, fun p hp => c _ _ _ (by simp) (D.hc p hp), fun p => f _ _ (by simp) (D.fk p), fun p => f _ _ (by simp) (D.fh p), D.ng, D.nr, D.nk, D.kr, fun p => f _ _ (by simp) (D.fr p)⟩
theorem kept_grown {w w' : World} {g : Nat} (h : w.grownBy w' (some g)) : Kept w w' (· = g) := ⟨h.os, h.tape, h.output, h.size, fun k hk hx => h.block k hk (by intro e; exact hx (Option.some.inj e))⟩
theorem DMem.hit {w : World} {rb gb kb hb : Nat} {m : Nat → Int} {wt ht : Int → Bool} (D : DMem w rb gb kb hb m wt ht) (j : Nat) (hj : j < 64) (ht' : Int → Bool) (h : ∀ p : Nat, p < 64 → ht' p = if p = j then true else ht p) : DMem (w.setCell ⟨hb, j, none⟩ (.bool true)) rb gb kb hb m wt ht' :=
  (D.flagH j hj true ht' h).blk fun k _ => rfl
set_option maxRecDepth 100000 in
set_option maxHeartbeats 1000000 in
theorem dstoreH_ok {w : World} {rb gb kb hb : Nat} {m : Nat → Int} {wt ht : Int → Bool} (M : DMem w rb gb kb hb m wt ht) (a s v : Int) (h0 : 0 ≤ a) (h1 : a < 4294967296) (v0 : 0 ≤ v) (v1 : v < 4294967296) (hc : chk a s = 0) : Calls Tryz.prog 12 #[.pointer (some ⟨rb, 0, none⟩), .int .u32 a, .int .i64 s, .int .u32 v] w fun e w' => e = .returned (.int .i64 0) ∧ DMem w' rb gb kb hb (upd m a s v) wt (hitN wt ht a) ∧ Kept w w' (fun k => k = gb ∨ k = hb) := by
  obtain ⟨hs, hm, hf⟩ := chk_ok hc
  have hre := reach_any a s h0 h1 (by omega) (by omega) w
  rw [rc_ok hc] at hre
  have s0 : 1 ≤ s := by omega
  have s1 : s ≤ 4 := by omega
  have hgo : a + s ≤ 16384 := by rcases hs with rfl | rfl | rfl <;> omega
  have HP : Hid (puts m a s v s.toNat = upd m a s v) := puts_all m a s v h0 hs hm v0 v1 M.d.mb
  have DH : Hid (DRam w rb gb kb m wt) := M.d
  have MH : Hid (DMem w rb gb kb hb m wt ht) := M
  clear M hc hm hs
  go_enter Tryz.func12, Tryz.ntmps12
  go_wp2_with fail
  refine hre.mono ?_
  rintro e w' ⟨rfl, rfl⟩
  clear hre
  go_wp2_with fail
  go_loopw [10] (fun i wr => ∃ j : Nat, (j : Int) ≤ s ∧ i = .int .i64 j ∧ Hid (DRam wr rb gb kb (puts m a s v j) wt) ∧ Hid (w'.grownBy wr (some gb))) (fun i _ => s.toNat - (intOf i).toNat)
  case atStart => exact ⟨0, by omega, rfl, DH.out, dgrown_refl _ _⟩
  case round =>
    obtain ⟨j, hj, rfl, DR, GR⟩ := hrel
    by_cases hlt : (j : Int) < s
    · have hpa := part_any v (8 * (s - 1 - j)) 8 v0 v1 (by omega) (by omega) (by omega) (by omega) wr
      rw [pw8, pw_b s j (by omega) (by omega)] at hpa
      have hb : 0 ≤ bOf v s j ∧ bOf v s j < 256 := by unfold bOf; omega
      have hpu := put_any DR.out (a + j) (bOf v s j) (by omega) (by omega) hb.1 hb.2
      have e : v / 2 ^ (8 * (s - 1 - (j : Int))).toNat % 256 = bOf v s j := rfl
      rw [e] at hpa
      have HN : Hid (puts m a s v (j + 1) = upd (puts m a s v j) (a + j) 1 (bOf v s j)) := rfl
      clear e
      generalize bOf v s j = bo at *
      obtain ⟨b0, b1⟩ := hb
      go_wp2_with fail
      refine hpa.mono ?_
      rintro e w'' ⟨rfl, rfl⟩
      clear hpa
      go_wp2_with fail
      refine hpu.mono ?_
      rintro e w2 ⟨rfl, D2, G2⟩
      clear hpu
      go_wp2
      go_roundw
      case rel => exact ⟨j + 1, by omega, by go_num, by show DRam _ _ _ _ _ _; rw [HN.out]; exact D2, dgrown_trans GR.out G2⟩
      case measure => simp [intOf]; omega
    · have hjn : j = s.toNat := by omega
      have D2 : Hid (DRam wr rb gb kb (upd m a s v) wt) := by show DRam _ _ _ _ _ _; rw [← HP.out, ← hjn]; exact DR.out
      have M2 : Hid (DMem wr rb gb kb hb (upd m a s v) wt ht) := MH.out.words D2.out GR.out
      have c1 := D2.out.c1
      have c2 := M2.out.c2
      have hw := D2.out.wc (a / 256).toNat (by omega)
      have hh := M2.out.hc (a / 256).toNat (by omega)
      have hz := M2.out.fh (a / 256).toNat
      rw [show (((a / 256).toNat : Nat) : Int) = a / 256 by omega] at hw hh
      have KR : Hid (Kept w' wr (fun k => k = gb ∨ k = hb)) := (kept_grown GR.out).mono fun k h => Or.inl h
      have hb1 : (a / 256).toNat < 64 := by omega
      clear DR hjn HP GR D2 DH
      cases hwt : wt (a / 256) with
      | false =>
        rw [hwt] at hw
        have F : Hid (DMem wr rb gb kb hb (upd m a s v) wt (hitN wt ht a)) := M2.out.same (fun _ _ => rfl) (fun p hp => by
          unfold hitN
          by_cases e : (p : Int) = a / 256
          · rw [e, hwt]; simp
          · simp [e])
        clear hwt
        go_wp2
        go_ret
        exact ⟨rfl, F.out, KR.out⟩
      | true =>
        rw [hwt] at hw
        have F : Hid (DMem (wr.setCell ⟨hb, (a / 256).toNat, none⟩ (.bool true)) rb gb kb hb (upd m a s v) wt (hitN wt ht a)) := M2.out.hit (a / 256).toNat hb1 _ (fun p hp => by
          unfold hitN
          by_cases e : p = (a / 256).toNat
          · rw [if_pos e, show (p : Int) = a / 256 by omega, hwt]; simp
          · rw [if_neg e, show decide ((p : Int) = a / 256) = false by simp; omega]; simp)
        have K2 : Hid (Kept w' (wr.setCell ⟨hb, (a / 256).toNat, none⟩ (.bool true)) (fun k => k = gb ∨ k = hb)) := KR.out.trans (Kept.setCell wr ⟨hb, (a / 256).toNat, none⟩ _ (· = hb) rfl) (fun k _ h => Or.inr h)
        clear hwt
        go_wp2
        go_ret
        exact ⟨rfl, F.out, K2.out⟩
end Go.Proofs.YtflagpkmebdckaaGreatDoor
/-
  Whether an interrupt comes ahead of one of the next instructions.
-/
namespace Go.Proofs.YtflagpkmebdckaaGreatDoor
open Go.RowKit Go.Maps
open Num
set_option linter.unusedVariables false
/-- does an interrupt come ahead of one of the next so many? -/
def intM (S : St) (many : Int) : Bool := decide (S.cm ≠ 0) && decide (S.cm ≤ S.ct + many - 1) && decide (bits .and .u32 S.st 3 = 1)
set_option maxRecDepth 100000 in
set_option maxHeartbeats 4000000 in
theorem interrupts_any {w : World} {sb : Nat} {S : St} (A : StAt w sb S) (ok : S.ok) (many : Int) (y0 : 1 ≤ many) (y1 : many ≤ 100) (y2 : S.ct + many ≤ 9223372036854775807) : Calls Tryz.prog 87 #[.pointer (some ⟨sb, 0, none⟩), .int .i64 many] w fun e w' => e = .returned (.bool (intM S many)) ∧ w' = w := by
  obtain ⟨_, _, _, _, _, q37, _, _, _, q41, q42⟩ := A.told
  obtain ⟨cm0, cm1⟩ := ok.cm
  have c0 := ok.c0
  have c1 := ok.c1
  clear A ok
  unfold intM
  by_cases h1 : S.cm = 0
  · have b1 : (S.cm != 0) = false := by simp [h1]
    have e : (decide (S.cm ≠ 0) && decide (S.cm ≤ S.ct + many - 1) && decide (bits .and .u32 S.st 3 = 1)) = false := by simp [h1]
    rw [e]
    clear e
    go_enter Tryz.func87, Tryz.ntmps87
    go_wp2
    go_ret
    exact ⟨rfl, rfl⟩
  · have b1 : (S.cm != 0) = true := by simpa using h1
    by_cases h2 : S.cm ≤ S.ct + many - 1
    · have b2 : decide (S.cm ≤ S.ct + many - 1) = true := by simpa using h2
      have e : (decide (S.cm ≠ 0) && decide (S.cm ≤ S.ct + many - 1) && decide (bits .and .u32 S.st 3 = 1)) = (bits .and .u32 S.st 3 == 1) := by rw [show decide (S.cm ≠ 0) = true by simpa using h1, b2]; rfl
      rw [e]
      clear e h1
      go_enter Tryz.func87, Tryz.ntmps87
      go_wp2
      go_ret
      exact ⟨rfl, rfl⟩
    · have b2 : decide (S.cm ≤ S.ct + many - 1) = false := by simpa using h2
      have e : (decide (S.cm ≠ 0) && decide (S.cm ≤ S.ct + many - 1) && decide (bits .and .u32 S.st 3 = 1)) = false := by rw [b2]; simp
      rw [e]
      clear e h1
      go_enter Tryz.func87, Tryz.ntmps87
      go_wp2
      go_ret
      exact ⟨rfl, rfl⟩
end Go.Proofs.YtflagpkmebdckaaGreatDoor
