/-
  Package plan: the parts of a row, counted; whether they fit.
-/
import Derived.Laws.Cover1
import Derived.Test.YtkehhlibkebomaaDoorKOptPure2
import Derived.Test.YtkehhlibkebomaaDoorKApp
import Derived.Test.YtkehhlibkebomaaDoorQIrChk2
import Derived.Test.YtkehhlibkebomaaDoorKSerial
import Derived.Test.YtkehhlibkebomaaDoorKValBd
namespace Go.Proofs.YtkehhlibkebomaaDoor
open Go.RowKit Go.Maps
open Num
set_option linter.unusedVariables false
end Go.Proofs.YtkehhlibkebomaaDoor
/-
  Package plan: whether two ops of a row write one register; whether one leaves.
-/
namespace Go.Proofs.YtkehhlibkebomaaDoor
open Go.RowKit Go.Maps
open Num
set_option linter.unusedVariables false
end Go.Proofs.YtkehhlibkebomaaDoor
/-
  Package plan: a maker in memory; first.
-/
namespace Go.Proofs.YtkehhlibkebomaaDoor
open Go.RowKit Go.Maps
open Num
set_option linter.unusedVariables false
end Go.Proofs.YtkehhlibkebomaaDoor
/-
  Package plan: whether a row's parts fit; whether it has room.
-/
namespace Go.Proofs.YtkehhlibkebomaaDoor
open Go.RowKit Go.Maps
open Num
set_option linter.unusedVariables false
end Go.Proofs.YtkehhlibkebomaaDoor
/-
  A processor's state: its numbers, and how memory holds them.
-/
namespace Go.Proofs.YtkehhlibkebomaaDoor
open Go.RowKit Go.Maps
open Num
set_option linter.unusedVariables false
/-- the state -/
structure St where
  r : Nat → Int
  hi : Int
  lo : Int
  pc : Int
  nx : Int
  sl : Bool
  st : Int
  ca : Int
  ep : Int
  bd : Int
  cm : Int
  ct : Int
structure St.ok (S : St) : Prop where
  r : ∀ i, u32 (S.r i)
  hi : u32 S.hi
  lo : u32 S.lo
  pc : u32 S.pc
  nx : u32 S.nx
  st : u32 S.st
  ca : u32 S.ca
  ep : u32 S.ep
  bd : u32 S.bd
  cm : u32 S.cm
  c0 : -9223372036854775808 ≤ S.ct
  c1 : S.ct < 9223372036854775807
/-- what each of its cells holds -/
def stV (S : St) (j : Nat) : Value :=
  if j < 32 then .int .u32 (S.r j) else if j = 32 then .int .u32 S.hi else if j = 33 then .int .u32 S.lo else if j = 34 then .int .u32 S.pc else if j = 35 then .int .u32 S.nx else if j = 36 then .bool S.sl else if j = 37 then .int .u32 S.st else if j = 38 then .int .u32 S.ca else if j = 39 then .int .u32 S.ep else if j = 40 then .int .u32 S.bd else if j = 41 then .int .u32 S.cm else .int .i64 S.ct
structure StAt (w : World) (sb : Nat) (S : St) : Prop where
  c : ∀ j, j < 43 → w.cell? ⟨sb, j, none⟩ = some (stV S j)
  fz : ∀ j, w.frozen? ⟨sb, j, none⟩ = false
theorem StAt.lt {w : World} {sb : Nat} {S : St} (h : StAt w sb S) : sb < w.heap.size := World.block_lt_of_cell? _ _ (h.c 0 (by omega))
theorem StAt.block {w w' : World} {sb : Nat} {S : St} (h : StAt w sb S) (hb : w'.heap[sb]? = w.heap[sb]?) : StAt w' sb S :=
  ⟨fun j hj => (World.cell?_of_block (a := ⟨sb, j, none⟩) hb).trans (h.c j hj), fun j => (World.frozen?_of_block (a := ⟨sb, j, none⟩) hb).trans (h.fz j)⟩
theorem StAt.stays {w w' : World} {sb : Nat} {S : St} (h : StAt w sb S) (hb : Below w.heap.size w w') : StAt w' sb S := h.block (hb.block _ h.lt)
theorem StAt.drew {w : World} {sb : Nat} {S : St} (h : StAt w sb S) : StAt w.drew sb S := ⟨h.c, h.fz⟩
theorem StAt.drewN {w : World} {sb : Nat} {S : St} (h : StAt w sb S) (n : Nat) : StAt (w.drewN n) sb S := ⟨h.c, h.fz⟩
theorem StAt.put {w : World} {sb : Nat} {S S' : St} {j : Nat} {v : Value} (h : StAt w sb S) (hj : j < 43) (hv : stV S' j = v) (ho : ∀ i, i < 43 → i ≠ j → stV S' i = stV S i) : StAt (w.setCell ⟨sb, j, none⟩ v) sb S' := by
  refine ⟨fun i hi => ?_, fun i => by rw [World.frozen?_setCell]; exact h.fz i⟩
  by_cases e : i = j
  · subst e; rw [World.cell?_setCell_same _ _ _ (h.c i hi), hv]
  · rw [World.cell?_setCell_other _ _ _ _ (by intro e'; injection e' with e1 e2; exact e e2.symm), h.c i hi, ho i hi e]
/-- the cells that are read by name -/
theorem StAt.told {w : World} {sb : Nat} {S : St} (h : StAt w sb S) : w.cell? ⟨sb, 32, none⟩ = some (.int .u32 S.hi) ∧ w.cell? ⟨sb, 33, none⟩ = some (.int .u32 S.lo) ∧ w.cell? ⟨sb, 34, none⟩ = some (.int .u32 S.pc) ∧ w.cell? ⟨sb, 35, none⟩ = some (.int .u32 S.nx) ∧ w.cell? ⟨sb, 36, none⟩ = some (.bool S.sl) ∧ w.cell? ⟨sb, 37, none⟩ = some (.int .u32 S.st) ∧ w.cell? ⟨sb, 38, none⟩ = some (.int .u32 S.ca) ∧ w.cell? ⟨sb, 39, none⟩ = some (.int .u32 S.ep) ∧ w.cell? ⟨sb, 40, none⟩ = some (.int .u32 S.bd) ∧ w.cell? ⟨sb, 41, none⟩ = some (.int .u32 S.cm) ∧ w.cell? ⟨sb, 42, none⟩ = some (.int .i64 S.ct) :=
  ⟨h.c 32 (by omega), h.c 33 (by omega), h.c 34 (by omega), h.c 35 (by omega), h.c 36 (by omega), h.c 37 (by omega), h.c 38 (by omega), h.c 39 (by omega), h.c 40 (by omega), h.c 41 (by omega), h.c 42 (by omega)⟩
theorem StAt.reg {w : World} {sb : Nat} {S : St} (h : StAt w sb S) {i : Nat} (hi : i < 32) : w.cell? ⟨sb, i, none⟩ = some (.int .u32 (S.r i)) := by
  rw [h.c i (by omega)]; unfold stV; rw [if_pos hi]
abbrev StRow (w : World) (b : Nat) (S : St) : Prop := RowIs w b 26 43 (stV S)
theorem StRow.at {w : World} {b : Nat} {S : St} (h : StRow w b S) : StAt w b S := ⟨fun j hj => h.cell hj, fun j => h.fz j⟩
end Go.Proofs.YtkehhlibkebomaaDoor
