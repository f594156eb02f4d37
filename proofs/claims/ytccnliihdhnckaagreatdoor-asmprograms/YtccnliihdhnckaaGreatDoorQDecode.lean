/-
  What package code's Decode answers: the instruction whose word it is, or none.
-/
import Derived.Deep.RegionWith
import Derived.Test.YtccnliihdhnckaaGreatDoorQEncode
namespace Go.Proofs.YtccnliihdhnckaaGreatDoor
open Go.RowKit Go.Extern.Stop Go.Stop Go.Extern
open Num Tab
set_option linter.unusedVariables false
section
variable {C : Nat} {w wr : World} {l : List UInt8} {p : Nat} {o s t d m : Int}
end
/-- a zero instruction stands at a block -/
structure ZAt (B : Nat) (w : World) : Prop where
  z0 : w.cell? ⟨B, 0, none⟩ = some (.int .i64 0)
  z1 : w.cell? ⟨B, 1, none⟩ = some (.int .i64 0)
  z2 : w.cell? ⟨B, 2, none⟩ = some (.int .i64 0)
  z3 : w.cell? ⟨B, 3, none⟩ = some (.int .i64 0)
  z4 : w.cell? ⟨B, 4, none⟩ = some (.int .u32 0)
  fz : ∀ j, w.frozen? ⟨B, j, none⟩ = false
theorem ZAt.stays {B C : Nat} {w w' : World} (z : ZAt B w) (h : Below C w w') (hC : B < C) : ZAt B w' := by
  have c : ∀ j, w'.cell? ⟨B, j, none⟩ = w.cell? ⟨B, j, none⟩ := fun j => h.cell (p := ⟨B, j, none⟩) hC
  exact ⟨(c 0).trans z.z0, (c 1).trans z.z1, (c 2).trans z.z2, (c 3).trans z.z3, (c 4).trans z.z4, fun j => (h.frozen (p := ⟨B, j, none⟩) hC).trans (z.fz j)⟩
theorem ZAt.alloc (w : World) : ZAt w.heap.size (w.alloc (.cells #[.int .i64 0, .int .i64 0, .int .i64 0, .int .i64 0, .int .u32 0] 24)) :=
  ⟨by simp, by simp, by simp, by simp, by simp, fun j => by simp⟩
/-- an operation is a word's -/
def DecP (v : Int) (k : Nat) : Prop := (1 ≤ k ∧ k < 54 ∧ xw k v = v) ∨ (k = 0 ∧ ∀ j, 1 ≤ j → j < 54 → xw j v ≠ v)
/-- the instruction, of the operation's fields -/
def decR (v : Int) (k : Nat) : Value := ins k (xs (sh k) v) (xt (sh k) v) (xd (sh k) v) (xm (sh k) v)
end Go.Proofs.YtccnliihdhnckaaGreatDoor
