/-
  Package plan: Make.
-/
import Derived.Test.YtcccaejjhodnkabGreatDoorKIrChk3
import Derived.Test.YtcccaejjhodnkabGreatDoorKMk3
namespace Go.Proofs.YtcccaejjhodnkabGreatDoor
open Go.RowKit Go.Maps
open Num
set_option linter.unusedVariables false
/-- the code's box and the plan's -/
structure PBox (W : World) (cb rb : Nat) (pc many : Int) (v : Value) : Prop where
  k0 : W.cell? ⟨cb, 0, none⟩ = some (.int .u32 pc)
  k1 : W.cell? ⟨cb, 1, none⟩ = some (.int .i64 many)
  k2 : W.cell? ⟨cb, 2, none⟩ = some v
  z0 : W.cell? ⟨rb, 0, none⟩ = some (.int .u32 0)
  z1 : W.cell? ⟨rb, 1, none⟩ = some (.int .i64 0)
  z2 : W.cell? ⟨rb, 2, none⟩ = some (.slice none 0 0)
  f : ∀ j, W.frozen? ⟨rb, j, none⟩ = false
theorem PBox.block {W W' : World} {cb rb : Nat} {pc many : Int} {v : Value} (O : PBox W cb rb pc many v) (h1 : W'.heap[cb]? = W.heap[cb]?) (h2 : W'.heap[rb]? = W.heap[rb]?) : PBox W' cb rb pc many v :=
  ⟨(World.cell?_of_block (a := ⟨cb, 0, none⟩) h1).trans O.k0, (World.cell?_of_block (a := ⟨cb, 1, none⟩) h1).trans O.k1, (World.cell?_of_block (a := ⟨cb, 2, none⟩) h1).trans O.k2, (World.cell?_of_block (a := ⟨rb, 0, none⟩) h2).trans O.z0, (World.cell?_of_block (a := ⟨rb, 1, none⟩) h2).trans O.z1, (World.cell?_of_block (a := ⟨rb, 2, none⟩) h2).trans O.z2, fun j => (World.frozen?_of_block (a := ⟨rb, j, none⟩) h2).trans (O.f j)⟩
theorem PBox.lt {W : World} {cb rb : Nat} {pc many : Int} {v : Value} (O : PBox W cb rb pc many v) : cb < W.heap.size ∧ rb < W.heap.size := ⟨World.block_lt_of_cell? _ _ O.k0, World.block_lt_of_cell? _ _ O.z0⟩
theorem PBox.stays {W W' : World} {cb rb : Nat} {pc many : Int} {v : Value} (O : PBox W cb rb pc many v) (h : Below W.heap.size W W') : PBox W' cb rb pc many v := O.block (h.block _ O.lt.1) (h.block _ O.lt.2)
theorem CErr.block {pe : Nat → Addr} {w w' : World} {f : Int × Int} {v : Value} (C : CErr pe w f v) (h : ∀ fb, v = .iface 87 (.pointer (some ⟨fb, 0, none⟩)) → w'.heap[fb]? = w.heap[fb]?) : CErr pe w' f v := by
  rcases C with h1 | ⟨h1, h2, fb, h3, h4, h5⟩
  · exact .inl h1
  · exact .inr ⟨h1, h2, fb, h3, (World.cell?_of_block (a := ⟨fb, 0, none⟩) (h fb h3)).trans h4, (World.cell?_of_block (a := ⟨fb, 1, none⟩) (h fb h3)).trans h5⟩
end Go.Proofs.YtcccaejjhodnkabGreatDoor
/-
  Package plan: Make of a code that is well.
-/
namespace Go.Proofs.YtcccaejjhodnkabGreatDoor
open Go.RowKit Go.Maps
open Num
set_option linter.unusedVariables false
structure CkM (W : World) (cb mb : Nat) (pc many : Int) (vr : Value) : Prop where
  a : W.cell? ⟨cb, 0, none⟩ = some (.int .u32 pc)
  b : W.cell? ⟨cb, 1, none⟩ = some (.int .i64 many)
  c : W.cell? ⟨mb, 0, none⟩ = some vr
end Go.Proofs.YtcccaejjhodnkabGreatDoor
/-
  The closed fact of chapter 10.
-/
namespace Go.Proofs.YtcccaejjhodnkabGreatDoor
open Go.RowKit Go.Maps
open Num
set_option linter.unusedVariables false
end Go.Proofs.YtcccaejjhodnkabGreatDoor
