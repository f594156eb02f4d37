/-
  Package opt: what is known of registers, in a map.
-/
import Derived.Maps.OwnSet
import Derived.WalkSpells
import Derived.Test.YtcccaejjhodnkabGreatDoorKPure
import Derived.Test.YtcccaejjhodnkabGreatDoorKOptFns
import Derived.Test.YtcccaejjhodnkabGreatDoorKSerial
import Derived.Test.YtcccaejjhodnkabGreatDoorKIrChk3
namespace Go.Proofs.YtcccaejjhodnkabGreatDoor
open Go.RowKit Go.Maps
open Num
set_option linter.unusedVariables false
/-- an element, as it is -/
def heldE (v : Value) : Option (DataW Value × List MemPlace) := some (.held v, [])
/-- facts in a map -/
structure FactsAt (w : World) (b N : Nat) (f : Fx) : Prop where
  own : ∃ D : DataW Value, w.ownsMap Tryz.prog 3 heldE b N D ∧ (∀ x : Int, Maps.has D (.int .i64 x) = (f x).isSome) ∧ ∀ (x v : Int), f x = some v → D.atKey (.int .i64 x) (.held (.int .u32 0)) = .held (.int .u32 v)
  bd : ∀ x v, f x = some v → 0 ≤ v ∧ v < 4294967296
theorem FactsAt.lt {w : World} {b N : Nat} {f : Fx} (F : FactsAt w b N f) : b < w.heap.size := let ⟨_, h, _⟩ := F.own; h.lt
theorem FactsAt.stays {w w' : World} {b N : Nat} {f : Fx} (F : FactsAt w b N f) (h : Below w.heap.size w w') : FactsAt w' b N f := by
  obtain ⟨D, h1, h2, h3⟩ := F.own
  exact ⟨⟨D, h1.kept ⟨h.os, h.tape, h.output, h.size, fun k hk _ => h.block k hk⟩ (row := none) (by simp), h2, h3⟩, F.bd⟩
/-- bounds of an op's registers -/
structure Opx.rg (o : Opx) : Prop where
  a0 : -9223372036854775808 ≤ o.a
  a1 : o.a ≤ 9223372036854775807
  b0 : -9223372036854775808 ≤ o.b
  b1 : o.b ≤ 9223372036854775807
  d0 : -9223372036854775808 ≤ o.d
  d1 : o.d ≤ 9223372036854775807
theorem Opx.ok.rg {o : Opx} (h : o.ok) : o.rg := ⟨h.a0, h.a1, h.b0, h.b1, h.d0, h.d1⟩
end Go.Proofs.YtcccaejjhodnkabGreatDoor
/-
  Package opt: Known; ops that are told.
-/
namespace Go.Proofs.YtcccaejjhodnkabGreatDoor
open Go.RowKit Go.Maps
open Num
set_option linter.unusedVariables false
end Go.Proofs.YtcccaejjhodnkabGreatDoor
