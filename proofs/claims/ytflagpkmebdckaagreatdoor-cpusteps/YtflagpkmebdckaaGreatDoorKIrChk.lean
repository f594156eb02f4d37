/-
  Package ir: which code is well: Check and what it calls.
-/
import Derived.Laws.Strings
import Derived.Test.YtflagpkmebdckaaGreatDoorKNum
import Derived.Test.YtflagpkmebdckaaGreatDoorJRamA
namespace Go.Proofs.YtflagpkmebdckaaGreatDoor
open Go.RowKit Go.Maps
open Num
set_option linter.unusedVariables false
/-- an op's cells -/
def opC (o : Opx) : List Value := [.string o.s, .int .i64 o.d, .int .i64 o.a, .int .i64 o.b, .int .u32 o.i, .int .i64 o.t]
def opV (o : Opx) : Value := .agg #[.string o.s, .int .i64 o.d, .int .i64 o.a, .int .i64 o.b, .int .u32 o.i, .int .i64 o.t]
/-- a slice of ops -/
structure OpsIn (w : World) (v : Value) (l : List Opx) : Prop where
  sh : ∃ ao cap, v = .slice ao l.length cap ∧ l.length ≤ cap ∧ (0 < l.length → ∃ b off : Nat, ao = some ⟨b, off, none⟩ ∧ ∀ (i : Nat) (o : Opx), l[i]? = some o → ∀ (j : Nat) (u : Value), (opC o)[j]? = some u → w.cell? ⟨b, off + i * 6 + j, none⟩ = some u)
  ok : ∀ o ∈ l, o.ok
theorem OpsIn.stays {w w' : World} {v : Value} {l : List Opx} (A : OpsIn w v l) (h : Below w.heap.size w w') : OpsIn w' v l := by
  obtain ⟨ao, cap, rfl, hc, hh⟩ := A.sh
  refine ⟨⟨ao, cap, rfl, hc, fun hp => ?_⟩, A.ok⟩
  obtain ⟨b, off, rfl, hcell⟩ := hh hp
  exact ⟨b, off, rfl, fun i o hi j u hj => by have := hcell i o hi j u hj; rw [h.cell (World.block_lt_of_cell? _ _ this)]; exact this⟩
end Go.Proofs.YtflagpkmebdckaaGreatDoor
/-
  Bytes of memory with stores that wait: what a load by bytes comes to.
-/
namespace Go.Proofs.YtflagpkmebdckaaGreatDoor
open Num
set_option linter.unusedVariables false
theorem m4 (x : Int) : x % 4 = 0 ∨ x % 4 = 1 ∨ x % 4 = 2 ∨ x % 4 = 3 := by omega
structure Pend.ok (p : Pend) : Prop where
  c : chk p.a p.s = 0
  a0 : 0 ≤ p.a
  v0 : 0 ≤ p.v
  v1 : p.v < 4294967296
end Go.Proofs.YtflagpkmebdckaaGreatDoor
