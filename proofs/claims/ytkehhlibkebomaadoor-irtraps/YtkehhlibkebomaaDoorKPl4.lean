/-
  Package plan: writesTwice, checkRow.
-/
import Derived.Test.YtkehhlibkebomaaDoorQIrChk2
import Derived.Test.YtkehhlibkebomaaDoorQIrChk3
import Derived.Test.YtkehhlibkebomaaDoorKPl1
namespace Go.Proofs.YtkehhlibkebomaaDoor
open Go.RowKit Go.Maps
open Num
set_option linter.unusedVariables false
end Go.Proofs.YtkehhlibkebomaaDoor
/-
  Rows of ops.
-/
namespace Go.Proofs.YtkehhlibkebomaaDoor
open Go.RowKit Go.Maps
set_option linter.unusedVariables false
/-- rows of ops -/
def RowsI (w : World) (v : Value) (rs : List (List Opx)) : Prop :=
  ∃ ao cap, v = .slice ao rs.length cap ∧ rs.length ≤ cap ∧ (0 < rs.length → ∃ b off : Nat, ao = some ⟨b, off, none⟩ ∧ ∀ (i : Nat) (row : List Opx), rs[i]? = some row → ∃ u, w.cell? ⟨b, off + i, none⟩ = some u ∧ OpsIn w u row)
theorem RowsI.stays {w w' : World} {v : Value} {rs : List (List Opx)} (R : RowsI w v rs) (h : Below w.heap.size w w') : RowsI w' v rs := by
  obtain ⟨ao, cap, e, hc, hh⟩ := R
  refine ⟨ao, cap, e, hc, fun hp => ?_⟩
  obtain ⟨b, off, eb, hcell⟩ := hh hp
  refine ⟨b, off, eb, fun i row hi => ?_⟩
  obtain ⟨u, hu, hO⟩ := hcell i row hi
  exact ⟨u, (h.cell (p := ⟨b, off + i, none⟩) (World.block_lt_of_cell? _ _ hu)).trans hu, hO.stays h⟩
/-- few rows, none too long -/
def Few (rs : List (List Opx)) : Prop := rs.length ≤ 1000 ∧ ∀ r ∈ rs, r.length ≤ 1000
end Go.Proofs.YtkehhlibkebomaaDoor
/-
  Package plan: rows of ops that came in; how many stores, how many ops, how wide; Check.
-/
namespace Go.Proofs.YtkehhlibkebomaaDoor
open Go.RowKit Go.Maps
open Num
set_option linter.unusedVariables false
theorem Few.take {rs : List (List Opx)} (F : Few rs) (j : Nat) : ∀ r ∈ rs.take j, r.length ≤ 1000 := fun r hr => F.2 r (List.mem_of_mem_take hr)
end Go.Proofs.YtkehhlibkebomaaDoor
/-
  Package plan: Check.
-/
namespace Go.Proofs.YtkehhlibkebomaaDoor
open Go.RowKit Go.Maps
open Num
set_option linter.unusedVariables false
end Go.Proofs.YtkehhlibkebomaaDoor
