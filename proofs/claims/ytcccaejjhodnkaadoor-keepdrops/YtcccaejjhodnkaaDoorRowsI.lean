/-
  Rows of ops.
-/
import Derived.Test.YtcccaejjhodnkaaDoorIrChk2
namespace Go.Proofs.YtcccaejjhodnkaaDoor
open Go.RowKit Go.Maps
set_option linter.unusedVariables false
/-- rows of ops -/
def RowsI (w : World) (v : Value) (rs : List (List Opx)) : Prop :=
  ∃ ao cap, v = .slice ao rs.length cap ∧ rs.length ≤ cap ∧ (0 < rs.length → ∃ b off : Nat, ao = some ⟨b, off, none⟩ ∧ ∀ (i : Nat) (row : List Opx), rs[i]? = some row → ∃ u, w.cell? ⟨b, off + i, none⟩ = some u ∧ OpsIn w u row)
theorem RowsI.stays {w w' : World} {v : Value} {rs : List (List Opx)} (R : RowsI w v rs) (h : Below w.heap.size w w') : RowsI w' v rs := by
  obtain ⟨ao, cap, e, hc, hh⟩ := R
  refine ⟨ao, cap, e, hc, fun hp => ?_⟩
  obtain ⟨b, off, eb, hcell⟩ := hh hp
  refine ⟨b, off, eb, fun i row hi => ?_⟩
  obtain ⟨u, hu, hO⟩ := hcell i row hi
  exact ⟨u, (h.cell (p := ⟨b, off + i, none⟩) (World.block_lt_of_cell? _ _ hu)).trans hu, hO.stays h⟩
/-- few rows, none too long -/
def Few (rs : List (List Opx)) : Prop := rs.length ≤ 1000 ∧ ∀ r ∈ rs, r.length ≤ 1000
end Go.Proofs.YtcccaejjhodnkaaDoor
