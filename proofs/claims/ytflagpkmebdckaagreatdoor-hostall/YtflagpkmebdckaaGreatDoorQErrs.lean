/-
  What errors.As, errors.Is and plain.Code answer, at an error of errors.New's make, at an api.Fault that holds one, and at nil: contracts, memory that was there left as it was.
-/
import Derived.Test.YtflagpkmebdckaaGreatDoorProg
import Derived.WalkKit
import Derived.LaidEql
import Derived.Stop.Asserts
import Derived.RowKitTokens
namespace Go.Proofs.YtflagpkmebdckaaGreatDoor
open Go.RowKit Go.Extern.Stop Go.Stop Go.Extern
set_option linter.unusedVariables false
/-! ### closed facts on the entries for internal/reflectlite, at this program's types -/
/-! ### what the assertions find -/
/-- a cell that holds something lies below the heap's end -/
theorem cell_lt {w : World} {a : Addr} {v : Value} (h : w.cell? a = some v) : a.block < w.heap.size := by
  rcases Nat.lt_or_ge a.block w.heap.size with h' | h'
  · exact h'
  · simp [World.cell?, Array.getElem?_eq_none h'] at h
end Go.Proofs.YtflagpkmebdckaaGreatDoor
