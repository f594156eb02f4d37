/-
  Sums, products and quotients of words.
-/
import Derived.Test.YtmfhimphlackiaaDoorFns
namespace Go.Proofs.YtmfhimphlackiaaDoor
open Go.RowKit
open Num
set_option linter.unusedVariables false
theorem ret_three {k l : IntKind} {a b c d : Int} {x y : Bool} (h : a = b) (g : c = d) (f : x = y) : Ending.returned (.tuple #[.int k a, .int l c, .bool x]) = .returned (.tuple #[.int k b, .int l d, .bool y]) := by rw [h, g, f]
theorem ret_ib {k : IntKind} {a b : Int} {c d : Bool} (h : a = b) (g : c = d) : Ending.returned (.tuple #[.int k a, .bool c]) = .returned (.tuple #[.int k b, .bool d]) := by rw [h, g]
end Go.Proofs.YtmfhimphlackiaaDoor
