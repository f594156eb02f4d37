/-
  From what the program's own text lays (the ten errors of package api, and the handle of 'error') to what the walks ask; and a world that meets it.
-/
import Derived.Test.YtflagpkmebdckaaGreatDoorRows
import Derived.ProofKit
import Derived.LaidMore
import Derived.LaidLaws
import Derived.LaidHandle
import Derived.OpenShut
import Derived.Stop.Joined
import Derived.Test.YtflagpkmebdckaaGreatDoorQCode
import Derived.Test.YtflagpkmebdckaaGreatDoorQSent
namespace Go.Proofs.YtflagpkmebdckaaGreatDoor
open Go.ChangeShapes Go.WideShapes Go.ChangeAt Go.RowKit
set_option linter.unusedVariables false
theorem Tryz.own : ownKnob Tryz.prog.godebug = none := by kernel_rfl
theorem Tryz.rt : (Tryz.prog.cutTypes.find? (·.1 == "internal/reflectlite.rtype")).map (·.2) = some 306 := by kernel_rfl
theorem Tryz.size : Tryz.prog.types.size = 363 := by kernel_rfl
theorem Tryz.star : "*" ++ "errors.errorString" = "*errors.errorString" := by decide
theorem Tryz.rowS (u : TypeId) (h : Tryz.prog.typeName? 3 u = some "*errors.errorString") : u = 332 :=
  typeName_ptr_named (nm := "errors.errorString") (by rw [Tryz.star]; kernel_rfl) (by kernel_rfl) (by decide) u (by rw [Tryz.star]; exact h)
theorem Tryz.cellsES : Tryz.prog.cellsOf 351 = 1 := by kernel_rfl
theorem Tryz.cellsStr : Tryz.prog.cellsOf 9 = 1 := by kernel_rfl
/-- the ten errors, by name and text -/
def ten : List (String × List UInt8) := [("changeling/api.ErrText", [99, 104, 97, 110, 103, 101, 108, 105, 110, 103, 58, 32, 116, 101, 120, 116]), ("changeling/api.ErrBound", [99, 104, 97, 110, 103, 101, 108, 105, 110, 103, 58, 32, 98, 111, 117, 110, 100]), ("changeling/api.ErrShape", [99, 104, 97, 110, 103, 101, 108, 105, 110, 103, 58, 32, 115, 104, 97, 112, 101]), ("changeling/api.ErrKind", [99, 104, 97, 110, 103, 101, 108, 105, 110, 103, 58, 32, 107, 105, 110, 100]), ("changeling/api.ErrName", [99, 104, 97, 110, 103, 101, 108, 105, 110, 103, 58, 32, 110, 97, 109, 101]), ("changeling/api.ErrNone", [99, 104, 97, 110, 103, 101, 108, 105, 110, 103, 58, 32, 110, 111, 110, 101]), ("changeling/api.ErrExist", [99, 104, 97, 110, 103, 101, 108, 105, 110, 103, 58, 32, 101, 120, 105, 115, 116]), ("changeling/api.ErrFull", [99, 104, 97, 110, 103, 101, 108, 105, 110, 103, 58, 32, 102, 117, 108, 108]), ("changeling/api.ErrAlign", [99, 104, 97, 110, 103, 101, 108, 105, 110, 103, 58, 32, 97, 108, 105, 103, 110]), ("changeling/api.ErrFar", [99, 104, 97, 110, 103, 101, 108, 105, 110, 103, 58, 32, 102, 97, 114])]
theorem Tryz.gS1 : Tryz.prog.globalNamed "changeling/api.ErrBound" = some 0 := by kernel_rfl
theorem Tryz.gS2 : Tryz.prog.globalNamed "changeling/api.ErrShape" = some 1 := by kernel_rfl
theorem Tryz.gS3 : Tryz.prog.globalNamed "changeling/api.ErrKind" = some 5 := by kernel_rfl
theorem Tryz.gS5 : Tryz.prog.globalNamed "changeling/api.ErrNone" = some 4 := by kernel_rfl
theorem Tryz.gS6 : Tryz.prog.globalNamed "changeling/api.ErrExist" = some 8 := by kernel_rfl
theorem Tryz.gS7 : Tryz.prog.globalNamed "changeling/api.ErrFull" = some 9 := by kernel_rfl
theorem Tryz.gS8 : Tryz.prog.globalNamed "changeling/api.ErrAlign" = some 2 := by kernel_rfl
theorem Tryz.gS9 : Tryz.prog.globalNamed "changeling/api.ErrFar" = some 3 := by kernel_rfl
end Go.Proofs.YtflagpkmebdckaaGreatDoor
