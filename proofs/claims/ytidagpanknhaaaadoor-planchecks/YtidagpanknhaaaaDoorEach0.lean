/-
  What a row of rows' element is.
-/
import Derived.Test.YtidagpanknhaaaaDoorOwnOps
namespace Go.Proofs.YtidagpanknhaaaaDoor
theorem infoOpsP : (Tryd.prog.info? 26).map (fun i => (i.zero, i.size, i.bytes)) = some (some (.slice none 0 0), 1, 24) := by kernel_rfl
end Go.Proofs.YtidagpanknhaaaaDoor
