/-
  A word as an instruction.
-/
import Derived.Test.YtckcbnfobjmhpaaDoorKKDecode
import Derived.Test.YtckcbnfobjmhpaaDoorQKDecF
namespace Go.Proofs.YtckcbnfobjmhpaaDoor.K
open Go.RowKit Go.Extern.Stop Go.Stop Go.Extern
open Num Tab
set_option linter.unusedVariables false
theorem decode_ins (pk pb : Addr) (v : Int) (h0 : 0 ≤ v) (h1 : v < 4294967296) (w : World) (T : Tb pk pb w) :
    Calls Tryd.prog 60 #[.int .u32 v] w fun e w' => ∃ (k : Nat) (s t d m : Int), Hid (IsIns v k s t d m) ∧ e = .returned (ins k s t d m) ∧ Below w.heap.size w w' := by
  refine (decode_any pk pb v h0 h1 w T).mono ?_
  rintro e w' ⟨k, hd, rfl, hb⟩
  exact ⟨k, _, _, _, _, ⟨hd, rfl, rfl, rfl, rfl⟩, rfl, hb⟩
end Go.Proofs.YtckcbnfobjmhpaaDoor.K
