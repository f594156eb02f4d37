/-
  Package opt: what is known of registers, in a map.
-/
import Derived.Maps.OwnSet
import Derived.WalkSpells
import Derived.Test.YtkehhlibkebomaaDoorKApp
import Derived.Test.YtkehhlibkebomaaDoorKSerial
import Derived.Test.YtkehhlibkebomaaDoorQIrChk3
import Derived.Test.YtkehhlibkebomaaDoorKValBd
import Derived.Test.YtkehhlibkebomaaDoorQIrRes
namespace Go.Proofs.YtkehhlibkebomaaDoor
open Go.RowKit Go.Maps
open Num
set_option linter.unusedVariables false
end Go.Proofs.YtkehhlibkebomaaDoor
/-
  Package opt: Known; ops that are told.
-/
namespace Go.Proofs.YtkehhlibkebomaaDoor
open Go.RowKit Go.Maps
open Num
set_option linter.unusedVariables false
theorem ccheck_ok (pe : Nat → Addr) {w : World} (E : Eg pe w) {v : Value} {l : List Opx} (A : OpsIn w v l) (hl : (l.length : Int) ≤ 1000000) (pc many : Int) (m0 : -9223372036854775808 ≤ many) (m1 : many ≤ 9223372036854775807) (hf : codeF many l = (0, -1)) :
    Calls Tryd.prog 16 #[.agg #[.int .u32 pc, .int .i64 many, v]] w fun e w' => e = .returned .nilIface ∧ Below w.heap.size w w' := by
  refine (check_any pe E A hl pc many m0 m1).mono ?_
  rintro e w' ⟨⟨x, rfl, hC⟩, hb⟩
  rw [hf] at hC
  rcases hC with ⟨_, h⟩ | ⟨h, _⟩
  · exact ⟨by rw [h]; rfl, hb⟩
  · omega
end Go.Proofs.YtkehhlibkebomaaDoor
/-
  Package opt: ops that are told, in place.
-/
namespace Go.Proofs.YtkehhlibkebomaaDoor
open Go.RowKit Go.Maps
open Num
set_option linter.unusedVariables false
end Go.Proofs.YtkehhlibkebomaaDoor
