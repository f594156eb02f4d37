/-
  DERIVED. GIVEN WITH THE SEED: THE CARDS: each row of YtlibfnmdhbfngaaDoorRows.lean that lists a variable, with what it lists TIED to the program's text (the seventh form; the later family's looks); each row that meets fmt, with fmt's text TOLD by the authors' own Lean function (tested against real Go, not proved from fmt's source: count such statements apart). THE CARD IS WHAT COUNTS. Prove the row's statement (the work); the ties are given (YtlibfnmdhbfngaaDoorTie.lean); close each card by the builder's one call (the guide's Derived/Test/ToyasCard.lean, 'card_holds'). Laid BY PROGRAM, IN A SANDBOX (cutbox-door.mjs). By AI agents, Wed Nov 11 2026. No macro, syntax, notation, axiom, sorry.
-/
import Derived.Test.YtlibfnmdhbfngaaDoorRows
import GoSem.ClaimSeven
namespace Go.Proofs.YtlibfnmdhbfngaaDoor
namespace Rows

/-- THE TIED CARD OF 'changelinglaw2.CpuGoes'. -/
def cpuGoesCard : Claim7 := { stood := { row := cpuGoesRow, standIns := [], harness := (true, "511c02195fb55b88d89bd45dfd410316558a505ba854499d6c83962c86e011e3"), looks := false }, kinds := [], alts := [], laidByText := true, laidKinds := [.sentinel, .sentinel, .sentinel, .sentinel, .sentinel, .data], laidTests := true, laidLooks := .later }
def CpuGoesCardSaid : Prop := Claim7.holds Tryd.pinned (.plain (OpenSpec.ofChange cpuGoesSpec)) cpuGoesCard

/-- THE TIED CARD OF 'changelinglaw2.CpuTakes'. -/
def cpuTakesCard : Claim7 := { stood := { row := cpuTakesRow, standIns := [], harness := (true, "511c02195fb55b88d89bd45dfd410316558a505ba854499d6c83962c86e011e3"), looks := false }, kinds := [], alts := [], laidByText := true, laidKinds := [.sentinel, .sentinel, .sentinel, .sentinel, .sentinel, .data], laidTests := true, laidLooks := .later }
def CpuTakesCardSaid : Prop := Claim7.holds Tryd.pinned (.plain (OpenSpec.ofChange cpuTakesSpec)) cpuTakesCard

/-- THE TIED CARD OF 'changelinglaw2.CpuWaits'. -/
def cpuWaitsCard : Claim7 := { stood := { row := cpuWaitsRow, standIns := [], harness := (true, "511c02195fb55b88d89bd45dfd410316558a505ba854499d6c83962c86e011e3"), looks := false }, kinds := [], alts := [], laidByText := true, laidKinds := [.sentinel, .sentinel, .sentinel, .sentinel, .sentinel, .data], laidTests := true, laidLooks := .later }
def CpuWaitsCardSaid : Prop := Claim7.holds Tryd.pinned (.plain (OpenSpec.ofChange cpuWaitsSpec)) cpuWaitsCard

/-- THE SECOND FORM's CARD OF 'changelinglaw2.CpuGoes'. -/
def cpuGoesUptoCard : Claim7 := { stood := { row := cpuGoesUptoRow, standIns := [], harness := (true, "511c02195fb55b88d89bd45dfd410316558a505ba854499d6c83962c86e011e3"), looks := false }, kinds := [], alts := [], laidByText := true, laidKinds := [.sentinel, .sentinel, .sentinel, .sentinel, .sentinel, .data], laidTests := true, laidLooks := .later }
def CpuGoesUptoCardSaid : Prop := Claim7.holds Tryd.pinned (.plain (OpenSpec.upto cpuGoesSpec)) cpuGoesUptoCard

/-- THE SECOND FORM's CARD OF 'changelinglaw2.CpuTakes'. -/
def cpuTakesUptoCard : Claim7 := { stood := { row := cpuTakesUptoRow, standIns := [], harness := (true, "511c02195fb55b88d89bd45dfd410316558a505ba854499d6c83962c86e011e3"), looks := false }, kinds := [], alts := [], laidByText := true, laidKinds := [.sentinel, .sentinel, .sentinel, .sentinel, .sentinel, .data], laidTests := true, laidLooks := .later }
def CpuTakesUptoCardSaid : Prop := Claim7.holds Tryd.pinned (.plain (OpenSpec.upto cpuTakesSpec)) cpuTakesUptoCard

/-- THE SECOND FORM's CARD OF 'changelinglaw2.CpuWaits'. -/
def cpuWaitsUptoCard : Claim7 := { stood := { row := cpuWaitsUptoRow, standIns := [], harness := (true, "511c02195fb55b88d89bd45dfd410316558a505ba854499d6c83962c86e011e3"), looks := false }, kinds := [], alts := [], laidByText := true, laidKinds := [.sentinel, .sentinel, .sentinel, .sentinel, .sentinel, .data], laidTests := true, laidLooks := .later }
def CpuWaitsUptoCardSaid : Prop := Claim7.holds Tryd.pinned (.plain (OpenSpec.upto cpuWaitsSpec)) cpuWaitsUptoCard
end Rows
end Go.Proofs.YtlibfnmdhbfngaaDoor
