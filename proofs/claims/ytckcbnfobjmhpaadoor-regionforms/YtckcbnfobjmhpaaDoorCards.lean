/-
  DERIVED. GIVEN WITH THE SEED: THE CARDS: each row of YtckcbnfobjmhpaaDoorRows.lean that lists a variable, with what it lists TIED to the program's text (the seventh form; the later family's looks); each row that meets fmt, with fmt's text TOLD by the authors' own Lean function (tested against real Go, not proved from fmt's source: count such statements apart). THE CARD IS WHAT COUNTS. Prove the row's statement (the work); the ties are given (YtckcbnfobjmhpaaDoorTie.lean); close each card by the builder's one call (the guide's Derived/Test/ToyasCard.lean, 'card_holds'). Laid BY PROGRAM, IN A SANDBOX (cutbox-door.mjs). By AI agents, Wed Nov 11 2026. No macro, syntax, notation, axiom, sorry.
-/
import Derived.Test.YtckcbnfobjmhpaaDoorRows
import GoSem.ClaimSeven
namespace Go.Proofs.YtckcbnfobjmhpaaDoor
namespace Rows

/-- THE TIED CARD OF 'changelinglaw2.CpuGoes'. -/
def cpuGoesCard : Claim7 := { stood := { row := cpuGoesRow, standIns := [], harness := (true, "63746f9f7dd3bb9c0ae0e78f4a18b7bc16ffff18015ea0df39d6affdd99b979c"), looks := true }, kinds := [], alts := [], laidByText := true, laidKinds := [.sentinel, .sentinel, .sentinel, .sentinel, .sentinel, .data], laidTests := true, laidLooks := .later }
def CpuGoesCardSaid : Prop := Claim7.holds Tryd.pinned (.plain (OpenSpec.ofChange cpuGoesSpec)) cpuGoesCard

/-- THE TIED CARD OF 'changelinglaw2.CpuTakes'. -/
def cpuTakesCard : Claim7 := { stood := { row := cpuTakesRow, standIns := [], harness := (true, "63746f9f7dd3bb9c0ae0e78f4a18b7bc16ffff18015ea0df39d6affdd99b979c"), looks := true }, kinds := [], alts := [], laidByText := true, laidKinds := [.sentinel, .sentinel, .sentinel, .sentinel, .sentinel, .data], laidTests := true, laidLooks := .later }
def CpuTakesCardSaid : Prop := Claim7.holds Tryd.pinned (.plain (OpenSpec.ofChange cpuTakesSpec)) cpuTakesCard

/-- THE TIED CARD OF 'changelinglaw2.CpuWaits'. -/
def cpuWaitsCard : Claim7 := { stood := { row := cpuWaitsRow, standIns := [], harness := (true, "63746f9f7dd3bb9c0ae0e78f4a18b7bc16ffff18015ea0df39d6affdd99b979c"), looks := true }, kinds := [], alts := [], laidByText := true, laidKinds := [.sentinel, .sentinel, .sentinel, .sentinel, .sentinel, .data], laidTests := true, laidLooks := .later }
def CpuWaitsCardSaid : Prop := Claim7.holds Tryd.pinned (.plain (OpenSpec.ofChange cpuWaitsSpec)) cpuWaitsCard

/-- THE TIED CARD OF 'changelinglaw2.RegionForms'. -/
def regionFormsCard : Claim7 := { stood := { row := regionFormsRow, standIns := [], harness := (true, "63746f9f7dd3bb9c0ae0e78f4a18b7bc16ffff18015ea0df39d6affdd99b979c"), looks := true }, kinds := [], alts := [], laidByText := true, laidKinds := [.handle, .sentinel, .sentinel, .sentinel, .sentinel, .sentinel, .sentinel, .sentinel, .sentinel, .sentinel, .sentinel, .data], laidTests := true, laidLooks := .later }
def RegionFormsCardSaid : Prop := Claim7.holds Tryd.pinned (.plain (OpenSpec.ofChange regionFormsSpec)) regionFormsCard

/-- THE TIED CARD OF 'changelinglaw2.RegionStands'. -/
def regionStandsCard : Claim7 := { stood := { row := regionStandsRow, standIns := [], harness := (true, "63746f9f7dd3bb9c0ae0e78f4a18b7bc16ffff18015ea0df39d6affdd99b979c"), looks := true }, kinds := [], alts := [], laidByText := true, laidKinds := [.sentinel, .sentinel, .sentinel, .sentinel, .sentinel, .sentinel, .data], laidTests := true, laidLooks := .later }
def RegionStandsCardSaid : Prop := Claim7.holds Tryd.pinned (.plain (OpenSpec.ofChange regionStandsSpec)) regionStandsCard

/-- THE TIED CARD OF 'changelinglaw2.RegionJoins'. -/
def regionJoinsCard : Claim7 := { stood := { row := regionJoinsRow, standIns := [], harness := (true, "63746f9f7dd3bb9c0ae0e78f4a18b7bc16ffff18015ea0df39d6affdd99b979c"), looks := true }, kinds := [], alts := [], laidByText := true, laidKinds := [.sentinel, .sentinel, .sentinel, .sentinel, .sentinel, .sentinel, .data], laidTests := true, laidLooks := .later }
def RegionJoinsCardSaid : Prop := Claim7.holds Tryd.pinned (.plain (OpenSpec.ofChange regionJoinsSpec)) regionJoinsCard

/-- THE SECOND FORM's CARD OF 'changelinglaw2.CpuGoes'. -/
def cpuGoesUptoCard : Claim7 := { stood := { row := cpuGoesUptoRow, standIns := [], harness := (true, "63746f9f7dd3bb9c0ae0e78f4a18b7bc16ffff18015ea0df39d6affdd99b979c"), looks := true }, kinds := [], alts := [], laidByText := true, laidKinds := [.sentinel, .sentinel, .sentinel, .sentinel, .sentinel, .data], laidTests := true, laidLooks := .later }
def CpuGoesUptoCardSaid : Prop := Claim7.holds Tryd.pinned (.plain (OpenSpec.upto cpuGoesSpec)) cpuGoesUptoCard

/-- THE SECOND FORM's CARD OF 'changelinglaw2.CpuTakes'. -/
def cpuTakesUptoCard : Claim7 := { stood := { row := cpuTakesUptoRow, standIns := [], harness := (true, "63746f9f7dd3bb9c0ae0e78f4a18b7bc16ffff18015ea0df39d6affdd99b979c"), looks := true }, kinds := [], alts := [], laidByText := true, laidKinds := [.sentinel, .sentinel, .sentinel, .sentinel, .sentinel, .data], laidTests := true, laidLooks := .later }
def CpuTakesUptoCardSaid : Prop := Claim7.holds Tryd.pinned (.plain (OpenSpec.upto cpuTakesSpec)) cpuTakesUptoCard

/-- THE SECOND FORM's CARD OF 'changelinglaw2.CpuWaits'. -/
def cpuWaitsUptoCard : Claim7 := { stood := { row := cpuWaitsUptoRow, standIns := [], harness := (true, "63746f9f7dd3bb9c0ae0e78f4a18b7bc16ffff18015ea0df39d6affdd99b979c"), looks := true }, kinds := [], alts := [], laidByText := true, laidKinds := [.sentinel, .sentinel, .sentinel, .sentinel, .sentinel, .data], laidTests := true, laidLooks := .later }
def CpuWaitsUptoCardSaid : Prop := Claim7.holds Tryd.pinned (.plain (OpenSpec.upto cpuWaitsSpec)) cpuWaitsUptoCard

/-- THE SECOND FORM's CARD OF 'changelinglaw2.RegionForms'. -/
def regionFormsUptoCard : Claim7 := { stood := { row := regionFormsUptoRow, standIns := [], harness := (true, "63746f9f7dd3bb9c0ae0e78f4a18b7bc16ffff18015ea0df39d6affdd99b979c"), looks := true }, kinds := [], alts := [], laidByText := true, laidKinds := [.handle, .sentinel, .sentinel, .sentinel, .sentinel, .sentinel, .sentinel, .sentinel, .sentinel, .sentinel, .sentinel, .data], laidTests := true, laidLooks := .later }
def RegionFormsUptoCardSaid : Prop := Claim7.holds Tryd.pinned (.plain (OpenSpec.upto regionFormsSpec)) regionFormsUptoCard

/-- THE SECOND FORM's CARD OF 'changelinglaw2.RegionStands'. -/
def regionStandsUptoCard : Claim7 := { stood := { row := regionStandsUptoRow, standIns := [], harness := (true, "63746f9f7dd3bb9c0ae0e78f4a18b7bc16ffff18015ea0df39d6affdd99b979c"), looks := true }, kinds := [], alts := [], laidByText := true, laidKinds := [.sentinel, .sentinel, .sentinel, .sentinel, .sentinel, .sentinel, .data], laidTests := true, laidLooks := .later }
def RegionStandsUptoCardSaid : Prop := Claim7.holds Tryd.pinned (.plain (OpenSpec.upto regionStandsSpec)) regionStandsUptoCard

/-- THE SECOND FORM's CARD OF 'changelinglaw2.RegionJoins'. -/
def regionJoinsUptoCard : Claim7 := { stood := { row := regionJoinsUptoRow, standIns := [], harness := (true, "63746f9f7dd3bb9c0ae0e78f4a18b7bc16ffff18015ea0df39d6affdd99b979c"), looks := true }, kinds := [], alts := [], laidByText := true, laidKinds := [.sentinel, .sentinel, .sentinel, .sentinel, .sentinel, .sentinel, .data], laidTests := true, laidLooks := .later }
def RegionJoinsUptoCardSaid : Prop := Claim7.holds Tryd.pinned (.plain (OpenSpec.upto regionJoinsSpec)) regionJoinsUptoCard
end Rows
end Go.Proofs.YtckcbnfobjmhpaaDoor
