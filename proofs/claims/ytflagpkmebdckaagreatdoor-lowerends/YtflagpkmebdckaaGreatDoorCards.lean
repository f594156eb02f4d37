/-
  DERIVED. GIVEN WITH THE SEED: THE CARDS: each row of YtflagpkmebdckaaGreatDoorRows.lean that lists a variable, with what it lists TIED to the program's text (the seventh form; the later family's looks); each row that meets fmt, with fmt's text TOLD by the authors' own Lean function (tested against real Go, not proved from fmt's source: count such statements apart). THE CARD IS WHAT COUNTS. Prove the row's statement (the work); the ties are given (YtflagpkmebdckaaGreatDoorTie.lean); close each card by the builder's one call (the guide's Derived/Test/ToyasCard.lean, 'card_holds'). Laid BY PROGRAM, IN A SANDBOX (cutbox-door.mjs). By AI agents, Wed Nov 11 2026. No macro, syntax, notation, axiom, sorry.
-/
import Derived.Test.YtflagpkmebdckaaGreatDoorRows
import GoSem.ClaimSeven
namespace Go.Proofs.YtflagpkmebdckaaGreatDoor
namespace Rows

/-- THE TIED CARD OF 'changelinglaw2.CpuOne'. -/
def cpuOneCard : Claim7 := { stood := { row := cpuOneRow, standIns := [], harness := (true, "d65510801049d711055014dd130ccc2735460048ec8a05756bd6b16f7f6ab95e"), looks := true }, kinds := [], alts := [], laidByText := true, laidKinds := [.sentinel, .sentinel, .sentinel, .sentinel, .sentinel, .data], laidTests := true, laidLooks := .later }
def CpuOneCardSaid : Prop := Claim7.holds Tryz.pinned (.plain (OpenSpec.ofChange cpuOneSpec)) cpuOneCard

/-- THE TIED CARD OF 'changelinglaw2.CpuSteps'. -/
def cpuStepsCard : Claim7 := { stood := { row := cpuStepsRow, standIns := [], harness := (true, "d65510801049d711055014dd130ccc2735460048ec8a05756bd6b16f7f6ab95e"), looks := true }, kinds := [], alts := [], laidByText := true, laidKinds := [.sentinel, .sentinel, .sentinel, .sentinel, .sentinel, .data], laidTests := true, laidLooks := .later }
def CpuStepsCardSaid : Prop := Claim7.holds Tryz.pinned (.plain (OpenSpec.ofChange cpuStepsSpec)) cpuStepsCard

/-- THE TIED CARD OF 'changelinglaw3.LowerEnds'. -/
def lowerEndsCard : Claim7 := { stood := { row := lowerEndsRow, standIns := [], harness := (true, "d65510801049d711055014dd130ccc2735460048ec8a05756bd6b16f7f6ab95e"), looks := true }, kinds := [], alts := [], laidByText := true, laidKinds := [.handle, .sentinel, .sentinel, .sentinel, .sentinel, .sentinel, .sentinel, .sentinel, .sentinel, .sentinel, .sentinel, .data], laidTests := true, laidLooks := .later }
def LowerEndsCardSaid : Prop := Claim7.holds Tryz.pinned (.plain (OpenSpec.ofChange lowerEndsSpec)) lowerEndsCard

/-- THE TIED CARD OF 'changelinglaw3.HostAll'. -/
def hostAllCard : Claim7 := { stood := { row := hostAllRow, standIns := [], harness := (true, "d65510801049d711055014dd130ccc2735460048ec8a05756bd6b16f7f6ab95e"), looks := true }, kinds := [], alts := [], laidByText := true, laidKinds := [.sentinel, .sentinel, .sentinel, .sentinel, .sentinel, .sentinel, .sentinel, .sentinel, .data, .data], laidTests := true, laidLooks := .later }
def HostAllCardSaid : Prop := Claim7.holds Tryz.pinned (.plain (OpenSpec.ofChange hostAllSpec)) hostAllCard

/-- THE SECOND FORM's CARD OF 'changelinglaw2.CpuOne'. -/
def cpuOneUptoCard : Claim7 := { stood := { row := cpuOneUptoRow, standIns := [], harness := (true, "d65510801049d711055014dd130ccc2735460048ec8a05756bd6b16f7f6ab95e"), looks := true }, kinds := [], alts := [], laidByText := true, laidKinds := [.sentinel, .sentinel, .sentinel, .sentinel, .sentinel, .data], laidTests := true, laidLooks := .later }
def CpuOneUptoCardSaid : Prop := Claim7.holds Tryz.pinned (.plain (OpenSpec.upto cpuOneSpec)) cpuOneUptoCard

/-- THE SECOND FORM's CARD OF 'changelinglaw2.CpuSteps'. -/
def cpuStepsUptoCard : Claim7 := { stood := { row := cpuStepsUptoRow, standIns := [], harness := (true, "d65510801049d711055014dd130ccc2735460048ec8a05756bd6b16f7f6ab95e"), looks := true }, kinds := [], alts := [], laidByText := true, laidKinds := [.sentinel, .sentinel, .sentinel, .sentinel, .sentinel, .data], laidTests := true, laidLooks := .later }
def CpuStepsUptoCardSaid : Prop := Claim7.holds Tryz.pinned (.plain (OpenSpec.upto cpuStepsSpec)) cpuStepsUptoCard

/-- THE SECOND FORM's CARD OF 'changelinglaw3.LowerEnds'. -/
def lowerEndsUptoCard : Claim7 := { stood := { row := lowerEndsUptoRow, standIns := [], harness := (true, "d65510801049d711055014dd130ccc2735460048ec8a05756bd6b16f7f6ab95e"), looks := true }, kinds := [], alts := [], laidByText := true, laidKinds := [.handle, .sentinel, .sentinel, .sentinel, .sentinel, .sentinel, .sentinel, .sentinel, .sentinel, .sentinel, .sentinel, .data], laidTests := true, laidLooks := .later }
def LowerEndsUptoCardSaid : Prop := Claim7.holds Tryz.pinned (.plain (OpenSpec.upto lowerEndsSpec)) lowerEndsUptoCard

/-- THE SECOND FORM's CARD OF 'changelinglaw3.HostAll'. -/
def hostAllUptoCard : Claim7 := { stood := { row := hostAllUptoRow, standIns := [], harness := (true, "d65510801049d711055014dd130ccc2735460048ec8a05756bd6b16f7f6ab95e"), looks := true }, kinds := [], alts := [], laidByText := true, laidKinds := [.sentinel, .sentinel, .sentinel, .sentinel, .sentinel, .sentinel, .sentinel, .sentinel, .data, .data], laidTests := true, laidLooks := .later }
def HostAllUptoCardSaid : Prop := Claim7.holds Tryz.pinned (.plain (OpenSpec.upto hostAllSpec)) hostAllUptoCard
end Rows
end Go.Proofs.YtflagpkmebdckaaGreatDoor
