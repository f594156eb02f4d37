/-
  DERIVED. GIVEN WITH THE SEED: THE CARDS: each row of YtphdginikmmnmaaGreatDoorRows.lean that lists a variable, with what it lists TIED to the program's text (the seventh form; the later family's looks); each row that meets fmt, with fmt's text TOLD by the authors' own Lean function (tested against real Go, not proved from fmt's source: count such statements apart). THE CARD IS WHAT COUNTS. Prove the row's statement (the work); the ties are given (YtphdginikmmnmaaGreatDoorTie.lean); close each card by the builder's one call (the guide's Derived/Test/ToyasCard.lean, 'card_holds'). Laid BY PROGRAM, IN A SANDBOX (cutbox-door.mjs). By AI agents, Wed Nov 11 2026. No macro, syntax, notation, axiom, sorry.
-/
import Derived.Test.YtphdginikmmnmaaGreatDoorRows
import GoSem.ClaimSeven
namespace Go.Proofs.YtphdginikmmnmaaGreatDoor
namespace Rows

/-- THE TIED CARD OF 'changelinglaw3.OptEnds'. -/
def optEndsCard : Claim7 := { stood := { row := optEndsRow, standIns := [], harness := (true, "7f20f288b90b8defb665c3214cd3121cac8563906b65bdb75bd6ae6b89cd000e"), looks := true }, kinds := [], alts := [], laidByText := true, laidKinds := [.handle, .sentinel, .sentinel, .sentinel, .sentinel, .sentinel, .sentinel, .sentinel, .sentinel, .sentinel, .sentinel], laidTests := true, laidLooks := .later }
def OptEndsCardSaid : Prop := Claim7.holds Tryz.pinned (.plain (OpenSpec.ofChange optEndsSpec)) optEndsCard

/-- THE TIED CARD OF 'changelinglaw3.PlanEnds'. -/
def planEndsCard : Claim7 := { stood := { row := planEndsRow, standIns := [], harness := (true, "7f20f288b90b8defb665c3214cd3121cac8563906b65bdb75bd6ae6b89cd000e"), looks := true }, kinds := [], alts := [], laidByText := true, laidKinds := [.handle, .sentinel, .sentinel, .sentinel, .sentinel, .sentinel, .sentinel, .sentinel, .sentinel, .sentinel, .sentinel, .data], laidTests := true, laidLooks := .later }
def PlanEndsCardSaid : Prop := Claim7.holds Tryz.pinned (.plain (OpenSpec.ofChange planEndsSpec)) planEndsCard

/-- THE SECOND FORM's CARD OF 'changelinglaw3.OptEnds'. -/
def optEndsUptoCard : Claim7 := { stood := { row := optEndsUptoRow, standIns := [], harness := (true, "7f20f288b90b8defb665c3214cd3121cac8563906b65bdb75bd6ae6b89cd000e"), looks := true }, kinds := [], alts := [], laidByText := true, laidKinds := [.handle, .sentinel, .sentinel, .sentinel, .sentinel, .sentinel, .sentinel, .sentinel, .sentinel, .sentinel, .sentinel], laidTests := true, laidLooks := .later }
def OptEndsUptoCardSaid : Prop := Claim7.holds Tryz.pinned (.plain (OpenSpec.upto optEndsSpec)) optEndsUptoCard

/-- THE SECOND FORM's CARD OF 'changelinglaw3.PlanEnds'. -/
def planEndsUptoCard : Claim7 := { stood := { row := planEndsUptoRow, standIns := [], harness := (true, "7f20f288b90b8defb665c3214cd3121cac8563906b65bdb75bd6ae6b89cd000e"), looks := true }, kinds := [], alts := [], laidByText := true, laidKinds := [.handle, .sentinel, .sentinel, .sentinel, .sentinel, .sentinel, .sentinel, .sentinel, .sentinel, .sentinel, .sentinel, .data], laidTests := true, laidLooks := .later }
def PlanEndsUptoCardSaid : Prop := Claim7.holds Tryz.pinned (.plain (OpenSpec.upto planEndsSpec)) planEndsUptoCard
end Rows
end Go.Proofs.YtphdginikmmnmaaGreatDoor
