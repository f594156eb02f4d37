/-
  DERIVED. GIVEN WITH THE SEED: THE CARDS: each row of YtbjmhiemnhecbaaDoorRows.lean that lists a variable, with what it lists TIED to the program's text (the seventh form; the later family's looks); each row that meets fmt, with fmt's text TOLD by the authors' own Lean function (tested against real Go, not proved from fmt's source: count such statements apart). THE CARD IS WHAT COUNTS. Prove the row's statement (the work); the ties are given (YtbjmhiemnhecbaaDoorTie.lean); close each card by the builder's one call (the guide's Derived/Test/ToyasCard.lean, 'card_holds'). Laid BY PROGRAM, IN A SANDBOX (cutbox-door.mjs). By AI agents, Wed Nov 11 2026. No macro, syntax, notation, axiom, sorry.
-/
import Derived.Test.YtbjmhiemnhecbaaDoorRows
import GoSem.ClaimSeven
namespace Go.Proofs.YtbjmhiemnhecbaaDoor
namespace Rows

/-- THE TIED CARD OF 'changelinglaw2.BusApart'. -/
def busApartCard : Claim7 := { stood := { row := busApartRow, standIns := [], harness := (true, "53ff44f10f11065e8e08799dd76e56915dba90b5288108e66a94be49f5d2768c"), looks := true }, kinds := [], alts := [], laidByText := true, laidKinds := [.sentinel, .sentinel, .sentinel], laidTests := true, laidLooks := .later }
def BusApartCardSaid : Prop := Claim7.holds Tryd.pinned (.plain (OpenSpec.ofChange busApartSpec)) busApartCard

/-- THE TIED CARD OF 'changelinglaw2.BusActs'. -/
def busActsCard : Claim7 := { stood := { row := busActsRow, standIns := [], harness := (true, "53ff44f10f11065e8e08799dd76e56915dba90b5288108e66a94be49f5d2768c"), looks := true }, kinds := [], alts := [], laidByText := true, laidKinds := [.handle, .sentinel, .sentinel, .sentinel, .sentinel, .sentinel, .sentinel, .sentinel, .sentinel, .sentinel, .sentinel], laidTests := true, laidLooks := .later }
def BusActsCardSaid : Prop := Claim7.holds Tryd.pinned (.plain (OpenSpec.ofChange busActsSpec)) busActsCard

/-- THE SECOND FORM's CARD OF 'changelinglaw2.BusApart'. -/
def busApartUptoCard : Claim7 := { stood := { row := busApartUptoRow, standIns := [], harness := (true, "53ff44f10f11065e8e08799dd76e56915dba90b5288108e66a94be49f5d2768c"), looks := true }, kinds := [], alts := [], laidByText := true, laidKinds := [.sentinel, .sentinel, .sentinel], laidTests := true, laidLooks := .later }
def BusApartUptoCardSaid : Prop := Claim7.holds Tryd.pinned (.plain (OpenSpec.upto busApartSpec)) busApartUptoCard

/-- THE SECOND FORM's CARD OF 'changelinglaw2.BusActs'. -/
def busActsUptoCard : Claim7 := { stood := { row := busActsUptoRow, standIns := [], harness := (true, "53ff44f10f11065e8e08799dd76e56915dba90b5288108e66a94be49f5d2768c"), looks := true }, kinds := [], alts := [], laidByText := true, laidKinds := [.handle, .sentinel, .sentinel, .sentinel, .sentinel, .sentinel, .sentinel, .sentinel, .sentinel, .sentinel, .sentinel], laidTests := true, laidLooks := .later }
def BusActsUptoCardSaid : Prop := Claim7.holds Tryd.pinned (.plain (OpenSpec.upto busActsSpec)) busActsUptoCard
end Rows
end Go.Proofs.YtbjmhiemnhecbaaDoor
