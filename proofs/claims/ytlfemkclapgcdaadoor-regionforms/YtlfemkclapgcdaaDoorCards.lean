/-
  DERIVED. GIVEN WITH THE SEED: THE CARDS: each row of YtlfemkclapgcdaaDoorRows.lean that lists a variable, with what it lists TIED to the program's text (the seventh form; the later family's looks); each row that meets fmt, with fmt's text TOLD by the authors' own Lean function (tested against real Go, not proved from fmt's source: count such statements apart). THE CARD IS WHAT COUNTS. Prove the row's statement (the work); the ties are given (YtlfemkclapgcdaaDoorTie.lean); close each card by the builder's one call (the guide's Derived/Test/ToyasCard.lean, 'card_holds'). Laid BY PROGRAM, IN A SANDBOX (cutbox-door.mjs). By AI agents, Wed Nov 11 2026. No macro, syntax, notation, axiom, sorry.
-/
import Derived.Test.YtlfemkclapgcdaaDoorRows
import GoSem.ClaimSeven
namespace Go.Proofs.YtlfemkclapgcdaaDoor
namespace Rows

/-- THE TIED CARD OF 'changelinglaw2.RegionForms'. -/
def regionFormsCard : Claim7 := { stood := { row := regionFormsRow, standIns := [], harness := (true, "d4f8c090c8eec72ff36cee21e29372986ad3bd3fe9c576e628403324117b80bf"), looks := true }, kinds := [], alts := [], laidByText := true, laidKinds := [.handle, .sentinel, .sentinel, .sentinel, .sentinel, .sentinel, .sentinel, .sentinel, .sentinel, .sentinel, .sentinel, .data], laidTests := true, laidLooks := .later }
def RegionFormsCardSaid : Prop := Claim7.holds Tryd.pinned (.plain (OpenSpec.ofChange regionFormsSpec)) regionFormsCard

/-- THE TIED CARD OF 'changelinglaw2.RegionStands'. -/
def regionStandsCard : Claim7 := { stood := { row := regionStandsRow, standIns := [], harness := (true, "d4f8c090c8eec72ff36cee21e29372986ad3bd3fe9c576e628403324117b80bf"), looks := true }, kinds := [], alts := [], laidByText := true, laidKinds := [.sentinel, .sentinel, .sentinel, .sentinel, .sentinel, .sentinel, .data], laidTests := true, laidLooks := .later }
def RegionStandsCardSaid : Prop := Claim7.holds Tryd.pinned (.plain (OpenSpec.ofChange regionStandsSpec)) regionStandsCard

/-- THE TIED CARD OF 'changelinglaw2.RegionJoins'. -/
def regionJoinsCard : Claim7 := { stood := { row := regionJoinsRow, standIns := [], harness := (true, "d4f8c090c8eec72ff36cee21e29372986ad3bd3fe9c576e628403324117b80bf"), looks := true }, kinds := [], alts := [], laidByText := true, laidKinds := [.sentinel, .sentinel, .sentinel, .sentinel, .sentinel, .sentinel, .data], laidTests := true, laidLooks := .later }
def RegionJoinsCardSaid : Prop := Claim7.holds Tryd.pinned (.plain (OpenSpec.ofChange regionJoinsSpec)) regionJoinsCard

/-- THE SECOND FORM's CARD OF 'changelinglaw2.RegionForms'. -/
def regionFormsUptoCard : Claim7 := { stood := { row := regionFormsUptoRow, standIns := [], harness := (true, "d4f8c090c8eec72ff36cee21e29372986ad3bd3fe9c576e628403324117b80bf"), looks := true }, kinds := [], alts := [], laidByText := true, laidKinds := [.handle, .sentinel, .sentinel, .sentinel, .sentinel, .sentinel, .sentinel, .sentinel, .sentinel, .sentinel, .sentinel, .data], laidTests := true, laidLooks := .later }
def RegionFormsUptoCardSaid : Prop := Claim7.holds Tryd.pinned (.plain (OpenSpec.upto regionFormsSpec)) regionFormsUptoCard

/-- THE SECOND FORM's CARD OF 'changelinglaw2.RegionStands'. -/
def regionStandsUptoCard : Claim7 := { stood := { row := regionStandsUptoRow, standIns := [], harness := (true, "d4f8c090c8eec72ff36cee21e29372986ad3bd3fe9c576e628403324117b80bf"), looks := true }, kinds := [], alts := [], laidByText := true, laidKinds := [.sentinel, .sentinel, .sentinel, .sentinel, .sentinel, .sentinel, .data], laidTests := true, laidLooks := .later }
def RegionStandsUptoCardSaid : Prop := Claim7.holds Tryd.pinned (.plain (OpenSpec.upto regionStandsSpec)) regionStandsUptoCard

/-- THE SECOND FORM's CARD OF 'changelinglaw2.RegionJoins'. -/
def regionJoinsUptoCard : Claim7 := { stood := { row := regionJoinsUptoRow, standIns := [], harness := (true, "d4f8c090c8eec72ff36cee21e29372986ad3bd3fe9c576e628403324117b80bf"), looks := true }, kinds := [], alts := [], laidByText := true, laidKinds := [.sentinel, .sentinel, .sentinel, .sentinel, .sentinel, .sentinel, .data], laidTests := true, laidLooks := .later }
def RegionJoinsUptoCardSaid : Prop := Claim7.holds Tryd.pinned (.plain (OpenSpec.upto regionJoinsSpec)) regionJoinsUptoCard
end Rows
end Go.Proofs.YtlfemkclapgcdaaDoor
