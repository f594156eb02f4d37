/-
  DERIVED. GIVEN WITH THE SEED: THE CARDS: each row of YtodchdghodbncaaDoorRows.lean that lists a variable, with what it lists TIED to the program's text (the seventh form; the later family's looks); each row that meets fmt, with fmt's text TOLD by the authors' own Lean function (tested against real Go, not proved from fmt's source: count such statements apart). THE CARD IS WHAT COUNTS. Prove the row's statement (the work); the ties are given (YtodchdghodbncaaDoorTie.lean); close each card by the builder's one call (the guide's Derived/Test/ToyasCard.lean, 'card_holds'). Laid BY PROGRAM, IN A SANDBOX (cutbox-door.mjs). By AI agents, Wed Nov 11 2026. No macro, syntax, notation, axiom, sorry.
-/
import Derived.Test.YtodchdghodbncaaDoorRows
import GoSem.ClaimSeven
namespace Go.Proofs.YtodchdghodbncaaDoor
namespace Rows

/-- THE TIED CARD OF 'changelinglaw3.OptCounts'. -/
def optCountsCard : Claim7 := { stood := { row := optCountsRow, standIns := [], harness := (true, "a72c56fd11388c3d0b26899d9f9d107b20cdfb399686356dbbba89729817467f"), looks := false }, kinds := [], alts := [], laidByText := true, laidKinds := [.sentinel, .sentinel, .sentinel, .sentinel], laidTests := true, laidLooks := .later }
def OptCountsCardSaid : Prop := Claim7.holds Tryd.pinned (.plain (OpenSpec.ofChange optCountsSpec)) optCountsCard

/-- THE TIED CARD OF 'changelinglaw3.OptAgain'. -/
def optAgainCard : Claim7 := { stood := { row := optAgainRow, standIns := [], harness := (true, "a72c56fd11388c3d0b26899d9f9d107b20cdfb399686356dbbba89729817467f"), looks := false }, kinds := [], alts := [], laidByText := true, laidKinds := [.sentinel, .sentinel, .sentinel, .sentinel], laidTests := true, laidLooks := .later }
def OptAgainCardSaid : Prop := Claim7.holds Tryd.pinned (.plain (OpenSpec.ofChange optAgainSpec)) optAgainCard

/-- THE SECOND FORM's CARD OF 'changelinglaw3.OptCounts'. -/
def optCountsUptoCard : Claim7 := { stood := { row := optCountsUptoRow, standIns := [], harness := (true, "a72c56fd11388c3d0b26899d9f9d107b20cdfb399686356dbbba89729817467f"), looks := false }, kinds := [], alts := [], laidByText := true, laidKinds := [.sentinel, .sentinel, .sentinel, .sentinel], laidTests := true, laidLooks := .later }
def OptCountsUptoCardSaid : Prop := Claim7.holds Tryd.pinned (.plain (OpenSpec.upto optCountsSpec)) optCountsUptoCard

/-- THE SECOND FORM's CARD OF 'changelinglaw3.OptAgain'. -/
def optAgainUptoCard : Claim7 := { stood := { row := optAgainUptoRow, standIns := [], harness := (true, "a72c56fd11388c3d0b26899d9f9d107b20cdfb399686356dbbba89729817467f"), looks := false }, kinds := [], alts := [], laidByText := true, laidKinds := [.sentinel, .sentinel, .sentinel, .sentinel], laidTests := true, laidLooks := .later }
def OptAgainUptoCardSaid : Prop := Claim7.holds Tryd.pinned (.plain (OpenSpec.upto optAgainSpec)) optAgainUptoCard
end Rows
end Go.Proofs.YtodchdghodbncaaDoor
