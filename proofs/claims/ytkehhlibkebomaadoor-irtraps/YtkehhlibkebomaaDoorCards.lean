/-
  DERIVED. GIVEN WITH THE SEED: THE CARDS: each row of YtkehhlibkebomaaDoorRows.lean that lists a variable, with what it lists TIED to the program's text (the seventh form; the later family's looks); each row that meets fmt, with fmt's text TOLD by the authors' own Lean function (tested against real Go, not proved from fmt's source: count such statements apart). THE CARD IS WHAT COUNTS. Prove the row's statement (the work); the ties are given (YtkehhlibkebomaaDoorTie.lean); close each card by the builder's one call (the guide's Derived/Test/ToyasCard.lean, 'card_holds'). Laid BY PROGRAM, IN A SANDBOX (cutbox-door.mjs). By AI agents, Wed Nov 11 2026. No macro, syntax, notation, axiom, sorry.
-/
import Derived.Test.YtkehhlibkebomaaDoorRows
import GoSem.ClaimSeven
namespace Go.Proofs.YtkehhlibkebomaaDoor
namespace Rows

/-- THE TIED CARD OF 'changelinglaw3.IrTraps'. -/
def irTrapsCard : Claim7 := { stood := { row := irTrapsRow, standIns := [], harness := (true, "ca5cc6c0e077a0ca03ec84900c230c492744c53cea4eb73b357bb8b5be6f790a"), looks := false }, kinds := [], alts := [], laidByText := true, laidKinds := [.sentinel, .sentinel, .sentinel, .sentinel, .sentinel, .sentinel], laidTests := true, laidLooks := .later }
def IrTrapsCardSaid : Prop := Claim7.holds Tryd.pinned (.plain (OpenSpec.ofChange irTrapsSpec)) irTrapsCard

/-- THE SECOND FORM's CARD OF 'changelinglaw3.IrTraps'. -/
def irTrapsUptoCard : Claim7 := { stood := { row := irTrapsUptoRow, standIns := [], harness := (true, "ca5cc6c0e077a0ca03ec84900c230c492744c53cea4eb73b357bb8b5be6f790a"), looks := false }, kinds := [], alts := [], laidByText := true, laidKinds := [.sentinel, .sentinel, .sentinel, .sentinel, .sentinel, .sentinel], laidTests := true, laidLooks := .later }
def IrTrapsUptoCardSaid : Prop := Claim7.holds Tryd.pinned (.plain (OpenSpec.upto irTrapsSpec)) irTrapsUptoCard
end Rows
end Go.Proofs.YtkehhlibkebomaaDoor
