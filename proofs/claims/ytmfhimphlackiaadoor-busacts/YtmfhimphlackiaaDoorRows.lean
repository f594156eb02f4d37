/-
  NARROWER THAN 'FOR EVERY INPUT', by the rows' own cells (each row's printed sentence says how): RamKeeps: laid · RamParts: laid · RamActs: laid · BusApart: laid · BusActs: laid.
  DERIVED. THE GIVEN ROWS OF THIS SEAT. 5 by the template 'for every input the law returns true; each argument reads behind the call as it read before'; 0 by the template 'total and deterministic' (their statements: YtmfhimphlackiaaDoorTotals.lean).
  GIVEN WITH THE SEED: the statements are not yours to turn. If you find one false, say at which input.
  Laid BY PROGRAM, IN A SANDBOX (cutbox-rows.mjs): the forced cells as the released guide's own fill.sh prints them over the translation 90b588be4f2a8ea5… (all of the seat's roots in one cut). By AI agents, Wed Nov 11 2026. No macro, syntax, notation, axiom, sorry.
-/
import Derived.Test.YtmfhimphlackiaaDoorChecked
import GoSem.Claim
import GoSem.ClaimJoined
import GoSem.ClaimMapViews
import Derived.JoinedTies
import Derived.KernelRfl
namespace Go.Proofs.YtmfhimphlackiaaDoor
/- THE CELL 'sum', in the pinned program and in every row, IS THE sha256 OF THE DUMP (.gsa) THAT YtmfhimphlackiaaDoorProg.lean LOADS. Nothing in Lean hashes anything: it is a label: what it is worth is what the hold of that sum in a sandbox is worth. -/
noncomputable def Tryd.pinned : Pinned := { name := "ytmfhimphlackiaadoor", sum := "90b588be4f2a8ea535efe3165fd6abb03701ffa9475785e7e8ca868cff47bd03", checked := Tryd.checked }
namespace Rows
def none {H : Type} : Left H := { results := [], args := [] }

/- WHAT THE LISTED PACKAGE-LEVEL VARIABLES READ AS WHEN THE CALL BEGINS. Each datum BY PROGRAM (the guide's laid-datum.mjs) off the statement by which the dump's own 'gosem.cut.vars' lays the variable. In a bare row this is a premise. The card (YtmfhimphlackiaaDoorCards.lean) ties it to the program's text. -/
def laid_changeling_api_ErrShape {H : Type} : DataW H := .iface "*errors.errorString" (.ptr (.agg [.lit (.string [99, 104, 97, 110, 103, 101, 108, 105, 110, 103, 58, 32, 115, 104, 97, 112, 101])]))
def laid_changeling_api_ErrAlign {H : Type} : DataW H := .iface "*errors.errorString" (.ptr (.agg [.lit (.string [99, 104, 97, 110, 103, 101, 108, 105, 110, 103, 58, 32, 97, 108, 105, 103, 110])]))
def laid_changeling_api_ErrFar {H : Type} : DataW H := .iface "*errors.errorString" (.ptr (.agg [.lit (.string [99, 104, 97, 110, 103, 101, 108, 105, 110, 103, 58, 32, 102, 97, 114])]))
def laid_errors_errorType {H : Type} : DataW H := .iface "internal/reflectlite.rtype" (.agg [.ptr (.lit (.string [101, 114, 114, 111, 114]))])
def laid_changeling_api_ErrText {H : Type} : DataW H := .iface "*errors.errorString" (.ptr (.agg [.lit (.string [99, 104, 97, 110, 103, 101, 108, 105, 110, 103, 58, 32, 116, 101, 120, 116])]))
def laid_changeling_api_ErrBound {H : Type} : DataW H := .iface "*errors.errorString" (.ptr (.agg [.lit (.string [99, 104, 97, 110, 103, 101, 108, 105, 110, 103, 58, 32, 98, 111, 117, 110, 100])]))
def laid_changeling_api_ErrKind {H : Type} : DataW H := .iface "*errors.errorString" (.ptr (.agg [.lit (.string [99, 104, 97, 110, 103, 101, 108, 105, 110, 103, 58, 32, 107, 105, 110, 100])]))
def laid_changeling_api_ErrName {H : Type} : DataW H := .iface "*errors.errorString" (.ptr (.agg [.lit (.string [99, 104, 97, 110, 103, 101, 108, 105, 110, 103, 58, 32, 110, 97, 109, 101])]))
def laid_changeling_api_ErrNone {H : Type} : DataW H := .iface "*errors.errorString" (.ptr (.agg [.lit (.string [99, 104, 97, 110, 103, 101, 108, 105, 110, 103, 58, 32, 110, 111, 110, 101])]))
def laid_changeling_api_ErrExist {H : Type} : DataW H := .iface "*errors.errorString" (.ptr (.agg [.lit (.string [99, 104, 97, 110, 103, 101, 108, 105, 110, 103, 58, 32, 101, 120, 105, 115, 116])]))
def laid_changeling_api_ErrFull {H : Type} : DataW H := .iface "*errors.errorString" (.ptr (.agg [.lit (.string [99, 104, 97, 110, 103, 101, 108, 105, 110, 103, 58, 32, 102, 117, 108, 108])]))

/-- 'changelinglaw2.RamKeeps': WHATEVER THE INPUT: true; the input reads as it did. -/
def ramKeepsSpec : ChangeSpec := { name := "ramKeeps", fn := fun _ => fun
  | [d1, d2, d3, d4] => { results := [.lit (.bool true)], args := [d1, d2, d3, d4] }
  | _ => none }
def ramKeepsRow : OpenClaim := { program := "ytmfhimphlackiaadoor", sum := "90b588be4f2a8ea535efe3165fd6abb03701ffa9475785e7e8ca868cff47bd03", func := "changeling/changelinglaw2.RamKeeps", spec := "ramKeeps", inPlace := ["maps.clone"], named := ["changeling/api.ErrShape", "changeling/api.ErrAlign", "changeling/api.ErrFar"], apart := false, laid := [("changeling/api.ErrShape", laid_changeling_api_ErrShape), ("changeling/api.ErrAlign", laid_changeling_api_ErrAlign), ("changeling/api.ErrFar", laid_changeling_api_ErrFar)] }
def RamKeepsSaid : Prop := ramKeepsRow.holds Tryd.pinned (OpenSpec.ofChange ramKeepsSpec)

/-- ITS FALSE NEIGHBOUR: 'it returns false'. Refute it at one input. -/
def ramKeepsWrong : ChangeSpec := { name := "ramKeeps", fn := fun _ => fun
  | [d1, d2, d3, d4] => { results := [.lit (.bool false)], args := [d1, d2, d3, d4] }
  | _ => none }
def RamKeepsWrongFalsely : Prop := ramKeepsRow.holds Tryd.pinned (OpenSpec.ofChange ramKeepsWrong)

/-- 'changelinglaw2.RamParts': WHATEVER THE INPUT: true; the input reads as it did. -/
def ramPartsSpec : ChangeSpec := { name := "ramParts", fn := fun _ => fun
  | [d1, d2] => { results := [.lit (.bool true)], args := [d1, d2] }
  | _ => none }
def ramPartsRow : OpenClaim := { program := "ytmfhimphlackiaadoor", sum := "90b588be4f2a8ea535efe3165fd6abb03701ffa9475785e7e8ca868cff47bd03", func := "changeling/changelinglaw2.RamParts", spec := "ramParts", named := ["changeling/api.ErrShape", "changeling/api.ErrAlign", "changeling/api.ErrFar"], apart := false, laid := [("changeling/api.ErrShape", laid_changeling_api_ErrShape), ("changeling/api.ErrAlign", laid_changeling_api_ErrAlign), ("changeling/api.ErrFar", laid_changeling_api_ErrFar)] }
def RamPartsSaid : Prop := ramPartsRow.holds Tryd.pinned (OpenSpec.ofChange ramPartsSpec)

/-- ITS FALSE NEIGHBOUR: 'it returns false'. Refute it at one input. -/
def ramPartsWrong : ChangeSpec := { name := "ramParts", fn := fun _ => fun
  | [d1, d2] => { results := [.lit (.bool false)], args := [d1, d2] }
  | _ => none }
def RamPartsWrongFalsely : Prop := ramPartsRow.holds Tryd.pinned (OpenSpec.ofChange ramPartsWrong)

/-- 'changelinglaw2.RamActs': WHATEVER THE INPUT: true; the input reads as it did. -/
def ramActsSpec : ChangeSpec := { name := "ramActs", fn := fun _ => fun
  | [d1, d2] => { results := [.lit (.bool true)], args := [d1, d2] }
  | _ => none }
def ramActsRow : OpenClaim := { program := "ytmfhimphlackiaadoor", sum := "90b588be4f2a8ea535efe3165fd6abb03701ffa9475785e7e8ca868cff47bd03", func := "changeling/changelinglaw2.RamActs", spec := "ramActs", inPlace := ["internal/reflectlite.ValueOf", "(internal/reflectlite.Value).Type", "(internal/reflectlite.Value).IsNil", "internal/reflectlite.TypeOf", "(internal/reflectlite.Value).Elem", "(internal/reflectlite.Value).Set", "maps.clone"], unfollowed := true, recurses := true, named := ["changeling/api.ErrShape", "changeling/api.ErrAlign", "changeling/api.ErrFar", "changeling/api.ErrText", "changeling/api.ErrBound", "changeling/api.ErrKind", "changeling/api.ErrName", "changeling/api.ErrNone", "changeling/api.ErrExist", "changeling/api.ErrFull", "errors.errorType"], apart := false, laid := [("errors.errorType", laid_errors_errorType), ("changeling/api.ErrText", laid_changeling_api_ErrText), ("changeling/api.ErrBound", laid_changeling_api_ErrBound), ("changeling/api.ErrShape", laid_changeling_api_ErrShape), ("changeling/api.ErrKind", laid_changeling_api_ErrKind), ("changeling/api.ErrName", laid_changeling_api_ErrName), ("changeling/api.ErrNone", laid_changeling_api_ErrNone), ("changeling/api.ErrExist", laid_changeling_api_ErrExist), ("changeling/api.ErrFull", laid_changeling_api_ErrFull), ("changeling/api.ErrAlign", laid_changeling_api_ErrAlign), ("changeling/api.ErrFar", laid_changeling_api_ErrFar)] }
def RamActsSaid : Prop := ramActsRow.holds Tryd.pinned (OpenSpec.ofChange ramActsSpec)

/-- ITS FALSE NEIGHBOUR: 'it returns false'. Refute it at one input. -/
def ramActsWrong : ChangeSpec := { name := "ramActs", fn := fun _ => fun
  | [d1, d2] => { results := [.lit (.bool false)], args := [d1, d2] }
  | _ => none }
def RamActsWrongFalsely : Prop := ramActsRow.holds Tryd.pinned (OpenSpec.ofChange ramActsWrong)

/-- 'changelinglaw2.BusApart': WHATEVER THE INPUT: true; the input reads as it did. -/
def busApartSpec : ChangeSpec := { name := "busApart", fn := fun _ => fun
  | [d1, d2] => { results := [.lit (.bool true)], args := [d1, d2] }
  | _ => none }
def busApartRow : OpenClaim := { program := "ytmfhimphlackiaadoor", sum := "90b588be4f2a8ea535efe3165fd6abb03701ffa9475785e7e8ca868cff47bd03", func := "changeling/changelinglaw2.BusApart", spec := "busApart", named := ["changeling/api.ErrShape", "changeling/api.ErrAlign", "changeling/api.ErrFar"], apart := false, laid := [("changeling/api.ErrShape", laid_changeling_api_ErrShape), ("changeling/api.ErrAlign", laid_changeling_api_ErrAlign), ("changeling/api.ErrFar", laid_changeling_api_ErrFar)] }
def BusApartSaid : Prop := busApartRow.holds Tryd.pinned (OpenSpec.ofChange busApartSpec)

/-- ITS FALSE NEIGHBOUR: 'it returns false'. Refute it at one input. -/
def busApartWrong : ChangeSpec := { name := "busApart", fn := fun _ => fun
  | [d1, d2] => { results := [.lit (.bool false)], args := [d1, d2] }
  | _ => none }
def BusApartWrongFalsely : Prop := busApartRow.holds Tryd.pinned (OpenSpec.ofChange busApartWrong)

/-- 'changelinglaw2.BusActs': WHATEVER THE INPUT: true; the input reads as it did. -/
def busActsSpec : ChangeSpec := { name := "busActs", fn := fun _ => fun
  | [d1, d2] => { results := [.lit (.bool true)], args := [d1, d2] }
  | _ => none }
def busActsRow : OpenClaim := { program := "ytmfhimphlackiaadoor", sum := "90b588be4f2a8ea535efe3165fd6abb03701ffa9475785e7e8ca868cff47bd03", func := "changeling/changelinglaw2.BusActs", spec := "busActs", inPlace := ["internal/reflectlite.ValueOf", "(internal/reflectlite.Value).Type", "(internal/reflectlite.Value).IsNil", "internal/reflectlite.TypeOf", "(internal/reflectlite.Value).Elem", "(internal/reflectlite.Value).Set", "maps.clone"], unfollowed := true, recurses := true, named := ["changeling/api.ErrShape", "changeling/api.ErrAlign", "changeling/api.ErrFar", "changeling/api.ErrText", "changeling/api.ErrBound", "changeling/api.ErrKind", "changeling/api.ErrName", "changeling/api.ErrNone", "changeling/api.ErrExist", "changeling/api.ErrFull", "errors.errorType"], apart := false, laid := [("errors.errorType", laid_errors_errorType), ("changeling/api.ErrText", laid_changeling_api_ErrText), ("changeling/api.ErrBound", laid_changeling_api_ErrBound), ("changeling/api.ErrShape", laid_changeling_api_ErrShape), ("changeling/api.ErrKind", laid_changeling_api_ErrKind), ("changeling/api.ErrName", laid_changeling_api_ErrName), ("changeling/api.ErrNone", laid_changeling_api_ErrNone), ("changeling/api.ErrExist", laid_changeling_api_ErrExist), ("changeling/api.ErrFull", laid_changeling_api_ErrFull), ("changeling/api.ErrAlign", laid_changeling_api_ErrAlign), ("changeling/api.ErrFar", laid_changeling_api_ErrFar)] }
def BusActsSaid : Prop := busActsRow.holds Tryd.pinned (OpenSpec.ofChange busActsSpec)

/-- ITS FALSE NEIGHBOUR: 'it returns false'. Refute it at one input. -/
def busActsWrong : ChangeSpec := { name := "busActs", fn := fun _ => fun
  | [d1, d2] => { results := [.lit (.bool false)], args := [d1, d2] }
  | _ => none }
def BusActsWrongFalsely : Prop := busActsRow.holds Tryd.pinned (OpenSpec.ofChange busActsWrong)

/- THE SECOND FORM. 'bulk': how many values and letters a reading holds, each counted each time it is reached (what is shared counts as often as it is met; a slice's spare places count too). A statement '..UptoSaid' is the law's where the arguments, and the package variables that the reading takes, are together of bulk at most 1048576: NARROWER than '..Said'. Prove '..Said' where nothing that the law and all that it calls make is longer than what came in: it says more and counts as full. Else prove '..UptoSaid'. A law counts once. -/
mutual
def uptoBulk {H : Type} : DataW H → Nat
  | .lit (.string bytes) => bytes.length + 1
  | .lit _ => 1
  | .nil => 1
  | .ptr d => uptoBulk d + 1
  | .slice elems spare => uptoBulkAll elems + uptoBulkAll spare + 1
  | .agg parts => uptoBulkAll parts + 1
  | .iface _ d => uptoBulk d + 1
  | .map entries => uptoBulkEntries entries + 1
  | .held _ => 1
def uptoBulkAll {H : Type} : List (DataW H) → Nat
  | [] => 0
  | d :: r => uptoBulk d + uptoBulkAll r
def uptoBulkEntries {H : Type} : List (Lit × DataW H) → Nat
  | [] => 0
  | x :: r => uptoBulkEntry x + uptoBulkEntries r
def uptoBulkEntry {H : Type} : Lit × DataW H → Nat
  | (.string bytes, d) => bytes.length + uptoBulk d + 1
  | (_, d) => uptoBulk d + 1
 end
def uptoSmall : (H : Type) → List (DataW H) → Bool := fun _ ds => decide (uptoBulkAll ds ≤ 1048576)
def OpenSpec.upto (s : _root_.Go.ChangeSpec) : _root_.Go.OpenSpec := { _root_.Go.OpenSpec.ofChange s with cond := some uptoSmall }

/-- 'changelinglaw2.RamKeeps', WHERE WHAT IT READS IS OF BULK AT MOST 1048576: true; the input reads as it did. -/
def ramKeepsUptoRow : OpenClaim := { program := "ytmfhimphlackiaadoor", sum := "90b588be4f2a8ea535efe3165fd6abb03701ffa9475785e7e8ca868cff47bd03", func := "changeling/changelinglaw2.RamKeeps", spec := "ramKeeps", inPlace := ["maps.clone"], named := ["changeling/api.ErrShape", "changeling/api.ErrAlign", "changeling/api.ErrFar"], apart := false, laid := [("changeling/api.ErrShape", laid_changeling_api_ErrShape), ("changeling/api.ErrAlign", laid_changeling_api_ErrAlign), ("changeling/api.ErrFar", laid_changeling_api_ErrFar)], narrowed := true }
def RamKeepsUptoSaid : Prop := ramKeepsUptoRow.holds Tryd.pinned (OpenSpec.upto ramKeepsSpec)

/-- 'changelinglaw2.RamParts', WHERE WHAT IT READS IS OF BULK AT MOST 1048576: true; the input reads as it did. -/
def ramPartsUptoRow : OpenClaim := { program := "ytmfhimphlackiaadoor", sum := "90b588be4f2a8ea535efe3165fd6abb03701ffa9475785e7e8ca868cff47bd03", func := "changeling/changelinglaw2.RamParts", spec := "ramParts", named := ["changeling/api.ErrShape", "changeling/api.ErrAlign", "changeling/api.ErrFar"], apart := false, laid := [("changeling/api.ErrShape", laid_changeling_api_ErrShape), ("changeling/api.ErrAlign", laid_changeling_api_ErrAlign), ("changeling/api.ErrFar", laid_changeling_api_ErrFar)], narrowed := true }
def RamPartsUptoSaid : Prop := ramPartsUptoRow.holds Tryd.pinned (OpenSpec.upto ramPartsSpec)

/-- 'changelinglaw2.RamActs', WHERE WHAT IT READS IS OF BULK AT MOST 1048576: true; the input reads as it did. -/
def ramActsUptoRow : OpenClaim := { program := "ytmfhimphlackiaadoor", sum := "90b588be4f2a8ea535efe3165fd6abb03701ffa9475785e7e8ca868cff47bd03", func := "changeling/changelinglaw2.RamActs", spec := "ramActs", inPlace := ["internal/reflectlite.ValueOf", "(internal/reflectlite.Value).Type", "(internal/reflectlite.Value).IsNil", "internal/reflectlite.TypeOf", "(internal/reflectlite.Value).Elem", "(internal/reflectlite.Value).Set", "maps.clone"], unfollowed := true, recurses := true, named := ["changeling/api.ErrShape", "changeling/api.ErrAlign", "changeling/api.ErrFar", "changeling/api.ErrText", "changeling/api.ErrBound", "changeling/api.ErrKind", "changeling/api.ErrName", "changeling/api.ErrNone", "changeling/api.ErrExist", "changeling/api.ErrFull", "errors.errorType"], apart := false, laid := [("errors.errorType", laid_errors_errorType), ("changeling/api.ErrText", laid_changeling_api_ErrText), ("changeling/api.ErrBound", laid_changeling_api_ErrBound), ("changeling/api.ErrShape", laid_changeling_api_ErrShape), ("changeling/api.ErrKind", laid_changeling_api_ErrKind), ("changeling/api.ErrName", laid_changeling_api_ErrName), ("changeling/api.ErrNone", laid_changeling_api_ErrNone), ("changeling/api.ErrExist", laid_changeling_api_ErrExist), ("changeling/api.ErrFull", laid_changeling_api_ErrFull), ("changeling/api.ErrAlign", laid_changeling_api_ErrAlign), ("changeling/api.ErrFar", laid_changeling_api_ErrFar)], narrowed := true }
def RamActsUptoSaid : Prop := ramActsUptoRow.holds Tryd.pinned (OpenSpec.upto ramActsSpec)

/-- 'changelinglaw2.BusApart', WHERE WHAT IT READS IS OF BULK AT MOST 1048576: true; the input reads as it did. -/
def busApartUptoRow : OpenClaim := { program := "ytmfhimphlackiaadoor", sum := "90b588be4f2a8ea535efe3165fd6abb03701ffa9475785e7e8ca868cff47bd03", func := "changeling/changelinglaw2.BusApart", spec := "busApart", named := ["changeling/api.ErrShape", "changeling/api.ErrAlign", "changeling/api.ErrFar"], apart := false, laid := [("changeling/api.ErrShape", laid_changeling_api_ErrShape), ("changeling/api.ErrAlign", laid_changeling_api_ErrAlign), ("changeling/api.ErrFar", laid_changeling_api_ErrFar)], narrowed := true }
def BusApartUptoSaid : Prop := busApartUptoRow.holds Tryd.pinned (OpenSpec.upto busApartSpec)

/-- 'changelinglaw2.BusActs', WHERE WHAT IT READS IS OF BULK AT MOST 1048576: true; the input reads as it did. -/
def busActsUptoRow : OpenClaim := { program := "ytmfhimphlackiaadoor", sum := "90b588be4f2a8ea535efe3165fd6abb03701ffa9475785e7e8ca868cff47bd03", func := "changeling/changelinglaw2.BusActs", spec := "busActs", inPlace := ["internal/reflectlite.ValueOf", "(internal/reflectlite.Value).Type", "(internal/reflectlite.Value).IsNil", "internal/reflectlite.TypeOf", "(internal/reflectlite.Value).Elem", "(internal/reflectlite.Value).Set", "maps.clone"], unfollowed := true, recurses := true, named := ["changeling/api.ErrShape", "changeling/api.ErrAlign", "changeling/api.ErrFar", "changeling/api.ErrText", "changeling/api.ErrBound", "changeling/api.ErrKind", "changeling/api.ErrName", "changeling/api.ErrNone", "changeling/api.ErrExist", "changeling/api.ErrFull", "errors.errorType"], apart := false, laid := [("errors.errorType", laid_errors_errorType), ("changeling/api.ErrText", laid_changeling_api_ErrText), ("changeling/api.ErrBound", laid_changeling_api_ErrBound), ("changeling/api.ErrShape", laid_changeling_api_ErrShape), ("changeling/api.ErrKind", laid_changeling_api_ErrKind), ("changeling/api.ErrName", laid_changeling_api_ErrName), ("changeling/api.ErrNone", laid_changeling_api_ErrNone), ("changeling/api.ErrExist", laid_changeling_api_ErrExist), ("changeling/api.ErrFull", laid_changeling_api_ErrFull), ("changeling/api.ErrAlign", laid_changeling_api_ErrAlign), ("changeling/api.ErrFar", laid_changeling_api_ErrFar)], narrowed := true }
def BusActsUptoSaid : Prop := busActsUptoRow.holds Tryd.pinned (OpenSpec.upto busActsSpec)

end Rows
end Go.Proofs.YtmfhimphlackiaaDoor
