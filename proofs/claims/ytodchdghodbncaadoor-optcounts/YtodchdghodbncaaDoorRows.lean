/-
  NARROWER THAN 'FOR EVERY INPUT', by the rows' own cells (each row's printed sentence says how): OptCounts: laid · OptAgain: laid.
  DERIVED. THE GIVEN ROWS OF THIS SEAT. 2 by the template 'for every input the law returns true; each argument reads behind the call as it read before'; 0 by the template 'total and deterministic' (their statements: YtodchdghodbncaaDoorTotals.lean).
  GIVEN WITH THE SEED: the statements are not yours to turn. If you find one false, say at which input.
  Laid BY PROGRAM, IN A SANDBOX (cutbox-rows.mjs): the forced cells as the released guide's own fill.sh prints them over the translation e3cd9c9024650081… (all of the seat's roots in one cut). By AI agents, Wed Nov 11 2026. No macro, syntax, notation, axiom, sorry.
-/
import Derived.Test.YtodchdghodbncaaDoorChecked
import GoSem.Claim
import GoSem.ClaimJoined
import GoSem.ClaimMapViews
import Derived.JoinedTies
import Derived.KernelRfl
namespace Go.Proofs.YtodchdghodbncaaDoor
/- THE CELL 'sum', in the pinned program and in every row, IS THE sha256 OF THE DUMP (.gsa) THAT YtodchdghodbncaaDoorProg.lean LOADS. Nothing in Lean hashes anything: it is a label: what it is worth is what the hold of that sum in a sandbox is worth. -/
noncomputable def Tryd.pinned : Pinned := { name := "ytodchdghodbncaadoor", sum := "e3cd9c90246500813fd579712da599952239b944f077fb171dcea7bf45258690", checked := Tryd.checked }
namespace Rows
def none {H : Type} : Left H := { results := [], args := [] }

/- WHAT THE LISTED PACKAGE-LEVEL VARIABLES READ AS WHEN THE CALL BEGINS. Each datum BY PROGRAM (the guide's laid-datum.mjs) off the statement by which the dump's own 'gosem.cut.vars' lays the variable. In a bare row this is a premise. The card (YtodchdghodbncaaDoorCards.lean) ties it to the program's text. -/
def laid_changeling_api_ErrBound {H : Type} : DataW H := .iface "*errors.errorString" (.ptr (.agg [.lit (.string [99, 104, 97, 110, 103, 101, 108, 105, 110, 103, 58, 32, 98, 111, 117, 110, 100])]))
def laid_changeling_api_ErrShape {H : Type} : DataW H := .iface "*errors.errorString" (.ptr (.agg [.lit (.string [99, 104, 97, 110, 103, 101, 108, 105, 110, 103, 58, 32, 115, 104, 97, 112, 101])]))
def laid_changeling_api_ErrKind {H : Type} : DataW H := .iface "*errors.errorString" (.ptr (.agg [.lit (.string [99, 104, 97, 110, 103, 101, 108, 105, 110, 103, 58, 32, 107, 105, 110, 100])]))
def laid_changeling_api_ErrFull {H : Type} : DataW H := .iface "*errors.errorString" (.ptr (.agg [.lit (.string [99, 104, 97, 110, 103, 101, 108, 105, 110, 103, 58, 32, 102, 117, 108, 108])]))

/-- 'changelinglaw3.OptCounts': WHATEVER THE INPUT: true; the input reads as it did. -/
def optCountsSpec : ChangeSpec := { name := "optCounts", fn := fun _ => fun
  | [d1, d2] => { results := [.lit (.bool true)], args := [d1, d2] }
  | _ => none }
def optCountsRow : OpenClaim := { program := "ytodchdghodbncaadoor", sum := "e3cd9c90246500813fd579712da599952239b944f077fb171dcea7bf45258690", func := "changeling/changelinglaw3.OptCounts", spec := "optCounts", unfollowed := true, recurses := true, named := ["changeling/api.ErrBound", "changeling/api.ErrFull", "changeling/api.ErrShape", "changeling/api.ErrKind"], apart := false, laid := [("changeling/api.ErrBound", laid_changeling_api_ErrBound), ("changeling/api.ErrShape", laid_changeling_api_ErrShape), ("changeling/api.ErrKind", laid_changeling_api_ErrKind), ("changeling/api.ErrFull", laid_changeling_api_ErrFull)] }
def OptCountsSaid : Prop := optCountsRow.holds Tryd.pinned (OpenSpec.ofChange optCountsSpec)

/-- ITS FALSE NEIGHBOUR: 'it returns false'. Refute it at one input. -/
def optCountsWrong : ChangeSpec := { name := "optCounts", fn := fun _ => fun
  | [d1, d2] => { results := [.lit (.bool false)], args := [d1, d2] }
  | _ => none }
def OptCountsWrongFalsely : Prop := optCountsRow.holds Tryd.pinned (OpenSpec.ofChange optCountsWrong)

/-- 'changelinglaw3.OptAgain': WHATEVER THE INPUT: true; the input reads as it did. -/
def optAgainSpec : ChangeSpec := { name := "optAgain", fn := fun _ => fun
  | [d1, d2] => { results := [.lit (.bool true)], args := [d1, d2] }
  | _ => none }
def optAgainRow : OpenClaim := { program := "ytodchdghodbncaadoor", sum := "e3cd9c90246500813fd579712da599952239b944f077fb171dcea7bf45258690", func := "changeling/changelinglaw3.OptAgain", spec := "optAgain", unfollowed := true, recurses := true, named := ["changeling/api.ErrBound", "changeling/api.ErrFull", "changeling/api.ErrShape", "changeling/api.ErrKind"], apart := false, laid := [("changeling/api.ErrBound", laid_changeling_api_ErrBound), ("changeling/api.ErrShape", laid_changeling_api_ErrShape), ("changeling/api.ErrKind", laid_changeling_api_ErrKind), ("changeling/api.ErrFull", laid_changeling_api_ErrFull)] }
def OptAgainSaid : Prop := optAgainRow.holds Tryd.pinned (OpenSpec.ofChange optAgainSpec)

/-- ITS FALSE NEIGHBOUR: 'it returns false'. Refute it at one input. -/
def optAgainWrong : ChangeSpec := { name := "optAgain", fn := fun _ => fun
  | [d1, d2] => { results := [.lit (.bool false)], args := [d1, d2] }
  | _ => none }
def OptAgainWrongFalsely : Prop := optAgainRow.holds Tryd.pinned (OpenSpec.ofChange optAgainWrong)

/- THE SECOND FORM. 'bulk': how many values and letters a reading holds, each counted each time it is reached (what is shared counts as often as it is met; a slice's spare places count too). A statement '..UptoSaid' is the law's where the arguments, and the package variables that the reading takes, are together of bulk at most 1048576: NARROWER than '..Said'. Prove '..Said' where nothing that the law and all that it calls make is longer than what came in: it says more and counts as full. Else prove '..UptoSaid'. A law counts once. -/
mutual
def uptoBulk {H : Type} : DataW H → Nat
  | .lit (.string bytes) => bytes.length + 1
  | .lit _ => 1
  | .nil => 1
  | .ptr d => uptoBulk d + 1
  | .slice elems spare => uptoBulkAll elems + uptoBulkAll spare + 1
  | .agg parts => uptoBulkAll parts + 1
  | .iface _ d => uptoBulk d + 1
  | .map entries => uptoBulkEntries entries + 1
  | .held _ => 1
def uptoBulkAll {H : Type} : List (DataW H) → Nat
  | [] => 0
  | d :: r => uptoBulk d + uptoBulkAll r
def uptoBulkEntries {H : Type} : List (Lit × DataW H) → Nat
  | [] => 0
  | x :: r => uptoBulkEntry x + uptoBulkEntries r
def uptoBulkEntry {H : Type} : Lit × DataW H → Nat
  | (.string bytes, d) => bytes.length + uptoBulk d + 1
  | (_, d) => uptoBulk d + 1
 end
def uptoSmall : (H : Type) → List (DataW H) → Bool := fun _ ds => decide (uptoBulkAll ds ≤ 1048576)
def OpenSpec.upto (s : _root_.Go.ChangeSpec) : _root_.Go.OpenSpec := { _root_.Go.OpenSpec.ofChange s with cond := some uptoSmall }

/-- 'changelinglaw3.OptCounts', WHERE WHAT IT READS IS OF BULK AT MOST 1048576: true; the input reads as it did. -/
def optCountsUptoRow : OpenClaim := { program := "ytodchdghodbncaadoor", sum := "e3cd9c90246500813fd579712da599952239b944f077fb171dcea7bf45258690", func := "changeling/changelinglaw3.OptCounts", spec := "optCounts", unfollowed := true, recurses := true, named := ["changeling/api.ErrBound", "changeling/api.ErrFull", "changeling/api.ErrShape", "changeling/api.ErrKind"], apart := false, laid := [("changeling/api.ErrBound", laid_changeling_api_ErrBound), ("changeling/api.ErrShape", laid_changeling_api_ErrShape), ("changeling/api.ErrKind", laid_changeling_api_ErrKind), ("changeling/api.ErrFull", laid_changeling_api_ErrFull)], narrowed := true }
def OptCountsUptoSaid : Prop := optCountsUptoRow.holds Tryd.pinned (OpenSpec.upto optCountsSpec)

/-- 'changelinglaw3.OptAgain', WHERE WHAT IT READS IS OF BULK AT MOST 1048576: true; the input reads as it did. -/
def optAgainUptoRow : OpenClaim := { program := "ytodchdghodbncaadoor", sum := "e3cd9c90246500813fd579712da599952239b944f077fb171dcea7bf45258690", func := "changeling/changelinglaw3.OptAgain", spec := "optAgain", unfollowed := true, recurses := true, named := ["changeling/api.ErrBound", "changeling/api.ErrFull", "changeling/api.ErrShape", "changeling/api.ErrKind"], apart := false, laid := [("changeling/api.ErrBound", laid_changeling_api_ErrBound), ("changeling/api.ErrShape", laid_changeling_api_ErrShape), ("changeling/api.ErrKind", laid_changeling_api_ErrKind), ("changeling/api.ErrFull", laid_changeling_api_ErrFull)], narrowed := true }
def OptAgainUptoSaid : Prop := optAgainUptoRow.holds Tryd.pinned (OpenSpec.upto optAgainSpec)

end Rows
end Go.Proofs.YtodchdghodbncaaDoor
