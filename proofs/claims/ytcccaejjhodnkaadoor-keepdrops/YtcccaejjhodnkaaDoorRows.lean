/-
  NARROWER THAN 'FOR EVERY INPUT', by the rows' own cells (each row's printed sentence says how): IrTraps: laid · OptCounts: laid · OptAgain: laid · KeepDrops: laid.
  DERIVED. THE GIVEN ROWS OF THIS SEAT. 4 by the template 'for every input the law returns true; each argument reads behind the call as it read before'; 0 by the template 'total and deterministic' (their statements: YtcccaejjhodnkaaDoorTotals.lean).
  GIVEN WITH THE SEED: the statements are not yours to turn. If you find one false, say at which input.
  Laid BY PROGRAM, IN A SANDBOX (cutbox-rows.mjs): the forced cells as the released guide's own fill.sh prints them over the translation b3acf080feba4cc6… (all of the seat's roots in one cut). By AI agents, Wed Nov 11 2026. No macro, syntax, notation, axiom, sorry.
-/
import Derived.Test.YtcccaejjhodnkaaDoorChecked
import GoSem.Claim
import GoSem.ClaimJoined
import GoSem.ClaimMapViews
import Derived.JoinedTies
import Derived.KernelRfl
namespace Go.Proofs.YtcccaejjhodnkaaDoor
/- THE CELL 'sum', in the pinned program and in every row, IS THE sha256 OF THE DUMP (.gsa) THAT YtcccaejjhodnkaaDoorProg.lean LOADS. Nothing in Lean hashes anything: it is a label: what it is worth is what the hold of that sum in a sandbox is worth. -/
noncomputable def Tryd.pinned : Pinned := { name := "ytcccaejjhodnkaadoor", sum := "b3acf080feba4cc65dc64256b4e4e2b6b5686b000f8babaaf99a786fb9b223d3", checked := Tryd.checked }
namespace Rows
def none {H : Type} : Left H := { results := [], args := [] }

/- WHAT THE LISTED PACKAGE-LEVEL VARIABLES READ AS WHEN THE CALL BEGINS. Each datum BY PROGRAM (the guide's laid-datum.mjs) off the statement by which the dump's own 'gosem.cut.vars' lays the variable. In a bare row this is a premise. The card (YtcccaejjhodnkaaDoorCards.lean) ties it to the program's text. -/
def laid_changeling_api_ErrBound {H : Type} : DataW H := .iface "*errors.errorString" (.ptr (.agg [.lit (.string [99, 104, 97, 110, 103, 101, 108, 105, 110, 103, 58, 32, 98, 111, 117, 110, 100])]))
def laid_changeling_api_ErrShape {H : Type} : DataW H := .iface "*errors.errorString" (.ptr (.agg [.lit (.string [99, 104, 97, 110, 103, 101, 108, 105, 110, 103, 58, 32, 115, 104, 97, 112, 101])]))
def laid_changeling_api_ErrKind {H : Type} : DataW H := .iface "*errors.errorString" (.ptr (.agg [.lit (.string [99, 104, 97, 110, 103, 101, 108, 105, 110, 103, 58, 32, 107, 105, 110, 100])]))
def laid_changeling_api_ErrFull {H : Type} : DataW H := .iface "*errors.errorString" (.ptr (.agg [.lit (.string [99, 104, 97, 110, 103, 101, 108, 105, 110, 103, 58, 32, 102, 117, 108, 108])]))
def laid_changeling_api_ErrAlign {H : Type} : DataW H := .iface "*errors.errorString" (.ptr (.agg [.lit (.string [99, 104, 97, 110, 103, 101, 108, 105, 110, 103, 58, 32, 97, 108, 105, 103, 110])]))
def laid_changeling_api_ErrFar {H : Type} : DataW H := .iface "*errors.errorString" (.ptr (.agg [.lit (.string [99, 104, 97, 110, 103, 101, 108, 105, 110, 103, 58, 32, 102, 97, 114])]))
def laid_changeling_api_ErrExist {H : Type} : DataW H := .iface "*errors.errorString" (.ptr (.agg [.lit (.string [99, 104, 97, 110, 103, 101, 108, 105, 110, 103, 58, 32, 101, 120, 105, 115, 116])]))
def laid_changeling_plan_most {H : Type} : DataW H := .agg [.lit (.int .i64 3), .lit (.int .i64 1), .lit (.int .i64 1)]

/-- 'changelinglaw3.IrTraps': WHATEVER THE INPUT: true; the input reads as it did. -/
def irTrapsSpec : ChangeSpec := { name := "irTraps", fn := fun _ => fun
  | [d1, d2, d3] => { results := [.lit (.bool true)], args := [d1, d2, d3] }
  | _ => none }
def irTrapsRow : OpenClaim := { program := "ytcccaejjhodnkaadoor", sum := "b3acf080feba4cc65dc64256b4e4e2b6b5686b000f8babaaf99a786fb9b223d3", func := "changeling/changelinglaw3.IrTraps", spec := "irTraps", unfollowed := true, recurses := true, named := ["changeling/api.ErrShape", "changeling/api.ErrBound", "changeling/api.ErrFull", "changeling/api.ErrKind", "changeling/api.ErrAlign", "changeling/api.ErrFar"], apart := false, laid := [("changeling/api.ErrBound", laid_changeling_api_ErrBound), ("changeling/api.ErrShape", laid_changeling_api_ErrShape), ("changeling/api.ErrKind", laid_changeling_api_ErrKind), ("changeling/api.ErrFull", laid_changeling_api_ErrFull), ("changeling/api.ErrAlign", laid_changeling_api_ErrAlign), ("changeling/api.ErrFar", laid_changeling_api_ErrFar)] }
def IrTrapsSaid : Prop := irTrapsRow.holds Tryd.pinned (OpenSpec.ofChange irTrapsSpec)

/-- ITS FALSE NEIGHBOUR: 'it returns false'. Refute it at one input. -/
def irTrapsWrong : ChangeSpec := { name := "irTraps", fn := fun _ => fun
  | [d1, d2, d3] => { results := [.lit (.bool false)], args := [d1, d2, d3] }
  | _ => none }
def IrTrapsWrongFalsely : Prop := irTrapsRow.holds Tryd.pinned (OpenSpec.ofChange irTrapsWrong)

/-- 'changelinglaw3.OptCounts': WHATEVER THE INPUT: true; the input reads as it did. -/
def optCountsSpec : ChangeSpec := { name := "optCounts", fn := fun _ => fun
  | [d1, d2] => { results := [.lit (.bool true)], args := [d1, d2] }
  | _ => none }
def optCountsRow : OpenClaim := { program := "ytcccaejjhodnkaadoor", sum := "b3acf080feba4cc65dc64256b4e4e2b6b5686b000f8babaaf99a786fb9b223d3", func := "changeling/changelinglaw3.OptCounts", spec := "optCounts", unfollowed := true, recurses := true, named := ["changeling/api.ErrBound", "changeling/api.ErrFull", "changeling/api.ErrShape", "changeling/api.ErrKind"], apart := false, laid := [("changeling/api.ErrBound", laid_changeling_api_ErrBound), ("changeling/api.ErrShape", laid_changeling_api_ErrShape), ("changeling/api.ErrKind", laid_changeling_api_ErrKind), ("changeling/api.ErrFull", laid_changeling_api_ErrFull)] }
def OptCountsSaid : Prop := optCountsRow.holds Tryd.pinned (OpenSpec.ofChange optCountsSpec)

/-- ITS FALSE NEIGHBOUR: 'it returns false'. Refute it at one input. -/
def optCountsWrong : ChangeSpec := { name := "optCounts", fn := fun _ => fun
  | [d1, d2] => { results := [.lit (.bool false)], args := [d1, d2] }
  | _ => none }
def OptCountsWrongFalsely : Prop := optCountsRow.holds Tryd.pinned (OpenSpec.ofChange optCountsWrong)

/-- 'changelinglaw3.OptAgain': WHATEVER THE INPUT: true; the input reads as it did. -/
def optAgainSpec : ChangeSpec := { name := "optAgain", fn := fun _ => fun
  | [d1, d2] => { results := [.lit (.bool true)], args := [d1, d2] }
  | _ => none }
def optAgainRow : OpenClaim := { program := "ytcccaejjhodnkaadoor", sum := "b3acf080feba4cc65dc64256b4e4e2b6b5686b000f8babaaf99a786fb9b223d3", func := "changeling/changelinglaw3.OptAgain", spec := "optAgain", unfollowed := true, recurses := true, named := ["changeling/api.ErrBound", "changeling/api.ErrFull", "changeling/api.ErrShape", "changeling/api.ErrKind"], apart := false, laid := [("changeling/api.ErrBound", laid_changeling_api_ErrBound), ("changeling/api.ErrShape", laid_changeling_api_ErrShape), ("changeling/api.ErrKind", laid_changeling_api_ErrKind), ("changeling/api.ErrFull", laid_changeling_api_ErrFull)] }
def OptAgainSaid : Prop := optAgainRow.holds Tryd.pinned (OpenSpec.ofChange optAgainSpec)

/-- ITS FALSE NEIGHBOUR: 'it returns false'. Refute it at one input. -/
def optAgainWrong : ChangeSpec := { name := "optAgain", fn := fun _ => fun
  | [d1, d2] => { results := [.lit (.bool false)], args := [d1, d2] }
  | _ => none }
def OptAgainWrongFalsely : Prop := optAgainRow.holds Tryd.pinned (OpenSpec.ofChange optAgainWrong)

/-- 'changelinglaw3.KeepDrops': WHATEVER THE INPUT: true; the input reads as it did. -/
def keepDropsSpec : ChangeSpec := { name := "keepDrops", fn := fun _ => fun
  | [d1, d2, d3] => { results := [.lit (.bool true)], args := [d1, d2, d3] }
  | _ => none }
def keepDropsRow : OpenClaim := { program := "ytcccaejjhodnkaadoor", sum := "b3acf080feba4cc65dc64256b4e4e2b6b5686b000f8babaaf99a786fb9b223d3", func := "changeling/changelinglaw3.KeepDrops", spec := "keepDrops", unfollowed := true, recurses := true, named := ["changeling/api.ErrBound", "changeling/api.ErrFull", "changeling/api.ErrShape", "changeling/api.ErrExist", "changeling/api.ErrKind", "changeling/plan.most"], apart := false, laid := [("changeling/api.ErrBound", laid_changeling_api_ErrBound), ("changeling/api.ErrShape", laid_changeling_api_ErrShape), ("changeling/api.ErrKind", laid_changeling_api_ErrKind), ("changeling/api.ErrExist", laid_changeling_api_ErrExist), ("changeling/api.ErrFull", laid_changeling_api_ErrFull), ("changeling/plan.most", laid_changeling_plan_most)] }
def KeepDropsSaid : Prop := keepDropsRow.holds Tryd.pinned (OpenSpec.ofChange keepDropsSpec)

/-- ITS FALSE NEIGHBOUR: 'it returns false'. Refute it at one input. -/
def keepDropsWrong : ChangeSpec := { name := "keepDrops", fn := fun _ => fun
  | [d1, d2, d3] => { results := [.lit (.bool false)], args := [d1, d2, d3] }
  | _ => none }
def KeepDropsWrongFalsely : Prop := keepDropsRow.holds Tryd.pinned (OpenSpec.ofChange keepDropsWrong)

/- THE SECOND FORM. 'bulk': how many values and letters a reading holds, each counted each time it is reached (what is shared counts as often as it is met; a slice's spare places count too). A statement '..UptoSaid' is the law's where the arguments, and the package variables that the reading takes, are together of bulk at most 1048576: NARROWER than '..Said'. Prove '..Said' where nothing that the law and all that it calls make is longer than what came in: it says more and counts as full. Else prove '..UptoSaid'. A law counts once. -/
mutual
def uptoBulk {H : Type} : DataW H → Nat
  | .lit (.string bytes) => bytes.length + 1
  | .lit _ => 1
  | .nil => 1
  | .ptr d => uptoBulk d + 1
  | .slice elems spare => uptoBulkAll elems + uptoBulkAll spare + 1
  | .agg parts => uptoBulkAll parts + 1
  | .iface _ d => uptoBulk d + 1
  | .map entries => uptoBulkEntries entries + 1
  | .held _ => 1
def uptoBulkAll {H : Type} : List (DataW H) → Nat
  | [] => 0
  | d :: r => uptoBulk d + uptoBulkAll r
def uptoBulkEntries {H : Type} : List (Lit × DataW H) → Nat
  | [] => 0
  | x :: r => uptoBulkEntry x + uptoBulkEntries r
def uptoBulkEntry {H : Type} : Lit × DataW H → Nat
  | (.string bytes, d) => bytes.length + uptoBulk d + 1
  | (_, d) => uptoBulk d + 1
 end
def uptoSmall : (H : Type) → List (DataW H) → Bool := fun _ ds => decide (uptoBulkAll ds ≤ 1048576)
def OpenSpec.upto (s : _root_.Go.ChangeSpec) : _root_.Go.OpenSpec := { _root_.Go.OpenSpec.ofChange s with cond := some uptoSmall }

/-- 'changelinglaw3.IrTraps', WHERE WHAT IT READS IS OF BULK AT MOST 1048576: true; the input reads as it did. -/
def irTrapsUptoRow : OpenClaim := { program := "ytcccaejjhodnkaadoor", sum := "b3acf080feba4cc65dc64256b4e4e2b6b5686b000f8babaaf99a786fb9b223d3", func := "changeling/changelinglaw3.IrTraps", spec := "irTraps", unfollowed := true, recurses := true, named := ["changeling/api.ErrShape", "changeling/api.ErrBound", "changeling/api.ErrFull", "changeling/api.ErrKind", "changeling/api.ErrAlign", "changeling/api.ErrFar"], apart := false, laid := [("changeling/api.ErrBound", laid_changeling_api_ErrBound), ("changeling/api.ErrShape", laid_changeling_api_ErrShape), ("changeling/api.ErrKind", laid_changeling_api_ErrKind), ("changeling/api.ErrFull", laid_changeling_api_ErrFull), ("changeling/api.ErrAlign", laid_changeling_api_ErrAlign), ("changeling/api.ErrFar", laid_changeling_api_ErrFar)], narrowed := true }
def IrTrapsUptoSaid : Prop := irTrapsUptoRow.holds Tryd.pinned (OpenSpec.upto irTrapsSpec)

/-- 'changelinglaw3.OptCounts', WHERE WHAT IT READS IS OF BULK AT MOST 1048576: true; the input reads as it did. -/
def optCountsUptoRow : OpenClaim := { program := "ytcccaejjhodnkaadoor", sum := "b3acf080feba4cc65dc64256b4e4e2b6b5686b000f8babaaf99a786fb9b223d3", func := "changeling/changelinglaw3.OptCounts", spec := "optCounts", unfollowed := true, recurses := true, named := ["changeling/api.ErrBound", "changeling/api.ErrFull", "changeling/api.ErrShape", "changeling/api.ErrKind"], apart := false, laid := [("changeling/api.ErrBound", laid_changeling_api_ErrBound), ("changeling/api.ErrShape", laid_changeling_api_ErrShape), ("changeling/api.ErrKind", laid_changeling_api_ErrKind), ("changeling/api.ErrFull", laid_changeling_api_ErrFull)], narrowed := true }
def OptCountsUptoSaid : Prop := optCountsUptoRow.holds Tryd.pinned (OpenSpec.upto optCountsSpec)

/-- 'changelinglaw3.OptAgain', WHERE WHAT IT READS IS OF BULK AT MOST 1048576: true; the input reads as it did. -/
def optAgainUptoRow : OpenClaim := { program := "ytcccaejjhodnkaadoor", sum := "b3acf080feba4cc65dc64256b4e4e2b6b5686b000f8babaaf99a786fb9b223d3", func := "changeling/changelinglaw3.OptAgain", spec := "optAgain", unfollowed := true, recurses := true, named := ["changeling/api.ErrBound", "changeling/api.ErrFull", "changeling/api.ErrShape", "changeling/api.ErrKind"], apart := false, laid := [("changeling/api.ErrBound", laid_changeling_api_ErrBound), ("changeling/api.ErrShape", laid_changeling_api_ErrShape), ("changeling/api.ErrKind", laid_changeling_api_ErrKind), ("changeling/api.ErrFull", laid_changeling_api_ErrFull)], narrowed := true }
def OptAgainUptoSaid : Prop := optAgainUptoRow.holds Tryd.pinned (OpenSpec.upto optAgainSpec)

/-- 'changelinglaw3.KeepDrops', WHERE WHAT IT READS IS OF BULK AT MOST 1048576: true; the input reads as it did. -/
def keepDropsUptoRow : OpenClaim := { program := "ytcccaejjhodnkaadoor", sum := "b3acf080feba4cc65dc64256b4e4e2b6b5686b000f8babaaf99a786fb9b223d3", func := "changeling/changelinglaw3.KeepDrops", spec := "keepDrops", unfollowed := true, recurses := true, named := ["changeling/api.ErrBound", "changeling/api.ErrFull", "changeling/api.ErrShape", "changeling/api.ErrExist", "changeling/api.ErrKind", "changeling/plan.most"], apart := false, laid := [("changeling/api.ErrBound", laid_changeling_api_ErrBound), ("changeling/api.ErrShape", laid_changeling_api_ErrShape), ("changeling/api.ErrKind", laid_changeling_api_ErrKind), ("changeling/api.ErrExist", laid_changeling_api_ErrExist), ("changeling/api.ErrFull", laid_changeling_api_ErrFull), ("changeling/plan.most", laid_changeling_plan_most)], narrowed := true }
def KeepDropsUptoSaid : Prop := keepDropsUptoRow.holds Tryd.pinned (OpenSpec.upto keepDropsSpec)

end Rows
end Go.Proofs.YtcccaejjhodnkaaDoor
