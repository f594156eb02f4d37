/-
  NARROWER THAN 'FOR EVERY INPUT', by the rows' own cells (each row's printed sentence says how): CpuOne: laid · CpuSteps: laid · LowerEnds: laid · HostAll: laid.
  DERIVED. THE GIVEN ROWS OF THIS SEAT. 4 by the template 'for every input the law returns true; each argument reads behind the call as it read before'; 0 by the template 'total and deterministic' (their statements: YtflagpkmebdckaaGreatDoorTotals.lean).
  GIVEN WITH THE SEED: the statements are not yours to turn. If you find one false, say at which input.
  Laid BY PROGRAM, IN A SANDBOX (cutbox-rows.mjs): the forced cells as the released guide's own fill.sh prints them over the translation 5b20026b99d56122… (all of the seat's roots in one cut). By AI agents, Wed Nov 11 2026. No macro, syntax, notation, axiom, sorry.
-/
import Derived.Test.YtflagpkmebdckaaGreatDoorChecked
import GoSem.Claim
import GoSem.ClaimJoined
import GoSem.ClaimMapViews
import Derived.JoinedTies
import Derived.KernelRfl
namespace Go.Proofs.YtflagpkmebdckaaGreatDoor
/- THE CELL 'sum', in the pinned program and in every row, IS THE sha256 OF THE DUMP (.gsa) THAT YtflagpkmebdckaaGreatDoorProg.lean LOADS. Nothing in Lean hashes anything: it is a label: what it is worth is what the hold of that sum in a sandbox is worth. -/
noncomputable def Tryz.pinned : Pinned := { name := "ytflagpkmebdckaagreatdoor", sum := "5b20026b99d56122bf61e55c257527937a089dbc8a76325052f74095cd13ccde", checked := Tryz.checked }
namespace Rows
def none {H : Type} : Left H := { results := [], args := [] }

/- WHAT THE LISTED PACKAGE-LEVEL VARIABLES READ AS WHEN THE CALL BEGINS. Each datum BY PROGRAM (the guide's laid-datum.mjs) off the statement by which the dump's own 'gosem.cut.vars' lays the variable. In a bare row this is a premise. The card (YtflagpkmebdckaaGreatDoorCards.lean) ties it to the program's text. -/
def laid_changeling_api_ErrBound {H : Type} : DataW H := .iface "*errors.errorString" (.ptr (.agg [.lit (.string [99, 104, 97, 110, 103, 101, 108, 105, 110, 103, 58, 32, 98, 111, 117, 110, 100])]))
def laid_changeling_api_ErrShape {H : Type} : DataW H := .iface "*errors.errorString" (.ptr (.agg [.lit (.string [99, 104, 97, 110, 103, 101, 108, 105, 110, 103, 58, 32, 115, 104, 97, 112, 101])]))
def laid_changeling_api_ErrKind {H : Type} : DataW H := .iface "*errors.errorString" (.ptr (.agg [.lit (.string [99, 104, 97, 110, 103, 101, 108, 105, 110, 103, 58, 32, 107, 105, 110, 100])]))
def laid_changeling_api_ErrAlign {H : Type} : DataW H := .iface "*errors.errorString" (.ptr (.agg [.lit (.string [99, 104, 97, 110, 103, 101, 108, 105, 110, 103, 58, 32, 97, 108, 105, 103, 110])]))
def laid_changeling_api_ErrFar {H : Type} : DataW H := .iface "*errors.errorString" (.ptr (.agg [.lit (.string [99, 104, 97, 110, 103, 101, 108, 105, 110, 103, 58, 32, 102, 97, 114])]))
def laid_changeling_code_firsts {H : Type} : DataW H := .agg [.lit (.int .u32 0), .lit (.int .u32 0), .lit (.int .u32 2), .lit (.int .u32 3), .lit (.int .u32 4), .lit (.int .u32 6), .lit (.int .u32 7), .lit (.int .u32 8), .lit (.int .u32 9), .lit (.int .u32 12), .lit (.int .u32 13), .lit (.int .u32 16), .lit (.int .u32 17), .lit (.int .u32 18), .lit (.int .u32 19), .lit (.int .u32 24), .lit (.int .u32 25), .lit (.int .u32 26), .lit (.int .u32 27), .lit (.int .u32 32), .lit (.int .u32 33), .lit (.int .u32 34), .lit (.int .u32 35), .lit (.int .u32 36), .lit (.int .u32 37), .lit (.int .u32 38), .lit (.int .u32 39), .lit (.int .u32 42), .lit (.int .u32 43), .lit (.int .u32 134217728), .lit (.int .u32 201326592), .lit (.int .u32 268435456), .lit (.int .u32 335544320), .lit (.int .u32 402653184), .lit (.int .u32 469762048), .lit (.int .u32 536870912), .lit (.int .u32 603979776), .lit (.int .u32 671088640), .lit (.int .u32 738197504), .lit (.int .u32 805306368), .lit (.int .u32 872415232), .lit (.int .u32 939524096), .lit (.int .u32 1006632960), .lit (.int .u32 1073741824), .lit (.int .u32 1082130432), .lit (.int .u32 1107296280), .lit (.int .u32 2147483648), .lit (.int .u32 2214592512), .lit (.int .u32 2348810240), .lit (.int .u32 2415919104), .lit (.int .u32 2483027968), .lit (.int .u32 2684354560), .lit (.int .u32 2751463424), .lit (.int .u32 2885681152)]
def laid_errors_errorType {H : Type} : DataW H := .iface "internal/reflectlite.rtype" (.agg [.ptr (.lit (.string [101, 114, 114, 111, 114]))])
def laid_changeling_api_ErrText {H : Type} : DataW H := .iface "*errors.errorString" (.ptr (.agg [.lit (.string [99, 104, 97, 110, 103, 101, 108, 105, 110, 103, 58, 32, 116, 101, 120, 116])]))
def laid_changeling_api_ErrName {H : Type} : DataW H := .iface "*errors.errorString" (.ptr (.agg [.lit (.string [99, 104, 97, 110, 103, 101, 108, 105, 110, 103, 58, 32, 110, 97, 109, 101])]))
def laid_changeling_api_ErrNone {H : Type} : DataW H := .iface "*errors.errorString" (.ptr (.agg [.lit (.string [99, 104, 97, 110, 103, 101, 108, 105, 110, 103, 58, 32, 110, 111, 110, 101])]))
def laid_changeling_api_ErrExist {H : Type} : DataW H := .iface "*errors.errorString" (.ptr (.agg [.lit (.string [99, 104, 97, 110, 103, 101, 108, 105, 110, 103, 58, 32, 101, 120, 105, 115, 116])]))
def laid_changeling_api_ErrFull {H : Type} : DataW H := .iface "*errors.errorString" (.ptr (.agg [.lit (.string [99, 104, 97, 110, 103, 101, 108, 105, 110, 103, 58, 32, 102, 117, 108, 108])]))
def laid_changeling_plan_most {H : Type} : DataW H := .agg [.lit (.int .i64 3), .lit (.int .i64 1), .lit (.int .i64 1)]

/-- 'changelinglaw2.CpuOne': WHATEVER THE INPUT: true; the input reads as it did. -/
def cpuOneSpec : ChangeSpec := { name := "cpuOne", fn := fun _ => fun
  | [d1, d2, d3, d4] => { results := [.lit (.bool true)], args := [d1, d2, d3, d4] }
  | _ => none }
def cpuOneRow : OpenClaim := { program := "ytflagpkmebdckaagreatdoor", sum := "5b20026b99d56122bf61e55c257527937a089dbc8a76325052f74095cd13ccde", func := "changeling/changelinglaw2.CpuOne", spec := "cpuOne", unfollowed := true, recurses := true, named := ["changeling/api.ErrShape", "changeling/api.ErrAlign", "changeling/api.ErrFar", "changeling/code.firsts", "changeling/api.ErrKind", "changeling/api.ErrBound"], apart := false, laid := [("changeling/api.ErrBound", laid_changeling_api_ErrBound), ("changeling/api.ErrShape", laid_changeling_api_ErrShape), ("changeling/api.ErrKind", laid_changeling_api_ErrKind), ("changeling/api.ErrAlign", laid_changeling_api_ErrAlign), ("changeling/api.ErrFar", laid_changeling_api_ErrFar), ("changeling/code.firsts", laid_changeling_code_firsts)] }
def CpuOneSaid : Prop := cpuOneRow.holds Tryz.pinned (OpenSpec.ofChange cpuOneSpec)

/-- ITS FALSE NEIGHBOUR: 'it returns false'. Refute it at one input. -/
def cpuOneWrong : ChangeSpec := { name := "cpuOne", fn := fun _ => fun
  | [d1, d2, d3, d4] => { results := [.lit (.bool false)], args := [d1, d2, d3, d4] }
  | _ => none }
def CpuOneWrongFalsely : Prop := cpuOneRow.holds Tryz.pinned (OpenSpec.ofChange cpuOneWrong)

/-- 'changelinglaw2.CpuSteps': WHATEVER THE INPUT: true; the input reads as it did. -/
def cpuStepsSpec : ChangeSpec := { name := "cpuSteps", fn := fun _ => fun
  | [d1, d2, d3] => { results := [.lit (.bool true)], args := [d1, d2, d3] }
  | _ => none }
def cpuStepsRow : OpenClaim := { program := "ytflagpkmebdckaagreatdoor", sum := "5b20026b99d56122bf61e55c257527937a089dbc8a76325052f74095cd13ccde", func := "changeling/changelinglaw2.CpuSteps", spec := "cpuSteps", unfollowed := true, recurses := true, named := ["changeling/api.ErrShape", "changeling/api.ErrAlign", "changeling/api.ErrFar", "changeling/code.firsts", "changeling/api.ErrKind", "changeling/api.ErrBound"], apart := false, laid := [("changeling/api.ErrBound", laid_changeling_api_ErrBound), ("changeling/api.ErrShape", laid_changeling_api_ErrShape), ("changeling/api.ErrKind", laid_changeling_api_ErrKind), ("changeling/api.ErrAlign", laid_changeling_api_ErrAlign), ("changeling/api.ErrFar", laid_changeling_api_ErrFar), ("changeling/code.firsts", laid_changeling_code_firsts)] }
def CpuStepsSaid : Prop := cpuStepsRow.holds Tryz.pinned (OpenSpec.ofChange cpuStepsSpec)

/-- ITS FALSE NEIGHBOUR: 'it returns false'. Refute it at one input. -/
def cpuStepsWrong : ChangeSpec := { name := "cpuSteps", fn := fun _ => fun
  | [d1, d2, d3] => { results := [.lit (.bool false)], args := [d1, d2, d3] }
  | _ => none }
def CpuStepsWrongFalsely : Prop := cpuStepsRow.holds Tryz.pinned (OpenSpec.ofChange cpuStepsWrong)

/-- 'changelinglaw3.LowerEnds': WHATEVER THE INPUT: true; the input reads as it did. -/
def lowerEndsSpec : ChangeSpec := { name := "lowerEnds", fn := fun _ => fun
  | [d1, d2, d3] => { results := [.lit (.bool true)], args := [d1, d2, d3] }
  | _ => none }
def lowerEndsRow : OpenClaim := { program := "ytflagpkmebdckaagreatdoor", sum := "5b20026b99d56122bf61e55c257527937a089dbc8a76325052f74095cd13ccde", func := "changeling/changelinglaw3.LowerEnds", spec := "lowerEnds", inPlace := ["internal/reflectlite.ValueOf", "(internal/reflectlite.Value).Type", "(internal/reflectlite.Value).IsNil", "internal/reflectlite.TypeOf", "(internal/reflectlite.Value).Elem", "(internal/reflectlite.Value).Set"], unfollowed := true, recurses := true, named := ["changeling/api.ErrNone", "changeling/api.ErrBound", "changeling/api.ErrKind", "changeling/code.firsts", "changeling/api.ErrShape", "changeling/api.ErrFull", "changeling/api.ErrAlign", "changeling/api.ErrFar", "changeling/api.ErrText", "changeling/api.ErrName", "changeling/api.ErrExist", "errors.errorType"], apart := false, laid := [("errors.errorType", laid_errors_errorType), ("changeling/api.ErrText", laid_changeling_api_ErrText), ("changeling/api.ErrBound", laid_changeling_api_ErrBound), ("changeling/api.ErrShape", laid_changeling_api_ErrShape), ("changeling/api.ErrKind", laid_changeling_api_ErrKind), ("changeling/api.ErrName", laid_changeling_api_ErrName), ("changeling/api.ErrNone", laid_changeling_api_ErrNone), ("changeling/api.ErrExist", laid_changeling_api_ErrExist), ("changeling/api.ErrFull", laid_changeling_api_ErrFull), ("changeling/api.ErrAlign", laid_changeling_api_ErrAlign), ("changeling/api.ErrFar", laid_changeling_api_ErrFar), ("changeling/code.firsts", laid_changeling_code_firsts)] }
def LowerEndsSaid : Prop := lowerEndsRow.holds Tryz.pinned (OpenSpec.ofChange lowerEndsSpec)

/-- ITS FALSE NEIGHBOUR: 'it returns false'. Refute it at one input. -/
def lowerEndsWrong : ChangeSpec := { name := "lowerEnds", fn := fun _ => fun
  | [d1, d2, d3] => { results := [.lit (.bool false)], args := [d1, d2, d3] }
  | _ => none }
def LowerEndsWrongFalsely : Prop := lowerEndsRow.holds Tryz.pinned (OpenSpec.ofChange lowerEndsWrong)

/-- 'changelinglaw3.HostAll': WHATEVER THE INPUT: true; the input reads as it did. -/
def hostAllSpec : ChangeSpec := { name := "hostAll", fn := fun _ => fun
  | [d1, d2, d3, d4] => { results := [.lit (.bool true)], args := [d1, d2, d3, d4] }
  | _ => none }
def hostAllRow : OpenClaim := { program := "ytflagpkmebdckaagreatdoor", sum := "5b20026b99d56122bf61e55c257527937a089dbc8a76325052f74095cd13ccde", func := "changeling/changelinglaw3.HostAll", spec := "hostAll", unfollowed := true, recurses := true, named := ["changeling/api.ErrShape", "changeling/api.ErrBound", "changeling/api.ErrFull", "changeling/api.ErrExist", "changeling/api.ErrKind", "changeling/plan.most", "changeling/api.ErrAlign", "changeling/api.ErrFar", "changeling/api.ErrNone", "changeling/code.firsts"], apart := false, laid := [("changeling/api.ErrBound", laid_changeling_api_ErrBound), ("changeling/api.ErrShape", laid_changeling_api_ErrShape), ("changeling/api.ErrKind", laid_changeling_api_ErrKind), ("changeling/api.ErrNone", laid_changeling_api_ErrNone), ("changeling/api.ErrExist", laid_changeling_api_ErrExist), ("changeling/api.ErrFull", laid_changeling_api_ErrFull), ("changeling/api.ErrAlign", laid_changeling_api_ErrAlign), ("changeling/api.ErrFar", laid_changeling_api_ErrFar), ("changeling/code.firsts", laid_changeling_code_firsts), ("changeling/plan.most", laid_changeling_plan_most)] }
def HostAllSaid : Prop := hostAllRow.holds Tryz.pinned (OpenSpec.ofChange hostAllSpec)

/-- ITS FALSE NEIGHBOUR: 'it returns false'. Refute it at one input. -/
def hostAllWrong : ChangeSpec := { name := "hostAll", fn := fun _ => fun
  | [d1, d2, d3, d4] => { results := [.lit (.bool false)], args := [d1, d2, d3, d4] }
  | _ => none }
def HostAllWrongFalsely : Prop := hostAllRow.holds Tryz.pinned (OpenSpec.ofChange hostAllWrong)

/- THE SECOND FORM. 'bulk': how many values and letters a reading holds, each counted each time it is reached (what is shared counts as often as it is met; a slice's spare places count too). A statement '..UptoSaid' is the law's where the arguments, and the package variables that the reading takes, are together of bulk at most 1048576: NARROWER than '..Said'. Prove '..Said' where nothing that the law and all that it calls make is longer than what came in: it says more and counts as full. Else prove '..UptoSaid'. A law counts once. -/
mutual
def uptoBulk {H : Type} : DataW H → Nat
  | .lit (.string bytes) => bytes.length + 1
  | .lit _ => 1
  | .nil => 1
  | .ptr d => uptoBulk d + 1
  | .slice elems spare => uptoBulkAll elems + uptoBulkAll spare + 1
  | .agg parts => uptoBulkAll parts + 1
  | .iface _ d => uptoBulk d + 1
  | .map entries => uptoBulkEntries entries + 1
  | .held _ => 1
def uptoBulkAll {H : Type} : List (DataW H) → Nat
  | [] => 0
  | d :: r => uptoBulk d + uptoBulkAll r
def uptoBulkEntries {H : Type} : List (Lit × DataW H) → Nat
  | [] => 0
  | x :: r => uptoBulkEntry x + uptoBulkEntries r
def uptoBulkEntry {H : Type} : Lit × DataW H → Nat
  | (.string bytes, d) => bytes.length + uptoBulk d + 1
  | (_, d) => uptoBulk d + 1
 end
def uptoSmall : (H : Type) → List (DataW H) → Bool := fun _ ds => decide (uptoBulkAll ds ≤ 1048576)
def OpenSpec.upto (s : _root_.Go.ChangeSpec) : _root_.Go.OpenSpec := { _root_.Go.OpenSpec.ofChange s with cond := some uptoSmall }

/-- 'changelinglaw2.CpuOne', WHERE WHAT IT READS IS OF BULK AT MOST 1048576: true; the input reads as it did. -/
def cpuOneUptoRow : OpenClaim := { program := "ytflagpkmebdckaagreatdoor", sum := "5b20026b99d56122bf61e55c257527937a089dbc8a76325052f74095cd13ccde", func := "changeling/changelinglaw2.CpuOne", spec := "cpuOne", unfollowed := true, recurses := true, named := ["changeling/api.ErrShape", "changeling/api.ErrAlign", "changeling/api.ErrFar", "changeling/code.firsts", "changeling/api.ErrKind", "changeling/api.ErrBound"], apart := false, laid := [("changeling/api.ErrBound", laid_changeling_api_ErrBound), ("changeling/api.ErrShape", laid_changeling_api_ErrShape), ("changeling/api.ErrKind", laid_changeling_api_ErrKind), ("changeling/api.ErrAlign", laid_changeling_api_ErrAlign), ("changeling/api.ErrFar", laid_changeling_api_ErrFar), ("changeling/code.firsts", laid_changeling_code_firsts)], narrowed := true }
def CpuOneUptoSaid : Prop := cpuOneUptoRow.holds Tryz.pinned (OpenSpec.upto cpuOneSpec)

/-- 'changelinglaw2.CpuSteps', WHERE WHAT IT READS IS OF BULK AT MOST 1048576: true; the input reads as it did. -/
def cpuStepsUptoRow : OpenClaim := { program := "ytflagpkmebdckaagreatdoor", sum := "5b20026b99d56122bf61e55c257527937a089dbc8a76325052f74095cd13ccde", func := "changeling/changelinglaw2.CpuSteps", spec := "cpuSteps", unfollowed := true, recurses := true, named := ["changeling/api.ErrShape", "changeling/api.ErrAlign", "changeling/api.ErrFar", "changeling/code.firsts", "changeling/api.ErrKind", "changeling/api.ErrBound"], apart := false, laid := [("changeling/api.ErrBound", laid_changeling_api_ErrBound), ("changeling/api.ErrShape", laid_changeling_api_ErrShape), ("changeling/api.ErrKind", laid_changeling_api_ErrKind), ("changeling/api.ErrAlign", laid_changeling_api_ErrAlign), ("changeling/api.ErrFar", laid_changeling_api_ErrFar), ("changeling/code.firsts", laid_changeling_code_firsts)], narrowed := true }
def CpuStepsUptoSaid : Prop := cpuStepsUptoRow.holds Tryz.pinned (OpenSpec.upto cpuStepsSpec)

/-- 'changelinglaw3.LowerEnds', WHERE WHAT IT READS IS OF BULK AT MOST 1048576: true; the input reads as it did. -/
def lowerEndsUptoRow : OpenClaim := { program := "ytflagpkmebdckaagreatdoor", sum := "5b20026b99d56122bf61e55c257527937a089dbc8a76325052f74095cd13ccde", func := "changeling/changelinglaw3.LowerEnds", spec := "lowerEnds", inPlace := ["internal/reflectlite.ValueOf", "(internal/reflectlite.Value).Type", "(internal/reflectlite.Value).IsNil", "internal/reflectlite.TypeOf", "(internal/reflectlite.Value).Elem", "(internal/reflectlite.Value).Set"], unfollowed := true, recurses := true, named := ["changeling/api.ErrNone", "changeling/api.ErrBound", "changeling/api.ErrKind", "changeling/code.firsts", "changeling/api.ErrShape", "changeling/api.ErrFull", "changeling/api.ErrAlign", "changeling/api.ErrFar", "changeling/api.ErrText", "changeling/api.ErrName", "changeling/api.ErrExist", "errors.errorType"], apart := false, laid := [("errors.errorType", laid_errors_errorType), ("changeling/api.ErrText", laid_changeling_api_ErrText), ("changeling/api.ErrBound", laid_changeling_api_ErrBound), ("changeling/api.ErrShape", laid_changeling_api_ErrShape), ("changeling/api.ErrKind", laid_changeling_api_ErrKind), ("changeling/api.ErrName", laid_changeling_api_ErrName), ("changeling/api.ErrNone", laid_changeling_api_ErrNone), ("changeling/api.ErrExist", laid_changeling_api_ErrExist), ("changeling/api.ErrFull", laid_changeling_api_ErrFull), ("changeling/api.ErrAlign", laid_changeling_api_ErrAlign), ("changeling/api.ErrFar", laid_changeling_api_ErrFar), ("changeling/code.firsts", laid_changeling_code_firsts)], narrowed := true }
def LowerEndsUptoSaid : Prop := lowerEndsUptoRow.holds Tryz.pinned (OpenSpec.upto lowerEndsSpec)

/-- 'changelinglaw3.HostAll', WHERE WHAT IT READS IS OF BULK AT MOST 1048576: true; the input reads as it did. -/
def hostAllUptoRow : OpenClaim := { program := "ytflagpkmebdckaagreatdoor", sum := "5b20026b99d56122bf61e55c257527937a089dbc8a76325052f74095cd13ccde", func := "changeling/changelinglaw3.HostAll", spec := "hostAll", unfollowed := true, recurses := true, named := ["changeling/api.ErrShape", "changeling/api.ErrBound", "changeling/api.ErrFull", "changeling/api.ErrExist", "changeling/api.ErrKind", "changeling/plan.most", "changeling/api.ErrAlign", "changeling/api.ErrFar", "changeling/api.ErrNone", "changeling/code.firsts"], apart := false, laid := [("changeling/api.ErrBound", laid_changeling_api_ErrBound), ("changeling/api.ErrShape", laid_changeling_api_ErrShape), ("changeling/api.ErrKind", laid_changeling_api_ErrKind), ("changeling/api.ErrNone", laid_changeling_api_ErrNone), ("changeling/api.ErrExist", laid_changeling_api_ErrExist), ("changeling/api.ErrFull", laid_changeling_api_ErrFull), ("changeling/api.ErrAlign", laid_changeling_api_ErrAlign), ("changeling/api.ErrFar", laid_changeling_api_ErrFar), ("changeling/code.firsts", laid_changeling_code_firsts), ("changeling/plan.most", laid_changeling_plan_most)], narrowed := true }
def HostAllUptoSaid : Prop := hostAllUptoRow.holds Tryz.pinned (OpenSpec.upto hostAllSpec)

end Rows
end Go.Proofs.YtflagpkmebdckaaGreatDoor
