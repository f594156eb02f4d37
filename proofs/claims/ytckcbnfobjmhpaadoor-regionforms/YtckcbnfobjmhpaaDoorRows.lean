/-
  NARROWER THAN 'FOR EVERY INPUT', by the rows' own cells (each row's printed sentence says how): CpuGoes: laid · CpuTakes: laid · CpuWaits: laid · RegionForms: laid · RegionStands: laid · RegionJoins: laid.
  DERIVED. THE GIVEN ROWS OF THIS SEAT. 6 by the template 'for every input the law returns true; each argument reads behind the call as it read before'; 0 by the template 'total and deterministic' (their statements: YtckcbnfobjmhpaaDoorTotals.lean).
  GIVEN WITH THE SEED: the statements are not yours to turn. If you find one false, say at which input.
  Laid BY PROGRAM, IN A SANDBOX (cutbox-rows.mjs): the forced cells as the released guide's own fill.sh prints them over the translation b5a3e6697309f5fa… (all of the seat's roots in one cut). By AI agents, Wed Nov 11 2026. No macro, syntax, notation, axiom, sorry.
-/
import Derived.Test.YtckcbnfobjmhpaaDoorChecked
import GoSem.Claim
import GoSem.ClaimJoined
import GoSem.ClaimMapViews
import Derived.JoinedTies
import Derived.KernelRfl
namespace Go.Proofs.YtckcbnfobjmhpaaDoor
/- THE CELL 'sum', in the pinned program and in every row, IS THE sha256 OF THE DUMP (.gsa) THAT YtckcbnfobjmhpaaDoorProg.lean LOADS. Nothing in Lean hashes anything: it is a label: what it is worth is what the hold of that sum in a sandbox is worth. -/
noncomputable def Tryd.pinned : Pinned := { name := "ytckcbnfobjmhpaadoor", sum := "b5a3e6697309f5fa1e0caa6edd424ca47e0a713e6865926846404ab7edb01609", checked := Tryd.checked }
namespace Rows
def none {H : Type} : Left H := { results := [], args := [] }

/- WHAT THE LISTED PACKAGE-LEVEL VARIABLES READ AS WHEN THE CALL BEGINS. Each datum BY PROGRAM (the guide's laid-datum.mjs) off the statement by which the dump's own 'gosem.cut.vars' lays the variable. In a bare row this is a premise. The card (YtckcbnfobjmhpaaDoorCards.lean) ties it to the program's text. -/
def laid_changeling_api_ErrBound {H : Type} : DataW H := .iface "*errors.errorString" (.ptr (.agg [.lit (.string [99, 104, 97, 110, 103, 101, 108, 105, 110, 103, 58, 32, 98, 111, 117, 110, 100])]))
def laid_changeling_api_ErrShape {H : Type} : DataW H := .iface "*errors.errorString" (.ptr (.agg [.lit (.string [99, 104, 97, 110, 103, 101, 108, 105, 110, 103, 58, 32, 115, 104, 97, 112, 101])]))
def laid_changeling_api_ErrKind {H : Type} : DataW H := .iface "*errors.errorString" (.ptr (.agg [.lit (.string [99, 104, 97, 110, 103, 101, 108, 105, 110, 103, 58, 32, 107, 105, 110, 100])]))
def laid_changeling_api_ErrAlign {H : Type} : DataW H := .iface "*errors.errorString" (.ptr (.agg [.lit (.string [99, 104, 97, 110, 103, 101, 108, 105, 110, 103, 58, 32, 97, 108, 105, 103, 110])]))
def laid_changeling_api_ErrFar {H : Type} : DataW H := .iface "*errors.errorString" (.ptr (.agg [.lit (.string [99, 104, 97, 110, 103, 101, 108, 105, 110, 103, 58, 32, 102, 97, 114])]))
def laid_changeling_code_firsts {H : Type} : DataW H := .agg [.lit (.int .u32 0), .lit (.int .u32 0), .lit (.int .u32 2), .lit (.int .u32 3), .lit (.int .u32 4), .lit (.int .u32 6), .lit (.int .u32 7), .lit (.int .u32 8), .lit (.int .u32 9), .lit (.int .u32 12), .lit (.int .u32 13), .lit (.int .u32 16), .lit (.int .u32 17), .lit (.int .u32 18), .lit (.int .u32 19), .lit (.int .u32 24), .lit (.int .u32 25), .lit (.int .u32 26), .lit (.int .u32 27), .lit (.int .u32 32), .lit (.int .u32 33), .lit (.int .u32 34), .lit (.int .u32 35), .lit (.int .u32 36), .lit (.int .u32 37), .lit (.int .u32 38), .lit (.int .u32 39), .lit (.int .u32 42), .lit (.int .u32 43), .lit (.int .u32 134217728), .lit (.int .u32 201326592), .lit (.int .u32 268435456), .lit (.int .u32 335544320), .lit (.int .u32 402653184), .lit (.int .u32 469762048), .lit (.int .u32 536870912), .lit (.int .u32 603979776), .lit (.int .u32 671088640), .lit (.int .u32 738197504), .lit (.int .u32 805306368), .lit (.int .u32 872415232), .lit (.int .u32 939524096), .lit (.int .u32 1006632960), .lit (.int .u32 1073741824), .lit (.int .u32 1082130432), .lit (.int .u32 1107296280), .lit (.int .u32 2147483648), .lit (.int .u32 2214592512), .lit (.int .u32 2348810240), .lit (.int .u32 2415919104), .lit (.int .u32 2483027968), .lit (.int .u32 2684354560), .lit (.int .u32 2751463424), .lit (.int .u32 2885681152)]
def laid_errors_errorType {H : Type} : DataW H := .iface "internal/reflectlite.rtype" (.agg [.ptr (.lit (.string [101, 114, 114, 111, 114]))])
def laid_changeling_api_ErrText {H : Type} : DataW H := .iface "*errors.errorString" (.ptr (.agg [.lit (.string [99, 104, 97, 110, 103, 101, 108, 105, 110, 103, 58, 32, 116, 101, 120, 116])]))
def laid_changeling_api_ErrName {H : Type} : DataW H := .iface "*errors.errorString" (.ptr (.agg [.lit (.string [99, 104, 97, 110, 103, 101, 108, 105, 110, 103, 58, 32, 110, 97, 109, 101])]))
def laid_changeling_api_ErrNone {H : Type} : DataW H := .iface "*errors.errorString" (.ptr (.agg [.lit (.string [99, 104, 97, 110, 103, 101, 108, 105, 110, 103, 58, 32, 110, 111, 110, 101])]))
def laid_changeling_api_ErrExist {H : Type} : DataW H := .iface "*errors.errorString" (.ptr (.agg [.lit (.string [99, 104, 97, 110, 103, 101, 108, 105, 110, 103, 58, 32, 101, 120, 105, 115, 116])]))
def laid_changeling_api_ErrFull {H : Type} : DataW H := .iface "*errors.errorString" (.ptr (.agg [.lit (.string [99, 104, 97, 110, 103, 101, 108, 105, 110, 103, 58, 32, 102, 117, 108, 108])]))

/-- 'changelinglaw2.CpuGoes': WHATEVER THE INPUT: true; the input reads as it did. -/
def cpuGoesSpec : ChangeSpec := { name := "cpuGoes", fn := fun _ => fun
  | [d1, d2, d3, d4] => { results := [.lit (.bool true)], args := [d1, d2, d3, d4] }
  | _ => none }
def cpuGoesRow : OpenClaim := { program := "ytckcbnfobjmhpaadoor", sum := "b5a3e6697309f5fa1e0caa6edd424ca47e0a713e6865926846404ab7edb01609", func := "changeling/changelinglaw2.CpuGoes", spec := "cpuGoes", unfollowed := true, recurses := true, named := ["changeling/api.ErrShape", "changeling/api.ErrAlign", "changeling/api.ErrFar", "changeling/code.firsts", "changeling/api.ErrKind", "changeling/api.ErrBound"], apart := false, laid := [("changeling/api.ErrBound", laid_changeling_api_ErrBound), ("changeling/api.ErrShape", laid_changeling_api_ErrShape), ("changeling/api.ErrKind", laid_changeling_api_ErrKind), ("changeling/api.ErrAlign", laid_changeling_api_ErrAlign), ("changeling/api.ErrFar", laid_changeling_api_ErrFar), ("changeling/code.firsts", laid_changeling_code_firsts)] }
def CpuGoesSaid : Prop := cpuGoesRow.holds Tryd.pinned (OpenSpec.ofChange cpuGoesSpec)

/-- ITS FALSE NEIGHBOUR: 'it returns false'. Refute it at one input. -/
def cpuGoesWrong : ChangeSpec := { name := "cpuGoes", fn := fun _ => fun
  | [d1, d2, d3, d4] => { results := [.lit (.bool false)], args := [d1, d2, d3, d4] }
  | _ => none }
def CpuGoesWrongFalsely : Prop := cpuGoesRow.holds Tryd.pinned (OpenSpec.ofChange cpuGoesWrong)

/-- 'changelinglaw2.CpuTakes': WHATEVER THE INPUT: true; the input reads as it did. -/
def cpuTakesSpec : ChangeSpec := { name := "cpuTakes", fn := fun _ => fun
  | [d1, d2, d3] => { results := [.lit (.bool true)], args := [d1, d2, d3] }
  | _ => none }
def cpuTakesRow : OpenClaim := { program := "ytckcbnfobjmhpaadoor", sum := "b5a3e6697309f5fa1e0caa6edd424ca47e0a713e6865926846404ab7edb01609", func := "changeling/changelinglaw2.CpuTakes", spec := "cpuTakes", unfollowed := true, recurses := true, named := ["changeling/api.ErrShape", "changeling/api.ErrAlign", "changeling/api.ErrFar", "changeling/code.firsts", "changeling/api.ErrKind", "changeling/api.ErrBound"], apart := false, laid := [("changeling/api.ErrBound", laid_changeling_api_ErrBound), ("changeling/api.ErrShape", laid_changeling_api_ErrShape), ("changeling/api.ErrKind", laid_changeling_api_ErrKind), ("changeling/api.ErrAlign", laid_changeling_api_ErrAlign), ("changeling/api.ErrFar", laid_changeling_api_ErrFar), ("changeling/code.firsts", laid_changeling_code_firsts)] }
def CpuTakesSaid : Prop := cpuTakesRow.holds Tryd.pinned (OpenSpec.ofChange cpuTakesSpec)

/-- ITS FALSE NEIGHBOUR: 'it returns false'. Refute it at one input. -/
def cpuTakesWrong : ChangeSpec := { name := "cpuTakes", fn := fun _ => fun
  | [d1, d2, d3] => { results := [.lit (.bool false)], args := [d1, d2, d3] }
  | _ => none }
def CpuTakesWrongFalsely : Prop := cpuTakesRow.holds Tryd.pinned (OpenSpec.ofChange cpuTakesWrong)

/-- 'changelinglaw2.CpuWaits': WHATEVER THE INPUT: true; the input reads as it did. -/
def cpuWaitsSpec : ChangeSpec := { name := "cpuWaits", fn := fun _ => fun
  | [d1, d2, d3] => { results := [.lit (.bool true)], args := [d1, d2, d3] }
  | _ => none }
def cpuWaitsRow : OpenClaim := { program := "ytckcbnfobjmhpaadoor", sum := "b5a3e6697309f5fa1e0caa6edd424ca47e0a713e6865926846404ab7edb01609", func := "changeling/changelinglaw2.CpuWaits", spec := "cpuWaits", unfollowed := true, recurses := true, named := ["changeling/api.ErrShape", "changeling/api.ErrAlign", "changeling/api.ErrFar", "changeling/code.firsts", "changeling/api.ErrKind", "changeling/api.ErrBound"], apart := false, laid := [("changeling/api.ErrBound", laid_changeling_api_ErrBound), ("changeling/api.ErrShape", laid_changeling_api_ErrShape), ("changeling/api.ErrKind", laid_changeling_api_ErrKind), ("changeling/api.ErrAlign", laid_changeling_api_ErrAlign), ("changeling/api.ErrFar", laid_changeling_api_ErrFar), ("changeling/code.firsts", laid_changeling_code_firsts)] }
def CpuWaitsSaid : Prop := cpuWaitsRow.holds Tryd.pinned (OpenSpec.ofChange cpuWaitsSpec)

/-- ITS FALSE NEIGHBOUR: 'it returns false'. Refute it at one input. -/
def cpuWaitsWrong : ChangeSpec := { name := "cpuWaits", fn := fun _ => fun
  | [d1, d2, d3] => { results := [.lit (.bool false)], args := [d1, d2, d3] }
  | _ => none }
def CpuWaitsWrongFalsely : Prop := cpuWaitsRow.holds Tryd.pinned (OpenSpec.ofChange cpuWaitsWrong)

/-- 'changelinglaw2.RegionForms': WHATEVER THE INPUT: true; the input reads as it did. -/
def regionFormsSpec : ChangeSpec := { name := "regionForms", fn := fun _ => fun
  | [d1, d2, d3] => { results := [.lit (.bool true)], args := [d1, d2, d3] }
  | _ => none }
def regionFormsRow : OpenClaim := { program := "ytckcbnfobjmhpaadoor", sum := "b5a3e6697309f5fa1e0caa6edd424ca47e0a713e6865926846404ab7edb01609", func := "changeling/changelinglaw2.RegionForms", spec := "regionForms", inPlace := ["internal/reflectlite.ValueOf", "(internal/reflectlite.Value).Type", "(internal/reflectlite.Value).IsNil", "internal/reflectlite.TypeOf", "(internal/reflectlite.Value).Elem", "(internal/reflectlite.Value).Set"], unfollowed := true, recurses := true, named := ["changeling/api.ErrNone", "changeling/api.ErrShape", "changeling/api.ErrBound", "changeling/api.ErrAlign", "changeling/api.ErrFar", "changeling/code.firsts", "changeling/api.ErrKind", "changeling/api.ErrText", "changeling/api.ErrName", "changeling/api.ErrExist", "changeling/api.ErrFull", "errors.errorType"], apart := false, laid := [("errors.errorType", laid_errors_errorType), ("changeling/api.ErrText", laid_changeling_api_ErrText), ("changeling/api.ErrBound", laid_changeling_api_ErrBound), ("changeling/api.ErrShape", laid_changeling_api_ErrShape), ("changeling/api.ErrKind", laid_changeling_api_ErrKind), ("changeling/api.ErrName", laid_changeling_api_ErrName), ("changeling/api.ErrNone", laid_changeling_api_ErrNone), ("changeling/api.ErrExist", laid_changeling_api_ErrExist), ("changeling/api.ErrFull", laid_changeling_api_ErrFull), ("changeling/api.ErrAlign", laid_changeling_api_ErrAlign), ("changeling/api.ErrFar", laid_changeling_api_ErrFar), ("changeling/code.firsts", laid_changeling_code_firsts)] }
def RegionFormsSaid : Prop := regionFormsRow.holds Tryd.pinned (OpenSpec.ofChange regionFormsSpec)

/-- ITS FALSE NEIGHBOUR: 'it returns false'. Refute it at one input. -/
def regionFormsWrong : ChangeSpec := { name := "regionForms", fn := fun _ => fun
  | [d1, d2, d3] => { results := [.lit (.bool false)], args := [d1, d2, d3] }
  | _ => none }
def RegionFormsWrongFalsely : Prop := regionFormsRow.holds Tryd.pinned (OpenSpec.ofChange regionFormsWrong)

/-- 'changelinglaw2.RegionStands': WHATEVER THE INPUT: true; the input reads as it did. -/
def regionStandsSpec : ChangeSpec := { name := "regionStands", fn := fun _ => fun
  | [d1, d2, d3] => { results := [.lit (.bool true)], args := [d1, d2, d3] }
  | _ => none }
def regionStandsRow : OpenClaim := { program := "ytckcbnfobjmhpaadoor", sum := "b5a3e6697309f5fa1e0caa6edd424ca47e0a713e6865926846404ab7edb01609", func := "changeling/changelinglaw2.RegionStands", spec := "regionStands", unfollowed := true, recurses := true, named := ["changeling/api.ErrNone", "changeling/api.ErrShape", "changeling/api.ErrBound", "changeling/api.ErrAlign", "changeling/api.ErrFar", "changeling/code.firsts", "changeling/api.ErrKind"], apart := false, laid := [("changeling/api.ErrBound", laid_changeling_api_ErrBound), ("changeling/api.ErrShape", laid_changeling_api_ErrShape), ("changeling/api.ErrKind", laid_changeling_api_ErrKind), ("changeling/api.ErrNone", laid_changeling_api_ErrNone), ("changeling/api.ErrAlign", laid_changeling_api_ErrAlign), ("changeling/api.ErrFar", laid_changeling_api_ErrFar), ("changeling/code.firsts", laid_changeling_code_firsts)] }
def RegionStandsSaid : Prop := regionStandsRow.holds Tryd.pinned (OpenSpec.ofChange regionStandsSpec)

/-- ITS FALSE NEIGHBOUR: 'it returns false'. Refute it at one input. -/
def regionStandsWrong : ChangeSpec := { name := "regionStands", fn := fun _ => fun
  | [d1, d2, d3] => { results := [.lit (.bool false)], args := [d1, d2, d3] }
  | _ => none }
def RegionStandsWrongFalsely : Prop := regionStandsRow.holds Tryd.pinned (OpenSpec.ofChange regionStandsWrong)

/-- 'changelinglaw2.RegionJoins': WHATEVER THE INPUT: true; the input reads as it did. -/
def regionJoinsSpec : ChangeSpec := { name := "regionJoins", fn := fun _ => fun
  | [d1, d2, d3] => { results := [.lit (.bool true)], args := [d1, d2, d3] }
  | _ => none }
def regionJoinsRow : OpenClaim := { program := "ytckcbnfobjmhpaadoor", sum := "b5a3e6697309f5fa1e0caa6edd424ca47e0a713e6865926846404ab7edb01609", func := "changeling/changelinglaw2.RegionJoins", spec := "regionJoins", unfollowed := true, recurses := true, named := ["changeling/api.ErrNone", "changeling/api.ErrShape", "changeling/api.ErrBound", "changeling/api.ErrAlign", "changeling/api.ErrFar", "changeling/code.firsts", "changeling/api.ErrKind"], apart := false, laid := [("changeling/api.ErrBound", laid_changeling_api_ErrBound), ("changeling/api.ErrShape", laid_changeling_api_ErrShape), ("changeling/api.ErrKind", laid_changeling_api_ErrKind), ("changeling/api.ErrNone", laid_changeling_api_ErrNone), ("changeling/api.ErrAlign", laid_changeling_api_ErrAlign), ("changeling/api.ErrFar", laid_changeling_api_ErrFar), ("changeling/code.firsts", laid_changeling_code_firsts)] }
def RegionJoinsSaid : Prop := regionJoinsRow.holds Tryd.pinned (OpenSpec.ofChange regionJoinsSpec)

/-- ITS FALSE NEIGHBOUR: 'it returns false'. Refute it at one input. -/
def regionJoinsWrong : ChangeSpec := { name := "regionJoins", fn := fun _ => fun
  | [d1, d2, d3] => { results := [.lit (.bool false)], args := [d1, d2, d3] }
  | _ => none }
def RegionJoinsWrongFalsely : Prop := regionJoinsRow.holds Tryd.pinned (OpenSpec.ofChange regionJoinsWrong)

/- THE SECOND FORM. 'bulk': how many values and letters a reading holds, each counted each time it is reached (what is shared counts as often as it is met; a slice's spare places count too). A statement '..UptoSaid' is the law's where the arguments, and the package variables that the reading takes, are together of bulk at most 1048576: NARROWER than '..Said'. Prove '..Said' where nothing that the law and all that it calls make is longer than what came in: it says more and counts as full. Else prove '..UptoSaid'. A law counts once. -/
mutual
def uptoBulk {H : Type} : DataW H → Nat
  | .lit (.string bytes) => bytes.length + 1
  | .lit _ => 1
  | .nil => 1
  | .ptr d => uptoBulk d + 1
  | .slice elems spare => uptoBulkAll elems + uptoBulkAll spare + 1
  | .agg parts => uptoBulkAll parts + 1
  | .iface _ d => uptoBulk d + 1
  | .map entries => uptoBulkEntries entries + 1
  | .held _ => 1
def uptoBulkAll {H : Type} : List (DataW H) → Nat
  | [] => 0
  | d :: r => uptoBulk d + uptoBulkAll r
def uptoBulkEntries {H : Type} : List (Lit × DataW H) → Nat
  | [] => 0
  | x :: r => uptoBulkEntry x + uptoBulkEntries r
def uptoBulkEntry {H : Type} : Lit × DataW H → Nat
  | (.string bytes, d) => bytes.length + uptoBulk d + 1
  | (_, d) => uptoBulk d + 1
 end
def uptoSmall : (H : Type) → List (DataW H) → Bool := fun _ ds => decide (uptoBulkAll ds ≤ 1048576)
def OpenSpec.upto (s : _root_.Go.ChangeSpec) : _root_.Go.OpenSpec := { _root_.Go.OpenSpec.ofChange s with cond := some uptoSmall }

/-- 'changelinglaw2.CpuGoes', WHERE WHAT IT READS IS OF BULK AT MOST 1048576: true; the input reads as it did. -/
def cpuGoesUptoRow : OpenClaim := { program := "ytckcbnfobjmhpaadoor", sum := "b5a3e6697309f5fa1e0caa6edd424ca47e0a713e6865926846404ab7edb01609", func := "changeling/changelinglaw2.CpuGoes", spec := "cpuGoes", unfollowed := true, recurses := true, named := ["changeling/api.ErrShape", "changeling/api.ErrAlign", "changeling/api.ErrFar", "changeling/code.firsts", "changeling/api.ErrKind", "changeling/api.ErrBound"], apart := false, laid := [("changeling/api.ErrBound", laid_changeling_api_ErrBound), ("changeling/api.ErrShape", laid_changeling_api_ErrShape), ("changeling/api.ErrKind", laid_changeling_api_ErrKind), ("changeling/api.ErrAlign", laid_changeling_api_ErrAlign), ("changeling/api.ErrFar", laid_changeling_api_ErrFar), ("changeling/code.firsts", laid_changeling_code_firsts)], narrowed := true }
def CpuGoesUptoSaid : Prop := cpuGoesUptoRow.holds Tryd.pinned (OpenSpec.upto cpuGoesSpec)

/-- 'changelinglaw2.CpuTakes', WHERE WHAT IT READS IS OF BULK AT MOST 1048576: true; the input reads as it did. -/
def cpuTakesUptoRow : OpenClaim := { program := "ytckcbnfobjmhpaadoor", sum := "b5a3e6697309f5fa1e0caa6edd424ca47e0a713e6865926846404ab7edb01609", func := "changeling/changelinglaw2.CpuTakes", spec := "cpuTakes", unfollowed := true, recurses := true, named := ["changeling/api.ErrShape", "changeling/api.ErrAlign", "changeling/api.ErrFar", "changeling/code.firsts", "changeling/api.ErrKind", "changeling/api.ErrBound"], apart := false, laid := [("changeling/api.ErrBound", laid_changeling_api_ErrBound), ("changeling/api.ErrShape", laid_changeling_api_ErrShape), ("changeling/api.ErrKind", laid_changeling_api_ErrKind), ("changeling/api.ErrAlign", laid_changeling_api_ErrAlign), ("changeling/api.ErrFar", laid_changeling_api_ErrFar), ("changeling/code.firsts", laid_changeling_code_firsts)], narrowed := true }
def CpuTakesUptoSaid : Prop := cpuTakesUptoRow.holds Tryd.pinned (OpenSpec.upto cpuTakesSpec)

/-- 'changelinglaw2.CpuWaits', WHERE WHAT IT READS IS OF BULK AT MOST 1048576: true; the input reads as it did. -/
def cpuWaitsUptoRow : OpenClaim := { program := "ytckcbnfobjmhpaadoor", sum := "b5a3e6697309f5fa1e0caa6edd424ca47e0a713e6865926846404ab7edb01609", func := "changeling/changelinglaw2.CpuWaits", spec := "cpuWaits", unfollowed := true, recurses := true, named := ["changeling/api.ErrShape", "changeling/api.ErrAlign", "changeling/api.ErrFar", "changeling/code.firsts", "changeling/api.ErrKind", "changeling/api.ErrBound"], apart := false, laid := [("changeling/api.ErrBound", laid_changeling_api_ErrBound), ("changeling/api.ErrShape", laid_changeling_api_ErrShape), ("changeling/api.ErrKind", laid_changeling_api_ErrKind), ("changeling/api.ErrAlign", laid_changeling_api_ErrAlign), ("changeling/api.ErrFar", laid_changeling_api_ErrFar), ("changeling/code.firsts", laid_changeling_code_firsts)], narrowed := true }
def CpuWaitsUptoSaid : Prop := cpuWaitsUptoRow.holds Tryd.pinned (OpenSpec.upto cpuWaitsSpec)

/-- 'changelinglaw2.RegionForms', WHERE WHAT IT READS IS OF BULK AT MOST 1048576: true; the input reads as it did. -/
def regionFormsUptoRow : OpenClaim := { program := "ytckcbnfobjmhpaadoor", sum := "b5a3e6697309f5fa1e0caa6edd424ca47e0a713e6865926846404ab7edb01609", func := "changeling/changelinglaw2.RegionForms", spec := "regionForms", inPlace := ["internal/reflectlite.ValueOf", "(internal/reflectlite.Value).Type", "(internal/reflectlite.Value).IsNil", "internal/reflectlite.TypeOf", "(internal/reflectlite.Value).Elem", "(internal/reflectlite.Value).Set"], unfollowed := true, recurses := true, named := ["changeling/api.ErrNone", "changeling/api.ErrShape", "changeling/api.ErrBound", "changeling/api.ErrAlign", "changeling/api.ErrFar", "changeling/code.firsts", "changeling/api.ErrKind", "changeling/api.ErrText", "changeling/api.ErrName", "changeling/api.ErrExist", "changeling/api.ErrFull", "errors.errorType"], apart := false, laid := [("errors.errorType", laid_errors_errorType), ("changeling/api.ErrText", laid_changeling_api_ErrText), ("changeling/api.ErrBound", laid_changeling_api_ErrBound), ("changeling/api.ErrShape", laid_changeling_api_ErrShape), ("changeling/api.ErrKind", laid_changeling_api_ErrKind), ("changeling/api.ErrName", laid_changeling_api_ErrName), ("changeling/api.ErrNone", laid_changeling_api_ErrNone), ("changeling/api.ErrExist", laid_changeling_api_ErrExist), ("changeling/api.ErrFull", laid_changeling_api_ErrFull), ("changeling/api.ErrAlign", laid_changeling_api_ErrAlign), ("changeling/api.ErrFar", laid_changeling_api_ErrFar), ("changeling/code.firsts", laid_changeling_code_firsts)], narrowed := true }
def RegionFormsUptoSaid : Prop := regionFormsUptoRow.holds Tryd.pinned (OpenSpec.upto regionFormsSpec)

/-- 'changelinglaw2.RegionStands', WHERE WHAT IT READS IS OF BULK AT MOST 1048576: true; the input reads as it did. -/
def regionStandsUptoRow : OpenClaim := { program := "ytckcbnfobjmhpaadoor", sum := "b5a3e6697309f5fa1e0caa6edd424ca47e0a713e6865926846404ab7edb01609", func := "changeling/changelinglaw2.RegionStands", spec := "regionStands", unfollowed := true, recurses := true, named := ["changeling/api.ErrNone", "changeling/api.ErrShape", "changeling/api.ErrBound", "changeling/api.ErrAlign", "changeling/api.ErrFar", "changeling/code.firsts", "changeling/api.ErrKind"], apart := false, laid := [("changeling/api.ErrBound", laid_changeling_api_ErrBound), ("changeling/api.ErrShape", laid_changeling_api_ErrShape), ("changeling/api.ErrKind", laid_changeling_api_ErrKind), ("changeling/api.ErrNone", laid_changeling_api_ErrNone), ("changeling/api.ErrAlign", laid_changeling_api_ErrAlign), ("changeling/api.ErrFar", laid_changeling_api_ErrFar), ("changeling/code.firsts", laid_changeling_code_firsts)], narrowed := true }
def RegionStandsUptoSaid : Prop := regionStandsUptoRow.holds Tryd.pinned (OpenSpec.upto regionStandsSpec)

/-- 'changelinglaw2.RegionJoins', WHERE WHAT IT READS IS OF BULK AT MOST 1048576: true; the input reads as it did. -/
def regionJoinsUptoRow : OpenClaim := { program := "ytckcbnfobjmhpaadoor", sum := "b5a3e6697309f5fa1e0caa6edd424ca47e0a713e6865926846404ab7edb01609", func := "changeling/changelinglaw2.RegionJoins", spec := "regionJoins", unfollowed := true, recurses := true, named := ["changeling/api.ErrNone", "changeling/api.ErrShape", "changeling/api.ErrBound", "changeling/api.ErrAlign", "changeling/api.ErrFar", "changeling/code.firsts", "changeling/api.ErrKind"], apart := false, laid := [("changeling/api.ErrBound", laid_changeling_api_ErrBound), ("changeling/api.ErrShape", laid_changeling_api_ErrShape), ("changeling/api.ErrKind", laid_changeling_api_ErrKind), ("changeling/api.ErrNone", laid_changeling_api_ErrNone), ("changeling/api.ErrAlign", laid_changeling_api_ErrAlign), ("changeling/api.ErrFar", laid_changeling_api_ErrFar), ("changeling/code.firsts", laid_changeling_code_firsts)], narrowed := true }
def RegionJoinsUptoSaid : Prop := regionJoinsUptoRow.holds Tryd.pinned (OpenSpec.upto regionJoinsSpec)

end Rows
end Go.Proofs.YtckcbnfobjmhpaaDoor
