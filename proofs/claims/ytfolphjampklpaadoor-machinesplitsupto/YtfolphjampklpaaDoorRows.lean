/-
  NARROWER THAN 'FOR EVERY INPUT', by the rows' own cells (each row's printed sentence says how): DecodeTells: laid · DecodeEncodes: laid · DecodeBack: laid · HartSteps: laid · HartZero: laid · MachineRuns: laid · MachineSplits: laid.
  DERIVED. THE GIVEN ROWS OF THIS SEAT. 7 by the template 'for every input the law returns true; each argument reads behind the call as it read before'; 0 by the template 'total and deterministic' (their statements: YtfolphjampklpaaDoorTotals.lean).
  GIVEN WITH THE SEED: the statements are not yours to turn. If you find one false, say at which input.
  Laid BY PROGRAM, IN A SANDBOX (cutbox-rows.mjs): the forced cells as the released guide's own fill.sh prints them over the translation cf131f2eb322f05d… (all of the seat's roots in one cut). By AI agents, Wed Nov 11 2026. No macro, syntax, notation, axiom, sorry.
-/
import Derived.Test.YtfolphjampklpaaDoorChecked
import GoSem.Claim
import GoSem.ClaimJoined
import GoSem.ClaimMapViews
import Derived.JoinedTies
import Derived.KernelRfl
namespace Go.Proofs.YtfolphjampklpaaDoor
/- THE CELL 'sum', in the pinned program and in every row, IS THE sha256 OF THE DUMP (.gsa) THAT YtfolphjampklpaaDoorProg.lean LOADS. Nothing in Lean hashes anything: it is a label: what it is worth is what the hold of that sum in a sandbox is worth. -/
noncomputable def Tryd.pinned : Pinned := { name := "ytfolphjampklpaadoor", sum := "cf131f2eb322f05d13655b0db40111b1a41a42fe544e523610c8c06f5c1c8cb4", checked := Tryd.checked }
namespace Rows
def none {H : Type} : Left H := { results := [], args := [] }

/- WHAT THE LISTED PACKAGE-LEVEL VARIABLES READ AS WHEN THE CALL BEGINS. Each datum BY PROGRAM (the guide's laid-datum.mjs) off the statement by which the dump's own 'gosem.cut.vars' lays the variable. In a bare row this is a premise. The card (YtfolphjampklpaaDoorCards.lean) ties it to the program's text. -/
def laid_ferrybridge_decode_shapes {H : Type} : DataW H := .agg [.agg [.lit (.int .u32 0), .lit (.bool false), .lit (.bool false), .lit (.bool false), .agg [.agg [.lit (.int .i64 0), .lit (.int .i64 0), .lit (.int .i64 0)], .agg [.lit (.int .i64 0), .lit (.int .i64 0), .lit (.int .i64 0)], .agg [.lit (.int .i64 0), .lit (.int .i64 0), .lit (.int .i64 0)], .agg [.lit (.int .i64 0), .lit (.int .i64 0), .lit (.int .i64 0)]], .lit (.int .i64 0)], .agg [.lit (.int .u32 127), .lit (.bool true), .lit (.bool false), .lit (.bool false), .agg [.agg [.lit (.int .i64 12), .lit (.int .i64 12), .lit (.int .i64 20)], .agg [.lit (.int .i64 0), .lit (.int .i64 0), .lit (.int .i64 0)], .agg [.lit (.int .i64 0), .lit (.int .i64 0), .lit (.int .i64 0)], .agg [.lit (.int .i64 0), .lit (.int .i64 0), .lit (.int .i64 0)]], .lit (.int .i64 0)], .agg [.lit (.int .u32 127), .lit (.bool true), .lit (.bool false), .lit (.bool false), .agg [.agg [.lit (.int .i64 31), .lit (.int .i64 20), .lit (.int .i64 1)], .agg [.lit (.int .i64 12), .lit (.int .i64 12), .lit (.int .i64 8)], .agg [.lit (.int .i64 20), .lit (.int .i64 11), .lit (.int .i64 1)], .agg [.lit (.int .i64 21), .lit (.int .i64 1), .lit (.int .i64 10)]], .lit (.int .i64 11)], .agg [.lit (.int .u32 28799), .lit (.bool true), .lit (.bool true), .lit (.bool false), .agg [.agg [.lit (.int .i64 20), .lit (.int .i64 0), .lit (.int .i64 12)], .agg [.lit (.int .i64 0), .lit (.int .i64 0), .lit (.int .i64 0)], .agg [.lit (.int .i64 0), .lit (.int .i64 0), .lit (.int .i64 0)], .agg [.lit (.int .i64 0), .lit (.int .i64 0), .lit (.int .i64 0)]], .lit (.int .i64 20)], .agg [.lit (.int .u32 4261441663), .lit (.bool true), .lit (.bool true), .lit (.bool false), .agg [.agg [.lit (.int .i64 20), .lit (.int .i64 0), .lit (.int .i64 5)], .agg [.lit (.int .i64 0), .lit (.int .i64 0), .lit (.int .i64 0)], .agg [.lit (.int .i64 0), .lit (.int .i64 0), .lit (.int .i64 0)], .agg [.lit (.int .i64 0), .lit (.int .i64 0), .lit (.int .i64 0)]], .lit (.int .i64 0)], .agg [.lit (.int .u32 28799), .lit (.bool false), .lit (.bool true), .lit (.bool true), .agg [.agg [.lit (.int .i64 31), .lit (.int .i64 12), .lit (.int .i64 1)], .agg [.lit (.int .i64 7), .lit (.int .i64 11), .lit (.int .i64 1)], .agg [.lit (.int .i64 25), .lit (.int .i64 5), .lit (.int .i64 6)], .agg [.lit (.int .i64 8), .lit (.int .i64 1), .lit (.int .i64 4)]], .lit (.int .i64 19)], .agg [.lit (.int .u32 28799), .lit (.bool false), .lit (.bool true), .lit (.bool true), .agg [.agg [.lit (.int .i64 25), .lit (.int .i64 5), .lit (.int .i64 7)], .agg [.lit (.int .i64 7), .lit (.int .i64 0), .lit (.int .i64 5)], .agg [.lit (.int .i64 0), .lit (.int .i64 0), .lit (.int .i64 0)], .agg [.lit (.int .i64 0), .lit (.int .i64 0), .lit (.int .i64 0)]], .lit (.int .i64 20)], .agg [.lit (.int .u32 4261441663), .lit (.bool true), .lit (.bool true), .lit (.bool true), .agg [.agg [.lit (.int .i64 0), .lit (.int .i64 0), .lit (.int .i64 0)], .agg [.lit (.int .i64 0), .lit (.int .i64 0), .lit (.int .i64 0)], .agg [.lit (.int .i64 0), .lit (.int .i64 0), .lit (.int .i64 0)], .agg [.lit (.int .i64 0), .lit (.int .i64 0), .lit (.int .i64 0)]], .lit (.int .i64 0)], .agg [.lit (.int .u32 4160778367), .lit (.bool true), .lit (.bool true), .lit (.bool true), .agg [.agg [.lit (.int .i64 25), .lit (.int .i64 0), .lit (.int .i64 2)], .agg [.lit (.int .i64 0), .lit (.int .i64 0), .lit (.int .i64 0)], .agg [.lit (.int .i64 0), .lit (.int .i64 0), .lit (.int .i64 0)], .agg [.lit (.int .i64 0), .lit (.int .i64 0), .lit (.int .i64 0)]], .lit (.int .i64 0)], .agg [.lit (.int .u32 4294967295), .lit (.bool false), .lit (.bool false), .lit (.bool false), .agg [.agg [.lit (.int .i64 0), .lit (.int .i64 0), .lit (.int .i64 0)], .agg [.lit (.int .i64 0), .lit (.int .i64 0), .lit (.int .i64 0)], .agg [.lit (.int .i64 0), .lit (.int .i64 0), .lit (.int .i64 0)], .agg [.lit (.int .i64 0), .lit (.int .i64 0), .lit (.int .i64 0)]], .lit (.int .i64 0)]]
def laid_ferrybridge_decode_uppers {H : Type} : DataW H := .agg [.lit (.int .u32 0), .lit (.int .u32 0), .lit (.int .u32 0), .lit (.int .u32 0), .lit (.int .u32 0), .lit (.int .u32 0), .lit (.int .u32 0), .lit (.int .u32 0), .lit (.int .u32 0), .lit (.int .u32 0), .lit (.int .u32 0), .lit (.int .u32 0), .lit (.int .u32 0), .lit (.int .u32 0), .lit (.int .u32 0), .lit (.int .u32 0), .lit (.int .u32 0), .lit (.int .u32 0), .lit (.int .u32 0), .lit (.int .u32 0), .lit (.int .u32 0), .lit (.int .u32 0), .lit (.int .u32 0), .lit (.int .u32 0), .lit (.int .u32 0), .lit (.int .u32 0), .lit (.int .u32 0), .lit (.int .u32 32), .lit (.int .u32 0), .lit (.int .u32 32), .lit (.int .u32 0), .lit (.int .u32 0), .lit (.int .u32 0), .lit (.int .u32 0), .lit (.int .u32 0), .lit (.int .u32 32), .lit (.int .u32 0), .lit (.int .u32 0), .lit (.int .u32 1), .lit (.int .u32 1), .lit (.int .u32 1), .lit (.int .u32 1), .lit (.int .u32 1), .lit (.int .u32 1), .lit (.int .u32 1), .lit (.int .u32 1), .lit (.int .u32 8), .lit (.int .u32 12), .lit (.int .u32 4), .lit (.int .u32 0), .lit (.int .u32 16), .lit (.int .u32 48), .lit (.int .u32 32), .lit (.int .u32 64), .lit (.int .u32 80), .lit (.int .u32 96), .lit (.int .u32 112), .lit (.int .u32 0), .lit (.int .u32 0), .lit (.int .u32 0)]
def laid_ferrybridge_hart_sizes {H : Type} : DataW H := .agg [.lit (.int .u32 0), .lit (.int .u32 0), .lit (.int .u32 0), .lit (.int .u32 0), .lit (.int .u32 0), .lit (.int .u32 0), .lit (.int .u32 0), .lit (.int .u32 0), .lit (.int .u32 0), .lit (.int .u32 0), .lit (.int .u32 0), .lit (.int .u32 0), .lit (.int .u32 0), .lit (.int .u32 0), .lit (.int .u32 0), .lit (.int .u32 0), .lit (.int .u32 1), .lit (.int .u32 2), .lit (.int .u32 4)]
def laid_ferrybridge_hart_operations {H : Type} : DataW H := .agg [.lit (.int .i64 0), .lit (.int .i64 0), .lit (.int .i64 0), .lit (.int .i64 0), .lit (.int .i64 0), .lit (.int .i64 0), .lit (.int .i64 0), .lit (.int .i64 0), .lit (.int .i64 0), .lit (.int .i64 0), .lit (.int .i64 0), .lit (.int .i64 0), .lit (.int .i64 0), .lit (.int .i64 0), .lit (.int .i64 0), .lit (.int .i64 0), .lit (.int .i64 0), .lit (.int .i64 0), .lit (.int .i64 0), .lit (.int .i64 28), .lit (.int .i64 31), .lit (.int .i64 32), .lit (.int .i64 33), .lit (.int .i64 36), .lit (.int .i64 37), .lit (.int .i64 30), .lit (.int .i64 34), .lit (.int .i64 35)]

/-- 'ferrybridgelaw.DecodeTells': WHATEVER THE INPUT: true; the input reads as it did. -/
def decodeTellsSpec : ChangeSpec := { name := "decodeTells", fn := fun _ => fun
  | [d] => { results := [.lit (.bool true)], args := [d] }
  | _ => none }
def decodeTellsRow : OpenClaim := { program := "ytfolphjampklpaadoor", sum := "cf131f2eb322f05d13655b0db40111b1a41a42fe544e523610c8c06f5c1c8cb4", func := "ferrybridge/ferrybridgelaw.DecodeTells", spec := "decodeTells", named := ["ferrybridge/decode.shapes", "ferrybridge/decode.uppers"], apart := false, laid := [("ferrybridge/decode.shapes", laid_ferrybridge_decode_shapes), ("ferrybridge/decode.uppers", laid_ferrybridge_decode_uppers)] }
def DecodeTellsSaid : Prop := decodeTellsRow.holds Tryd.pinned (OpenSpec.ofChange decodeTellsSpec)

/-- ITS FALSE NEIGHBOUR: 'it returns false'. Refute it at one input. -/
def decodeTellsWrong : ChangeSpec := { name := "decodeTells", fn := fun _ => fun
  | [d] => { results := [.lit (.bool false)], args := [d] }
  | _ => none }
def DecodeTellsWrongFalsely : Prop := decodeTellsRow.holds Tryd.pinned (OpenSpec.ofChange decodeTellsWrong)

/-- 'ferrybridgelaw.DecodeEncodes': WHATEVER THE INPUT: true; the input reads as it did. -/
def decodeEncodesSpec : ChangeSpec := { name := "decodeEncodes", fn := fun _ => fun
  | [d] => { results := [.lit (.bool true)], args := [d] }
  | _ => none }
def decodeEncodesRow : OpenClaim := { program := "ytfolphjampklpaadoor", sum := "cf131f2eb322f05d13655b0db40111b1a41a42fe544e523610c8c06f5c1c8cb4", func := "ferrybridge/ferrybridgelaw.DecodeEncodes", spec := "decodeEncodes", unfollowed := true, recurses := true, named := ["ferrybridge/decode.uppers", "ferrybridge/decode.shapes"], apart := false, laid := [("ferrybridge/decode.shapes", laid_ferrybridge_decode_shapes), ("ferrybridge/decode.uppers", laid_ferrybridge_decode_uppers)] }
def DecodeEncodesSaid : Prop := decodeEncodesRow.holds Tryd.pinned (OpenSpec.ofChange decodeEncodesSpec)

/-- ITS FALSE NEIGHBOUR: 'it returns false'. Refute it at one input. -/
def decodeEncodesWrong : ChangeSpec := { name := "decodeEncodes", fn := fun _ => fun
  | [d] => { results := [.lit (.bool false)], args := [d] }
  | _ => none }
def DecodeEncodesWrongFalsely : Prop := decodeEncodesRow.holds Tryd.pinned (OpenSpec.ofChange decodeEncodesWrong)

/-- 'ferrybridgekeep.DecodeBack': WHATEVER THE INPUT: true; the input reads as it did. -/
def decodeBackSpec : ChangeSpec := { name := "decodeBack", fn := fun _ => fun
  | [d] => { results := [.lit (.bool true)], args := [d] }
  | _ => none }
def decodeBackRow : OpenClaim := { program := "ytfolphjampklpaadoor", sum := "cf131f2eb322f05d13655b0db40111b1a41a42fe544e523610c8c06f5c1c8cb4", func := "ferrybridge/ferrybridgekeep.DecodeBack", spec := "decodeBack", named := ["ferrybridge/decode.shapes", "ferrybridge/decode.uppers"], apart := false, laid := [("ferrybridge/decode.shapes", laid_ferrybridge_decode_shapes), ("ferrybridge/decode.uppers", laid_ferrybridge_decode_uppers)] }
def DecodeBackSaid : Prop := decodeBackRow.holds Tryd.pinned (OpenSpec.ofChange decodeBackSpec)

/-- ITS FALSE NEIGHBOUR: 'it returns false'. Refute it at one input. -/
def decodeBackWrong : ChangeSpec := { name := "decodeBack", fn := fun _ => fun
  | [d] => { results := [.lit (.bool false)], args := [d] }
  | _ => none }
def DecodeBackWrongFalsely : Prop := decodeBackRow.holds Tryd.pinned (OpenSpec.ofChange decodeBackWrong)

/-- 'ferrybridgelaw.HartSteps': WHATEVER THE INPUT: true; the input reads as it did. -/
def hartStepsSpec : ChangeSpec := { name := "hartSteps", fn := fun _ => fun
  | [d1, d2] => { results := [.lit (.bool true)], args := [d1, d2] }
  | _ => none }
def hartStepsRow : OpenClaim := { program := "ytfolphjampklpaadoor", sum := "cf131f2eb322f05d13655b0db40111b1a41a42fe544e523610c8c06f5c1c8cb4", func := "ferrybridge/ferrybridgelaw.HartSteps", spec := "hartSteps", named := ["ferrybridge/decode.shapes", "ferrybridge/decode.uppers", "ferrybridge/hart.operations", "ferrybridge/hart.sizes"], apart := false, laid := [("ferrybridge/decode.shapes", laid_ferrybridge_decode_shapes), ("ferrybridge/decode.uppers", laid_ferrybridge_decode_uppers), ("ferrybridge/hart.sizes", laid_ferrybridge_hart_sizes), ("ferrybridge/hart.operations", laid_ferrybridge_hart_operations)] }
def HartStepsSaid : Prop := hartStepsRow.holds Tryd.pinned (OpenSpec.ofChange hartStepsSpec)

/-- ITS FALSE NEIGHBOUR: 'it returns false'. Refute it at one input. -/
def hartStepsWrong : ChangeSpec := { name := "hartSteps", fn := fun _ => fun
  | [d1, d2] => { results := [.lit (.bool false)], args := [d1, d2] }
  | _ => none }
def HartStepsWrongFalsely : Prop := hartStepsRow.holds Tryd.pinned (OpenSpec.ofChange hartStepsWrong)

/-- 'ferrybridgekeep.HartZero': WHATEVER THE INPUT: true; the input reads as it did. -/
def hartZeroSpec : ChangeSpec := { name := "hartZero", fn := fun _ => fun
  | [d1, d2] => { results := [.lit (.bool true)], args := [d1, d2] }
  | _ => none }
def hartZeroRow : OpenClaim := { program := "ytfolphjampklpaadoor", sum := "cf131f2eb322f05d13655b0db40111b1a41a42fe544e523610c8c06f5c1c8cb4", func := "ferrybridge/ferrybridgekeep.HartZero", spec := "hartZero", named := ["ferrybridge/decode.shapes", "ferrybridge/decode.uppers", "ferrybridge/hart.operations", "ferrybridge/hart.sizes"], apart := false, laid := [("ferrybridge/decode.shapes", laid_ferrybridge_decode_shapes), ("ferrybridge/decode.uppers", laid_ferrybridge_decode_uppers), ("ferrybridge/hart.sizes", laid_ferrybridge_hart_sizes), ("ferrybridge/hart.operations", laid_ferrybridge_hart_operations)] }
def HartZeroSaid : Prop := hartZeroRow.holds Tryd.pinned (OpenSpec.ofChange hartZeroSpec)

/-- ITS FALSE NEIGHBOUR: 'it returns false'. Refute it at one input. -/
def hartZeroWrong : ChangeSpec := { name := "hartZero", fn := fun _ => fun
  | [d1, d2] => { results := [.lit (.bool false)], args := [d1, d2] }
  | _ => none }
def HartZeroWrongFalsely : Prop := hartZeroRow.holds Tryd.pinned (OpenSpec.ofChange hartZeroWrong)

/-- 'ferrybridgelaw.MachineRuns': WHATEVER THE INPUT: true; the input reads as it did. -/
def machineRunsSpec : ChangeSpec := { name := "machineRuns", fn := fun _ => fun
  | [d1, d2] => { results := [.lit (.bool true)], args := [d1, d2] }
  | _ => none }
def machineRunsRow : OpenClaim := { program := "ytfolphjampklpaadoor", sum := "cf131f2eb322f05d13655b0db40111b1a41a42fe544e523610c8c06f5c1c8cb4", func := "ferrybridge/ferrybridgelaw.MachineRuns", spec := "machineRuns", named := ["ferrybridge/decode.shapes", "ferrybridge/decode.uppers", "ferrybridge/hart.operations", "ferrybridge/hart.sizes"], apart := false, laid := [("ferrybridge/decode.shapes", laid_ferrybridge_decode_shapes), ("ferrybridge/decode.uppers", laid_ferrybridge_decode_uppers), ("ferrybridge/hart.sizes", laid_ferrybridge_hart_sizes), ("ferrybridge/hart.operations", laid_ferrybridge_hart_operations)] }
def MachineRunsSaid : Prop := machineRunsRow.holds Tryd.pinned (OpenSpec.ofChange machineRunsSpec)

/-- ITS FALSE NEIGHBOUR: 'it returns false'. Refute it at one input. -/
def machineRunsWrong : ChangeSpec := { name := "machineRuns", fn := fun _ => fun
  | [d1, d2] => { results := [.lit (.bool false)], args := [d1, d2] }
  | _ => none }
def MachineRunsWrongFalsely : Prop := machineRunsRow.holds Tryd.pinned (OpenSpec.ofChange machineRunsWrong)

/-- 'ferrybridgekeep.MachineSplits': WHATEVER THE INPUT: true; the input reads as it did. -/
def machineSplitsSpec : ChangeSpec := { name := "machineSplits", fn := fun _ => fun
  | [d1, d2, d3] => { results := [.lit (.bool true)], args := [d1, d2, d3] }
  | _ => none }
def machineSplitsRow : OpenClaim := { program := "ytfolphjampklpaadoor", sum := "cf131f2eb322f05d13655b0db40111b1a41a42fe544e523610c8c06f5c1c8cb4", func := "ferrybridge/ferrybridgekeep.MachineSplits", spec := "machineSplits", named := ["ferrybridge/decode.shapes", "ferrybridge/decode.uppers", "ferrybridge/hart.operations", "ferrybridge/hart.sizes"], apart := false, laid := [("ferrybridge/decode.shapes", laid_ferrybridge_decode_shapes), ("ferrybridge/decode.uppers", laid_ferrybridge_decode_uppers), ("ferrybridge/hart.sizes", laid_ferrybridge_hart_sizes), ("ferrybridge/hart.operations", laid_ferrybridge_hart_operations)] }
def MachineSplitsSaid : Prop := machineSplitsRow.holds Tryd.pinned (OpenSpec.ofChange machineSplitsSpec)

/-- ITS FALSE NEIGHBOUR: 'it returns false'. Refute it at one input. -/
def machineSplitsWrong : ChangeSpec := { name := "machineSplits", fn := fun _ => fun
  | [d1, d2, d3] => { results := [.lit (.bool false)], args := [d1, d2, d3] }
  | _ => none }
def MachineSplitsWrongFalsely : Prop := machineSplitsRow.holds Tryd.pinned (OpenSpec.ofChange machineSplitsWrong)

/- THE SECOND FORM. 'bulk': how many values and letters a reading holds, each counted each time it is reached (what is shared counts as often as it is met; a slice's spare places count too). A statement '..UptoSaid' is the law's where the arguments, and the package variables that the reading takes, are together of bulk at most 1048576: NARROWER than '..Said'. Prove '..Said' where nothing that the law and all that it calls make is longer than what came in: it says more and counts as full. Else prove '..UptoSaid'. A law counts once. -/
mutual
def uptoBulk {H : Type} : DataW H → Nat
  | .lit (.string bytes) => bytes.length + 1
  | .lit _ => 1
  | .nil => 1
  | .ptr d => uptoBulk d + 1
  | .slice elems spare => uptoBulkAll elems + uptoBulkAll spare + 1
  | .agg parts => uptoBulkAll parts + 1
  | .iface _ d => uptoBulk d + 1
  | .map entries => uptoBulkEntries entries + 1
  | .held _ => 1
def uptoBulkAll {H : Type} : List (DataW H) → Nat
  | [] => 0
  | d :: r => uptoBulk d + uptoBulkAll r
def uptoBulkEntries {H : Type} : List (Lit × DataW H) → Nat
  | [] => 0
  | x :: r => uptoBulkEntry x + uptoBulkEntries r
def uptoBulkEntry {H : Type} : Lit × DataW H → Nat
  | (.string bytes, d) => bytes.length + uptoBulk d + 1
  | (_, d) => uptoBulk d + 1
 end
def uptoSmall : (H : Type) → List (DataW H) → Bool := fun _ ds => decide (uptoBulkAll ds ≤ 1048576)
def OpenSpec.upto (s : _root_.Go.ChangeSpec) : _root_.Go.OpenSpec := { _root_.Go.OpenSpec.ofChange s with cond := some uptoSmall }

/-- 'ferrybridgelaw.DecodeTells', WHERE WHAT IT READS IS OF BULK AT MOST 1048576: true; the input reads as it did. -/
def decodeTellsUptoRow : OpenClaim := { program := "ytfolphjampklpaadoor", sum := "cf131f2eb322f05d13655b0db40111b1a41a42fe544e523610c8c06f5c1c8cb4", func := "ferrybridge/ferrybridgelaw.DecodeTells", spec := "decodeTells", named := ["ferrybridge/decode.shapes", "ferrybridge/decode.uppers"], apart := false, laid := [("ferrybridge/decode.shapes", laid_ferrybridge_decode_shapes), ("ferrybridge/decode.uppers", laid_ferrybridge_decode_uppers)], narrowed := true }
def DecodeTellsUptoSaid : Prop := decodeTellsUptoRow.holds Tryd.pinned (OpenSpec.upto decodeTellsSpec)

/-- 'ferrybridgelaw.DecodeEncodes', WHERE WHAT IT READS IS OF BULK AT MOST 1048576: true; the input reads as it did. -/
def decodeEncodesUptoRow : OpenClaim := { program := "ytfolphjampklpaadoor", sum := "cf131f2eb322f05d13655b0db40111b1a41a42fe544e523610c8c06f5c1c8cb4", func := "ferrybridge/ferrybridgelaw.DecodeEncodes", spec := "decodeEncodes", unfollowed := true, recurses := true, named := ["ferrybridge/decode.uppers", "ferrybridge/decode.shapes"], apart := false, laid := [("ferrybridge/decode.shapes", laid_ferrybridge_decode_shapes), ("ferrybridge/decode.uppers", laid_ferrybridge_decode_uppers)], narrowed := true }
def DecodeEncodesUptoSaid : Prop := decodeEncodesUptoRow.holds Tryd.pinned (OpenSpec.upto decodeEncodesSpec)

/-- 'ferrybridgekeep.DecodeBack', WHERE WHAT IT READS IS OF BULK AT MOST 1048576: true; the input reads as it did. -/
def decodeBackUptoRow : OpenClaim := { program := "ytfolphjampklpaadoor", sum := "cf131f2eb322f05d13655b0db40111b1a41a42fe544e523610c8c06f5c1c8cb4", func := "ferrybridge/ferrybridgekeep.DecodeBack", spec := "decodeBack", named := ["ferrybridge/decode.shapes", "ferrybridge/decode.uppers"], apart := false, laid := [("ferrybridge/decode.shapes", laid_ferrybridge_decode_shapes), ("ferrybridge/decode.uppers", laid_ferrybridge_decode_uppers)], narrowed := true }
def DecodeBackUptoSaid : Prop := decodeBackUptoRow.holds Tryd.pinned (OpenSpec.upto decodeBackSpec)

/-- 'ferrybridgelaw.HartSteps', WHERE WHAT IT READS IS OF BULK AT MOST 1048576: true; the input reads as it did. -/
def hartStepsUptoRow : OpenClaim := { program := "ytfolphjampklpaadoor", sum := "cf131f2eb322f05d13655b0db40111b1a41a42fe544e523610c8c06f5c1c8cb4", func := "ferrybridge/ferrybridgelaw.HartSteps", spec := "hartSteps", named := ["ferrybridge/decode.shapes", "ferrybridge/decode.uppers", "ferrybridge/hart.operations", "ferrybridge/hart.sizes"], apart := false, laid := [("ferrybridge/decode.shapes", laid_ferrybridge_decode_shapes), ("ferrybridge/decode.uppers", laid_ferrybridge_decode_uppers), ("ferrybridge/hart.sizes", laid_ferrybridge_hart_sizes), ("ferrybridge/hart.operations", laid_ferrybridge_hart_operations)], narrowed := true }
def HartStepsUptoSaid : Prop := hartStepsUptoRow.holds Tryd.pinned (OpenSpec.upto hartStepsSpec)

/-- 'ferrybridgekeep.HartZero', WHERE WHAT IT READS IS OF BULK AT MOST 1048576: true; the input reads as it did. -/
def hartZeroUptoRow : OpenClaim := { program := "ytfolphjampklpaadoor", sum := "cf131f2eb322f05d13655b0db40111b1a41a42fe544e523610c8c06f5c1c8cb4", func := "ferrybridge/ferrybridgekeep.HartZero", spec := "hartZero", named := ["ferrybridge/decode.shapes", "ferrybridge/decode.uppers", "ferrybridge/hart.operations", "ferrybridge/hart.sizes"], apart := false, laid := [("ferrybridge/decode.shapes", laid_ferrybridge_decode_shapes), ("ferrybridge/decode.uppers", laid_ferrybridge_decode_uppers), ("ferrybridge/hart.sizes", laid_ferrybridge_hart_sizes), ("ferrybridge/hart.operations", laid_ferrybridge_hart_operations)], narrowed := true }
def HartZeroUptoSaid : Prop := hartZeroUptoRow.holds Tryd.pinned (OpenSpec.upto hartZeroSpec)

/-- 'ferrybridgelaw.MachineRuns', WHERE WHAT IT READS IS OF BULK AT MOST 1048576: true; the input reads as it did. -/
def machineRunsUptoRow : OpenClaim := { program := "ytfolphjampklpaadoor", sum := "cf131f2eb322f05d13655b0db40111b1a41a42fe544e523610c8c06f5c1c8cb4", func := "ferrybridge/ferrybridgelaw.MachineRuns", spec := "machineRuns", named := ["ferrybridge/decode.shapes", "ferrybridge/decode.uppers", "ferrybridge/hart.operations", "ferrybridge/hart.sizes"], apart := false, laid := [("ferrybridge/decode.shapes", laid_ferrybridge_decode_shapes), ("ferrybridge/decode.uppers", laid_ferrybridge_decode_uppers), ("ferrybridge/hart.sizes", laid_ferrybridge_hart_sizes), ("ferrybridge/hart.operations", laid_ferrybridge_hart_operations)], narrowed := true }
def MachineRunsUptoSaid : Prop := machineRunsUptoRow.holds Tryd.pinned (OpenSpec.upto machineRunsSpec)

/-- 'ferrybridgekeep.MachineSplits', WHERE WHAT IT READS IS OF BULK AT MOST 1048576: true; the input reads as it did. -/
def machineSplitsUptoRow : OpenClaim := { program := "ytfolphjampklpaadoor", sum := "cf131f2eb322f05d13655b0db40111b1a41a42fe544e523610c8c06f5c1c8cb4", func := "ferrybridge/ferrybridgekeep.MachineSplits", spec := "machineSplits", named := ["ferrybridge/decode.shapes", "ferrybridge/decode.uppers", "ferrybridge/hart.operations", "ferrybridge/hart.sizes"], apart := false, laid := [("ferrybridge/decode.shapes", laid_ferrybridge_decode_shapes), ("ferrybridge/decode.uppers", laid_ferrybridge_decode_uppers), ("ferrybridge/hart.sizes", laid_ferrybridge_hart_sizes), ("ferrybridge/hart.operations", laid_ferrybridge_hart_operations)], narrowed := true }
def MachineSplitsUptoSaid : Prop := machineSplitsUptoRow.holds Tryd.pinned (OpenSpec.upto machineSplitsSpec)

end Rows
end Go.Proofs.YtfolphjampklpaaDoor
