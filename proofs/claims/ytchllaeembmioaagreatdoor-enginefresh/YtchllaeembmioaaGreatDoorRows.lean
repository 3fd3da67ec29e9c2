/-
  NARROWER THAN 'FOR EVERY INPUT', by the rows' own cells (each row's printed sentence says how): EngineSame: laid · EngineFresh: laid · EngineRooms: laid.
  DERIVED. THE GIVEN ROWS OF THIS SEAT. 3 by the template 'for every input the law returns true; each argument reads behind the call as it read before'; 0 by the template 'total and deterministic' (their statements: YtchllaeembmioaaGreatDoorTotals.lean).
  GIVEN WITH THE SEED: the statements are not yours to turn. If you find one false, say at which input.
  Laid BY PROGRAM, IN A SANDBOX (cutbox-rows.mjs): the forced cells as the released guide's own fill.sh prints them over the translation 143d84f98d4473c2… (all of the seat's roots in one cut). By AI agents, Wed Nov 11 2026. No macro, syntax, notation, axiom, sorry.
-/
import Derived.Test.YtchllaeembmioaaGreatDoorChecked
import GoSem.Claim
import GoSem.ClaimJoined
import GoSem.ClaimMapViews
import Derived.JoinedTies
import Derived.KernelRfl
namespace Go.Proofs.YtchllaeembmioaaGreatDoor
/- THE CELL 'sum', in the pinned program and in every row, IS THE sha256 OF THE DUMP (.gsa) THAT YtchllaeembmioaaGreatDoorProg.lean LOADS. Nothing in Lean hashes anything: it is a label: what it is worth is what the hold of that sum in a sandbox is worth. -/
noncomputable def Tryz.pinned : Pinned := { name := "ytchllaeembmioaagreatdoor", sum := "143d84f98d4473c23e51e5fc78ef3ebfad9ec27c894590effdcb95eab4d81bb3", checked := Tryz.checked }
namespace Rows
def none {H : Type} : Left H := { results := [], args := [] }

/- WHAT THE LISTED PACKAGE-LEVEL VARIABLES READ AS WHEN THE CALL BEGINS. Each datum BY PROGRAM (the guide's laid-datum.mjs) off the statement by which the dump's own 'gosem.cut.vars' lays the variable. In a bare row this is a premise. The card (YtchllaeembmioaaGreatDoorCards.lean) ties it to the program's text. -/
def laid_ferrybridge_decode_shapes {H : Type} : DataW H := .agg [.agg [.lit (.int .u32 0), .lit (.bool false), .lit (.bool false), .lit (.bool false), .agg [.agg [.lit (.int .i64 0), .lit (.int .i64 0), .lit (.int .i64 0)], .agg [.lit (.int .i64 0), .lit (.int .i64 0), .lit (.int .i64 0)], .agg [.lit (.int .i64 0), .lit (.int .i64 0), .lit (.int .i64 0)], .agg [.lit (.int .i64 0), .lit (.int .i64 0), .lit (.int .i64 0)]], .lit (.int .i64 0)], .agg [.lit (.int .u32 127), .lit (.bool true), .lit (.bool false), .lit (.bool false), .agg [.agg [.lit (.int .i64 12), .lit (.int .i64 12), .lit (.int .i64 20)], .agg [.lit (.int .i64 0), .lit (.int .i64 0), .lit (.int .i64 0)], .agg [.lit (.int .i64 0), .lit (.int .i64 0), .lit (.int .i64 0)], .agg [.lit (.int .i64 0), .lit (.int .i64 0), .lit (.int .i64 0)]], .lit (.int .i64 0)], .agg [.lit (.int .u32 127), .lit (.bool true), .lit (.bool false), .lit (.bool false), .agg [.agg [.lit (.int .i64 31), .lit (.int .i64 20), .lit (.int .i64 1)], .agg [.lit (.int .i64 12), .lit (.int .i64 12), .lit (.int .i64 8)], .agg [.lit (.int .i64 20), .lit (.int .i64 11), .lit (.int .i64 1)], .agg [.lit (.int .i64 21), .lit (.int .i64 1), .lit (.int .i64 10)]], .lit (.int .i64 11)], .agg [.lit (.int .u32 28799), .lit (.bool true), .lit (.bool true), .lit (.bool false), .agg [.agg [.lit (.int .i64 20), .lit (.int .i64 0), .lit (.int .i64 12)], .agg [.lit (.int .i64 0), .lit (.int .i64 0), .lit (.int .i64 0)], .agg [.lit (.int .i64 0), .lit (.int .i64 0), .lit (.int .i64 0)], .agg [.lit (.int .i64 0), .lit (.int .i64 0), .lit (.int .i64 0)]], .lit (.int .i64 20)], .agg [.lit (.int .u32 4261441663), .lit (.bool true), .lit (.bool true), .lit (.bool false), .agg [.agg [.lit (.int .i64 20), .lit (.int .i64 0), .lit (.int .i64 5)], .agg [.lit (.int .i64 0), .lit (.int .i64 0), .lit (.int .i64 0)], .agg [.lit (.int .i64 0), .lit (.int .i64 0), .lit (.int .i64 0)], .agg [.lit (.int .i64 0), .lit (.int .i64 0), .lit (.int .i64 0)]], .lit (.int .i64 0)], .agg [.lit (.int .u32 28799), .lit (.bool false), .lit (.bool true), .lit (.bool true), .agg [.agg [.lit (.int .i64 31), .lit (.int .i64 12), .lit (.int .i64 1)], .agg [.lit (.int .i64 7), .lit (.int .i64 11), .lit (.int .i64 1)], .agg [.lit (.int .i64 25), .lit (.int .i64 5), .lit (.int .i64 6)], .agg [.lit (.int .i64 8), .lit (.int .i64 1), .lit (.int .i64 4)]], .lit (.int .i64 19)], .agg [.lit (.int .u32 28799), .lit (.bool false), .lit (.bool true), .lit (.bool true), .agg [.agg [.lit (.int .i64 25), .lit (.int .i64 5), .lit (.int .i64 7)], .agg [.lit (.int .i64 7), .lit (.int .i64 0), .lit (.int .i64 5)], .agg [.lit (.int .i64 0), .lit (.int .i64 0), .lit (.int .i64 0)], .agg [.lit (.int .i64 0), .lit (.int .i64 0), .lit (.int .i64 0)]], .lit (.int .i64 20)], .agg [.lit (.int .u32 4261441663), .lit (.bool true), .lit (.bool true), .lit (.bool true), .agg [.agg [.lit (.int .i64 0), .lit (.int .i64 0), .lit (.int .i64 0)], .agg [.lit (.int .i64 0), .lit (.int .i64 0), .lit (.int .i64 0)], .agg [.lit (.int .i64 0), .lit (.int .i64 0), .lit (.int .i64 0)], .agg [.lit (.int .i64 0), .lit (.int .i64 0), .lit (.int .i64 0)]], .lit (.int .i64 0)], .agg [.lit (.int .u32 4160778367), .lit (.bool true), .lit (.bool true), .lit (.bool true), .agg [.agg [.lit (.int .i64 25), .lit (.int .i64 0), .lit (.int .i64 2)], .agg [.lit (.int .i64 0), .lit (.int .i64 0), .lit (.int .i64 0)], .agg [.lit (.int .i64 0), .lit (.int .i64 0), .lit (.int .i64 0)], .agg [.lit (.int .i64 0), .lit (.int .i64 0), .lit (.int .i64 0)]], .lit (.int .i64 0)], .agg [.lit (.int .u32 4294967295), .lit (.bool false), .lit (.bool false), .lit (.bool false), .agg [.agg [.lit (.int .i64 0), .lit (.int .i64 0), .lit (.int .i64 0)], .agg [.lit (.int .i64 0), .lit (.int .i64 0), .lit (.int .i64 0)], .agg [.lit (.int .i64 0), .lit (.int .i64 0), .lit (.int .i64 0)], .agg [.lit (.int .i64 0), .lit (.int .i64 0), .lit (.int .i64 0)]], .lit (.int .i64 0)]]
def laid_ferrybridge_decode_uppers {H : Type} : DataW H := .agg [.lit (.int .u32 0), .lit (.int .u32 0), .lit (.int .u32 0), .lit (.int .u32 0), .lit (.int .u32 0), .lit (.int .u32 0), .lit (.int .u32 0), .lit (.int .u32 0), .lit (.int .u32 0), .lit (.int .u32 0), .lit (.int .u32 0), .lit (.int .u32 0), .lit (.int .u32 0), .lit (.int .u32 0), .lit (.int .u32 0), .lit (.int .u32 0), .lit (.int .u32 0), .lit (.int .u32 0), .lit (.int .u32 0), .lit (.int .u32 0), .lit (.int .u32 0), .lit (.int .u32 0), .lit (.int .u32 0), .lit (.int .u32 0), .lit (.int .u32 0), .lit (.int .u32 0), .lit (.int .u32 0), .lit (.int .u32 32), .lit (.int .u32 0), .lit (.int .u32 32), .lit (.int .u32 0), .lit (.int .u32 0), .lit (.int .u32 0), .lit (.int .u32 0), .lit (.int .u32 0), .lit (.int .u32 32), .lit (.int .u32 0), .lit (.int .u32 0), .lit (.int .u32 1), .lit (.int .u32 1), .lit (.int .u32 1), .lit (.int .u32 1), .lit (.int .u32 1), .lit (.int .u32 1), .lit (.int .u32 1), .lit (.int .u32 1), .lit (.int .u32 8), .lit (.int .u32 12), .lit (.int .u32 4), .lit (.int .u32 0), .lit (.int .u32 16), .lit (.int .u32 48), .lit (.int .u32 32), .lit (.int .u32 64), .lit (.int .u32 80), .lit (.int .u32 96), .lit (.int .u32 112), .lit (.int .u32 0), .lit (.int .u32 0), .lit (.int .u32 0)]
def laid_ferrybridge_trans_operations {H : Type} : DataW H := .agg [.lit (.int .i64 0), .lit (.int .i64 0), .lit (.int .i64 0), .lit (.int .i64 0), .lit (.int .i64 0), .lit (.int .i64 0), .lit (.int .i64 0), .lit (.int .i64 0), .lit (.int .i64 0), .lit (.int .i64 0), .lit (.int .i64 0), .lit (.int .i64 0), .lit (.int .i64 0), .lit (.int .i64 0), .lit (.int .i64 0), .lit (.int .i64 0), .lit (.int .i64 0), .lit (.int .i64 0), .lit (.int .i64 0), .lit (.int .i64 528), .lit (.int .i64 531), .lit (.int .i64 532), .lit (.int .i64 533), .lit (.int .i64 536), .lit (.int .i64 537), .lit (.int .i64 530), .lit (.int .i64 534), .lit (.int .i64 535)]
def laid_ferrybridge_hart_sizes {H : Type} : DataW H := .agg [.lit (.int .u32 0), .lit (.int .u32 0), .lit (.int .u32 0), .lit (.int .u32 0), .lit (.int .u32 0), .lit (.int .u32 0), .lit (.int .u32 0), .lit (.int .u32 0), .lit (.int .u32 0), .lit (.int .u32 0), .lit (.int .u32 0), .lit (.int .u32 0), .lit (.int .u32 0), .lit (.int .u32 0), .lit (.int .u32 0), .lit (.int .u32 0), .lit (.int .u32 1), .lit (.int .u32 2), .lit (.int .u32 4)]
def laid_ferrybridge_hart_operations {H : Type} : DataW H := .agg [.lit (.int .i64 0), .lit (.int .i64 0), .lit (.int .i64 0), .lit (.int .i64 0), .lit (.int .i64 0), .lit (.int .i64 0), .lit (.int .i64 0), .lit (.int .i64 0), .lit (.int .i64 0), .lit (.int .i64 0), .lit (.int .i64 0), .lit (.int .i64 0), .lit (.int .i64 0), .lit (.int .i64 0), .lit (.int .i64 0), .lit (.int .i64 0), .lit (.int .i64 0), .lit (.int .i64 0), .lit (.int .i64 0), .lit (.int .i64 28), .lit (.int .i64 31), .lit (.int .i64 32), .lit (.int .i64 33), .lit (.int .i64 36), .lit (.int .i64 37), .lit (.int .i64 30), .lit (.int .i64 34), .lit (.int .i64 35)]
def laid_ferrybridge_micro_rows {H : Type} : DataW H := .agg [.agg [.lit (.int .i64 1), .lit (.int .i64 1), .lit (.int .i64 8)], .agg [.lit (.int .i64 2), .lit (.int .i64 2), .lit (.int .i64 9)], .agg [.lit (.int .i64 3), .lit (.int .i64 3), .lit (.int .i64 8)], .agg [.lit (.int .i64 4), .lit (.int .i64 4), .lit (.int .i64 10)], .agg [.lit (.int .i64 5), .lit (.int .i64 6), .lit (.int .i64 0)], .agg [.lit (.int .i64 105), .lit (.int .i64 110), .lit (.int .i64 14)], .agg [.lit (.int .i64 211), .lit (.int .i64 215), .lit (.int .i64 11)], .agg [.lit (.int .i64 316), .lit (.int .i64 318), .lit (.int .i64 14)], .agg [.lit (.int .i64 428), .lit (.int .i64 445), .lit (.int .i64 7)], .agg [.lit (.int .i64 528), .lit (.int .i64 545), .lit (.int .i64 11)], .agg [.lit (.int .i64 646), .lit (.int .i64 656), .lit (.int .i64 7)]]

/-- 'ferrybridgelaw.EngineSame': WHATEVER THE INPUT: true; the input reads as it did. -/
def engineSameSpec : ChangeSpec := { name := "engineSame", fn := fun _ => fun
  | [d1, d2, d3] => { results := [.lit (.bool true)], args := [d1, d2, d3] }
  | _ => none }
def engineSameRow : OpenClaim := { program := "ytchllaeembmioaagreatdoor", sum := "143d84f98d4473c23e51e5fc78ef3ebfad9ec27c894590effdcb95eab4d81bb3", func := "ferrybridge/ferrybridgelaw.EngineSame", spec := "engineSame", unfollowed := true, recurses := true, named := ["ferrybridge/decode.shapes", "ferrybridge/decode.uppers", "ferrybridge/trans.operations", "ferrybridge/micro.rows", "ferrybridge/hart.sizes", "ferrybridge/hart.operations"], apart := false, laid := [("ferrybridge/decode.shapes", laid_ferrybridge_decode_shapes), ("ferrybridge/decode.uppers", laid_ferrybridge_decode_uppers), ("ferrybridge/trans.operations", laid_ferrybridge_trans_operations), ("ferrybridge/hart.sizes", laid_ferrybridge_hart_sizes), ("ferrybridge/hart.operations", laid_ferrybridge_hart_operations), ("ferrybridge/micro.rows", laid_ferrybridge_micro_rows)] }
def EngineSameSaid : Prop := engineSameRow.holds Tryz.pinned (OpenSpec.ofChange engineSameSpec)

/-- ITS FALSE NEIGHBOUR: 'it returns false'. Refute it at one input. -/
def engineSameWrong : ChangeSpec := { name := "engineSame", fn := fun _ => fun
  | [d1, d2, d3] => { results := [.lit (.bool false)], args := [d1, d2, d3] }
  | _ => none }
def EngineSameWrongFalsely : Prop := engineSameRow.holds Tryz.pinned (OpenSpec.ofChange engineSameWrong)

/-- 'ferrybridgelaw.EngineFresh': WHATEVER THE INPUT: true; the input reads as it did. -/
def engineFreshSpec : ChangeSpec := { name := "engineFresh", fn := fun _ => fun
  | [d1, d2, d3] => { results := [.lit (.bool true)], args := [d1, d2, d3] }
  | _ => none }
def engineFreshRow : OpenClaim := { program := "ytchllaeembmioaagreatdoor", sum := "143d84f98d4473c23e51e5fc78ef3ebfad9ec27c894590effdcb95eab4d81bb3", func := "ferrybridge/ferrybridgelaw.EngineFresh", spec := "engineFresh", unfollowed := true, recurses := true, named := ["ferrybridge/decode.shapes", "ferrybridge/decode.uppers", "ferrybridge/trans.operations", "ferrybridge/micro.rows", "ferrybridge/hart.sizes", "ferrybridge/hart.operations"], apart := false, laid := [("ferrybridge/decode.shapes", laid_ferrybridge_decode_shapes), ("ferrybridge/decode.uppers", laid_ferrybridge_decode_uppers), ("ferrybridge/trans.operations", laid_ferrybridge_trans_operations), ("ferrybridge/hart.sizes", laid_ferrybridge_hart_sizes), ("ferrybridge/hart.operations", laid_ferrybridge_hart_operations), ("ferrybridge/micro.rows", laid_ferrybridge_micro_rows)] }
def EngineFreshSaid : Prop := engineFreshRow.holds Tryz.pinned (OpenSpec.ofChange engineFreshSpec)

/-- ITS FALSE NEIGHBOUR: 'it returns false'. Refute it at one input. -/
def engineFreshWrong : ChangeSpec := { name := "engineFresh", fn := fun _ => fun
  | [d1, d2, d3] => { results := [.lit (.bool false)], args := [d1, d2, d3] }
  | _ => none }
def EngineFreshWrongFalsely : Prop := engineFreshRow.holds Tryz.pinned (OpenSpec.ofChange engineFreshWrong)

/-- 'ferrybridgekeep.EngineRooms': WHATEVER THE INPUT: true; the input reads as it did. -/
def engineRoomsSpec : ChangeSpec := { name := "engineRooms", fn := fun _ => fun
  | [d1, d2, d3, d4] => { results := [.lit (.bool true)], args := [d1, d2, d3, d4] }
  | _ => none }
def engineRoomsRow : OpenClaim := { program := "ytchllaeembmioaagreatdoor", sum := "143d84f98d4473c23e51e5fc78ef3ebfad9ec27c894590effdcb95eab4d81bb3", func := "ferrybridge/ferrybridgekeep.EngineRooms", spec := "engineRooms", unfollowed := true, recurses := true, named := ["ferrybridge/decode.shapes", "ferrybridge/decode.uppers", "ferrybridge/trans.operations", "ferrybridge/micro.rows", "ferrybridge/hart.sizes", "ferrybridge/hart.operations"], apart := false, laid := [("ferrybridge/decode.shapes", laid_ferrybridge_decode_shapes), ("ferrybridge/decode.uppers", laid_ferrybridge_decode_uppers), ("ferrybridge/trans.operations", laid_ferrybridge_trans_operations), ("ferrybridge/hart.sizes", laid_ferrybridge_hart_sizes), ("ferrybridge/hart.operations", laid_ferrybridge_hart_operations), ("ferrybridge/micro.rows", laid_ferrybridge_micro_rows)] }
def EngineRoomsSaid : Prop := engineRoomsRow.holds Tryz.pinned (OpenSpec.ofChange engineRoomsSpec)

/-- ITS FALSE NEIGHBOUR: 'it returns false'. Refute it at one input. -/
def engineRoomsWrong : ChangeSpec := { name := "engineRooms", fn := fun _ => fun
  | [d1, d2, d3, d4] => { results := [.lit (.bool false)], args := [d1, d2, d3, d4] }
  | _ => none }
def EngineRoomsWrongFalsely : Prop := engineRoomsRow.holds Tryz.pinned (OpenSpec.ofChange engineRoomsWrong)

/- THE SECOND FORM. 'bulk': how many values and letters a reading holds, each counted each time it is reached (what is shared counts as often as it is met; a slice's spare places count too). A statement '..UptoSaid' is the law's where the arguments, and the package variables that the reading takes, are together of bulk at most 1048576: NARROWER than '..Said'. Prove '..Said' where nothing that the law and all that it calls make is longer than what came in: it says more and counts as full. Else prove '..UptoSaid'. A law counts once. -/
mutual
def uptoBulk {H : Type} : DataW H → Nat
  | .lit (.string bytes) => bytes.length + 1
  | .lit _ => 1
  | .nil => 1
  | .ptr d => uptoBulk d + 1
  | .slice elems spare => uptoBulkAll elems + uptoBulkAll spare + 1
  | .agg parts => uptoBulkAll parts + 1
  | .iface _ d => uptoBulk d + 1
  | .map entries => uptoBulkEntries entries + 1
  | .held _ => 1
def uptoBulkAll {H : Type} : List (DataW H) → Nat
  | [] => 0
  | d :: r => uptoBulk d + uptoBulkAll r
def uptoBulkEntries {H : Type} : List (Lit × DataW H) → Nat
  | [] => 0
  | x :: r => uptoBulkEntry x + uptoBulkEntries r
def uptoBulkEntry {H : Type} : Lit × DataW H → Nat
  | (.string bytes, d) => bytes.length + uptoBulk d + 1
  | (_, d) => uptoBulk d + 1
 end
def uptoSmall : (H : Type) → List (DataW H) → Bool := fun _ ds => decide (uptoBulkAll ds ≤ 1048576)
def OpenSpec.upto (s : _root_.Go.ChangeSpec) : _root_.Go.OpenSpec := { _root_.Go.OpenSpec.ofChange s with cond := some uptoSmall }

/-- 'ferrybridgelaw.EngineSame', WHERE WHAT IT READS IS OF BULK AT MOST 1048576: true; the input reads as it did. -/
def engineSameUptoRow : OpenClaim := { program := "ytchllaeembmioaagreatdoor", sum := "143d84f98d4473c23e51e5fc78ef3ebfad9ec27c894590effdcb95eab4d81bb3", func := "ferrybridge/ferrybridgelaw.EngineSame", spec := "engineSame", unfollowed := true, recurses := true, named := ["ferrybridge/decode.shapes", "ferrybridge/decode.uppers", "ferrybridge/trans.operations", "ferrybridge/micro.rows", "ferrybridge/hart.sizes", "ferrybridge/hart.operations"], apart := false, laid := [("ferrybridge/decode.shapes", laid_ferrybridge_decode_shapes), ("ferrybridge/decode.uppers", laid_ferrybridge_decode_uppers), ("ferrybridge/trans.operations", laid_ferrybridge_trans_operations), ("ferrybridge/hart.sizes", laid_ferrybridge_hart_sizes), ("ferrybridge/hart.operations", laid_ferrybridge_hart_operations), ("ferrybridge/micro.rows", laid_ferrybridge_micro_rows)], narrowed := true }
def EngineSameUptoSaid : Prop := engineSameUptoRow.holds Tryz.pinned (OpenSpec.upto engineSameSpec)

/-- 'ferrybridgelaw.EngineFresh', WHERE WHAT IT READS IS OF BULK AT MOST 1048576: true; the input reads as it did. -/
def engineFreshUptoRow : OpenClaim := { program := "ytchllaeembmioaagreatdoor", sum := "143d84f98d4473c23e51e5fc78ef3ebfad9ec27c894590effdcb95eab4d81bb3", func := "ferrybridge/ferrybridgelaw.EngineFresh", spec := "engineFresh", unfollowed := true, recurses := true, named := ["ferrybridge/decode.shapes", "ferrybridge/decode.uppers", "ferrybridge/trans.operations", "ferrybridge/micro.rows", "ferrybridge/hart.sizes", "ferrybridge/hart.operations"], apart := false, laid := [("ferrybridge/decode.shapes", laid_ferrybridge_decode_shapes), ("ferrybridge/decode.uppers", laid_ferrybridge_decode_uppers), ("ferrybridge/trans.operations", laid_ferrybridge_trans_operations), ("ferrybridge/hart.sizes", laid_ferrybridge_hart_sizes), ("ferrybridge/hart.operations", laid_ferrybridge_hart_operations), ("ferrybridge/micro.rows", laid_ferrybridge_micro_rows)], narrowed := true }
def EngineFreshUptoSaid : Prop := engineFreshUptoRow.holds Tryz.pinned (OpenSpec.upto engineFreshSpec)

/-- 'ferrybridgekeep.EngineRooms', WHERE WHAT IT READS IS OF BULK AT MOST 1048576: true; the input reads as it did. -/
def engineRoomsUptoRow : OpenClaim := { program := "ytchllaeembmioaagreatdoor", sum := "143d84f98d4473c23e51e5fc78ef3ebfad9ec27c894590effdcb95eab4d81bb3", func := "ferrybridge/ferrybridgekeep.EngineRooms", spec := "engineRooms", unfollowed := true, recurses := true, named := ["ferrybridge/decode.shapes", "ferrybridge/decode.uppers", "ferrybridge/trans.operations", "ferrybridge/micro.rows", "ferrybridge/hart.sizes", "ferrybridge/hart.operations"], apart := false, laid := [("ferrybridge/decode.shapes", laid_ferrybridge_decode_shapes), ("ferrybridge/decode.uppers", laid_ferrybridge_decode_uppers), ("ferrybridge/trans.operations", laid_ferrybridge_trans_operations), ("ferrybridge/hart.sizes", laid_ferrybridge_hart_sizes), ("ferrybridge/hart.operations", laid_ferrybridge_hart_operations), ("ferrybridge/micro.rows", laid_ferrybridge_micro_rows)], narrowed := true }
def EngineRoomsUptoSaid : Prop := engineRoomsUptoRow.holds Tryz.pinned (OpenSpec.upto engineRoomsSpec)

end Rows
end Go.Proofs.YtchllaeembmioaaGreatDoor
