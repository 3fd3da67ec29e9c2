/-
  NARROWER THAN 'FOR EVERY INPUT', by the rows' own cells (each row's printed sentence says how): AsmBack: laid · AsmAgain: laid · UndoRuns: laid · UndoTakes: laid · UndoAll: laid.
  DERIVED. THE GIVEN ROWS OF THIS SEAT. 5 by the template 'for every input the law returns true; each argument reads behind the call as it read before'; 0 by the template 'total and deterministic' (their statements: YtdiofidmlgliiaaDoorTotals.lean).
  GIVEN WITH THE SEED: the statements are not yours to turn. If you find one false, say at which input.
  Laid BY PROGRAM, IN A SANDBOX (cutbox-rows.mjs): the forced cells as the released guide's own fill.sh prints them over the translation 37f46e08707b370f… (all of the seat's roots in one cut). By AI agents, Wed Nov 11 2026. No macro, syntax, notation, axiom, sorry.
-/
import Derived.Test.YtdiofidmlgliiaaDoorChecked
import GoSem.Claim
import GoSem.ClaimJoined
import GoSem.ClaimMapViews
import Derived.JoinedTies
import Derived.KernelRfl
namespace Go.Proofs.YtdiofidmlgliiaaDoor
/- THE CELL 'sum', in the pinned program and in every row, IS THE sha256 OF THE DUMP (.gsa) THAT YtdiofidmlgliiaaDoorProg.lean LOADS. Nothing in Lean hashes anything: it is a label: what it is worth is what the hold of that sum in a sandbox is worth. -/
noncomputable def Tryd.pinned : Pinned := { name := "ytdiofidmlgliiaadoor", sum := "37f46e08707b370f88d24ff937e1597a2248cf7f9f885da1aad2b4bb687480ab", checked := Tryd.checked }
namespace Rows
def none {H : Type} : Left H := { results := [], args := [] }

/- WHAT THE LISTED PACKAGE-LEVEL VARIABLES READ AS WHEN THE CALL BEGINS. Each datum BY PROGRAM (the guide's laid-datum.mjs) off the statement by which the dump's own 'gosem.cut.vars' lays the variable. In a bare row this is a premise. The card (YtdiofidmlgliiaaDoorCards.lean) ties it to the program's text. -/
def laid_ferrybridge_decode_shapes {H : Type} : DataW H := .agg [.agg [.lit (.int .u32 0), .lit (.bool false), .lit (.bool false), .lit (.bool false), .agg [.agg [.lit (.int .i64 0), .lit (.int .i64 0), .lit (.int .i64 0)], .agg [.lit (.int .i64 0), .lit (.int .i64 0), .lit (.int .i64 0)], .agg [.lit (.int .i64 0), .lit (.int .i64 0), .lit (.int .i64 0)], .agg [.lit (.int .i64 0), .lit (.int .i64 0), .lit (.int .i64 0)]], .lit (.int .i64 0)], .agg [.lit (.int .u32 127), .lit (.bool true), .lit (.bool false), .lit (.bool false), .agg [.agg [.lit (.int .i64 12), .lit (.int .i64 12), .lit (.int .i64 20)], .agg [.lit (.int .i64 0), .lit (.int .i64 0), .lit (.int .i64 0)], .agg [.lit (.int .i64 0), .lit (.int .i64 0), .lit (.int .i64 0)], .agg [.lit (.int .i64 0), .lit (.int .i64 0), .lit (.int .i64 0)]], .lit (.int .i64 0)], .agg [.lit (.int .u32 127), .lit (.bool true), .lit (.bool false), .lit (.bool false), .agg [.agg [.lit (.int .i64 31), .lit (.int .i64 20), .lit (.int .i64 1)], .agg [.lit (.int .i64 12), .lit (.int .i64 12), .lit (.int .i64 8)], .agg [.lit (.int .i64 20), .lit (.int .i64 11), .lit (.int .i64 1)], .agg [.lit (.int .i64 21), .lit (.int .i64 1), .lit (.int .i64 10)]], .lit (.int .i64 11)], .agg [.lit (.int .u32 28799), .lit (.bool true), .lit (.bool true), .lit (.bool false), .agg [.agg [.lit (.int .i64 20), .lit (.int .i64 0), .lit (.int .i64 12)], .agg [.lit (.int .i64 0), .lit (.int .i64 0), .lit (.int .i64 0)], .agg [.lit (.int .i64 0), .lit (.int .i64 0), .lit (.int .i64 0)], .agg [.lit (.int .i64 0), .lit (.int .i64 0), .lit (.int .i64 0)]], .lit (.int .i64 20)], .agg [.lit (.int .u32 4261441663), .lit (.bool true), .lit (.bool true), .lit (.bool false), .agg [.agg [.lit (.int .i64 20), .lit (.int .i64 0), .lit (.int .i64 5)], .agg [.lit (.int .i64 0), .lit (.int .i64 0), .lit (.int .i64 0)], .agg [.lit (.int .i64 0), .lit (.int .i64 0), .lit (.int .i64 0)], .agg [.lit (.int .i64 0), .lit (.int .i64 0), .lit (.int .i64 0)]], .lit (.int .i64 0)], .agg [.lit (.int .u32 28799), .lit (.bool false), .lit (.bool true), .lit (.bool true), .agg [.agg [.lit (.int .i64 31), .lit (.int .i64 12), .lit (.int .i64 1)], .agg [.lit (.int .i64 7), .lit (.int .i64 11), .lit (.int .i64 1)], .agg [.lit (.int .i64 25), .lit (.int .i64 5), .lit (.int .i64 6)], .agg [.lit (.int .i64 8), .lit (.int .i64 1), .lit (.int .i64 4)]], .lit (.int .i64 19)], .agg [.lit (.int .u32 28799), .lit (.bool false), .lit (.bool true), .lit (.bool true), .agg [.agg [.lit (.int .i64 25), .lit (.int .i64 5), .lit (.int .i64 7)], .agg [.lit (.int .i64 7), .lit (.int .i64 0), .lit (.int .i64 5)], .agg [.lit (.int .i64 0), .lit (.int .i64 0), .lit (.int .i64 0)], .agg [.lit (.int .i64 0), .lit (.int .i64 0), .lit (.int .i64 0)]], .lit (.int .i64 20)], .agg [.lit (.int .u32 4261441663), .lit (.bool true), .lit (.bool true), .lit (.bool true), .agg [.agg [.lit (.int .i64 0), .lit (.int .i64 0), .lit (.int .i64 0)], .agg [.lit (.int .i64 0), .lit (.int .i64 0), .lit (.int .i64 0)], .agg [.lit (.int .i64 0), .lit (.int .i64 0), .lit (.int .i64 0)], .agg [.lit (.int .i64 0), .lit (.int .i64 0), .lit (.int .i64 0)]], .lit (.int .i64 0)], .agg [.lit (.int .u32 4160778367), .lit (.bool true), .lit (.bool true), .lit (.bool true), .agg [.agg [.lit (.int .i64 25), .lit (.int .i64 0), .lit (.int .i64 2)], .agg [.lit (.int .i64 0), .lit (.int .i64 0), .lit (.int .i64 0)], .agg [.lit (.int .i64 0), .lit (.int .i64 0), .lit (.int .i64 0)], .agg [.lit (.int .i64 0), .lit (.int .i64 0), .lit (.int .i64 0)]], .lit (.int .i64 0)], .agg [.lit (.int .u32 4294967295), .lit (.bool false), .lit (.bool false), .lit (.bool false), .agg [.agg [.lit (.int .i64 0), .lit (.int .i64 0), .lit (.int .i64 0)], .agg [.lit (.int .i64 0), .lit (.int .i64 0), .lit (.int .i64 0)], .agg [.lit (.int .i64 0), .lit (.int .i64 0), .lit (.int .i64 0)], .agg [.lit (.int .i64 0), .lit (.int .i64 0), .lit (.int .i64 0)]], .lit (.int .i64 0)]]
def laid_ferrybridge_decode_uppers {H : Type} : DataW H := .agg [.lit (.int .u32 0), .lit (.int .u32 0), .lit (.int .u32 0), .lit (.int .u32 0), .lit (.int .u32 0), .lit (.int .u32 0), .lit (.int .u32 0), .lit (.int .u32 0), .lit (.int .u32 0), .lit (.int .u32 0), .lit (.int .u32 0), .lit (.int .u32 0), .lit (.int .u32 0), .lit (.int .u32 0), .lit (.int .u32 0), .lit (.int .u32 0), .lit (.int .u32 0), .lit (.int .u32 0), .lit (.int .u32 0), .lit (.int .u32 0), .lit (.int .u32 0), .lit (.int .u32 0), .lit (.int .u32 0), .lit (.int .u32 0), .lit (.int .u32 0), .lit (.int .u32 0), .lit (.int .u32 0), .lit (.int .u32 32), .lit (.int .u32 0), .lit (.int .u32 32), .lit (.int .u32 0), .lit (.int .u32 0), .lit (.int .u32 0), .lit (.int .u32 0), .lit (.int .u32 0), .lit (.int .u32 32), .lit (.int .u32 0), .lit (.int .u32 0), .lit (.int .u32 1), .lit (.int .u32 1), .lit (.int .u32 1), .lit (.int .u32 1), .lit (.int .u32 1), .lit (.int .u32 1), .lit (.int .u32 1), .lit (.int .u32 1), .lit (.int .u32 8), .lit (.int .u32 12), .lit (.int .u32 4), .lit (.int .u32 0), .lit (.int .u32 16), .lit (.int .u32 48), .lit (.int .u32 32), .lit (.int .u32 64), .lit (.int .u32 80), .lit (.int .u32 96), .lit (.int .u32 112), .lit (.int .u32 0), .lit (.int .u32 0), .lit (.int .u32 0)]
def laid_math_bits_deBruijn32tab {H : Type} : DataW H := .agg [.lit (.int .u8 0), .lit (.int .u8 1), .lit (.int .u8 28), .lit (.int .u8 2), .lit (.int .u8 29), .lit (.int .u8 14), .lit (.int .u8 24), .lit (.int .u8 3), .lit (.int .u8 30), .lit (.int .u8 22), .lit (.int .u8 20), .lit (.int .u8 15), .lit (.int .u8 25), .lit (.int .u8 17), .lit (.int .u8 4), .lit (.int .u8 8), .lit (.int .u8 31), .lit (.int .u8 27), .lit (.int .u8 13), .lit (.int .u8 23), .lit (.int .u8 21), .lit (.int .u8 19), .lit (.int .u8 16), .lit (.int .u8 7), .lit (.int .u8 26), .lit (.int .u8 12), .lit (.int .u8 18), .lit (.int .u8 6), .lit (.int .u8 11), .lit (.int .u8 5), .lit (.int .u8 10), .lit (.int .u8 9)]
def laid_math_bits_deBruijn64tab {H : Type} : DataW H := .agg [.lit (.int .u8 0), .lit (.int .u8 1), .lit (.int .u8 56), .lit (.int .u8 2), .lit (.int .u8 57), .lit (.int .u8 49), .lit (.int .u8 28), .lit (.int .u8 3), .lit (.int .u8 61), .lit (.int .u8 58), .lit (.int .u8 42), .lit (.int .u8 50), .lit (.int .u8 38), .lit (.int .u8 29), .lit (.int .u8 17), .lit (.int .u8 4), .lit (.int .u8 62), .lit (.int .u8 47), .lit (.int .u8 59), .lit (.int .u8 36), .lit (.int .u8 45), .lit (.int .u8 43), .lit (.int .u8 51), .lit (.int .u8 22), .lit (.int .u8 53), .lit (.int .u8 39), .lit (.int .u8 33), .lit (.int .u8 30), .lit (.int .u8 24), .lit (.int .u8 18), .lit (.int .u8 12), .lit (.int .u8 5), .lit (.int .u8 63), .lit (.int .u8 55), .lit (.int .u8 48), .lit (.int .u8 27), .lit (.int .u8 60), .lit (.int .u8 41), .lit (.int .u8 37), .lit (.int .u8 16), .lit (.int .u8 46), .lit (.int .u8 35), .lit (.int .u8 44), .lit (.int .u8 21), .lit (.int .u8 52), .lit (.int .u8 32), .lit (.int .u8 23), .lit (.int .u8 11), .lit (.int .u8 54), .lit (.int .u8 26), .lit (.int .u8 40), .lit (.int .u8 15), .lit (.int .u8 34), .lit (.int .u8 20), .lit (.int .u8 31), .lit (.int .u8 10), .lit (.int .u8 25), .lit (.int .u8 14), .lit (.int .u8 19), .lit (.int .u8 9), .lit (.int .u8 13), .lit (.int .u8 8), .lit (.int .u8 7), .lit (.int .u8 6)]
def laid_internal_strconv_uint64pow10 {H : Type} : DataW H := .agg [.lit (.int .u64 1), .lit (.int .u64 10), .lit (.int .u64 100), .lit (.int .u64 1000), .lit (.int .u64 10000), .lit (.int .u64 100000), .lit (.int .u64 1000000), .lit (.int .u64 10000000), .lit (.int .u64 100000000), .lit (.int .u64 1000000000), .lit (.int .u64 10000000000), .lit (.int .u64 100000000000), .lit (.int .u64 1000000000000), .lit (.int .u64 10000000000000), .lit (.int .u64 100000000000000), .lit (.int .u64 1000000000000000), .lit (.int .u64 10000000000000000), .lit (.int .u64 100000000000000000), .lit (.int .u64 1000000000000000000), .lit (.int .u64 10000000000000000000)]
def laid_strconv_ErrRange {H : Type} : DataW H := .iface "*errors.errorString" (.ptr (.agg [.lit (.string [118, 97, 108, 117, 101, 32, 111, 117, 116, 32, 111, 102, 32, 114, 97, 110, 103, 101])]))
def laid_strconv_ErrSyntax {H : Type} : DataW H := .iface "*errors.errorString" (.ptr (.agg [.lit (.string [105, 110, 118, 97, 108, 105, 100, 32, 115, 121, 110, 116, 97, 120])]))
def laid_ferrybridge_asm_names {H : Type} : DataW H := .agg [.lit (.string []), .lit (.string [108, 117, 105]), .lit (.string [97, 117, 105, 112, 99]), .lit (.string [106, 97, 108]), .lit (.string [106, 97, 108, 114]), .lit (.string [98, 101, 113]), .lit (.string [98, 110, 101]), .lit (.string [98, 108, 116]), .lit (.string [98, 103, 101]), .lit (.string [98, 108, 116, 117]), .lit (.string [98, 103, 101, 117]), .lit (.string [108, 98]), .lit (.string [108, 104]), .lit (.string [108, 119]), .lit (.string [108, 98, 117]), .lit (.string [108, 104, 117]), .lit (.string [115, 98]), .lit (.string [115, 104]), .lit (.string [115, 119]), .lit (.string [97, 100, 100, 105]), .lit (.string [115, 108, 116, 105]), .lit (.string [115, 108, 116, 105, 117]), .lit (.string [120, 111, 114, 105]), .lit (.string [111, 114, 105]), .lit (.string [97, 110, 100, 105]), .lit (.string [115, 108, 108, 105]), .lit (.string [115, 114, 108, 105]), .lit (.string [115, 114, 97, 105]), .lit (.string [97, 100, 100]), .lit (.string [115, 117, 98]), .lit (.string [115, 108, 108]), .lit (.string [115, 108, 116]), .lit (.string [115, 108, 116, 117]), .lit (.string [120, 111, 114]), .lit (.string [115, 114, 108]), .lit (.string [115, 114, 97]), .lit (.string [111, 114]), .lit (.string [97, 110, 100]), .lit (.string [109, 117, 108]), .lit (.string [109, 117, 108, 104]), .lit (.string [109, 117, 108, 104, 115, 117]), .lit (.string [109, 117, 108, 104, 117]), .lit (.string [100, 105, 118]), .lit (.string [100, 105, 118, 117]), .lit (.string [114, 101, 109]), .lit (.string [114, 101, 109, 117]), .lit (.string [108, 114]), .lit (.string [115, 99]), .lit (.string [97, 109, 111, 115, 119, 97, 112]), .lit (.string [97, 109, 111, 97, 100, 100]), .lit (.string [97, 109, 111, 120, 111, 114]), .lit (.string [97, 109, 111, 97, 110, 100]), .lit (.string [97, 109, 111, 111, 114]), .lit (.string [97, 109, 111, 109, 105, 110]), .lit (.string [97, 109, 111, 109, 97, 120]), .lit (.string [97, 109, 111, 109, 105, 110, 117]), .lit (.string [97, 109, 111, 109, 97, 120, 117]), .lit (.string [102, 101, 110, 99, 101]), .lit (.string [101, 99, 97, 108, 108]), .lit (.string [101, 98, 114, 101, 97, 107])]
def laid_ferrybridge_asm_added {H : Type} : DataW H := .agg [.lit (.string []), .lit (.string [46, 114, 108]), .lit (.string [46, 97, 113]), .lit (.string [46, 97, 113, 114, 108])]
def laid_ferrybridge_hart_sizes {H : Type} : DataW H := .agg [.lit (.int .u32 0), .lit (.int .u32 0), .lit (.int .u32 0), .lit (.int .u32 0), .lit (.int .u32 0), .lit (.int .u32 0), .lit (.int .u32 0), .lit (.int .u32 0), .lit (.int .u32 0), .lit (.int .u32 0), .lit (.int .u32 0), .lit (.int .u32 0), .lit (.int .u32 0), .lit (.int .u32 0), .lit (.int .u32 0), .lit (.int .u32 0), .lit (.int .u32 1), .lit (.int .u32 2), .lit (.int .u32 4)]
def laid_ferrybridge_hart_operations {H : Type} : DataW H := .agg [.lit (.int .i64 0), .lit (.int .i64 0), .lit (.int .i64 0), .lit (.int .i64 0), .lit (.int .i64 0), .lit (.int .i64 0), .lit (.int .i64 0), .lit (.int .i64 0), .lit (.int .i64 0), .lit (.int .i64 0), .lit (.int .i64 0), .lit (.int .i64 0), .lit (.int .i64 0), .lit (.int .i64 0), .lit (.int .i64 0), .lit (.int .i64 0), .lit (.int .i64 0), .lit (.int .i64 0), .lit (.int .i64 0), .lit (.int .i64 28), .lit (.int .i64 31), .lit (.int .i64 32), .lit (.int .i64 33), .lit (.int .i64 36), .lit (.int .i64 37), .lit (.int .i64 30), .lit (.int .i64 34), .lit (.int .i64 35)]

/-- 'ferrybridgekeep.AsmBack': WHATEVER THE INPUT: true; the input reads as it did. -/
def asmBackSpec : ChangeSpec := { name := "asmBack", fn := fun _ => fun
  | [d] => { results := [.lit (.bool true)], args := [d] }
  | _ => none }
def asmBackRow : OpenClaim := { program := "ytdiofidmlgliiaadoor", sum := "37f46e08707b370f88d24ff937e1597a2248cf7f9f885da1aad2b4bb687480ab", func := "ferrybridge/ferrybridgekeep.AsmBack", spec := "asmBack", inPlace := ["internal/abi.NoEscape", "internal/bytealg.IndexByteString", "internal/bytealg.IndexString"], unfollowed := true, recurses := true, named := ["ferrybridge/decode.uppers", "ferrybridge/decode.shapes", "ferrybridge/asm.names", "ferrybridge/asm.added", "internal/strconv.uint64pow10", "math/bits.deBruijn32tab", "math/bits.deBruijn64tab", "internal/bytealg.MaxLen", "strconv.ErrSyntax", "strconv.ErrRange"], apart := false, laid := [("ferrybridge/decode.shapes", laid_ferrybridge_decode_shapes), ("ferrybridge/decode.uppers", laid_ferrybridge_decode_uppers), ("math/bits.deBruijn32tab", laid_math_bits_deBruijn32tab), ("math/bits.deBruijn64tab", laid_math_bits_deBruijn64tab), ("internal/strconv.uint64pow10", laid_internal_strconv_uint64pow10), ("strconv.ErrRange", laid_strconv_ErrRange), ("strconv.ErrSyntax", laid_strconv_ErrSyntax), ("ferrybridge/asm.names", laid_ferrybridge_asm_names), ("ferrybridge/asm.added", laid_ferrybridge_asm_added)] }
def AsmBackSaid : Prop := asmBackRow.holds Tryd.pinned (OpenSpec.ofChange asmBackSpec)

/-- ITS FALSE NEIGHBOUR: 'it returns false'. Refute it at one input. -/
def asmBackWrong : ChangeSpec := { name := "asmBack", fn := fun _ => fun
  | [d] => { results := [.lit (.bool false)], args := [d] }
  | _ => none }
def AsmBackWrongFalsely : Prop := asmBackRow.holds Tryd.pinned (OpenSpec.ofChange asmBackWrong)

/-- 'ferrybridgekeep.AsmAgain': WHATEVER THE INPUT: true; the input reads as it did. -/
def asmAgainSpec : ChangeSpec := { name := "asmAgain", fn := fun _ => fun
  | [d] => { results := [.lit (.bool true)], args := [d] }
  | _ => none }
def asmAgainRow : OpenClaim := { program := "ytdiofidmlgliiaadoor", sum := "37f46e08707b370f88d24ff937e1597a2248cf7f9f885da1aad2b4bb687480ab", func := "ferrybridge/ferrybridgekeep.AsmAgain", spec := "asmAgain", inPlace := ["internal/bytealg.IndexByteString", "internal/bytealg.IndexString", "internal/abi.NoEscape"], unfollowed := true, recurses := true, named := ["internal/bytealg.MaxLen", "ferrybridge/asm.names", "ferrybridge/asm.added", "strconv.ErrSyntax", "strconv.ErrRange", "internal/strconv.uint64pow10", "math/bits.deBruijn32tab", "math/bits.deBruijn64tab", "ferrybridge/decode.uppers", "ferrybridge/decode.shapes"], apart := false, laid := [("ferrybridge/decode.shapes", laid_ferrybridge_decode_shapes), ("ferrybridge/decode.uppers", laid_ferrybridge_decode_uppers), ("math/bits.deBruijn32tab", laid_math_bits_deBruijn32tab), ("math/bits.deBruijn64tab", laid_math_bits_deBruijn64tab), ("internal/strconv.uint64pow10", laid_internal_strconv_uint64pow10), ("strconv.ErrRange", laid_strconv_ErrRange), ("strconv.ErrSyntax", laid_strconv_ErrSyntax), ("ferrybridge/asm.names", laid_ferrybridge_asm_names), ("ferrybridge/asm.added", laid_ferrybridge_asm_added)] }
def AsmAgainSaid : Prop := asmAgainRow.holds Tryd.pinned (OpenSpec.ofChange asmAgainSpec)

/-- ITS FALSE NEIGHBOUR: 'it returns false'. Refute it at one input. -/
def asmAgainWrong : ChangeSpec := { name := "asmAgain", fn := fun _ => fun
  | [d] => { results := [.lit (.bool false)], args := [d] }
  | _ => none }
def AsmAgainWrongFalsely : Prop := asmAgainRow.holds Tryd.pinned (OpenSpec.ofChange asmAgainWrong)

/-- 'ferrybridgelaw.UndoRuns': WHATEVER THE INPUT: true; the input reads as it did. -/
def undoRunsSpec : ChangeSpec := { name := "undoRuns", fn := fun _ => fun
  | [d1, d2] => { results := [.lit (.bool true)], args := [d1, d2] }
  | _ => none }
def undoRunsRow : OpenClaim := { program := "ytdiofidmlgliiaadoor", sum := "37f46e08707b370f88d24ff937e1597a2248cf7f9f885da1aad2b4bb687480ab", func := "ferrybridge/ferrybridgelaw.UndoRuns", spec := "undoRuns", named := ["ferrybridge/decode.shapes", "ferrybridge/decode.uppers", "ferrybridge/hart.operations", "ferrybridge/hart.sizes"], apart := false, laid := [("ferrybridge/decode.shapes", laid_ferrybridge_decode_shapes), ("ferrybridge/decode.uppers", laid_ferrybridge_decode_uppers), ("ferrybridge/hart.sizes", laid_ferrybridge_hart_sizes), ("ferrybridge/hart.operations", laid_ferrybridge_hart_operations)] }
def UndoRunsSaid : Prop := undoRunsRow.holds Tryd.pinned (OpenSpec.ofChange undoRunsSpec)

/-- ITS FALSE NEIGHBOUR: 'it returns false'. Refute it at one input. -/
def undoRunsWrong : ChangeSpec := { name := "undoRuns", fn := fun _ => fun
  | [d1, d2] => { results := [.lit (.bool false)], args := [d1, d2] }
  | _ => none }
def UndoRunsWrongFalsely : Prop := undoRunsRow.holds Tryd.pinned (OpenSpec.ofChange undoRunsWrong)

/-- 'ferrybridgelaw.UndoTakes': WHATEVER THE INPUT: true; the input reads as it did. -/
def undoTakesSpec : ChangeSpec := { name := "undoTakes", fn := fun _ => fun
  | [d1, d2, d3] => { results := [.lit (.bool true)], args := [d1, d2, d3] }
  | _ => none }
def undoTakesRow : OpenClaim := { program := "ytdiofidmlgliiaadoor", sum := "37f46e08707b370f88d24ff937e1597a2248cf7f9f885da1aad2b4bb687480ab", func := "ferrybridge/ferrybridgelaw.UndoTakes", spec := "undoTakes", unfollowed := true, recurses := true, named := ["ferrybridge/decode.shapes", "ferrybridge/decode.uppers", "ferrybridge/hart.operations", "ferrybridge/hart.sizes"], apart := false, laid := [("ferrybridge/decode.shapes", laid_ferrybridge_decode_shapes), ("ferrybridge/decode.uppers", laid_ferrybridge_decode_uppers), ("ferrybridge/hart.sizes", laid_ferrybridge_hart_sizes), ("ferrybridge/hart.operations", laid_ferrybridge_hart_operations)] }
def UndoTakesSaid : Prop := undoTakesRow.holds Tryd.pinned (OpenSpec.ofChange undoTakesSpec)

/-- ITS FALSE NEIGHBOUR: 'it returns false'. Refute it at one input. -/
def undoTakesWrong : ChangeSpec := { name := "undoTakes", fn := fun _ => fun
  | [d1, d2, d3] => { results := [.lit (.bool false)], args := [d1, d2, d3] }
  | _ => none }
def UndoTakesWrongFalsely : Prop := undoTakesRow.holds Tryd.pinned (OpenSpec.ofChange undoTakesWrong)

/-- 'ferrybridgekeep.UndoAll': WHATEVER THE INPUT: true; the input reads as it did. -/
def undoAllSpec : ChangeSpec := { name := "undoAll", fn := fun _ => fun
  | [d1, d2] => { results := [.lit (.bool true)], args := [d1, d2] }
  | _ => none }
def undoAllRow : OpenClaim := { program := "ytdiofidmlgliiaadoor", sum := "37f46e08707b370f88d24ff937e1597a2248cf7f9f885da1aad2b4bb687480ab", func := "ferrybridge/ferrybridgekeep.UndoAll", spec := "undoAll", unfollowed := true, recurses := true, named := ["ferrybridge/decode.shapes", "ferrybridge/decode.uppers", "ferrybridge/hart.operations", "ferrybridge/hart.sizes"], apart := false, laid := [("ferrybridge/decode.shapes", laid_ferrybridge_decode_shapes), ("ferrybridge/decode.uppers", laid_ferrybridge_decode_uppers), ("ferrybridge/hart.sizes", laid_ferrybridge_hart_sizes), ("ferrybridge/hart.operations", laid_ferrybridge_hart_operations)] }
def UndoAllSaid : Prop := undoAllRow.holds Tryd.pinned (OpenSpec.ofChange undoAllSpec)

/-- ITS FALSE NEIGHBOUR: 'it returns false'. Refute it at one input. -/
def undoAllWrong : ChangeSpec := { name := "undoAll", fn := fun _ => fun
  | [d1, d2] => { results := [.lit (.bool false)], args := [d1, d2] }
  | _ => none }
def UndoAllWrongFalsely : Prop := undoAllRow.holds Tryd.pinned (OpenSpec.ofChange undoAllWrong)

/- THE SECOND FORM. 'bulk': how many values and letters a reading holds, each counted each time it is reached (what is shared counts as often as it is met; a slice's spare places count too). A statement '..UptoSaid' is the law's where the arguments, and the package variables that the reading takes, are together of bulk at most 1048576: NARROWER than '..Said'. Prove '..Said' where nothing that the law and all that it calls make is longer than what came in: it says more and counts as full. Else prove '..UptoSaid'. A law counts once. -/
mutual
def uptoBulk {H : Type} : DataW H → Nat
  | .lit (.string bytes) => bytes.length + 1
  | .lit _ => 1
  | .nil => 1
  | .ptr d => uptoBulk d + 1
  | .slice elems spare => uptoBulkAll elems + uptoBulkAll spare + 1
  | .agg parts => uptoBulkAll parts + 1
  | .iface _ d => uptoBulk d + 1
  | .map entries => uptoBulkEntries entries + 1
  | .held _ => 1
def uptoBulkAll {H : Type} : List (DataW H) → Nat
  | [] => 0
  | d :: r => uptoBulk d + uptoBulkAll r
def uptoBulkEntries {H : Type} : List (Lit × DataW H) → Nat
  | [] => 0
  | x :: r => uptoBulkEntry x + uptoBulkEntries r
def uptoBulkEntry {H : Type} : Lit × DataW H → Nat
  | (.string bytes, d) => bytes.length + uptoBulk d + 1
  | (_, d) => uptoBulk d + 1
 end
def uptoSmall : (H : Type) → List (DataW H) → Bool := fun _ ds => decide (uptoBulkAll ds ≤ 1048576)
def OpenSpec.upto (s : _root_.Go.ChangeSpec) : _root_.Go.OpenSpec := { _root_.Go.OpenSpec.ofChange s with cond := some uptoSmall }

/-- 'ferrybridgekeep.AsmBack', WHERE WHAT IT READS IS OF BULK AT MOST 1048576: true; the input reads as it did. -/
def asmBackUptoRow : OpenClaim := { program := "ytdiofidmlgliiaadoor", sum := "37f46e08707b370f88d24ff937e1597a2248cf7f9f885da1aad2b4bb687480ab", func := "ferrybridge/ferrybridgekeep.AsmBack", spec := "asmBack", inPlace := ["internal/abi.NoEscape", "internal/bytealg.IndexByteString", "internal/bytealg.IndexString"], unfollowed := true, recurses := true, named := ["ferrybridge/decode.uppers", "ferrybridge/decode.shapes", "ferrybridge/asm.names", "ferrybridge/asm.added", "internal/strconv.uint64pow10", "math/bits.deBruijn32tab", "math/bits.deBruijn64tab", "internal/bytealg.MaxLen", "strconv.ErrSyntax", "strconv.ErrRange"], apart := false, laid := [("ferrybridge/decode.shapes", laid_ferrybridge_decode_shapes), ("ferrybridge/decode.uppers", laid_ferrybridge_decode_uppers), ("math/bits.deBruijn32tab", laid_math_bits_deBruijn32tab), ("math/bits.deBruijn64tab", laid_math_bits_deBruijn64tab), ("internal/strconv.uint64pow10", laid_internal_strconv_uint64pow10), ("strconv.ErrRange", laid_strconv_ErrRange), ("strconv.ErrSyntax", laid_strconv_ErrSyntax), ("ferrybridge/asm.names", laid_ferrybridge_asm_names), ("ferrybridge/asm.added", laid_ferrybridge_asm_added)], narrowed := true }
def AsmBackUptoSaid : Prop := asmBackUptoRow.holds Tryd.pinned (OpenSpec.upto asmBackSpec)

/-- 'ferrybridgekeep.AsmAgain', WHERE WHAT IT READS IS OF BULK AT MOST 1048576: true; the input reads as it did. -/
def asmAgainUptoRow : OpenClaim := { program := "ytdiofidmlgliiaadoor", sum := "37f46e08707b370f88d24ff937e1597a2248cf7f9f885da1aad2b4bb687480ab", func := "ferrybridge/ferrybridgekeep.AsmAgain", spec := "asmAgain", inPlace := ["internal/bytealg.IndexByteString", "internal/bytealg.IndexString", "internal/abi.NoEscape"], unfollowed := true, recurses := true, named := ["internal/bytealg.MaxLen", "ferrybridge/asm.names", "ferrybridge/asm.added", "strconv.ErrSyntax", "strconv.ErrRange", "internal/strconv.uint64pow10", "math/bits.deBruijn32tab", "math/bits.deBruijn64tab", "ferrybridge/decode.uppers", "ferrybridge/decode.shapes"], apart := false, laid := [("ferrybridge/decode.shapes", laid_ferrybridge_decode_shapes), ("ferrybridge/decode.uppers", laid_ferrybridge_decode_uppers), ("math/bits.deBruijn32tab", laid_math_bits_deBruijn32tab), ("math/bits.deBruijn64tab", laid_math_bits_deBruijn64tab), ("internal/strconv.uint64pow10", laid_internal_strconv_uint64pow10), ("strconv.ErrRange", laid_strconv_ErrRange), ("strconv.ErrSyntax", laid_strconv_ErrSyntax), ("ferrybridge/asm.names", laid_ferrybridge_asm_names), ("ferrybridge/asm.added", laid_ferrybridge_asm_added)], narrowed := true }
def AsmAgainUptoSaid : Prop := asmAgainUptoRow.holds Tryd.pinned (OpenSpec.upto asmAgainSpec)

/-- 'ferrybridgelaw.UndoRuns', WHERE WHAT IT READS IS OF BULK AT MOST 1048576: true; the input reads as it did. -/
def undoRunsUptoRow : OpenClaim := { program := "ytdiofidmlgliiaadoor", sum := "37f46e08707b370f88d24ff937e1597a2248cf7f9f885da1aad2b4bb687480ab", func := "ferrybridge/ferrybridgelaw.UndoRuns", spec := "undoRuns", named := ["ferrybridge/decode.shapes", "ferrybridge/decode.uppers", "ferrybridge/hart.operations", "ferrybridge/hart.sizes"], apart := false, laid := [("ferrybridge/decode.shapes", laid_ferrybridge_decode_shapes), ("ferrybridge/decode.uppers", laid_ferrybridge_decode_uppers), ("ferrybridge/hart.sizes", laid_ferrybridge_hart_sizes), ("ferrybridge/hart.operations", laid_ferrybridge_hart_operations)], narrowed := true }
def UndoRunsUptoSaid : Prop := undoRunsUptoRow.holds Tryd.pinned (OpenSpec.upto undoRunsSpec)

/-- 'ferrybridgelaw.UndoTakes', WHERE WHAT IT READS IS OF BULK AT MOST 1048576: true; the input reads as it did. -/
def undoTakesUptoRow : OpenClaim := { program := "ytdiofidmlgliiaadoor", sum := "37f46e08707b370f88d24ff937e1597a2248cf7f9f885da1aad2b4bb687480ab", func := "ferrybridge/ferrybridgelaw.UndoTakes", spec := "undoTakes", unfollowed := true, recurses := true, named := ["ferrybridge/decode.shapes", "ferrybridge/decode.uppers", "ferrybridge/hart.operations", "ferrybridge/hart.sizes"], apart := false, laid := [("ferrybridge/decode.shapes", laid_ferrybridge_decode_shapes), ("ferrybridge/decode.uppers", laid_ferrybridge_decode_uppers), ("ferrybridge/hart.sizes", laid_ferrybridge_hart_sizes), ("ferrybridge/hart.operations", laid_ferrybridge_hart_operations)], narrowed := true }
def UndoTakesUptoSaid : Prop := undoTakesUptoRow.holds Tryd.pinned (OpenSpec.upto undoTakesSpec)

/-- 'ferrybridgekeep.UndoAll', WHERE WHAT IT READS IS OF BULK AT MOST 1048576: true; the input reads as it did. -/
def undoAllUptoRow : OpenClaim := { program := "ytdiofidmlgliiaadoor", sum := "37f46e08707b370f88d24ff937e1597a2248cf7f9f885da1aad2b4bb687480ab", func := "ferrybridge/ferrybridgekeep.UndoAll", spec := "undoAll", unfollowed := true, recurses := true, named := ["ferrybridge/decode.shapes", "ferrybridge/decode.uppers", "ferrybridge/hart.operations", "ferrybridge/hart.sizes"], apart := false, laid := [("ferrybridge/decode.shapes", laid_ferrybridge_decode_shapes), ("ferrybridge/decode.uppers", laid_ferrybridge_decode_uppers), ("ferrybridge/hart.sizes", laid_ferrybridge_hart_sizes), ("ferrybridge/hart.operations", laid_ferrybridge_hart_operations)], narrowed := true }
def UndoAllUptoSaid : Prop := undoAllUptoRow.holds Tryd.pinned (OpenSpec.upto undoAllSpec)

end Rows
end Go.Proofs.YtdiofidmlgliiaaDoor
