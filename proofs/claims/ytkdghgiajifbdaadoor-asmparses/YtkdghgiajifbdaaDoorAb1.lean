/-
  The tables of packages decode and asm and of Go's strconv, out of the cards' condition.
-/
import Derived.Test.YtkdghgiajifbdaaDoorAx
import Derived.Lib.LaidTab
import Derived.Stop.LaidErr
import Derived.LaidMore
import Derived.ProofKit
namespace Go.Proofs.YtkdghgiajifbdaaDoor.As
open Go.ChangeShapes Go.WideShapes Go.ChangeAt Go.RowKit Mm
set_option linter.unusedVariables false
set_option linter.unusedSimpArgs false

/-- A table of texts. -/
theorem strs_cell {H : Type} {enc : TypeId × Value → H} {P : Program} {W : World} {base : Nat} {spare : Nat → Bool} {held : Bool} {fuel : Nat} {t e : TypeId} {n : Nat} {cs : List Value} {ds : List (DataW H)} {ps : List MemPlace}
    (ht : P.underlying t = some (.array n e)) (he : P.underlying e = some .string) (hc : P.cellsOf e = 1) (h : DataW.trod enc P W base spare held fuel t cs = some (.agg ds, ps)) {i : Nat} (hi : i < n) {l : List UInt8} (hd : ds[i]? = some (.lit (.string l))) : cs[i]? = some (.string ⟨l.toArray⟩) := by
  obtain ⟨xs, m, rfl, hx, _, hlen, hel⟩ := DataW.trod_array ht h
  simp only [Prod.mk.injEq, DataW.agg.injEq] at hx
  have hE := hel i hi
  rw [hx.1, List.getElem?_map] at hd
  cases hy : xs[i]? with
  | none => simp [hy] at hd
  | some y =>
    rw [hy] at hE hd
    simp at hd
    obtain ⟨s, h1, h2, _⟩ := DataW.trod_string he hE
    rw [h2] at hd
    simp only [DataW.lit.injEq, Lit.string.injEq] at hd
    rw [hc, Nat.mul_one] at h1
    have : ((cs.drop i).take 1)[0]? = some (.string s) := by rw [h1]; rfl
    have := Dw.take_drop_get _ _ _ _ _ this
    rw [Nat.add_zero] at this
    rw [this, ← hd]
theorem gNames : Tryd.prog.globalNamed "ferrybridge/asm.names" = some 2 := by kernel_rfl
theorem gAdded : Tryd.prog.globalNamed "ferrybridge/asm.added" = some 3 := by kernel_rfl
theorem gPow : Tryd.prog.globalNamed "internal/strconv.uint64pow10" = some 8 := by kernel_rfl
theorem gEs : Tryd.prog.globalNamed "strconv.ErrSyntax" = some 6 := by kernel_rfl
theorem gEr : Tryd.prog.globalNamed "strconv.ErrRange" = some 7 := by kernel_rfl
theorem tNames : (Tryd.prog.globals[2]?).map (·.type) = some 137 := by kernel_rfl
theorem tAdded : (Tryd.prog.globals[3]?).map (·.type) = some 138 := by kernel_rfl
theorem tPow : (Tryd.prog.globals[8]?).map (·.type) = some 199 := by kernel_rfl
theorem tEs : (Tryd.prog.globals[6]?).map (·.type) = some 143 := by kernel_rfl
theorem tEr : (Tryd.prog.globals[7]?).map (·.type) = some 143 := by kernel_rfl
theorem cString : Tryd.prog.cellsOf 9 = 1 := by kernel_rfl
theorem cEstr : Tryd.prog.cellsOf 204 = 1 := by kernel_rfl
theorem cU64 : Tryd.prog.cellsOf 181 = 1 := by kernel_rfl
theorem cPow : Tryd.prog.cellsOf 199 = 20 := by kernel_rfl
theorem star : "*" ++ "errors.errorString" = "*errors.errorString" := by decide
theorem rowE (u : TypeId) (h : Tryd.prog.typeName? 3 u = some "*errors.errorString") : u = 202 :=
  typeName_ptr_named (nm := "errors.errorString") (by rw [star]; kernel_rfl) (by kernel_rfl) (by decide) u (by rw [star]; exact h)
abbrev Lm := List (String × DataW Unit)
theorem datP : (Rows.laid_internal_strconv_uint64pow10 : DataW Unit) = Lib.tabData .u64 Lib.pow10Tab := by kernel_rfl
theorem datN {k : Nat} (h : k < 59) : (match (Rows.laid_ferrybridge_asm_names : DataW Unit) with | .agg ds => ds[k + 1]? | _ => none) = some (.lit (.string ((names.getD k []).map UInt8.ofNat))) := by
  have : ∀ k : Fin 59, (match (Rows.laid_ferrybridge_asm_names : DataW Unit) with | .agg ds => ds[k.val + 1]? | _ => none) = some (.lit (.string ((names.getD k.val []).map UInt8.ofNat))) := by
    intro k
    have e : (List.range 59).map (fun k => match (Rows.laid_ferrybridge_asm_names : DataW Unit) with | .agg ds => ds[k + 1]? | _ => none) = (List.range 59).map (fun k => some (.lit (.string ((names.getD k []).map UInt8.ofNat)))) := by kernel_rfl
    have := congrArg (·[k.val]?) e
    simpa [k.isLt] using this
  exact this ⟨k, h⟩
theorem datA {k : Nat} (h : k < 4) : (match (Rows.laid_ferrybridge_asm_added : DataW Unit) with | .agg ds => ds[k]? | _ => none) = some (.lit (.string ((sfx (k : Int)).map UInt8.ofNat))) := by
  match k, h with
  | 0, _ => rfl
  | 1, _ => rfl
  | 2, _ => rfl
  | 3, _ => rfl
set_option maxHeartbeats 1000000 in
/-- The condition gives the tables that Print reads. -/
theorem tas_of {W : World} {x y : String × DataW Unit} {r r' : Lm} (h : laidMet Tryd.prog (("ferrybridge/decode.shapes", Rows.laid_ferrybridge_decode_shapes) :: ("ferrybridge/decode.uppers", Rows.laid_ferrybridge_decode_uppers) :: x :: y :: ("internal/strconv.uint64pow10", Rows.laid_internal_strconv_uint64pow10) :: r) W)
    (h' : laidMet Tryd.prog (("ferrybridge/asm.names", Rows.laid_ferrybridge_asm_names) :: ("ferrybridge/asm.added", Rows.laid_ferrybridge_asm_added) :: r') W) : Tas W := by
  have hp := h.tail.tail.tail.tail
  rw [datP] at hp
  refine ⟨?_, Lib.tabIs_of_head gPow tPow Tryd.underlying199 Tryd.underlying181 cU64 cPow hp, ?_, ?_⟩
  · obtain ⟨ps, ⟨g0, t0, cs0, f0, p0, q0, hg0, ht0, hv0, hd0, ⟨g1, t1, cs1, f1, p1, q1, hg1, ht1, hv1, hd1, _, _⟩, _⟩, _, _⟩ := h
    obtain rfl := Option.some.inj (Dw.gShapes.symm.trans hg0)
    obtain rfl := Option.some.inj (Dw.gUppers.symm.trans hg1)
    obtain rfl := Option.some.inj (Dw.tShapes.symm.trans ht0)
    obtain rfl := Option.some.inj (Dw.tUppers.symm.trans ht1)
    refine ⟨fun i v hi => ?_, fun i n hi => ?_⟩
    · have := Dw.look_cell 5 hd0 (Dw.look_of Dw.lookShapes hi)
      rw [World.var?_cell hg0 hv0 i]; simpa using this
    · have := Dw.look_cell 3 hd1 (Dw.look_of (l := Dc.uppers.map fun n => .int .u32 n) (i := i) (v := .int .u32 n) (by rw [Dw.lookUppers]; simp [Function.comp_def]) (by simp [hi]))
      rw [World.var?_cell hg1 hv1 i]; simpa using this
  · obtain ⟨ps, ⟨g0, t0, cs0, f0, p0, q0, hg0, ht0, hv0, hd0, _, _⟩, _, _⟩ := h'
    obtain rfl := Option.some.inj (gNames.symm.trans hg0)
    obtain rfl := Option.some.inj (tNames.symm.trans ht0)
    intro k hk
    have e := datN hk
    unfold Rows.laid_ferrybridge_asm_names at e hd0
    have := strs_cell Tryd.underlying137 Tryd.underlying9 cString hd0 (i := k + 1) (by omega) e
    rw [World.var?_cell hg0 hv0 (k + 1)]; simpa [str] using this
  · obtain ⟨ps, ⟨g0, t0, cs0, f0, p0, q0, hg0, ht0, hv0, hd0, _, _⟩, _, _⟩ := h'.tail
    obtain rfl := Option.some.inj (gAdded.symm.trans hg0)
    obtain rfl := Option.some.inj (tAdded.symm.trans ht0)
    intro k hk
    have e := datA hk
    unfold Rows.laid_ferrybridge_asm_added at e hd0
    have := strs_cell Tryd.underlying138 Tryd.underlying9 cString hd0 (i := k) hk e
    rw [World.var?_cell hg0 hv0 k]; simpa [str] using this
/-- .. and what strconv's errors wrap. -/
theorem ers_of {W : World} {r : Lm} (h : laidMet Tryd.prog (("strconv.ErrRange", Rows.laid_strconv_ErrRange) :: ("strconv.ErrSyntax", Rows.laid_strconv_ErrSyntax) :: r) W) : Ers W := by
  obtain ⟨a0, s0, hv0, -, -, -⟩ := laid_sentinel h gEr tEr Tryd.underlying143 rowE Tryd.underlying202 Tryd.underlying204 rfl rfl Tryd.underlying9 cEstr cString
  obtain ⟨a1, s1, hv1, -, -, -⟩ := laid_sentinel h.tail gEs tEs Tryd.underlying143 rowE Tryd.underlying202 Tryd.underlying204 rfl rfl Tryd.underlying9 cEstr cString
  exact ⟨⟨_, _, by have h0 := World.var?_cell gEs hv1 0; simpa using h0⟩, _, _, by have h0 := World.var?_cell gEr hv0 0; simpa using h0⟩
def laidP {H : Type} : List (String × DataW H) := [("ferrybridge/decode.shapes", Rows.laid_ferrybridge_decode_shapes), ("ferrybridge/decode.uppers", Rows.laid_ferrybridge_decode_uppers), ("math/bits.deBruijn32tab", Rows.laid_math_bits_deBruijn32tab), ("math/bits.deBruijn64tab", Rows.laid_math_bits_deBruijn64tab), ("internal/strconv.uint64pow10", Rows.laid_internal_strconv_uint64pow10), ("ferrybridge/asm.names", Rows.laid_ferrybridge_asm_names), ("ferrybridge/asm.added", Rows.laid_ferrybridge_asm_added)]
def laidQ {H : Type} : List (String × DataW H) := [("ferrybridge/decode.shapes", Rows.laid_ferrybridge_decode_shapes), ("ferrybridge/decode.uppers", Rows.laid_ferrybridge_decode_uppers), ("math/bits.deBruijn32tab", Rows.laid_math_bits_deBruijn32tab), ("math/bits.deBruijn64tab", Rows.laid_math_bits_deBruijn64tab), ("internal/strconv.uint64pow10", Rows.laid_internal_strconv_uint64pow10), ("strconv.ErrRange", Rows.laid_strconv_ErrRange), ("strconv.ErrSyntax", Rows.laid_strconv_ErrSyntax), ("ferrybridge/asm.names", Rows.laid_ferrybridge_asm_names), ("ferrybridge/asm.added", Rows.laid_ferrybridge_asm_added)]
theorem tasP {W : World} (h : laidMetH Tryd.prog laidP W) : Tas W := by
  rw [MakeChecks.laidMetH_plain _ _ _ (by kernel_rfl)] at h
  exact tas_of h h.tail.tail.tail.tail.tail
theorem tasQ {W : World} (h : laidMetH Tryd.prog laidQ W) : Tas W ∧ Ers W := by
  rw [MakeChecks.laidMetH_plain _ _ _ (by kernel_rfl)] at h
  exact ⟨tas_of h h.tail.tail.tail.tail.tail.tail.tail, ers_of h.tail.tail.tail.tail.tail⟩
/-- The door's own heap meets the condition: three closed facts. -/
theorem doorP (os : Os) (args : Array Value) : laidMetH Tryd.prog laidP ((World.doorLaid Tryd.prog 400 os).forCall (fun _ _ => 0) ⟨#[], args, []⟩).memory :=
  laidMetH_of_parts3 (fuel := 8) (laidMet_of_run' 8 (by kernel_rfl) (by kernel_rfl)) (by kernel_rfl) (by kernel_rfl)
theorem doorQ (os : Os) (args : Array Value) : laidMetH Tryd.prog laidQ ((World.doorLaid Tryd.prog 400 os).forCall (fun _ _ => 0) ⟨#[], args, []⟩).memory :=
  laidMetH_of_parts3 (fuel := 8) (laidMet_of_run' 8 (by kernel_rfl) (by kernel_rfl)) (by kernel_rfl) (by kernel_rfl)
end Go.Proofs.YtkdghgiajifbdaaDoor.As
