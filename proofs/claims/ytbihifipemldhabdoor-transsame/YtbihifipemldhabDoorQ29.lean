/-
  Tl, Tt: texts of ours that lie in one file.
-/
import Derived.Test.YtbihifipemldhabDoorQ28
import Derived.Test.YtbihifipemldhabDoorQ11
import Derived.Test.YtbihifipemldhabDoorQ23
import Derived.Test.YtbihifipemldhabDoorQ13
import Derived.LaidMore
set_option linter.unusedVariables false
set_option linter.unusedSimpArgs false
set_option maxHeartbeats 8000000
set_option maxRecDepth 100000
/-
  What package trans's Make answers: of whatever block; of one ECALL; of the block of a memory.
-/
namespace Go.Proofs.YtbihifipemldhabDoor.Ts
open Go.ChangeShapes Go.WideShapes Go.ChangeAt Go.RowKit Mm Hc Mi Bk
open Hh hiding Rn

theorem immX_bd {v : Int} (f : Int) (h0 : 0 ≤ v) (h1 : v < 4294967296) : -2147483648 ≤ Dc.immF f v ∧ Dc.immF f v < 2147483648 := by
  unfold Dc.immF Wd.sg Dc.sgn
  repeat' split
  all_goals omega
theorem ivX_sound {x : Int} (h0 : 0 ≤ x) (h1 : x < 4294967296) (hx : ¬ Dc.dop x = 0) : (ivX x).Sound := by
  have b := immX_bd (Dc.frm (Dc.dop x)) h0 h1
  have hs : Dw.Same (Dc.dop x) (Dc.rdF (Dc.frm (Dc.dop x)) x) (Dc.rs1F (Dc.frm (Dc.dop x)) x) (Dc.rs2F (Dc.frm (Dc.dop x)) x) (Dc.immF (Dc.frm (Dc.dop x)) x) x := ⟨by unfold Dw.decOk; simpa using hx, rfl, rfl, rfl, rfl, rfl⟩
  exact Dw.same_of_is (Dw.is_of_same h0 h1 hs) b.1 b.2
theorem ivX_ok {x : Int} (h0 : 0 ≤ x) (h1 : x < 4294967296) (hx : ¬ Dc.dop x = 0) : (ivX x).Ok := by
  have i := ivX_in h0 h1 hx
  have b := immX_bd (Dc.frm (Dc.dop x)) h0 h1
  exact ⟨by have := i.o1; have := i.o2; unfold I64; omega, by have := i.d0; have := i.d1; unfold I64; omega, by have := i.a0; have := i.a1; unfold I64; omega, by have := i.b0; have := i.b1; unfold I64; omega, b.1, by show Dc.immF (Dc.frm (Dc.dop x)) x ≤ 2147483647; omega⟩
/-- Words that are instructions, each. -/
def Words (xs : List Int) : Prop := ∀ x ∈ xs, 0 ≤ x ∧ x < 4294967296 ∧ ¬ Dc.dop x = 0
theorem is_own {w : World} {base : Nat} {sa : Option Addr} {sc : Nat} {xs : List Int} (O : w.ownsRow base 63 5 (.slice sa xs.length sc) xs.length (blC xs)) (hx : Words xs) : Is w sa xs.length (xs.map ivX) := by
  refine ⟨by simp, fun i hi => ?_, fun h0 => ?_⟩
  · obtain ⟨x, hm, rfl⟩ := List.mem_map.1 hi
    obtain ⟨a, b, c⟩ := hx x hm
    exact ivX_ok a b c
  · obtain ⟨g, c, e, hg, hc⟩ := at_own O h0
    injection e with e1 _ _
    refine ⟨g, 0, e1, hg, fun j i hj => ?_⟩
    rw [List.getElem?_map] at hj
    cases hxj : xs[j]? with
    | none => rw [hxj] at hj; cases hj
    | some x =>
      rw [hxj] at hj
      simp at hj
      subst hj
      rw [Nat.zero_add]
      have q := fun t (ht : t < 5) => blC_get xs j t x hxj ht
      refine ⟨hc _ _ ?_, hc _ _ ?_, hc _ _ ?_, hc _ _ ?_, hc _ _ ?_⟩
      · have := q 0 (by omega); rwa [Nat.add_zero] at this
      · exact q 1 (by omega)
      · exact q 2 (by omega)
      · exact q 3 (by omega)
      · exact q 4 (by omega)
theorem blk_words (l : List UInt8) (pc : Int) : Words (blk l pc 16 0) := fun x hx => by
  obtain ⟨j, hj⟩ := List.mem_iff_getElem?.1 hx
  obtain ⟨a, b, _⟩ := (blk_facts l pc 16 0).2 j (List.getElem?_eq_some_iff.1 hj).1
  rw [Nat.zero_add] at a b
  rw [b] at hj
  injection hj with hj
  subst hj
  have := W.ldV l 13 (at4 pc j)
  exact ⟨this.1, this.2, (ft_zero a).2⟩
/-- Of words that are instructions, up to 16. -/
theorem Make_words {w : World} (pc : Int) {b : Nat} {sa : Option Addr} (sc : Nat) {xs : List Int} (O : w.ownsRow b 63 5 (.slice sa xs.length sc) xs.length (blC xs)) (hx : Words xs) (T : Dw.Tab w) (Q : Tq w) (hn : xs.length ≤ 16) : Calls Tryd.prog 19 #[.agg #[.int .u32 pc, .slice sa xs.length sc]] w fun e w' => ∃ ca cn cc, e = .returned (.slice ca cn cc) ∧ Cs w' ca cn (codeV pc (xs.map ivX) 0) ∧ Gr w w' :=
  Make_some pc sc (is_own O hx) T Q hn fun i hi => by
    obtain ⟨x, hm, rfl⟩ := List.mem_map.1 hi
    obtain ⟨a, b, c⟩ := hx x hm
    exact ivX_sound a b c
end Go.Proofs.YtbihifipemldhabDoor.Ts
/-
  The tables of packages decode and trans, out of the card's condition; the document's block, whatever the memory.
-/
namespace Go.Proofs.YtbihifipemldhabDoor.Ts
open Go.ChangeShapes Go.WideShapes Go.ChangeAt Go.RowKit Mm Hc Mi Bk
open Hh hiding Rn

theorem gOpers : Tryd.prog.globalNamed "ferrybridge/trans.operations" = some 1 := by kernel_rfl
theorem tOpers : (Tryd.prog.globals[1]?).map (·.type) = some 144 := by kernel_rfl
theorem lookOpersT : (List.range 28).map (Dw.look Tryd.prog 3 144 (Rows.laid_ferrybridge_trans_operations (H := Unit))) = opersL.map fun n => some (.int .i64 n) := by kernel_rfl
def laidT {H : Type} : List (String × DataW H) := [("ferrybridge/decode.shapes", Rows.laid_ferrybridge_decode_shapes), ("ferrybridge/decode.uppers", Rows.laid_ferrybridge_decode_uppers), ("ferrybridge/trans.operations", Rows.laid_ferrybridge_trans_operations)]
/-- The condition gives the tables. -/
theorem tabsT {W : World} (h : laidMetH Tryd.prog [("ferrybridge/decode.shapes", Rows.laid_ferrybridge_decode_shapes), ("ferrybridge/decode.uppers", Rows.laid_ferrybridge_decode_uppers), ("ferrybridge/trans.operations", Rows.laid_ferrybridge_trans_operations)] W) : Dw.Tab W ∧ Tq W := by
  rw [MakeChecks.laidMetH_plain _ _ _ (by kernel_rfl)] at h
  obtain ⟨ps, ⟨g0, t0, cs0, f0, p0, q0, hg0, ht0, hv0, hd0, ⟨g1, t1, cs1, f1, p1, q1, hg1, ht1, hv1, hd1, ⟨g2, t2, cs2, f2, p2, q2, hg2, ht2, hv2, hd2, _, _⟩, _⟩, _⟩, _, _⟩ := h
  obtain rfl := Option.some.inj (Dw.gShapes.symm.trans hg0)
  obtain rfl := Option.some.inj (Dw.gUppers.symm.trans hg1)
  obtain rfl := Option.some.inj (gOpers.symm.trans hg2)
  obtain rfl := Option.some.inj (Dw.tShapes.symm.trans ht0)
  obtain rfl := Option.some.inj (Dw.tUppers.symm.trans ht1)
  obtain rfl := Option.some.inj (tOpers.symm.trans ht2)
  refine ⟨⟨fun i v hi => ?_, fun i n hi => ?_⟩, fun i n hi => ?_⟩
  · have := Dw.look_cell 5 hd0 (Dw.look_of Dw.lookShapes hi)
    rw [World.var?_cell hg0 hv0 i]; simpa using this
  · have := Dw.look_cell 3 hd1 (Dw.look_of (l := Dc.uppers.map fun n => .int .u32 n) (i := i) (v := .int .u32 n) (by rw [Dw.lookUppers]; simp [Function.comp_def]) (by simp [hi]))
    rw [World.var?_cell hg1 hv1 i]; simpa using this
  · have := Dw.look_cell 3 hd2 (Dw.look_of (l := opersL.map fun n => .int .i64 n) (i := i) (v := .int .i64 n) (by rw [lookOpersT]; simp [Function.comp_def]) (by simp [hi]))
    rw [World.var?_cell hg2 hv2 i]; simpa using this
/-- The door's own heap meets the condition: three closed facts. -/
theorem doorT (os : Os) (args : Array Value) : laidMetH Tryd.prog laidT ((World.doorLaid Tryd.prog 400 os).forCall (fun _ _ => 0) ⟨#[], args, []⟩).memory :=
  laidMetH_of_parts3 (fuel := 8) (laidMet_of_run' 8 (by kernel_rfl) (by kernel_rfl)) (by kernel_rfl) (by kernel_rfl)
end Go.Proofs.YtbihifipemldhabDoor.Ts
