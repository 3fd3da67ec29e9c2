/-
  What is proved: for every instruction, such as may not be among them, Encode tells a word that the document's Decode reads as it, or that there is none, just where the document says so; the statement's card, tied to the program's own tables. Conditions: none beyond the card's own.
-/
import Derived.Test.YtkdghgiajifbdaaDoorCards
import Derived.Test.YtkdghgiajifbdaaDoorTie
import Derived.Test.YtkdghgiajifbdaaDoorRef2c
import Derived.Test.YtkdghgiajifbdaaDoorDec3
import Derived.Test.YtkdghgiajifbdaaDoorArgs
import Derived.ProofKit
import Derived.LaidMore
import Derived.OpenShut
import Derived.Stop.Joined
import Derived.SevenTiedAt
namespace Go.Proofs.YtkdghgiajifbdaaDoor.decodeEncodes
open Go.ChangeShapes Go.WideShapes Go.ChangeAt Go.RowKit Dw
set_option linter.unusedVariables false
set_option linter.unusedSimpArgs false

theorem own : ownKnob Tryd.prog.godebug = none := by kernel_rfl
def laid {H : Type} : List (String × DataW H) := [("ferrybridge/decode.shapes", Rows.laid_ferrybridge_decode_shapes), ("ferrybridge/decode.uppers", Rows.laid_ferrybridge_decode_uppers)]
/-- The door's own heap meets the condition: three closed facts. -/
theorem door_met (os : Os) (args : Array Value) : laidMetH Tryd.prog laid ((World.doorLaid Tryd.prog 400 os).forCall (fun _ _ => 0) ⟨#[], args, []⟩).memory :=
  laidMetH_of_parts3 (fuel := 8) (laidMet_of_run' 8 (by kernel_rfl) (by kernel_rfl)) (by kernel_rfl) (by kernel_rfl)

set_option maxHeartbeats 1000000 in
theorem walk_no (op rd rs1 rs2 n : Int) (w : World) (T : Tab w) (n0 : -2147483648 ≤ n) (n1 : n < 2147483648) (hn : ¬ Re.IsP op rd rs1 rs2 n) :
    Calls Tryd.prog 3 #[.agg #[.int .i64 op, .int .i64 rd, .int .i64 rs1, .int .i64 rs2, .int .i32 n]] w fun e w' => e = .returned (.bool true) ∧ Gr w w' := by
  have hv := Wv_bd op rd rs1 rs2 n
  have E1 := fun w T => Encode_no op rd rs1 rs2 n w T n0 n1 (fun h => hn (is_of_same hv.1 hv.2 h))
  have I1 : ∀ w : World, Calls Tryd.prog 12 #[.agg #[.int .i64 op, .int .i64 rd, .int .i64 rs1, .int .i64 rs2, .int .i32 n]] w fun e w' => e = .returned (.bool false) ∧ Gr w w' := fun w =>
    (Re.Is_any op rd rs1 rs2 n w n0 n1).mono fun e w' ⟨⟨b, he, hb⟩, g⟩ => ⟨by cases b; exact he; exact absurd (hb.1 rfl) hn, g⟩
  clear hn hv
  unfold insV at *
  have H0 : Hid (∀ w : World, Tab w → Calls Tryd.prog 11 #[.agg #[.int .i64 op, .int .i64 rd, .int .i64 rs1, .int .i64 rs2, .int .i32 n]] w fun e w' => e = .returned (.tuple #[.int .u32 0, .int .i64 2]) ∧ Gr w w') := E1
  have H1 : Hid (∀ w : World, Calls Tryd.prog 12 #[.agg #[.int .i64 op, .int .i64 rd, .int .i64 rs1, .int .i64 rs2, .int .i32 n]] w fun e w' => e = .returned (.bool false) ∧ Gr w w') := I1
  clear E1 I1
  go_enter Tryd.func3, Tryd.ntmps3
  go_wp2_with fail
  refine (H0.out _ (T.of ((Gr.refl _).alloc _ _))).mono ?_
  rintro e w1 ⟨rfl, g1⟩
  obtain ⟨f1, f2, f3⟩ := fresh_of g1
  have r0 := f1 0 _ rfl
  have r1 := f1 1 _ rfl
  have r2 := f1 2 _ rfl
  have r3 := f1 3 _ rfl
  have r4 := f1 4 _ rfl
  have G1 : Hid (Gr w w1) := ((Gr.refl _).alloc _ _).trans g1
  clear f1 g1 T
  go_wp2_with fail
  refine (H1.out _).mono ?_
  rintro e w2 ⟨rfl, g2⟩
  have G2 : Hid (Gr w w2) := G1.out.trans g2
  clear g2 G1
  go_wp2_with fail
  go_ret
  exact ⟨rfl, G2.out⟩
set_option maxHeartbeats 1000000 in
theorem walk_yes (op rd rs1 rs2 n : Int) (w : World) (T : Tab w) (n0 : -2147483648 ≤ n) (n1 : n < 2147483648) (hy : Re.IsP op rd rs1 rs2 n) :
    Calls Tryd.prog 3 #[.agg #[.int .i64 op, .int .i64 rd, .int .i64 rs1, .int .i64 rs2, .int .i32 n]] w fun e w' => e = .returned (.bool true) ∧ Gr w w' := by
  have hv := Wv_bd op rd rs1 rs2 n
  have S2 := same_of_is hy n0 n1
  have E1 := fun w T => Encode_yes op rd rs1 rs2 n w T n0 n1 S2
  have D2 := Re.RDecode_any (Wv op rd rs1 rs2 n) hv.1 hv.2
  unfold Re.RDec at D2
  generalize Wv op rd rs1 rs2 n = v at *
  obtain ⟨s0, s1, s2, s3, s4, s5⟩ := S2
  unfold decV at D2
  rw [s0, s2, s3, s4, s5, s1] at D2
  clear s0 s1 s2 s3 s4 s5 hv
  have I1 : ∀ w : World, Calls Tryd.prog 12 #[.agg #[.int .i64 op, .int .i64 rd, .int .i64 rs1, .int .i64 rs2, .int .i32 n]] w fun e w' => e = .returned (.bool true) ∧ Gr w w' := fun w =>
    (Re.Is_any op rd rs1 rs2 n w n0 n1).mono fun e w' ⟨⟨b, he, hb⟩, g⟩ => ⟨by have := hb.2 hy; subst this; exact he, g⟩
  clear hy
  unfold insV at *
  have H0 : Hid (∀ w : World, Tab w → Calls Tryd.prog 11 #[.agg #[.int .i64 op, .int .i64 rd, .int .i64 rs1, .int .i64 rs2, .int .i32 n]] w fun e w' => e = .returned (.tuple #[.int .u32 v, .int .i64 0]) ∧ Gr w w') := E1
  have H1 : Hid (∀ w : World, Calls Tryd.prog 12 #[.agg #[.int .i64 op, .int .i64 rd, .int .i64 rs1, .int .i64 rs2, .int .i32 n]] w fun e w' => e = .returned (.bool true) ∧ Gr w w') := I1
  have H2 : Hid (∀ w : World, Calls Tryd.prog 13 #[.int .u32 v] w fun e w' => e = .returned (.tuple #[.agg #[.int .i64 op, .int .i64 rd, .int .i64 rs1, .int .i64 rs2, .int .i32 n], .bool true]) ∧ Gr w w') := D2
  clear E1 I1 D2
  go_enter Tryd.func3, Tryd.ntmps3
  go_wp2_with fail
  refine (H0.out _ (T.of ((Gr.refl _).alloc _ _))).mono ?_
  rintro e w1 ⟨rfl, g1⟩
  obtain ⟨f1, f2, f3⟩ := fresh_of g1
  have r0 := f1 0 _ rfl
  have r1 := f1 1 _ rfl
  have r2 := f1 2 _ rfl
  have r3 := f1 3 _ rfl
  have r4 := f1 4 _ rfl
  have G0 : Hid (Gr (w.alloc (.cells #[.int .i64 op, .int .i64 rd, .int .i64 rs1, .int .i64 rs2, .int .i32 n] 23)) w1) := g1
  clear f1 g1 T
  go_wp2_with fail
  refine (H1.out _).mono ?_
  rintro e w2 ⟨rfl, g2⟩
  have G2 : Hid (Gr (w.alloc (.cells #[.int .i64 op, .int .i64 rd, .int .i64 rs1, .int .i64 rs2, .int .i32 n] 23)) w2) := G0.out.trans g2
  clear g2 G0
  go_wp2_with fail
  refine (H2.out _).mono ?_
  rintro e w3 ⟨rfl, g3⟩
  obtain ⟨f1, f2, f3⟩ := fresh_of (G2.out.trans g3)
  have r0 := f1 0 _ rfl
  have r1 := f1 1 _ rfl
  have r2 := f1 2 _ rfl
  have r3 := f1 3 _ rfl
  have r4 := f1 4 _ rfl
  have G3 : Hid (Gr w w3) := ((Gr.refl _).alloc _ _).trans (G2.out.trans g3)
  clear f1 g3 G2
  go_wp2_with fail
  go_ret
  exact ⟨rfl, G3.out.alloc _ _⟩
theorem walk (op rd rs1 rs2 n : Int) (w : World) (T : Tab w) (n0 : -2147483648 ≤ n) (n1 : n < 2147483648) :
    Calls Tryd.prog 3 #[.agg #[.int .i64 op, .int .i64 rd, .int .i64 rs1, .int .i64 rs2, .int .i32 n]] w fun e w' => e = .returned (.bool true) ∧ Gr w w' := by
  by_cases h : Re.IsP op rd rs1 rs2 n
  · exact walk_yes op rd rs1 rs2 n w T n0 n1 h
  · exact walk_no op rd rs1 rs2 n w T n0 n1 h

set_option maxRecDepth 100000 in
set_option maxHeartbeats 2000000 in
theorem lifted (os : Os) (started : os.Started) (H : Type) (enc : TypeId × Value → H) :
    ReturnsInHanded {} Tryd.checked os 3 .any (fun w args => (Rows.decodeEncodesSpec.pre enc Tryd.prog Tryd.f3 [] false w args ∧ laidMetH Tryd.prog laid w) ∧ sizedMet enc Tryd.prog Tryd.f3 (OpenSpec.ofChange Rows.decodeEncodesSpec) false w args)
      (Rows.decodeEncodesSpec.post enc Tryd.prog Tryd.f3 false true false false) := by
  refine returnsInHanded_of_change_and (C := Tryd.checked) (X := fun w _ => laidMetH Tryd.prog laid w) (fun _ _ _ hh h => h.of_heap hh) own started (by kernel_rfl) Tryd.func3
    (ChangeSpec.witness_shaped (enc := enc) (C := Tryd.checked) (os := os) (X := fun w _ => laidMetH Tryd.prog laid w) false (World.doorLaid Tryd.prog 400 os) #[.agg #[.int .i64 0, .int .i64 0, .int .i64 0, .int .i64 0, .int .i32 0]] 8 rfl (World.shaped_of_RefB (by kernel_rfl) (by kernel_rfl)) (by kernel_rfl) (by kernel_rfl) (by kernel_rfl) (door_met os _)) ?_
  intro W base args ds gs before hval0 hW _ _ hL _
  have hval : ∀ (j : Nat) t v, Tryd.f3.params[j]? = some t → args[j]? = some v → Value.okWide Tryd.prog W .any base t v := hval0
  have hW' := hW
  obtain ⟨p, q, hA0, hV, rfl, hfz, hnd⟩ := hW
  have hA : DataW.TrodAll enc Tryd.prog W 0 (fun _ => true) true Tryd.f3.params.toList args.toList ds p := hA0
  rw [Tryd.params3] at hA hval
  obtain ⟨v0, d0, rfl, rfl, h0⟩ := trodAll_one hA
  obtain ⟨rfl, rfl⟩ := trodVars_none hV
  obtain ⟨op, rd, rs1, rs2, n, rfl, rfl, rfl, w0, w1, w2, w3, w4⟩ := open_ins (hval 0 23 v0 rfl rfl) h0
  have hb := bounds_i32 w4
  clear hA0 hval0
  simp only [List.append_nil] at hW'
  refine (walk op rd rs1 rs2 n W (tab_of_laid hL) hb.1 (by omega)).mono fun e W' ⟨he, hg⟩ => ?_
  subst he
  exact ⟨_, rfl, post_of_same (pa := []) (pv := []) hW' (fun _ _ _ => trodAll_mk1 (shut_bool Tryd.underlying4 _)) (fun sp _ => trodAll_mk1 (shut_ins w0 w1 w2 w3 w4)) (fun _ _ => rfl) rfl
    (hg.grown.frame _) hg.2 (ok_one (by kernel_rfl) rfl (okWide_bool_mk Tryd.underlying4 _))⟩

theorem over : Rows.DecodeEncodesSaid :=
  OpenClaim.holds_of_wide 3 Tryd.f3 rfl rfl rfl rfl rfl rfl rfl ⟨rfl, rfl, rfl, rfl, rfl⟩ rfl rfl rfl rfl rfl (by kernel_rfl) Tryd.func3 (by kernel_rfl)
    (of_decide_eq_true (by kernel_rfl)) (by unfold Func.isWrapper; first | (rw [if_pos (by decide +kernel)]; kernel_rfl) | (rw [if_neg (by decide +kernel)]; exact ⟨rfl, rfl⟩))
    (fun os started H enc _ => lifted os started H enc)

/-- The statement. -/
theorem proved : Rows.DecodeEncodesCardSaid :=
  Claim7.holds_tied_plain_at .later [] [.data, .data] true Rows.decodeEncodesCard.stood.harness Rows.decodeEncodesCard.stood.looks
    over (fun _ h => by cases h) (by kernel_rfl) (fun _ h => by cases h) decodeEncodes_row_tie rfl ⟨rfl, rfl⟩ (by kernel_rfl) rfl
    (fun f fn hf hfn => by
      obtain rfl : f = 3 := Option.some.inj ((show Tryd.prog.funcNamed "ferrybridge/ferrybridgelaw.DecodeEncodes" = some 3 by kernel_rfl).symm.trans hf) |>.symm
      obtain rfl : fn = Tryd.f3 := (Option.some.inj (Tryd.func3.symm.trans hfn)).symm
      exact ⟨by kernel_rfl, fun j t ht => by
        rw [Tryd.params3] at ht
        have hm : t ∈ [23] := by simpa using Array.mem_of_getElem? ht
        have hall : ([23].all fun u => !Tryd.prog.wantsStandIn u) = true := by kernel_rfl
        exact (show Tryd.prog.wantsStandIn t = false by simpa using List.all_eq_true.1 hall t hm)⟩)
    (by kernel_rfl)
#print axioms proved
end Go.Proofs.YtkdghgiajifbdaaDoor.decodeEncodes
