/-
  What is proved: for every word that is an instruction, the word that Encode tells of it is read as the same one, and of every other word Encode tells of the empty one that it is none; the statement's card, tied to the program's own tables. Conditions: none beyond the card's own.
-/
import Derived.Test.YtkdghgiajifbdaaDoorCards
import Derived.Test.YtkdghgiajifbdaaDoorTie
import Derived.Test.YtkdghgiajifbdaaDoorDec3
import Derived.ProofKit
import Derived.LaidMore
import Derived.OpenShut
import Derived.Stop.Joined
import Derived.SevenTiedAt
namespace Go.Proofs.YtkdghgiajifbdaaDoor.decodeBack
open Go.ChangeShapes Go.WideShapes Go.ChangeAt Go.RowKit Dw
set_option linter.unusedVariables false
set_option linter.unusedSimpArgs false

theorem own : ownKnob Tryd.prog.godebug = none := by kernel_rfl
def laid {H : Type} : List (String × DataW H) := [("ferrybridge/decode.shapes", Rows.laid_ferrybridge_decode_shapes), ("ferrybridge/decode.uppers", Rows.laid_ferrybridge_decode_uppers)]
/-- The door's own heap meets the condition: three closed facts. -/
theorem door_met (os : Os) (args : Array Value) : laidMetH Tryd.prog laid ((World.doorLaid Tryd.prog 400 os).forCall (fun _ _ => 0) ⟨#[], args, []⟩).memory :=
  laidMetH_of_parts3 (fuel := 8) (laidMet_of_run' 8 (by kernel_rfl) (by kernel_rfl)) (by kernel_rfl) (by kernel_rfl)

theorem imm_bd {v : Int} (f : Int) (h0 : 0 ≤ v) (h1 : v < 4294967296) : -2147483648 ≤ Dc.immF f v ∧ Dc.immF f v < 2147483648 := by
  unfold Dc.immF Wd.sg Dc.sgn
  repeat' split
  all_goals omega
theorem dec19 : decV 19 = insV 19 0 0 0 0 ∧ decOk 19 = true := dec_some (k := 19) (by decide) (by omega)

set_option maxHeartbeats 1000000 in
theorem walk_yes (a : Int) (w : World) (T : Tab w) (h0 : 0 ≤ a) (h1 : a < 4294967296) (hk : Dc.dop a ≠ 0) :
    Calls Tryd.prog 4 #[.int .u32 a] w fun e w' => e = .returned (.bool true) ∧ Gr w w' := by
  have D0 := fun w T => Decode_any 19 w T (by omega) (by omega)
  rw [dec19.1, dec19.2] at D0
  have D1 := fun w T => Decode_any a w T h0 h1
  have hok : decOk a = true := by simpa [decOk] using hk
  have S1 : Same (Dc.dop a) (Dc.rdF (Dc.frm (Dc.dop a)) a) (Dc.rs1F (Dc.frm (Dc.dop a)) a) (Dc.rs2F (Dc.frm (Dc.dop a)) a) (Dc.immF (Dc.frm (Dc.dop a)) a) a := ⟨hok, rfl, rfl, rfl, rfl, rfl⟩
  have hI := is_of_same h0 h1 S1
  have hb := imm_bd (Dc.frm (Dc.dop a)) h0 h1
  rw [hok] at D1
  unfold decV at D1
  generalize Dc.rdF (Dc.frm (Dc.dop a)) a = x1 at *
  generalize Dc.rs1F (Dc.frm (Dc.dop a)) a = x2 at *
  generalize Dc.rs2F (Dc.frm (Dc.dop a)) a = x3 at *
  generalize Dc.immF (Dc.frm (Dc.dop a)) a = x4 at *
  generalize Dc.dop a = x0 at *
  clear S1 hok
  have S2 := same_of_is hI hb.1 hb.2
  have E1 := fun w T => Encode_yes x0 x1 x2 x3 x4 w T hb.1 hb.2 S2
  have hv := Wv_bd x0 x1 x2 x3 x4
  have D2 := fun w T => Decode_any (Wv x0 x1 x2 x3 x4) w T hv.1 hv.2
  generalize Wv x0 x1 x2 x3 x4 = v at *
  obtain ⟨s0, s1, s2, s3, s4, s5⟩ := S2
  unfold decV at D2
  rw [s0, s2, s3, s4, s5, s1] at D2
  clear s0 s1 s2 s3 s4 s5 hI hv hk
  unfold insV at *
  have H0 : Hid (∀ w : World, Tab w → Calls Tryd.prog 14 #[.int .u32 19] w fun e w' => e = .returned (.tuple #[.agg #[.int .i64 19, .int .i64 0, .int .i64 0, .int .i64 0, .int .i32 0], .bool true]) ∧ Gr w w') := D0
  have H1 : Hid (∀ w : World, Tab w → Calls Tryd.prog 14 #[.int .u32 a] w fun e w' => e = .returned (.tuple #[.agg #[.int .i64 x0, .int .i64 x1, .int .i64 x2, .int .i64 x3, .int .i32 x4], .bool true]) ∧ Gr w w') := D1
  have H2 : Hid (∀ w : World, Tab w → Calls Tryd.prog 14 #[.int .u32 v] w fun e w' => e = .returned (.tuple #[.agg #[.int .i64 x0, .int .i64 x1, .int .i64 x2, .int .i64 x3, .int .i32 x4], .bool true]) ∧ Gr w w') := D2
  have H3 : Hid (∀ w : World, Tab w → Calls Tryd.prog 11 #[.agg #[.int .i64 x0, .int .i64 x1, .int .i64 x2, .int .i64 x3, .int .i32 x4]] w fun e w' => e = .returned (.tuple #[.int .u32 v, .int .i64 0]) ∧ Gr w w') := E1
  clear D0 D1 D2 E1
  go_enter Tryd.func4, Tryd.ntmps4
  go_wp2_with fail
  refine (H0.out _ T).mono ?_
  rintro e w1 ⟨rfl, g1⟩
  have T1 := T.of g1
  have G1 : Hid (Gr w w1) := g1
  clear g1 T
  go_wp2_with fail
  refine (H1.out _ (T1.of ((Gr.refl _).alloc _ _))).mono ?_
  rintro e w2 ⟨rfl, g2⟩
  have T2 := (T1.of ((Gr.refl _).alloc _ _)).of g2
  have G2 : Hid (Gr w w2) := (G1.out.alloc _ _).trans g2
  clear g2 T1 G1
  go_wp2_with fail
  refine (H3.out _ (T2.of ((Gr.refl _).alloc _ _))).mono ?_
  rintro e w3 ⟨rfl, g3⟩
  have T3 := (T2.of ((Gr.refl _).alloc _ _)).of g3
  obtain ⟨f1, f2, f3⟩ := fresh_of g3
  have G3 : Hid (Gr w w3) := (G2.out.alloc _ _).trans g3
  have g3' : Hid (Gr (w2.alloc (.cells #[.int .i64 x0, .int .i64 x1, .int .i64 x2, .int .i64 x3, .int .i32 x4] 23)) w3) := g3
  have r0 := f1 0 _ rfl
  have r1 := f1 1 _ rfl
  have r2 := f1 2 _ rfl
  have r3 := f1 3 _ rfl
  have r4 := f1 4 _ rfl
  clear f1 g3 T2 G2
  go_wp2_with fail
  refine (H2.out _ T3).mono ?_
  rintro e w4 ⟨rfl, g4⟩
  obtain ⟨f1, f2, f3⟩ := fresh_of (g3'.out.trans g4)
  have r0 := f1 0 _ rfl
  have r1 := f1 1 _ rfl
  have r2 := f1 2 _ rfl
  have r3 := f1 3 _ rfl
  have r4 := f1 4 _ rfl
  have G4 : Hid (Gr w w4) := G3.out.trans g4
  clear f1 g4 T3 G3
  go_wp2_with fail
  go_ret
  exact ⟨rfl, G4.out.alloc _ _⟩
set_option maxHeartbeats 1000000 in
theorem walk_no (a : Int) (w : World) (T : Tab w) (h0 : 0 ≤ a) (h1 : a < 4294967296) (hk : Dc.dop a = 0) :
    Calls Tryd.prog 4 #[.int .u32 a] w fun e w' => e = .returned (.bool true) ∧ Gr w w' := by
  have D0 := fun w T => Decode_any 19 w T (by omega) (by omega)
  rw [dec19.1, dec19.2] at D0
  have D1 := fun w T => Decode_any a w T h0 h1
  rw [(dec_none hk).1, (dec_none hk).2] at D1
  have hN : ¬ Same 0 0 0 0 0 (Wv 0 0 0 0 0) := fun h => by
    have := (is_of_same (Wv_bd 0 0 0 0 0).1 (Wv_bd 0 0 0 0 0).2 h).1.1
    omega
  have E1 := fun w T => Encode_no 0 0 0 0 0 w T (by omega) (by omega) hN
  clear hN hk
  unfold insV at *
  have H0 : Hid (∀ w : World, Tab w → Calls Tryd.prog 14 #[.int .u32 19] w fun e w' => e = .returned (.tuple #[.agg #[.int .i64 19, .int .i64 0, .int .i64 0, .int .i64 0, .int .i32 0], .bool true]) ∧ Gr w w') := D0
  have H1 : Hid (∀ w : World, Tab w → Calls Tryd.prog 14 #[.int .u32 a] w fun e w' => e = .returned (.tuple #[.agg #[.int .i64 0, .int .i64 0, .int .i64 0, .int .i64 0, .int .i32 0], .bool false]) ∧ Gr w w') := D1
  have H3 : Hid (∀ w : World, Tab w → Calls Tryd.prog 11 #[.agg #[.int .i64 0, .int .i64 0, .int .i64 0, .int .i64 0, .int .i32 0]] w fun e w' => e = .returned (.tuple #[.int .u32 0, .int .i64 2]) ∧ Gr w w') := E1
  clear D0 D1 E1
  go_enter Tryd.func4, Tryd.ntmps4
  go_wp2_with fail
  refine (H0.out _ T).mono ?_
  rintro e w1 ⟨rfl, g1⟩
  have T1 := T.of g1
  have G1 : Hid (Gr w w1) := g1
  clear g1 T
  go_wp2_with fail
  refine (H1.out _ (T1.of ((Gr.refl _).alloc _ _))).mono ?_
  rintro e w2 ⟨rfl, g2⟩
  have T2 := (T1.of ((Gr.refl _).alloc _ _)).of g2
  have G2 : Hid (Gr w w2) := (G1.out.alloc _ _).trans g2
  clear g2 T1 G1
  go_wp2_with fail
  refine (H3.out _ (T2.of ((Gr.refl _).alloc _ _))).mono ?_
  rintro e w3 ⟨rfl, g3⟩
  obtain ⟨f1, f2, f3⟩ := fresh_of g3
  have G3 : Hid (Gr w w3) := (G2.out.alloc _ _).trans g3
  have r0 := f1 0 _ rfl
  have r1 := f1 1 _ rfl
  have r2 := f1 2 _ rfl
  have r3 := f1 3 _ rfl
  have r4 := f1 4 _ rfl
  clear f1 g3 T2 G2
  go_wp2_with fail
  go_ret
  exact ⟨rfl, G3.out⟩
theorem walk (a : Int) (w : World) (T : Tab w) (h0 : 0 ≤ a) (h1 : a < 4294967296) :
    Calls Tryd.prog 4 #[.int .u32 a] w fun e w' => e = .returned (.bool true) ∧ Gr w w' := by
  by_cases hk : Dc.dop a = 0
  · exact walk_no a w T h0 h1 hk
  · exact walk_yes a w T h0 h1 hk

set_option maxRecDepth 100000 in
theorem lifted (os : Os) (started : os.Started) (H : Type) (enc : TypeId × Value → H) :
    ReturnsInHanded {} Tryd.checked os 4 .any (fun w args => (Rows.decodeBackSpec.pre enc Tryd.prog Tryd.f4 [] false w args ∧ laidMetH Tryd.prog laid w) ∧ sizedMet enc Tryd.prog Tryd.f4 (OpenSpec.ofChange Rows.decodeBackSpec) false w args)
      (Rows.decodeBackSpec.post enc Tryd.prog Tryd.f4 false true false false) := by
  refine returnsInHanded_of_change_and (C := Tryd.checked) (X := fun w _ => laidMetH Tryd.prog laid w) (fun _ _ _ hh h => h.of_heap hh) own started (by kernel_rfl) Tryd.func4
    (ChangeSpec.witness_shaped (enc := enc) (C := Tryd.checked) (os := os) (X := fun w _ => laidMetH Tryd.prog laid w) false (World.doorLaid Tryd.prog 400 os) #[.int .u32 0] 8 rfl (World.shaped_of_RefB (by kernel_rfl) (by kernel_rfl)) (by kernel_rfl) (by kernel_rfl) (by kernel_rfl) (door_met os _)) ?_
  intro W base args ds gs before hval0 hW _ _ hL _
  have hval : ∀ (j : Nat) t v, Tryd.f4.params[j]? = some t → args[j]? = some v → Value.okWide Tryd.prog W .any base t v := hval0
  have hW' := hW
  obtain ⟨p, q, hA0, hV, rfl, hfz, hnd⟩ := hW
  have hA : DataW.TrodAll enc Tryd.prog W 0 (fun _ => true) true Tryd.f4.params.toList args.toList ds p := hA0
  rw [Tryd.params4] at hA hval
  obtain ⟨v0, d0, rfl, rfl, h0⟩ := trodAll_one hA
  obtain ⟨rfl, rfl⟩ := trodVars_none hV
  obtain ⟨a0, rfl, rfl, rfl, w0⟩ := open_int Tryd.underlying24 (hval 0 24 v0 rfl rfl) h0
  have hb : 0 ≤ a0 ∧ a0 ≤ 4294967295 := by
    simpa [Lit.wf, IntKind.min, IntKind.max, IntKind.signed, IntKind.bits] using w0
  clear hA0 hval0
  simp only [List.append_nil] at hW'
  refine (walk a0 W (tab_of_laid hL) hb.1 (by omega)).mono fun e W' ⟨he, hg⟩ => ?_
  subst he
  exact ⟨_, rfl, post_of_same (pa := []) (pv := []) hW' (fun _ _ _ => trodAll_mk1 (shut_bool Tryd.underlying4 _)) (fun sp _ => trodAll_mk1 (shut_int Tryd.underlying24 w0)) (fun _ _ => rfl) rfl
    (hg.grown.frame _) hg.2 (ok_one (by kernel_rfl) rfl (okWide_bool_mk Tryd.underlying4 _))⟩

theorem over : Rows.DecodeBackSaid :=
  OpenClaim.holds_of_wide 4 Tryd.f4 rfl rfl rfl rfl rfl rfl rfl ⟨rfl, rfl, rfl, rfl, rfl⟩ rfl rfl rfl rfl rfl (by kernel_rfl) Tryd.func4 (by kernel_rfl)
    (of_decide_eq_true (by kernel_rfl)) (by unfold Func.isWrapper; first | (rw [if_pos (by decide +kernel)]; kernel_rfl) | (rw [if_neg (by decide +kernel)]; exact ⟨rfl, rfl⟩))
    (fun os started H enc _ => lifted os started H enc)

/-- The statement. -/
theorem proved : Rows.DecodeBackCardSaid :=
  Claim7.holds_tied_plain_at .later [] [.data, .data] true Rows.decodeBackCard.stood.harness Rows.decodeBackCard.stood.looks
    over (fun _ h => by cases h) (by kernel_rfl) (fun _ h => by cases h) decodeBack_row_tie rfl ⟨rfl, rfl⟩ (by kernel_rfl) rfl
    (fun f fn hf hfn => by
      obtain rfl : f = 4 := Option.some.inj ((show Tryd.prog.funcNamed "ferrybridge/ferrybridgekeep.DecodeBack" = some 4 by kernel_rfl).symm.trans hf) |>.symm
      obtain rfl : fn = Tryd.f4 := (Option.some.inj (Tryd.func4.symm.trans hfn)).symm
      exact ⟨by kernel_rfl, fun j t ht => by
        rw [Tryd.params4] at ht
        have hm : t ∈ [24] := by simpa using Array.mem_of_getElem? ht
        have hall : ([24].all fun u => !Tryd.prog.wantsStandIn u) = true := by kernel_rfl
        exact (show Tryd.prog.wantsStandIn t = false by simpa using List.all_eq_true.1 hall t hm)⟩)
    (by kernel_rfl)
#print axioms proved
end Go.Proofs.YtkdghgiajifbdaaDoor.decodeBack
