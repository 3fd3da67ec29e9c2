/-
  What is proved: for every memory and every place the program tells the document's block there; the statement's card, tied to the program's own tables. Conditions: none beyond the card's own.
-/
import Derived.Test.YtfolphjampklpabDoorCards
import Derived.Test.YtfolphjampklpabDoorTie
import Derived.Test.YtfolphjampklpabDoorBm2
import Derived.Test.YtfolphjampklpabDoorBm3
import Derived.Test.YtfolphjampklpabDoorMemArgs
import Derived.ProofKit
import Derived.SizedLaws
import Derived.LaidMore
import Derived.OpenShut
import Derived.Stop.Joined
import Derived.SevenTiedAt
namespace Go.Proofs.YtfolphjampklpabDoor.blockMakes
open Go.ChangeShapes Go.WideShapes Go.ChangeAt Go.RowKit Mm Hh Hc Bk
set_option linter.unusedVariables false
set_option linter.unusedSimpArgs false

theorem blk_len (l : List UInt8) (pc : Int) : ∀ n k, (blk l pc n k).length ≤ n
  | 0, _ => Nat.le_refl _
  | n + 1, k => by
    unfold blk
    split
    · simp only [List.length_cons]
      split
      · simp
      · have := blk_len l pc n (k + 1)
        omega
    · simp
theorem bkX_len (n : Nat) (l : List UInt8) (pc : Int) : (bkX n l pc).length ≤ 16 := by
  unfold bkX
  split
  · simp
  · exact blk_len l pc 16 0
set_option maxHeartbeats 1000000 in
set_option maxRecDepth 100000 in
theorem walk {ao : Option Addr} {n : Nat} (cap : Nat) {l : List UInt8} (pc : Int) {w : World} (M : Mem w ao n l) (T : Dw.Tab w) (hn : n ≤ 140737488351232) (h0 : 0 ≤ pc) (h1 : pc < 4294967296) :
    Calls Tryd.prog 4 #[.slice ao n cap, .int .u32 pc] w fun e w' => e = .returned (.bool true) ∧ Gr w w' := by
  have P : Hid (Calls Tryd.prog 7 #[.slice ao n cap, .int .u32 pc] w fun e w' => ∃ v, e = .returned (.agg #[.int .u32 (bkP n pc), v]) ∧ w'.ownsRow w.heap.size 60 5 v (bkX n l pc).length (blC (bkX n l pc)) ∧ Gr w w') := by
    by_cases h : 4096 < n
    · exact Make_no ao cap l pc h hn
    · exact Make_yes cap pc M T (by omega) h0 h1
  have R : Hid (∀ W : World, Gr w W → Calls Tryd.prog 8 #[.slice ao n cap, .int .u32 pc] W fun e w' => ∃ v, e = .returned (.agg #[.int .u32 (bkP n pc), v]) ∧ w'.ownsRow W.heap.size 60 5 v (bkX n l pc).length (blC (bkX n l pc)) ∧ Gr W w') := fun W G => by
    by_cases h : 4096 < n
    · exact RMake_no ao cap l pc h hn
    · exact RMake_yes cap pc (M.of G) (by omega) h0 h1
  have HL : Hid ((bkX n l pc).length ≤ 16) := bkX_len n l pc
  generalize bkX n l pc = xs at *
  generalize bkP n pc = p at *
  clear M T
  go_enter Tryd.func4, Tryd.ntmps4
  go_wp2_with fail
  refine P.out.mono ?_
  rintro e w1 ⟨v1, rfl, O1, G1⟩
  obtain ⟨a1, c1, rfl⟩ := owns_form O1
  have HO1 : Hid (w1.ownsRow w.heap.size 60 5 (.slice a1 xs.length c1) xs.length (blC xs)) := O1
  have HG1 : Hid (Gr w w1) := G1
  clear P O1 G1
  go_wp2_with fail
  refine (R.out _ (HG1.out.alloc _)).mono ?_
  rintro e w2 ⟨v2, rfl, O2, G2⟩
  obtain ⟨a2, c2, rfl⟩ := owns_form O2
  have HO2 : Hid (w2.ownsRow _ 60 5 (.slice a2 xs.length c2) xs.length (blC xs)) := O2
  have HO3 : Hid (w2.ownsRow w.heap.size 60 5 (.slice a1 xs.length c1) xs.length (blC xs)) := owns_gr HO1.out (((Gr.refl _).alloc _).trans G2)
  have HG2 : Hid (Gr w w2) := (HG1.out.alloc _).trans G2
  have HB : Hid (w2.heap[w1.heap.size]? = some (.cells #[.int .u32 p, .slice a1 xs.length c1] 41 (0, 0))) := heap_held G2 (heap_alloc_new w1 _)
  have k0 : w2.cell? ⟨w1.heap.size, 0, none⟩ = some (.int .u32 p) := cell_of_row _ _ _ _ _ _ HB.out
  have k1 : w2.cell? ⟨w1.heap.size, 1, none⟩ = some (.slice a1 xs.length c1) := cell_of_row _ _ _ _ _ _ HB.out
  have hlt : w1.heap.size < w2.heap.size := (Array.getElem?_eq_some_iff.1 HB.out).1
  clear R O2 G2 HO1 HG1 HB
  go_wp2_with fail
  refine (Same_yes p (owns_gr HO3.out ((Gr.refl _).alloc _)) (owns_gr HO2.out ((Gr.refl _).alloc _)) HL.out).mono ?_
  rintro e w3 ⟨rfl, G3⟩
  have HG3 : Hid (Gr w w3) := (HG2.out.alloc _).trans G3
  clear G3 HO2 HO3 k0 k1
  go_wp2_with fail
  go_ret
  exact ⟨rfl, HG3.out⟩

def laid {H : Type} : List (String × DataW H) := [("ferrybridge/decode.shapes", Rows.laid_ferrybridge_decode_shapes), ("ferrybridge/decode.uppers", Rows.laid_ferrybridge_decode_uppers)]
/-- The door's own heap meets the condition: three closed facts. -/
theorem door_met (os : Os) (args : Array Value) : laidMetH Tryd.prog laid ((World.doorLaid Tryd.prog 400 os).forCall (fun _ _ => 0) ⟨#[], args, []⟩).memory :=
  laidMetH_of_parts3 (fuel := 8) (laidMet_of_run' 8 (by kernel_rfl) (by kernel_rfl)) (by kernel_rfl) (by kernel_rfl)

set_option maxRecDepth 100000 in
theorem lifted (os : Os) (started : os.Started) (H : Type) (enc : TypeId × Value → H) :
    ReturnsInHanded {} Tryd.checked os 4 .any (fun w args => (Rows.blockMakesSpec.pre enc Tryd.prog Tryd.f4 [] false w args ∧ laidMetH Tryd.prog laid w) ∧ sizedMet enc Tryd.prog Tryd.f4 (OpenSpec.ofChange Rows.blockMakesSpec) false w args)
      (Rows.blockMakesSpec.post enc Tryd.prog Tryd.f4 false true false false) := by
  refine returnsInHanded_of_change_and (C := Tryd.checked) (X := fun w _ => laidMetH Tryd.prog laid w) (fun _ _ _ hh h => h.of_heap hh) own started (by kernel_rfl) Tryd.func4
    (ChangeSpec.witness_shaped (enc := enc) (C := Tryd.checked) (os := os) (X := fun w _ => laidMetH Tryd.prog laid w) false (World.doorLaid Tryd.prog 400 os) #[.slice none 0 0, .int .u32 0] 8 rfl (World.shaped_of_RefB (by kernel_rfl) (by kernel_rfl)) (by kernel_rfl) (by kernel_rfl) (by kernel_rfl) (door_met os _)) ?_
  intro W base args ds gs before hval0 hW _ hsz0 hL _
  have hsz : (DataW.weightsEach Tryd.prog (Tryd.f4.params.toList ++ Rows.blockMakesSpec.plain.varTypes Tryd.prog) (ds ++ gs)).all (· ≤ reachBytes) = true := hsz0
  clear hsz0
  have hval : ∀ (j : Nat) t v, Tryd.f4.params[j]? = some t → args[j]? = some v → Value.okWide Tryd.prog W .any base t v := hval0
  have hW' := hW
  obtain ⟨p, q, hA0, hV, rfl, hfz, hnd⟩ := hW
  have hA : DataW.TrodAll enc Tryd.prog W 0 (fun _ => true) true Tryd.f4.params.toList args.toList ds p := hA0
  rw [Tryd.params4] at hA hval hsz
  obtain ⟨v0, vs0, d0, ds0, p0, q0, hargs, rfl, rfl, h0, r0⟩ := trodAll_cons hA
  obtain ⟨v1, vs1, d1, ds1, p1, q1, rfl, rfl, rfl, h1, r1⟩ := trodAll_cons r0
  obtain ⟨rfl, rfl, rfl⟩ := trodAll_nil r1
  obtain rfl : args = #[v0, v1] := by cases args; simp_all
  obtain ⟨rfl, rfl⟩ := trodVars_none hV
  obtain ⟨a0, la, ca, rfl⟩ := okWide_slice Tryd.underlying22 (hval 0 22 v0 rfl rfl)
  obtain ⟨a1, rfl, rfl, rfl, w1⟩ := open_int Tryd.underlying38 (hval 1 38 v1 rfl rfl) h1
  have h0k := h0
  obtain ⟨fa, hfa⟩ := h0
  clear hA0 hval0
  simp only [List.append_nil] at hW'
  have hlt : ∀ x ∈ p0, x.block < W.heap.size := fun x hx => by
    have := hW'.lt x (by simp [hx])
    simpa using this
  obtain ⟨l, M, hd⟩ := open_mem hfa
  have hn : la ≤ 140737488351232 := by
    rcases hd with ⟨_, h⟩ | ⟨zs, sp, h, hz⟩
    · rw [h]; decide
    · have := sized_slice hsz (j := 0) (t := 22) (e := 5) rfl (by rw [h]; rfl) Tryd.underlying22
      rw [bytes5] at this
      simp only [lits, List.length_map, hz, reachBytes] at this
      omega
  have hb1 : 0 ≤ a1 ∧ a1 ≤ 4294967295 := by
    simpa [Lit.wf, IntKind.min, IntKind.max, IntKind.signed, IntKind.bits] using w1
  refine (walk ca a1 M (Dw.tab_of_laid hL) hn hb1.1 (by omega)).mono fun e W' ⟨he, hg⟩ => ?_
  subst he
  refine ⟨_, rfl, _, _, _, [], _, [], hW', (trodAll_cons_mk (shut_bool Tryd.underlying4 _) trodAll_mk0), (trodAll_cons_mk (Below.trod laidOut (by kernel_rfl) (of_decide_eq_true (by kernel_rfl)) h0k hg hlt) (trodAll_cons_mk (shut_int Tryd.underlying38 w1) trodAll_mk0)), rfl, Below.frame hg _, fun h => by cases h⟩

theorem over : Rows.BlockMakesSaid :=
  OpenClaim.holds_of_wide 4 Tryd.f4 rfl rfl rfl rfl rfl rfl rfl ⟨rfl, rfl, rfl, rfl, rfl⟩ rfl rfl rfl rfl rfl (by kernel_rfl) Tryd.func4 (by kernel_rfl)
    (of_decide_eq_true (by kernel_rfl)) (by unfold Func.isWrapper; first | (rw [if_pos (by decide +kernel)]; kernel_rfl) | (rw [if_neg (by decide +kernel)]; exact ⟨rfl, rfl⟩))
    (fun os started H enc _ => lifted os started H enc)

/-- The statement. -/
theorem proved : Rows.BlockMakesCardSaid :=
  Claim7.holds_tied_plain_at .later [] [.data, .data] true Rows.blockMakesCard.stood.harness Rows.blockMakesCard.stood.looks
    over (fun _ h => by cases h) (by kernel_rfl) (fun _ h => by cases h) blockMakes_row_tie rfl ⟨rfl, rfl⟩ (by kernel_rfl) rfl
    (fun f fn hf hfn => by
      obtain rfl : f = 4 := Option.some.inj ((show Tryd.prog.funcNamed "ferrybridge/ferrybridgelaw.BlockMakes" = some 4 by kernel_rfl).symm.trans hf) |>.symm
      obtain rfl : fn = Tryd.f4 := (Option.some.inj (Tryd.func4.symm.trans hfn)).symm
      exact ⟨by kernel_rfl, fun j t ht => by
        rw [Tryd.params4] at ht
        have hm : t ∈ [22, 38] := by simpa using Array.mem_of_getElem? ht
        have hall : ([22, 38].all fun u => !Tryd.prog.wantsStandIn u) = true := by kernel_rfl
        exact (show Tryd.prog.wantsStandIn t = false by simpa using List.all_eq_true.1 hall t hm)⟩)
    (by kernel_rfl)
#print axioms proved
end Go.Proofs.YtfolphjampklpabDoor.blockMakes
