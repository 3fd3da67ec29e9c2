/-
  What is proved: for every block, such as is none of any memory among them, package trans's Make makes small steps that may be; and of the block of any memory at any place not too many; the statement's card, tied to the program's own tables. Conditions: none beyond the card's own.
-/
import Derived.Test.YtkdghgiajifbdaaDoorCards
import Derived.Test.YtkdghgiajifbdaaDoorTie
import Derived.Test.YtkdghgiajifbdaaDoorK01
import Derived.Test.YtkdghgiajifbdaaDoorK03
import Derived.Test.YtkdghgiajifbdaaDoorRm6
import Derived.ProofKit
import Derived.SizedLaws
import Derived.LaidMore
import Derived.OpenShut
import Derived.Stop.Joined
import Derived.SevenTiedAt
namespace Go.Proofs.YtkdghgiajifbdaaDoor.transMay
open Go.ChangeShapes Go.WideShapes Go.ChangeAt Go.RowKit Mm Hc Mi Bk Ts
open Hh hiding Rn
set_option linter.unusedVariables false
set_option linter.unusedSimpArgs false

theorem walk {w : World} {bp : Int} {sa : Option Addr} {sn : Nat} (sc : Nat) {is : List Iv} (I : Is w sa sn is) (hs : sn ≤ 140737488351232) (T : Dw.Tab w) (Q : Tq w) {ao : Option Addr} {n : Nat} (cap : Nat) {l : List UInt8} (M : Mem w ao n l) (hn : n ≤ 140737488351232) {pc : Int} (h0 : 0 ≤ pc) (h1 : pc < 4294967296) :
    Calls Tryd.prog 5 #[.agg #[.int .u32 bp, .slice sa sn sc], .slice ao n cap, .int .u32 pc] w fun e w' => e = .returned (.bool true) ∧ Gr w w' := by
  obtain ⟨hw, h16⟩ := bkX_words n l pc
  refine tmay_any (X := blC (bkX n l pc)) (cnt := (bkX n l pc).length) (P := bkP n pc) (fun W G => Make_may bp sc (I.of G) (tabM T W G) (Q.of G) hs) (fun W g G h => Make_call (tabM T W G) (Q.of G) h) (fun W G => RMk_any cap pc (M.of G) hn h0 h1) h16 (fun W ca cn cc code C hm => ?_) (fun W b va vc G O => ?_)
  · rw [← hm]
    have hcn : cn ≤ 140737488351232 := by
      have := C.len
      unfold mayC at hm
      simp only [Bool.and_eq_true, decide_eq_true_eq] at hm
      omega
    exact May_any cc C hcn
  · refine (Make_words (bkP n pc) vc O hw (tabM T W G) (Q.of G) h16).mono ?_
    rintro e w' ⟨ca, cn, cc, rfl, C, G'⟩
    have hin : ∀ i ∈ (bkX n l pc).map ivX, i.In := fun i hi => by
      obtain ⟨x, hm, rfl⟩ := List.mem_map.1 hi
      obtain ⟨a, b, c⟩ := hw x hm
      exact ivX_in a b c
    refine ⟨ca, cn, cc, _, rfl, C, codeV_may _ hin (by simpa using h16), ?_, G'⟩
    have := (codeV_fine (bkP n pc) _ 0 hin).2
    rw [List.length_map, C.len] at this
    omega

set_option maxRecDepth 100000 in
theorem lifted (os : Os) (started : os.Started) (H : Type) (enc : TypeId × Value → H) :
    ReturnsInHanded {} Tryd.checked os 5 .any (fun w args => (Rows.transMaySpec.pre enc Tryd.prog Tryd.f5 [] false w args ∧ laidMetH Tryd.prog laidT w) ∧ sizedMet enc Tryd.prog Tryd.f5 (OpenSpec.ofChange Rows.transMaySpec) false w args)
      (Rows.transMaySpec.post enc Tryd.prog Tryd.f5 false true false false) := by
  refine returnsInHanded_of_change_and (C := Tryd.checked) (X := fun w _ => laidMetH Tryd.prog laidT w) (fun _ _ _ hh h => h.of_heap hh) own started (by kernel_rfl) Tryd.func5
    (ChangeSpec.witness_shaped (enc := enc) (C := Tryd.checked) (os := os) (X := fun w _ => laidMetH Tryd.prog laidT w) false (World.doorLaid Tryd.prog 400 os) #[.agg #[.int .u32 0, .slice none 0 0], .slice none 0 0, .int .u32 0] 8 rfl (World.shaped_of_RefB (by kernel_rfl) (by kernel_rfl)) (by kernel_rfl) (by kernel_rfl) (by kernel_rfl) (doorT os _)) ?_
  intro W base args ds gs before hval0 hW _ hsz0 hL _
  have hsz : (DataW.weightsEach Tryd.prog (Tryd.f5.params.toList ++ Rows.transMaySpec.plain.varTypes Tryd.prog) (ds ++ gs)).all (· ≤ reachBytes) = true := hsz0
  clear hsz0
  have hval : ∀ (j : Nat) t v, Tryd.f5.params[j]? = some t → args[j]? = some v → Value.okWide Tryd.prog W .any base t v := hval0
  have hW' := hW
  obtain ⟨p, q, hA0, hV, rfl, hfz, hnd⟩ := hW
  have hA : DataW.TrodAll enc Tryd.prog W 0 (fun _ => true) true Tryd.f5.params.toList args.toList ds p := hA0
  rw [Tryd.params5] at hA hval hsz
  obtain ⟨v0, vs0, d0, ds0, p0, q0, hargs, rfl, rfl, h0, r0⟩ := trodAll_cons hA
  obtain ⟨v1, vs1, d1, ds1, p1, q1, rfl, rfl, rfl, h1, r1⟩ := trodAll_cons r0
  obtain ⟨v2, vs2, d2, ds2, p2, q2, rfl, rfl, rfl, h2, r2⟩ := trodAll_cons r1
  obtain ⟨rfl, rfl, rfl⟩ := trodAll_nil r2
  obtain rfl : args = #[v0, v1, v2] := by cases args; simp_all
  obtain ⟨rfl, rfl⟩ := trodVars_none hV
  obtain ⟨bp, sa, sn, sc, is, hB⟩ := open_block (k := 0) (hval 0 34 v0 rfl rfl) h0 hsz rfl rfl
  obtain ⟨a1, la, ca, rfl⟩ := okWide_slice Tryd.underlying35 (hval 1 35 v1 rfl rfl)
  obtain ⟨pc, rfl, rfl, rfl, w2⟩ := open_int Tryd.underlying24 (hval 2 24 v2 rfl rfl) h2
  have h0k := h0
  have h1k := h1
  obtain ⟨fa, hfa⟩ := h1
  clear hA0 hval0
  simp only [List.append_nil] at hW'
  have hlt0 : ∀ x ∈ p0, x.block < W.heap.size := fun x hx => by
    have := hW'.lt x (by simp [hx])
    simpa using this
  have hlt1 : ∀ x ∈ p1, x.block < W.heap.size := fun x hx => by
    have := hW'.lt x (by simp [hx])
    simpa using this
  obtain ⟨l, M, hd⟩ := open_mem hfa
  have hn : la ≤ 140737488351232 := by
    rcases hd with ⟨_, h⟩ | ⟨zs, sp, h, hz⟩
    · rw [h]; decide
    · have := sized_slice hsz (j := 1) (t := 35) (e := 5) rfl (by rw [h]; rfl) Tryd.underlying35
      rw [bytes5] at this
      simp only [lits, List.length_map, hz, reachBytes] at this
      omega
  have tb := tabsT hL
  have hpc := bdU w2
  obtain ⟨rfl, b0, b1, I, hcap, hsn⟩ := hB
  refine (walk sc I hsn tb.1 tb.2 ca M hn hpc.1 hpc.2).mono fun e W' ⟨he, hg⟩ => ?_
  subst he
  refine ⟨_, rfl, _, _, _, [], _, [], hW', (trodAll_cons_mk (shut_bool Tryd.underlying4 _) trodAll_mk0), (trodAll_cons_mk (Below.trod laidOut (by kernel_rfl) (of_decide_eq_true (by kernel_rfl)) h0k hg hlt0) (trodAll_cons_mk (Below.trod laidOut (by kernel_rfl) (of_decide_eq_true (by kernel_rfl)) h1k hg hlt1) (trodAll_cons_mk (shut_int Tryd.underlying24 w2) trodAll_mk0))), rfl, Below.frame hg _, fun h => by cases h⟩

theorem over : Rows.TransMaySaid :=
  OpenClaim.holds_of_wide 5 Tryd.f5 rfl rfl rfl rfl rfl rfl rfl ⟨rfl, rfl, rfl, rfl, rfl⟩ rfl rfl rfl rfl rfl (by kernel_rfl) Tryd.func5 (by kernel_rfl)
    (of_decide_eq_true (by kernel_rfl)) (by unfold Func.isWrapper; first | (rw [if_pos (by decide +kernel)]; kernel_rfl) | (rw [if_neg (by decide +kernel)]; exact ⟨rfl, rfl⟩))
    (fun os started H enc _ => lifted os started H enc)

/-- The statement. -/
theorem proved : Rows.TransMayCardSaid :=
  Claim7.holds_tied_plain_at .later [] [.data, .data, .data] true Rows.transMayCard.stood.harness Rows.transMayCard.stood.looks
    over (fun _ h => by cases h) (by kernel_rfl) (fun _ h => by cases h) transMay_row_tie rfl ⟨rfl, rfl⟩ (by kernel_rfl) rfl
    (fun f fn hf hfn => by
      obtain rfl : f = 5 := Option.some.inj ((show Tryd.prog.funcNamed "ferrybridge/ferrybridgelaw.TransMay" = some 5 by kernel_rfl).symm.trans hf) |>.symm
      obtain rfl : fn = Tryd.f5 := (Option.some.inj (Tryd.func5.symm.trans hfn)).symm
      exact ⟨by kernel_rfl, fun j t ht => by
        rw [Tryd.params5] at ht
        have hm : t ∈ [34, 35, 24] := by simpa using Array.mem_of_getElem? ht
        have hall : ([34, 35, 24].all fun u => !Tryd.prog.wantsStandIn u) = true := by kernel_rfl
        exact (show Tryd.prog.wantsStandIn t = false by simpa using List.all_eq_true.1 hall t hm)⟩)
    (by kernel_rfl)
#print axioms proved
end Go.Proofs.YtkdghgiajifbdaaDoor.transMay
