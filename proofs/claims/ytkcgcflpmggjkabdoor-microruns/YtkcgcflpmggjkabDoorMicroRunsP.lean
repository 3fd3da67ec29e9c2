/-
  What is proved: for every small steps, such as may not be among them, every hart, memory, own bytes and steps, the program does them as the document says, or tells that it can't be; the statement's card, tied to the program's own tables. Conditions: none beyond the card's own.
-/
import Derived.Test.YtkcgcflpmggjkabDoorCards
import Derived.Test.YtkcgcflpmggjkabDoorTie
import Derived.Test.YtkcgcflpmggjkabDoorK13
import Derived.Test.YtkcgcflpmggjkabDoorTabs
import Derived.ProofKit
import Derived.SizedLaws
import Derived.LaidMore
import Derived.OpenShut
import Derived.Stop.Joined
import Derived.SevenTiedAt
namespace Go.Proofs.YtkcgcflpmggjkabDoor.microRuns
open Go.ChangeShapes Go.WideShapes Go.ChangeAt Go.RowKit Mm Hh Hc Mi Mp
set_option linter.unusedVariables false
set_option linter.unusedSimpArgs false

theorem open_cap {H : Type} {enc : TypeId × Value → H} {W : World} {fuel : Nat} {ao : Option Addr} {len cap : Nat} {d : DataW H} {p : List MemPlace}
    (hf : DataW.trod enc Tryd.prog W 0 (fun _ => true) true fuel 22 (Value.slice ao len cap).cells.toList = some (d, p)) : ao = none → cap = 0 := by
  rcases open_ints Tryd.underlying22 Tryd.underlying5 cells5 hf with ⟨hcs, _⟩ | ⟨a, len', cap', zs, hcs, _⟩
  · simp [Value.cells] at hcs
    exact fun _ => hcs.2.2
  · simp [Value.cells] at hcs
    intro h
    rw [h] at hcs
    cases hcs.1
def sizesL : List Int := [0, 0, 0, 0, 0, 0, 0, 0, 0, 0, 0, 0, 0, 0, 0, 0, 1, 2, 4]
theorem gSizes : Tryd.prog.globalNamed "ferrybridge/hart.sizes" = some 4 := by kernel_rfl
theorem gRows : Tryd.prog.globalNamed "ferrybridge/micro.rows" = some 0 := by kernel_rfl
theorem tSizes : (Tryd.prog.globals[4]?).map (·.type) = some 176 := by kernel_rfl
theorem tRows : (Tryd.prog.globals[0]?).map (·.type) = some 116 := by kernel_rfl
theorem lookSizes : (List.range 19).map (Dw.look Tryd.prog 3 176 (Rows.laid_ferrybridge_hart_sizes (H := Unit))) = sizesL.map fun n => some (.int .u32 n) := by kernel_rfl
theorem lookRows : (List.range 33).map (Dw.look Tryd.prog 5 116 (Rows.laid_ferrybridge_micro_rows (H := Unit))) = rowsL.map fun n => some (.int .i64 n) := by kernel_rfl
def laid {H : Type} : List (String × DataW H) := [("ferrybridge/hart.sizes", Rows.laid_ferrybridge_hart_sizes), ("ferrybridge/micro.rows", Rows.laid_ferrybridge_micro_rows)]
/-- The condition gives the tables. -/
theorem tabs_of_laid {W : World} (h : laidMetH Tryd.prog [("ferrybridge/hart.sizes", Rows.laid_ferrybridge_hart_sizes), ("ferrybridge/micro.rows", Rows.laid_ferrybridge_micro_rows)] W) : Tr W ∧ Gc.Ts W W.heap.size := by
  rw [MakeChecks.laidMetH_plain _ _ _ (by kernel_rfl)] at h
  obtain ⟨ps, ⟨g0, t0, cs0, f0, p0, q0, hg0, ht0, hv0, hd0, ⟨g1, t1, cs1, f1, p1, q1, hg1, ht1, hv1, hd1, _, _⟩, _⟩, _, _⟩ := h
  obtain rfl := Option.some.inj (gSizes.symm.trans hg0)
  obtain rfl := Option.some.inj (gRows.symm.trans hg1)
  obtain rfl := Option.some.inj (tSizes.symm.trans ht0)
  obtain rfl := Option.some.inj (tRows.symm.trans ht1)
  have S : ∀ i n, sizesL[i]? = some n → W.cell? ⟨4, i, none⟩ = some (.int .u32 n) := fun i n hi => by
    have := Dw.look_cell 3 hd0 (Dw.look_of (l := sizesL.map fun n => .int .u32 n) (i := i) (v := .int .u32 n) (by rw [lookSizes]; simp [Function.comp_def]) (by simp [hi]))
    rw [World.var?_cell hg0 hv0 i]; simpa using this
  have R : ∀ i n, rowsL[i]? = some n → W.cell? ⟨0, i, none⟩ = some (.int .i64 n) := fun i n hi => by
    have := Dw.look_cell 5 hd1 (Dw.look_of (l := rowsL.map fun n => .int .i64 n) (i := i) (v := .int .i64 n) (by rw [lookRows]; simp [Function.comp_def]) (by simp [hi]))
    rw [World.var?_cell hg1 hv1 i]; simpa using this
  exact ⟨⟨R, Dw.lt_of_cell (R 0 _ rfl)⟩, ⟨S, Dw.lt_of_cell (S 0 _ rfl)⟩⟩
/-- The door's own heap meets the condition: three closed facts. -/
theorem door_met (os : Os) (args : Array Value) : laidMetH Tryd.prog laid ((World.doorLaid Tryd.prog 400 os).forCall (fun _ _ => 0) ⟨#[], args, []⟩).memory :=
  laidMetH_of_parts3 (fuel := 8) (laidMet_of_run' 8 (by kernel_rfl) (by kernel_rfl)) (by kernel_rfl) (by kernel_rfl)

set_option maxRecDepth 100000 in
theorem lifted (os : Os) (started : os.Started) (H : Type) (enc : TypeId × Value → H) :
    ReturnsInHanded {} Tryd.checked os 5 .any (fun w args => (Rows.microRunsSpec.pre enc Tryd.prog Tryd.f5 [] false w args ∧ laidMetH Tryd.prog laid w) ∧ sizedMet enc Tryd.prog Tryd.f5 (OpenSpec.ofChange Rows.microRunsSpec) false w args)
      (Rows.microRunsSpec.post enc Tryd.prog Tryd.f5 false true false false) := by
  refine returnsInHanded_of_change_and (C := Tryd.checked) (X := fun w _ => laidMetH Tryd.prog laid w) (fun _ _ _ hh h => h.of_heap hh) own started (by kernel_rfl) Tryd.func5
    (ChangeSpec.witness_shaped (enc := enc) (C := Tryd.checked) (os := os) (X := fun w _ => laidMetH Tryd.prog laid w) false (World.doorLaid Tryd.prog 400 os) #[.slice none 0 0, .agg (hA h0), .slice none 0 0, .agg #[.int .u32 0, .int .u32 0], .int .i64 0] 8 rfl (World.shaped_of_RefB (by kernel_rfl) (by kernel_rfl)) (by kernel_rfl) (by kernel_rfl) (by kernel_rfl) (door_met os _)) ?_
  intro W base args ds gs before hval0 hW _ hsz0 hL _
  have hsz : (DataW.weightsEach Tryd.prog (Tryd.f5.params.toList ++ Rows.microRunsSpec.plain.varTypes Tryd.prog) (ds ++ gs)).all (· ≤ reachBytes) = true := hsz0
  clear hsz0
  have hval : ∀ (j : Nat) t v, Tryd.f5.params[j]? = some t → args[j]? = some v → Value.okWide Tryd.prog W .any base t v := hval0
  have hW' := hW
  obtain ⟨p, q, hA0, hV, rfl, hfz, hnd⟩ := hW
  have hA : DataW.TrodAll enc Tryd.prog W 0 (fun _ => true) true Tryd.f5.params.toList args.toList ds p := hA0
  rw [Tryd.params5] at hA hval hsz
  obtain ⟨v0, vs0, d0, ds0, p0, q0, hargs, rfl, rfl, h0, r0⟩ := trodAll_cons hA
  obtain ⟨v1, vs1, d1, ds1, p1, q1, rfl, rfl, rfl, h1, r1⟩ := trodAll_cons r0
  obtain ⟨v2, vs2, d2, ds2, p2, q2, rfl, rfl, rfl, h2, r2⟩ := trodAll_cons r1
  obtain ⟨v3, vs3, d3, ds3, p3, q3, rfl, rfl, rfl, h3, r3⟩ := trodAll_cons r2
  obtain ⟨v4, vs4, d4, ds4, p4, q4, rfl, rfl, rfl, h4, r4⟩ := trodAll_cons r3
  obtain ⟨rfl, rfl, rfl⟩ := trodAll_nil r4
  obtain rfl : args = #[v0, v1, v2, v3, v4] := by cases args; simp_all
  obtain ⟨rfl, rfl⟩ := trodVars_none hV
  obtain ⟨a0, lc, cc, rfl⟩ := okWide_slice Tryd.underlying45 (hval 0 45 v0 rfl rfl)
  obtain ⟨hh, rfl, oh⟩ := open_hart (hval 1 48 v1 rfl rfl) h1
  obtain ⟨a2, la, ca, rfl⟩ := okWide_slice Tryd.underlying22 (hval 2 22 v2 rfl rfl)
  obtain ⟨bf, bt, rfl, _, _⟩ := open_range (hval 3 50 v3 rfl rfl) h3
  obtain ⟨st, rfl, rfl, rfl, w4⟩ := open_int Tryd.underlying3 (hval 4 3 v4 rfl rfl) h4
  have h0k := h0
  have h2k := h2
  obtain ⟨fa, hfa⟩ := h0
  obtain ⟨fb, hfb⟩ := h2
  clear hA0 hval0
  simp only [List.append_nil] at hW'
  have hlt0 : ∀ x ∈ p0, x.block < W.heap.size := fun x hx => by
    have := hW'.lt x (by simp [hx])
    simpa using this
  have hlt1 : ∀ x ∈ p1, x.block < W.heap.size := fun x hx => by
    have := hW'.lt x (by simp [hx])
    simpa using this
  have hlt2 : ∀ x ∈ p2, x.block < W.heap.size := fun x hx => by
    have := hW'.lt x (by simp [hx])
    simpa using this
  have hlt3 : ∀ x ∈ p3, x.block < W.heap.size := fun x hx => by
    have := hW'.lt x (by simp [hx])
    simpa using this
  obtain ⟨code, C, hdc⟩ := open_code hfa
  obtain ⟨l, M, hd⟩ := open_mem hfb
  have hnc : lc ≤ 140737488351232 := by
    rcases hdc with ⟨_, h⟩ | ⟨el, sp, h, hz⟩
    · rw [h]; decide
    · have := sized_slice hsz (j := 0) (t := 45) (e := 79) rfl (by rw [h]; rfl) Tryd.underlying45
      rw [bMi] at this
      simp only [hz, reachBytes] at this
      omega
  have hn : la ≤ 140737488351232 := by
    rcases hd with ⟨_, h⟩ | ⟨zs, sp, h, hz⟩
    · rw [h]; decide
    · have := sized_slice hsz (j := 2) (t := 22) (e := 5) rfl (by rw [h]; rfl) Tryd.underlying22
      rw [bytes5] at this
      simp only [lits, List.length_map, hz, reachBytes] at this
      omega
  have tb := tabs_of_laid hL
  refine (walk cc C tb.1 tb.2 hnc oh M (open_cap hfb) hn bf bt st).mono fun e W' ⟨he, hg⟩ => ?_
  subst he
  refine ⟨_, rfl, _, _, _, [], _, [], hW', (trodAll_cons_mk (shut_bool Tryd.underlying4 _) trodAll_mk0), (trodAll_cons_mk (Below.trod laidOut (by kernel_rfl) (of_decide_eq_true (by kernel_rfl)) h0k hg hlt0) (trodAll_cons_mk (Below.trod laidOut (by kernel_rfl) (of_decide_eq_true (by kernel_rfl)) h1 hg hlt1) (trodAll_cons_mk (Below.trod laidOut (by kernel_rfl) (of_decide_eq_true (by kernel_rfl)) h2k hg hlt2) (trodAll_cons_mk (Below.trod laidOut (by kernel_rfl) (of_decide_eq_true (by kernel_rfl)) h3 hg hlt3) (trodAll_cons_mk (shut_int Tryd.underlying3 w4) trodAll_mk0))))), rfl, Below.frame hg _, fun h => by cases h⟩

theorem over : Rows.MicroRunsSaid :=
  OpenClaim.holds_of_wide 5 Tryd.f5 rfl rfl rfl rfl rfl rfl rfl ⟨rfl, rfl, rfl, rfl, rfl⟩ rfl rfl rfl rfl rfl (by kernel_rfl) Tryd.func5 (by kernel_rfl)
    (of_decide_eq_true (by kernel_rfl)) (by unfold Func.isWrapper; first | (rw [if_pos (by decide +kernel)]; kernel_rfl) | (rw [if_neg (by decide +kernel)]; exact ⟨rfl, rfl⟩))
    (fun os started H enc _ => lifted os started H enc)

/-- The statement. -/
theorem proved : Rows.MicroRunsCardSaid :=
  Claim7.holds_tied_plain_at .later [] [.data, .data] true Rows.microRunsCard.stood.harness Rows.microRunsCard.stood.looks
    over (fun _ h => by cases h) (by kernel_rfl) (fun _ h => by cases h) microRuns_row_tie rfl ⟨rfl, rfl⟩ (by kernel_rfl) rfl
    (fun f fn hf hfn => by
      obtain rfl : f = 5 := Option.some.inj ((show Tryd.prog.funcNamed "ferrybridge/ferrybridgelaw.MicroRuns" = some 5 by kernel_rfl).symm.trans hf) |>.symm
      obtain rfl : fn = Tryd.f5 := (Option.some.inj (Tryd.func5.symm.trans hfn)).symm
      exact ⟨by kernel_rfl, fun j t ht => by
        rw [Tryd.params5] at ht
        have hm : t ∈ [45, 48, 22, 50, 3] := by simpa using Array.mem_of_getElem? ht
        have hall : ([45, 48, 22, 50, 3].all fun u => !Tryd.prog.wantsStandIn u) = true := by kernel_rfl
        exact (show Tryd.prog.wantsStandIn t = false by simpa using List.all_eq_true.1 hall t hm)⟩)
    (by kernel_rfl)
#print axioms proved
end Go.Proofs.YtkcgcflpmggjkabDoor.microRuns
