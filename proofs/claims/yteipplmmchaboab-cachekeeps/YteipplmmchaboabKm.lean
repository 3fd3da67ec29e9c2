/-
  What package cache's New and Find answer.
-/
import Derived.Test.YteipplmmchaboabKl
namespace Go.Proofs.Yteipplmmchaboab.Kc
open Go.ChangeShapes Go.WideShapes Go.ChangeAt Go.RowKit Mm Ts Hc
set_option linter.unusedVariables false
set_option linter.unusedSimpArgs false

theorem results_ct {P : Program} {fn : Func} {p t : Tmp} {ty : TypeId} (h : fn.results = #[.cell p ty, .tmp t]) (tmps : Array Value) (w : World) (g : Nat) (tt : TypeId) (cs : Array Value) (fr : Nat × Nat) (d : TypeDesc)
    (v : Value) (hp : tmps.getD p undef = .pointer (some ⟨g, 0, none⟩)) (hv : tmps.getD t undef = v) (hg : w.heap[g]? = some (.cells cs tt fr))
    (hu : P.underlying ty = some d) (hd : (match d with | .struct _ | .array _ _ => true | _ => false) = true) (hi : (P.info? ty).map (·.size) = some cs.size) :
    (results fn tmps).run P w = .ok (.tuple #[.agg cs, v]) w := by
  subst hv
  have hp' : tmps[p]?.getD undef = .pointer (some ⟨g, 0, none⟩) := by simpa using hp
  simp [results, h, hp', asAddr, run_loadVar_row w g tt ty cs fr d hg hu hd hi]
theorem New_aux (w : World) (rm r1 r2 : Int) (h : rm < 0 ∧ r1 = 0 ∧ r2 = 3 ∨ ¬ rm < 0 ∧ 64 < rm ∧ r1 = 0 ∧ r2 = 3 ∨ ¬ rm < 0 ∧ ¬ 64 < rm ∧ r1 = rm ∧ r2 = 0) : Calls Try.prog 6 #[.int .i64 rm] w fun e w' => e = .returned (.tuple #[.agg #[.int .i64 r1, .slice none 0 0, .int .i64 0, .int .i64 0], .int .i64 r2]) ∧ Gr w w' := by
  rcases h with ⟨h0, q⟩ | ⟨h0, h1, q⟩ | ⟨h0, h1, q⟩
  · have HE : Hid (r1 = 0 ∧ r2 = 3) := q
    clear q
    go_enter Try.func6, Try.ntmps6
    go_wp2
    exact bodyPost_ret (v := .tuple #[.agg #[.int .i64 0, .slice none 0 0, .int .i64 0, .int .i64 0], .int .i64 3]) (results_ct Try.results6 _ _ _ _ _ (0, 0) _ _ rfl rfl (heap_alloc_new w _) Try.underlying24 rfl iCa) rfl ⟨by rw [HE.out.1, HE.out.2], (Gr.refl _).alloc _⟩
  · have HE : Hid (r1 = 0 ∧ r2 = 3) := q
    clear q
    go_enter Try.func6, Try.ntmps6
    go_wp2
    exact bodyPost_ret (v := .tuple #[.agg #[.int .i64 0, .slice none 0 0, .int .i64 0, .int .i64 0], .int .i64 3]) (results_ct Try.results6 _ _ _ _ _ (0, 0) _ _ rfl rfl (heap_alloc_new w _) Try.underlying24 rfl iCa) rfl ⟨by rw [HE.out.1, HE.out.2], (Gr.refl _).alloc _⟩
  · have HE : Hid (r1 = rm ∧ r2 = 0) := q
    clear q
    go_enter Try.func6, Try.ntmps6
    go_wp2
    exact bodyPost_ret (v := .tuple #[.agg #[.int .i64 rm, .slice none 0 0, .int .i64 0, .int .i64 0], .int .i64 0]) (results_ct Try.results6 _ _ _ _ _ (0, 0) _ _ rfl rfl (heap_alloc_new w _) Try.underlying24 rfl iCa) rfl ⟨by rw [HE.out.1, HE.out.2], (Gr.refl _).alloc _⟩
theorem New_any (w : World) (rm : Int) : Calls Try.prog 6 #[.int .i64 rm] w fun e w' => ∃ a c, e = .returned (.tuple #[.agg #[.int .i64 (if 0 ≤ rm ∧ rm ≤ 64 then rm else 0), .slice a 0 c, .int .i64 0, .int .i64 0], .int .i64 (if 0 ≤ rm ∧ rm ≤ 64 then 0 else 3)]) ∧ Gr w w' := by
  refine (New_aux w rm _ _ ?_).mono fun e w' h => ⟨none, 0, h⟩
  by_cases h0 : rm < 0
  · exact .inl ⟨h0, if_neg (by omega), if_neg (by omega)⟩
  · by_cases h1 : 64 < rm
    · exact .inr (.inl ⟨h0, h1, if_neg (by omega), if_neg (by omega)⟩)
    · exact .inr (.inr ⟨h0, h1, if_pos (by omega), if_pos (by omega)⟩)
theorem fnd_neg {pc : Int} {bs : List Bv} (h : place pc bs 0 = -1) : fnd pc bs = ⟨0, []⟩ := by unfold fnd; rw [h, if_neg (by omega)]
theorem fnd_pos {pc : Int} {bs : List Bv} {j : Nat} {x : Bv} (h : place pc bs 0 = (j : Int)) (hx : bs[j]? = some x) : fnd pc bs = x := by
  unfold fnd
  rw [h, if_pos (by omega), Int.toNat_natCast, List.getD, hx]
  rfl
theorem bc_none (w : World) : Bc w ⟨0, []⟩ (.int .u32 0) (.slice none 0 0) := ⟨rfl, ⟨by decide, by decide⟩, none, 0, 0, rfl, ⟨rfl, fun i h => (by cases h), fun h => absurd h (by omega)⟩, by omega⟩
set_option maxHeartbeats 4000000 in
set_option maxRecDepth 100000 in
theorem Find_any {w : World} {ao : Option Addr} {n : Nat} (cap : Nat) {bs : List Bv} (B : Bs w ao n bs) (hn : n * 32 ≤ 140737488351232) (room pu sl pc : Int) :
    Calls Try.prog 8 #[.agg #[.int .i64 room, .slice ao n cap, .int .i64 pu, .int .i64 sl], .int .u32 pc] w fun e w' => ∃ x y, e = .returned (.tuple #[.agg #[x, y], .bool (decide (0 ≤ place pc bs 0))]) ∧ Bc w' (fnd pc bs) x y ∧ Gr w w' := by
  have AT : Hid (∀ W : World, Calls Try.prog 21 #[.int .u32 pc] W fun e w' => ∃ B, e = .returned (.func (.func 31) #[] #[.pointer (some ⟨B, 0, none⟩)]) ∧ w'.cell? ⟨B, 0, none⟩ = some (.int .u32 pc) ∧ Gr W w') := fun W => at_any W pc
  have IDX : Hid (∀ (W : World) (K : Nat), Gr w W → W.cell? ⟨K, 0, none⟩ = some (.int .u32 pc) → Calls Try.prog 20 #[.slice ao n cap, .func (.func 31) #[] #[.pointer (some ⟨K, 0, none⟩)]] W fun e w' => e = .returned (.int .i64 (place pc bs 0)) ∧ Gr W w') := fun W K G hk => by
    rw [← fidx_place]
    exact idx_at cap (B.bq.of G) (by omega) K (fun b => decide (b.pc = pc)) fun W' b sa sc G' _ => at1_any ((G'.cell _ (by exact World.block_lt_of_cell? W _ hk)).trans hk) b.pc sa b.is.length sc
  have HB : Hid (Bs w ao n bs) := B
  have HX : Hid (∀ W : World, Gr ((w.alloc (.cells #[.int .i64 room, .slice ao n cap, .int .i64 pu, .int .i64 sl] 24)).alloc (.cells #[.int .u32 0, .slice none 0 0] 28)) W → W.cell? ⟨w.heap.size, 1, none⟩ = some (.slice ao n cap) ∧ W.heap[w.heap.size + 1]? = some (.cells #[.int .u32 0, .slice none 0 0] 28 (0, 0)) ∧ Gr w W) := fun W G =>
    ⟨cell_of_row _ _ _ _ _ _ (up_h (((Gr.refl _).alloc _).trans G) (heap_alloc_new w _)), up_h G (new2 w _ _), (((Gr.refl w).alloc _).alloc _).trans G⟩
  clear B
  have HPB : Hid (place pc bs 0 = -1 ∨ ∃ (j : Nat) (x : Bv), place pc bs 0 = (j : Int) ∧ j < n ∧ bs[j]? = some x) := by
    rcases place_bd pc bs 0 with h | ⟨j, x, h, hx⟩
    · exact .inl h
    · rw [Nat.zero_add] at h
      exact .inr ⟨j, x, h, by rw [← HB.out.len]; exact (List.getElem?_eq_some_iff.1 hx).1, hx⟩
  rcases HPB.out with hp | ⟨j, b, hp, hj, hb⟩
  · have HF : Hid (fnd pc bs = ⟨0, []⟩) := fnd_neg hp
    rw [hp] at IDX
    rw [hp]
    clear HPB hp HB
    generalize fnd pc bs = fb at *
    go_enter Try.func8, Try.ntmps8
    go_wp2_with fail
    go_region_with (first
      | (go_at_call 21; refine (AT.out _).mono ?_; rintro e w2 ⟨K, rfl, hk, G2⟩; have HG2 : Hid (Gr ((w.alloc (.cells #[.int .i64 room, .slice ao n cap, .int .i64 pu, .int .i64 sl] 24)).alloc (.cells #[.int .u32 0, .slice none 0 0] 28)) w2) := Gr.trans (by repeat (first | exact Gr.refl _ | refine Gr.drewN ?_ _ | refine Gr.drew ?_)) G2; have x1 : w2.cell? ⟨w.heap.size, 1, none⟩ = some (.slice ao n cap) := (HX.out _ HG2.out).1; clear G2)
      | (go_at_call 20; refine (IDX.out _ K (HX.out _ HG2.out).2.2 hk).mono ?_; rintro e w3 ⟨rfl, G3⟩; have HG3 : Hid (Gr ((w.alloc (.cells #[.int .i64 room, .slice ao n cap, .int .i64 pu, .int .i64 sl] 24)).alloc (.cells #[.int .u32 0, .slice none 0 0] 28)) w3) := HG2.out.trans G3; clear G3))
    all_goals
      clear x1 hk HG2 IDX AT
      clear w2
      have y1 : w3.heap[w.heap.size + 1]? = some (.cells #[.int .u32 0, .slice none 0 0] 28 (0, 0)) := (HX.out _ HG3.out).2.1
      have HY : Hid (w3.heap[w.heap.size + 1]? = some (.cells #[.int .u32 0, .slice none 0 0] 28 (0, 0))) := y1
      have c0 : w3.cell? ⟨w.heap.size + 1, 0, none⟩ = some (.int .u32 0) := cell_of_row _ _ _ _ _ _ y1
      have c1 : w3.cell? ⟨w.heap.size + 1, 1, none⟩ = some (.slice none 0 0) := cell_of_row _ _ _ _ _ _ y1
      have cf : ∀ j, w3.frozen? ⟨w.heap.size + 1, j, none⟩ = false := fun j => frozen_of_row _ _ _ _ _ y1
      have HGw : Hid (Gr w w3) := (HX.out _ HG3.out).2.2
      clear HX HG3 y1
      go_wp2_with fail
      have e2 := heap_setCell_same _ _ 0 _ _ (.int .u32 0) HY.out
      have e3 := heap_setCell_same _ _ 1 _ _ (.slice none 0 0) e2
      refine bodyPost_ret (v := .tuple #[.agg #[.int .u32 0, .slice none 0 0], .bool false]) (results_ct Try.results8 _ _ _ _ _ (0, 0) _ _ rfl rfl e3 Try.underlying28 rfl iBk) rfl ?_
      have hf : w.heap.size ≤ w.heap.size + 1 := by omega
      refine ⟨.int .u32 0, .slice none 0 0, rfl, ?_, (HGw.out.setCell (by exact hf) _).setCell (by exact hf) _⟩
      rw [HF.out]
      exact bc_none _
  · have HF : Hid (fnd pc bs = b) := fnd_pos hp hb
    rw [hp] at IDX
    rw [hp]
    obtain ⟨k, o, rfl, hk0, hcell⟩ := HB.out.spot (by omega)
    obtain ⟨u, v, p0, p1, hbc⟩ := hcell j b hb
    obtain ⟨o1, o2, va, vn, vc, rfl⟩ := hbc.ones
    have hu : u = .int .u32 b.pc := hbc.1
    subst hu
    have HOk : Hid (b.Ok) := hbc.ok
    have HCe : Hid (∀ W : World, Gr w W → W.cell? ⟨k, o + j * 2, none⟩ = some (.int .u32 b.pc) ∧ W.cell? ⟨k, o + j * 2 + 1, none⟩ = some (.slice va vn vc)) := fun W G => ⟨(G.cell _ (by exact hk0)).trans p0, (G.cell _ (by exact hk0)).trans p1⟩
    have CP : Hid (∀ W : World, Gr w W → Calls Try.prog 22 #[.agg #[.int .u32 b.pc, .slice va vn vc]] W fun e w' => ∃ v, e = .returned (.agg #[.int .u32 b.pc, v]) ∧ Io w' W.heap.size v b.is ∧ Gr W w') := fun W G => copyB_any (hbc.of G)
    have hj0 : (0 : Int) ≤ (j : Int) := by omega
    have hj1 : (j : Int) < (n : Int) := by omega
    have HBc : Hid (∀ (W : World) (v : Value), Io W w.heap.size v b.is → Bc W b (.int .u32 b.pc) v) := fun W v h => h.bc HOk.out
    clear HPB hp HB hcell p0 p1 hbc hb
    generalize fnd pc bs = fb at *
    generalize hbp : b.pc = bp at *
    clear hbp
    go_enter Try.func8, Try.ntmps8
    go_wp2_with fail
    go_region_with (first
      | (go_at_call 21; refine (AT.out _).mono ?_; rintro e w2 ⟨K, rfl, hk, G2⟩; have HG2 : Hid (Gr ((w.alloc (.cells #[.int .i64 room, .slice (some ⟨k, o, none⟩) n cap, .int .i64 pu, .int .i64 sl] 24)).alloc (.cells #[.int .u32 0, .slice none 0 0] 28)) w2) := Gr.trans (by repeat (first | exact Gr.refl _ | refine Gr.drewN ?_ _ | refine Gr.drew ?_)) G2; have x1 : w2.cell? ⟨w.heap.size, 1, none⟩ = some (.slice (some ⟨k, o, none⟩) n cap) := (HX.out _ HG2.out).1; clear G2)
      | (go_at_call 20; refine (IDX.out _ K (HX.out _ HG2.out).2.2 hk).mono ?_; rintro e w3 ⟨rfl, G3⟩; have HG3 : Hid (Gr ((w.alloc (.cells #[.int .i64 room, .slice (some ⟨k, o, none⟩) n cap, .int .i64 pu, .int .i64 sl] 24)).alloc (.cells #[.int .u32 0, .slice none 0 0] 28)) w3) := HG2.out.trans G3; clear G3))
    all_goals
      clear x1 hk HG2 IDX AT
      clear w2
      have y1 : w3.heap[w.heap.size + 1]? = some (.cells #[.int .u32 0, .slice none 0 0] 28 (0, 0)) := (HX.out _ HG3.out).2.1
      have HY : Hid (w3.heap[w.heap.size + 1]? = some (.cells #[.int .u32 0, .slice none 0 0] 28 (0, 0))) := y1
      have x1 : w3.cell? ⟨w.heap.size, 1, none⟩ = some (.slice (some ⟨k, o, none⟩) n cap) := (HX.out _ HG3.out).1
      have HGw : Hid (Gr w w3) := (HX.out _ HG3.out).2.2
      obtain ⟨d0, d1⟩ := HCe.out _ HGw.out
      clear HX HG3 y1 HCe
      go_wp2_with fail
      refine (CP.out _ HGw.out).mono ?_
      rintro e w4 ⟨v4, rfl, I4, G4⟩
      have HGx : Hid (Gr w w4) := HGw.out.trans G4
      have HI4 : Hid (Io w4 w.heap.size v4 b.is) := I4.low HGw.out.size
      have y2 := up_h G4 HY.out
      have HY2 : Hid (w4.heap[w.heap.size + 1]? = some (.cells #[.int .u32 0, .slice none 0 0] 28 (0, 0))) := y2
      have c0 : w4.cell? ⟨w.heap.size + 1, 0, none⟩ = some (.int .u32 0) := cell_of_row _ _ _ _ _ _ y2
      have c1 : w4.cell? ⟨w.heap.size + 1, 1, none⟩ = some (.slice none 0 0) := cell_of_row _ _ _ _ _ _ y2
      have cf : ∀ j, w4.frozen? ⟨w.heap.size + 1, j, none⟩ = false := fun j => frozen_of_row _ _ _ _ _ y2
      obtain ⟨ia, ic, rfl⟩ := I4.shape
      clear I4 G4 CP y2 d0 d1 x1
      generalize b.is.length = iq at *
      go_wp2_with fail
      have e2 := heap_setCell_same _ _ 0 _ _ (.int .u32 bp) HY2.out
      have e3 := heap_setCell_same _ _ 1 _ _ (.slice ia iq ic) e2
      refine bodyPost_ret (v := .tuple #[.agg #[.int .u32 bp, .slice ia iq ic], .bool true]) (results_ct Try.results8 _ _ _ _ _ (0, 0) _ _ rfl rfl e3 Try.underlying28 rfl iBk) rfl ?_
      have hf : w.heap.size ≤ w.heap.size + 1 := by omega
      refine ⟨.int .u32 bp, .slice ia iq ic, by simp, ?_, (HGx.out.setCell (by exact hf) _).setCell (by exact hf) _⟩
      rw [HF.out]
      refine HBc.out _ _ (HI4.out.to fun z c r hz => ?_)
      have nz : z ≠ w.heap.size + 1 := ne_of_types hz HY2.out (by decide)
      rw [heap_setCell_other _ _ _ _ (by exact nz), heap_setCell_other _ _ _ _ (by exact nz)]
end Go.Proofs.Yteipplmmchaboab.Kc
