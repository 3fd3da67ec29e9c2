/-
  What package cache's Stale answers.
-/
import Derived.Test.YteipplmmchaboabKm
namespace Go.Proofs.Yteipplmmchaboab.Kc
open Go.ChangeShapes Go.WideShapes Go.ChangeAt Go.RowKit Mm Ts Hc
set_option linter.unusedVariables false
set_option linter.unusedSimpArgs false

theorem cnt_len (f t : Int) : ∀ (bs : List Bv) (s : Int), -9223372036854775808 ≤ s ∧ s ≤ 9223372036854775807 → cntS f t s bs = wrap64 (s + ((bs.length : Int) - ((keepL f t bs).length : Int)))
  | [], s, h => by
    show s = wrap64 (s + (0 - 0))
    unfold wrap64
    omega
  | b :: r, s, h => by
    show cntS f t (if hasB b f t = true then wrap64 (s + 1) else s) r = _
    unfold keepL
    rw [List.filter_cons]
    cases hb : hasB b f t with
    | true =>
      rw [if_pos rfl, cnt_len f t r _ (by unfold wrap64; omega)]
      simp only [Bool.not_true, Bool.false_eq_true, if_false, List.length_cons]
      unfold keepL wrap64
      omega
    | false =>
      rw [if_neg (by simp), cnt_len f t r s h]
      simp only [Bool.not_false, if_true, List.length_cons]
      unfold keepL wrap64
      omega
theorem own_bs {w : World} {base b1 g m cp : Nat} {xs : List Value} {bs : List Bv} (O : w.ownsRow base 28 2 (.slice (some ⟨g, 0, none⟩) m cp) m xs) (B : Bx w b1 bs xs) (ok : ∀ b ∈ bs, b.Ok) (hl : bs.length = m) : Bs w (some ⟨g, 0, none⟩) m bs ∧ m ≤ cp := by
  have := bs_own O (B.bw ok) 0 m (by omega)
  rw [List.drop_zero, Nat.zero_mul] at this
  exact ⟨this, (Rw.open O).1⟩
theorem keep_ok {f t : Int} {bs : List Bv} (h : ∀ b ∈ bs, b.Ok) : ∀ b ∈ keepL f t bs, b.Ok := fun b hb => h b (List.mem_filter.1 hb).1
set_option maxHeartbeats 4000000 in
set_option maxRecDepth 100000 in
theorem StaleW_any {w : World} {ao : Option Addr} {n : Nat} (cap : Nat) {bs : List Bv} (B : Bs w ao n bs) (hn : n * 32 ≤ 140737488351232) (room pu sl : Int) {f t : Int} (hf : 0 ≤ f ∧ f < 4294967296) (ht : 0 ≤ t ∧ t < 4294967296) :
    Calls Try.prog 11 #[.agg #[.int .i64 room, .slice ao n cap, .int .i64 pu, .int .i64 sl], .agg #[.int .u32 f, .int .u32 t]] w fun e w' => ∃ a m c, e = .returned (.agg #[.int .i64 room, .slice a m c, .int .i64 pu, .int .i64 (wrap64 (sl + ((n : Int) - ((keepL f t bs).length : Int))))]) ∧ (Bs w' a m (keepL f t bs) ∧ m ≤ c) ∧ Gr w w' := by
  have CP : Hid (∀ W : World, Gr w W → Calls Try.prog 23 #[.agg #[.int .i64 room, .slice ao n cap, .int .i64 pu, .int .i64 sl]] W fun e w' => ∃ g cp xs, e = .returned (.agg #[.int .i64 room, .slice (some ⟨g, 0, none⟩) n cp, .int .i64 pu, .int .i64 sl]) ∧ w'.ownsRow W.heap.size 28 2 (.slice (some ⟨g, 0, none⟩) n cp) n xs ∧ Bx w' W.heap.size bs xs ∧ Gr W w') := fun W G => copyC_any cap (B.of G) hn room pu sl
  have HOk : Hid (∀ b ∈ bs, b.Ok) := B.ok
  have HL : Hid (bs.length = n) := B.len
  have TO : Hid (∀ W : World, Calls Try.prog 25 #[.agg #[.int .u32 f, .int .u32 t]] W fun e w' => ∃ B, e = .returned (.func (.func 32) #[] #[.pointer (some ⟨B, 0, none⟩)]) ∧ w'.heap[B]? = some (.cells #[.int .u32 f, .int .u32 t] 30 (0, 0)) ∧ Gr W w') := fun W => touched_any W f t
  obtain ⟨CV, HC⟩ : ∃ CV, Hid (CV = wrap64 (sl + ((n : Int) - ((keepL f t bs).length : Int)))) := ⟨_, rfl⟩
  rw [← HC.out]
  have HKl : Hid ((keepL f t bs).length ≤ n) := by have := keep_len f t bs bs.length; rw [List.take_length, B.len] at this; exact this
  have DF : Hid (∀ (W : World) (base b1 g cp K : Nat) (xs : List Value), W.ownsRow base 28 2 (.slice (some ⟨g, 0, none⟩) n cp) n xs → Bx W b1 bs xs → W.heap[K]? = some (.cells #[.int .u32 f, .int .u32 t] 30 (0, 0)) → Calls Try.prog 24 #[.slice (some ⟨g, 0, none⟩) n cp, .func (.func 32) #[] #[.pointer (some ⟨K, 0, none⟩)]] W fun e w' => ∃ m xs', e = .returned (.slice (some ⟨g, 0, none⟩) m cp) ∧ (keepL f t bs).length = m ∧ w'.ownsRow base 28 2 (.slice (some ⟨g, 0, none⟩) m cp) m xs' ∧ Bx w' b1 (keepL f t bs) xs' ∧ Ch g W w') := fun W base b1 g cp K xs O X hK => DelF_any O X HL.out (by omega) HOk.out hK ht.2
  clear B hf ht
  go_enter Try.func11, Try.ntmps11
  go_wp2_with fail
  refine (CP.out _ ((((Gr.refl w).alloc _).alloc _).alloc _)).mono ?_
  rintro e w1 ⟨g, cp, xs, rfl, O1, X1, G1⟩
  have T1 := three_of G1
  have HG1 : Hid (Gr w w1) := ((((Gr.refl w).alloc _).alloc _).alloc _).trans G1
  have hsz : (((w.alloc (.cells #[.int .i64 room, .slice ao n cap, .int .i64 pu, .int .i64 sl] 24)).alloc (.cells #[.int .u32 f, .int .u32 t] 30)).alloc (.cells #[.int .i64 0, .slice none 0 0, .int .i64 0, .int .i64 0] 24)).heap.size = w.heap.size + 1 + 1 + 1 := by simp
  rw [hsz] at O1 X1
  have HO1 : Hid (w1.ownsRow (w.heap.size + 1 + 1 + 1) 28 2 (.slice (some ⟨g, 0, none⟩) n cp) n xs) := O1
  have HX1 : Hid (Bx w1 (w.heap.size + 1 + 1 + 1) bs xs) := X1
  have HT1 : Hid (w1.heap[w.heap.size]? = some (.cells #[.int .i64 room, .slice ao n cap, .int .i64 pu, .int .i64 sl] 24 (0, 0)) ∧ w1.heap[w.heap.size + 1]? = some (.cells #[.int .u32 f, .int .u32 t] 30 (0, 0)) ∧ w1.heap[w.heap.size + 1 + 1]? = some (.cells #[.int .i64 0, .slice none 0 0, .int .i64 0, .int .i64 0] 24 (0, 0))) := T1
  clear O1 X1 T1 G1 CP hsz
  go_wp2_with fail
  refine atWd (fun W => (W.heap[w.heap.size]? = some (.cells #[.int .i64 room, .slice ao n cap, .int .i64 pu, .int .i64 sl] 24 (0, 0)) ∧ W.heap[w.heap.size + 1]? = some (.cells #[.int .u32 f, .int .u32 t] 30 (0, 0)) ∧ W.heap[w.heap.size + 1 + 1]? = some (.cells #[.int .i64 0, .slice none 0 0, .int .i64 0, .int .i64 0] 24 (0, 0))) ∧ (W.ownsRow (w.heap.size + 1 + 1 + 1) 28 2 (.slice (some ⟨g, 0, none⟩) n cp) n xs ∧ Bx W (w.heap.size + 1 + 1 + 1) bs xs) ∧ W.heap[w1.heap.size]? = some (.cells #[.int .i64 room, .slice (some ⟨g, 0, none⟩) n cp, .int .i64 pu, .int .i64 sl] 24 (0, 0)) ∧ Gr w W) ?_ ?_
  · have G := (Gr.refl w1).alloc (.cells #[.int .i64 room, .slice (some ⟨g, 0, none⟩) n cp, .int .i64 pu, .int .i64 sl] 24)
    exact ⟨⟨up_h G HT1.out.1, up_h G HT1.out.2.1, up_h G HT1.out.2.2⟩, ⟨owns_gr HO1.out G, HX1.out.of G⟩, heap_alloc_new w1 _, HG1.out.alloc _⟩
  have ho : w.heap.size + 1 + 1 < w1.heap.size := (Array.getElem?_eq_some_iff.1 HT1.out.2.2).1
  clear HT1 HO1 HX1 HG1
  generalize w1.heap.size = o at *
  clear w1
  rintro W ⟨T0, OX0, R0, G0⟩
  have HT : Hid (W.heap[w.heap.size]? = some (.cells #[.int .i64 room, .slice ao n cap, .int .i64 pu, .int .i64 sl] 24 (0, 0)) ∧ W.heap[w.heap.size + 1]? = some (.cells #[.int .u32 f, .int .u32 t] 30 (0, 0)) ∧ W.heap[w.heap.size + 1 + 1]? = some (.cells #[.int .i64 0, .slice none 0 0, .int .i64 0, .int .i64 0] 24 (0, 0))) := T0
  have HOX : Hid (W.ownsRow (w.heap.size + 1 + 1 + 1) 28 2 (.slice (some ⟨g, 0, none⟩) n cp) n xs ∧ Bx W (w.heap.size + 1 + 1 + 1) bs xs) := OX0
  have HR : Hid (W.heap[o]? = some (.cells #[.int .i64 room, .slice (some ⟨g, 0, none⟩) n cp, .int .i64 pu, .int .i64 sl] 24 (0, 0))) := R0
  have HG : Hid (Gr w W) := G0
  have x1 : W.cell? ⟨o, 1, none⟩ = some (.slice (some ⟨g, 0, none⟩) n cp) := cell_of_row _ _ _ _ _ _ R0
  have q0 : W.cell? ⟨w.heap.size + 1, 0, none⟩ = some (.int .u32 f) := cell_of_row _ _ _ _ _ _ T0.2.1
  have q1 : W.cell? ⟨w.heap.size + 1, 1, none⟩ = some (.int .u32 t) := cell_of_row _ _ _ _ _ _ T0.2.1
  clear T0 OX0 R0 G0
  go_region_with (first
    | (go_at_call 25; refine (TO.out _).mono ?_; rintro e w2 ⟨K, rfl, hK, G2⟩; have HG2 : Hid (Gr W w2) := Gr.trans (by repeat (first | exact Gr.refl _ | refine Gr.drewN ?_ _ | refine Gr.drew ?_)) G2; have HK : Hid (w2.heap[K]? = some (.cells #[.int .u32 f, .int .u32 t] 30 (0, 0))) := hK; have x2 : w2.cell? ⟨o, 1, none⟩ = some (.slice (some ⟨g, 0, none⟩) n cp) := cell_of_row _ _ _ _ _ _ (up_h HG2.out HR.out); clear G2 hK)
    | (go_at_call 24; refine (DF.out _ _ _ g cp K xs (owns_gr HOX.out.1 HG2.out) (HOX.out.2.of HG2.out) HK.out).mono ?_; rintro e w3 ⟨m, ys, rfl, hm, O3, X3, Q3⟩; have H3 : Hid (((w3.heap[w.heap.size]? = some (.cells #[.int .i64 room, .slice ao n cap, .int .i64 pu, .int .i64 sl] 24 (0, 0)) ∧ w3.heap[w.heap.size + 1]? = some (.cells #[.int .u32 f, .int .u32 t] 30 (0, 0)) ∧ w3.heap[w.heap.size + 1 + 1]? = some (.cells #[.int .i64 0, .slice none 0 0, .int .i64 0, .int .i64 0] 24 (0, 0))) ∧ (w3.ownsRow (w.heap.size + 1 + 1 + 1) 28 2 (.slice (some ⟨g, 0, none⟩) m cp) m ys ∧ Bx w3 (w.heap.size + 1 + 1 + 1) (keepL f t bs) ys) ∧ w3.heap[o]? = some (.cells #[.int .i64 room, .slice (some ⟨g, 0, none⟩) n cp, .int .i64 pu, .int .i64 sl] 24 (0, 0))) ∧ Gr w w3 ∧ (keepL f t bs).length = m) := (⟨⟨⟨row_keep (owns_gr HOX.out.1 HG2.out) Q3 (up_h HG2.out HT.out.1) (by decide), row_keep (owns_gr HOX.out.1 HG2.out) Q3 (up_h HG2.out HT.out.2.1) (by decide), row_keep (owns_gr HOX.out.1 HG2.out) Q3 (up_h HG2.out HT.out.2.2) (by decide)⟩, ⟨O3, X3⟩, row_keep (owns_gr HOX.out.1 HG2.out) Q3 (up_h HG2.out HR.out) (by decide)⟩, ch_gr (HG.out.trans HG2.out) (by have := (HOX.out.1.lt g rfl).1; omega) Q3, hm⟩); have y1 : w3.cell? ⟨o, 1, none⟩ = some (.slice (some ⟨g, 0, none⟩) n cp) := cell_of_row _ _ _ _ _ _ H3.out.1.2.2; have yf : w3.frozen? ⟨o, 1, none⟩ = false := frozen_of_row _ _ _ _ _ H3.out.1.2.2; clear hm O3 X3 Q3))
  all_goals
    refine atWd (fun W => (W.heap[w.heap.size]? = some (.cells #[.int .i64 room, .slice ao n cap, .int .i64 pu, .int .i64 sl] 24 (0, 0)) ∧ W.heap[w.heap.size + 1]? = some (.cells #[.int .u32 f, .int .u32 t] 30 (0, 0)) ∧ W.heap[w.heap.size + 1 + 1]? = some (.cells #[.int .i64 0, .slice none 0 0, .int .i64 0, .int .i64 0] 24 (0, 0))) ∧ (W.ownsRow (w.heap.size + 1 + 1 + 1) 28 2 (.slice (some ⟨g, 0, none⟩) m cp) m ys ∧ Bx W (w.heap.size + 1 + 1 + 1) (keepL f t bs) ys) ∧ W.heap[o]? = some (.cells #[.int .i64 room, .slice (some ⟨g, 0, none⟩) m cp, .int .i64 pu, .int .i64 sl] 24 (0, 0)) ∧ Gr w W) ?_ ?_
    · obtain ⟨⟨⟨t0, t1, t2⟩, ⟨O3, X3⟩, R3⟩, G3, _⟩ := H3.out
      refine ⟨⟨?_, ?_, ?_⟩, ⟨?_, ?_⟩, ?_, ?_⟩
      · rw [heap_setCell_other _ _ _ _ (by show w.heap.size ≠ o; omega)]; exact t0
      · rw [heap_setCell_other _ _ _ _ (by show w.heap.size + 1 ≠ o; omega)]; exact t1
      · rw [heap_setCell_other _ _ _ _ (by show w.heap.size + 1 + 1 ≠ o; omega)]; exact t2
      · exact owns_to O3 fun q c r hq => heap_setCell_other _ _ _ _ (by exact ne_of_types hq R3 (by decide))
      · exact X3.to fun q c r hq => heap_setCell_other _ _ _ _ (by exact ne_of_types hq R3 (by decide))
      · rw [heap_setCell_same _ _ _ _ _ _ R3]; rfl
      · exact G3.setCell (by show w.heap.size ≤ o; omega) _
    have HM : Hid ((keepL f t bs).length = m) := H3.out.2.2
    clear y1 yf H3 HG2 HK HT HOX HR HG x2
    clear w3 w2 x1 q0 q1
    clear W
    rintro W ⟨T0, OX0, R0, G0⟩
    have HT : Hid (W.heap[w.heap.size]? = some (.cells #[.int .i64 room, .slice ao n cap, .int .i64 pu, .int .i64 sl] 24 (0, 0)) ∧ W.heap[w.heap.size + 1]? = some (.cells #[.int .u32 f, .int .u32 t] 30 (0, 0)) ∧ W.heap[w.heap.size + 1 + 1]? = some (.cells #[.int .i64 0, .slice none 0 0, .int .i64 0, .int .i64 0] 24 (0, 0))) := T0
    have HOX : Hid (W.ownsRow (w.heap.size + 1 + 1 + 1) 28 2 (.slice (some ⟨g, 0, none⟩) m cp) m ys ∧ Bx W (w.heap.size + 1 + 1 + 1) (keepL f t bs) ys) := OX0
    have HR : Hid (W.heap[o]? = some (.cells #[.int .i64 room, .slice (some ⟨g, 0, none⟩) m cp, .int .i64 pu, .int .i64 sl] 24 (0, 0))) := R0
    have HG : Hid (Gr w W) := G0
    have c1 : W.cell? ⟨w.heap.size, 1, none⟩ = some (.slice ao n cap) := cell_of_row _ _ _ _ _ _ T0.1
    have x0 : W.cell? ⟨o, 0, none⟩ = some (.int .i64 room) := cell_of_row _ _ _ _ _ _ R0
    have x1 : W.cell? ⟨o, 1, none⟩ = some (.slice (some ⟨g, 0, none⟩) m cp) := cell_of_row _ _ _ _ _ _ R0
    have x2 : W.cell? ⟨o, 2, none⟩ = some (.int .i64 pu) := cell_of_row _ _ _ _ _ _ R0
    have x3 : W.cell? ⟨o, 3, none⟩ = some (.int .i64 sl) := cell_of_row _ _ _ _ _ _ R0
    have xf : W.frozen? ⟨o, 3, none⟩ = false := frozen_of_row _ _ _ _ _ R0
    have z0 : W.cell? ⟨w.heap.size + 1 + 1, 0, none⟩ = some (.int .i64 0) := cell_of_row _ _ _ _ _ _ T0.2.2
    have z1 : W.cell? ⟨w.heap.size + 1 + 1, 1, none⟩ = some (.slice none 0 0) := cell_of_row _ _ _ _ _ _ T0.2.2
    have z2 : W.cell? ⟨w.heap.size + 1 + 1, 2, none⟩ = some (.int .i64 0) := cell_of_row _ _ _ _ _ _ T0.2.2
    have z3 : W.cell? ⟨w.heap.size + 1 + 1, 3, none⟩ = some (.int .i64 0) := cell_of_row _ _ _ _ _ _ T0.2.2
    have zf : ∀ j, W.frozen? ⟨w.heap.size + 1 + 1, j, none⟩ = false := fun j => frozen_of_row _ _ _ _ _ T0.2.2
    have hne : ¬ w.heap.size + 1 + 1 = o := by omega
    have hne2 : ¬ o = w.heap.size + 1 + 1 := by omega
    have hmn : m ≤ n := by have := HKl.out; rw [HM.out] at this; exact this
    clear T0 OX0 R0 G0 TO DF
    go_wp2_with fail
    generalize hS : wrap64 (sl + ((n : Int) - (m : Int))) = SV at *
    have HS : Hid (wrap64 (sl + ((n : Int) - (m : Int))) = SV) := hS
    clear hS
    have e1 : (W.setCell ⟨o, 3, none⟩ (.int .i64 SV)).heap[w.heap.size + 1 + 1]? = some (.cells #[.int .i64 0, .slice none 0 0, .int .i64 0, .int .i64 0] 24 (0, 0)) := (heap_setCell_other _ _ _ _ (by exact hne)).trans HT.out.2.2
    have hk : ∀ (k : Nat) (c : Array Value) (r : Nat) (z : Nat × Nat), W.heap[k]? = some (.cells c r z) → r ≠ 24 → (((((W.setCell ⟨o, 3, none⟩ (.int .i64 SV)).setCell ⟨w.heap.size + 1 + 1, 0, none⟩ (.int .i64 room)).setCell ⟨w.heap.size + 1 + 1, 1, none⟩ (.slice (some ⟨g, 0, none⟩) m cp)).setCell ⟨w.heap.size + 1 + 1, 2, none⟩ (.int .i64 pu)).setCell ⟨w.heap.size + 1 + 1, 3, none⟩ (.int .i64 SV)).heap[k]? = W.heap[k]? := fun k c r z hq hr => by
      rw [four_h _ _ _ _ _ _ (ne_of_types hq HT.out.2.2 hr), heap_setCell_other _ _ _ _ (by exact ne_of_types hq HR.out hr)]
    refine bodyPost_ret (v := .agg #[.int .i64 room, .slice (some ⟨g, 0, none⟩) m cp, .int .i64 pu, .int .i64 SV]) (results_cell_row Try.results11 _ _ _ _ _ (0, 0) _ rfl (four_set e1 _ _ _ _) Try.underlying24 rfl iCa) rfl ⟨some ⟨g, 0, none⟩, m, cp, by rw [HC.out, HM.out, HS.out], ?_, ?_⟩
    · exact own_bs (owns_to HOX.out.1 fun q c r hq => hk q c _ r hq (by decide)) (HOX.out.2.to fun q c r hq => hk q c _ r hq (by decide)) (keep_ok HOk.out) HM.out
    · have q1 : w.heap.size ≤ w.heap.size + 1 + 1 := by omega
      exact ((((HG.out.setCell (by show w.heap.size ≤ o; omega) _).setCell (by exact q1) _).setCell (by exact q1) _).setCell (by exact q1) _).setCell (by exact q1) _
theorem StaleP_any {w : World} {ao : Option Addr} {n : Nat} (cap : Nat) {bs : List Bv} (B : Bs w ao n bs) (hn : n * 32 ≤ 140737488351232) (room pu sl : Int) (hs : -9223372036854775808 ≤ sl ∧ sl ≤ 9223372036854775807) {f t : Int} (hf : 0 ≤ f ∧ f < 4294967296) (ht : 0 ≤ t ∧ t < 4294967296) :
    Calls Try.prog 11 #[.agg #[.int .i64 room, .slice ao n cap, .int .i64 pu, .int .i64 sl], .agg #[.int .u32 f, .int .u32 t]] w fun e w' => ∃ a m c, e = .returned (.agg #[.int .i64 room, .slice a m c, .int .i64 pu, .int .i64 (cntS f t sl bs)]) ∧ (Bs w' a m (keepL f t bs) ∧ m ≤ c) ∧ Gr w w' := by
  rw [cnt_len f t bs sl hs, B.len]
  exact StaleW_any cap B hn room pu sl hf ht
end Go.Proofs.Yteipplmmchaboab.Kc
