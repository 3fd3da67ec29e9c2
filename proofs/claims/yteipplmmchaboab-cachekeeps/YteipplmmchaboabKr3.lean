/-
  What the document's Stale answers: the cache without the blocks that have a byte of some.
-/
import Derived.Test.YteipplmmchaboabKr2
import Derived.Test.YteipplmmchaboabHm2
namespace Go.Proofs.Yteipplmmchaboab.Kc
open Go.ChangeShapes Go.WideShapes Go.ChangeAt Go.RowKit Mm Ts Hc
set_option linter.unusedVariables false
set_option linter.unusedSimpArgs false

/-- Cells that read as blocks. -/
structure Bw (w : World) (bs : List Bv) (xs : List Value) : Prop where
  len : xs.length = bs.length * 2
  at_ : ∀ (j : Nat) (b : Bv), bs[j]? = some b → ∃ u v, xs[j * 2]? = some u ∧ xs[j * 2 + 1]? = some v ∧ Bc w b u v
theorem Bw.of {w w' : World} {bs : List Bv} {xs : List Value} (h : Bw w bs xs) (G : Gr w w') : Bw w' bs xs :=
  ⟨h.len, fun j b hb => by
    obtain ⟨u, v, h1, h2, h3⟩ := h.at_ j b hb
    exact ⟨u, v, h1, h2, h3.of G⟩⟩
theorem Bw.nil (w : World) : Bw w [] [] := ⟨rfl, fun j b h => by simp at h⟩
theorem Bw.snoc {w : World} {bs : List Bv} {xs : List Value} (h : Bw w bs xs) {b : Bv} {u v : Value} (hb : Bc w b u v) : Bw w (bs ++ [b]) (xs ++ [u, v]) := by
  have hl := h.len
  refine ⟨by simp [hl]; omega, fun j c hc => ?_⟩
  by_cases hj : j < bs.length
  · rw [List.getElem?_append_left hj] at hc
    obtain ⟨x, y, h1, h2, h3⟩ := h.at_ j c hc
    exact ⟨x, y, by rw [List.getElem?_append_left (by omega)]; exact h1, by rw [List.getElem?_append_left (by omega)]; exact h2, h3⟩
  · rw [List.getElem?_append_right (by omega)] at hc
    have hj2 : j = bs.length := by
      have := (List.getElem?_eq_some_iff.1 hc).1
      simp at this
      omega
    subst hj2
    simp at hc
    subst hc
    refine ⟨u, v, ?_, ?_, hb⟩
    · rw [List.getElem?_append_right (by omega), hl, Nat.sub_self]; rfl
    · rw [List.getElem?_append_right (by omega), hl, show bs.length * 2 + 1 - bs.length * 2 = 1 by omega]; rfl
theorem Bc.ones {w : World} {b : Bv} {u v : Value} (h : Bc w b u v) : u.oneCell' = true ∧ v.oneCell' = true ∧ ∃ sa sn sc, v = .slice sa sn sc := by
  obtain ⟨rfl, _, sa, sn, sc, rfl, _⟩ := h
  exact ⟨rfl, rfl, sa, sn, sc, rfl⟩
/-- A row of the program's own that reads as blocks. -/
def Bo (w : World) (base : Nat) (V : Value) (bs : List Bv) : Prop := ∃ xs, w.ownsRow base 28 2 V bs.length xs ∧ Bw w bs xs
def keepL (f t : Int) (bs : List Bv) : List Bv := bs.filter fun b => !hasB b f t
def cntS (f t s : Int) (bs : List Bv) : Int := bs.foldl (fun s b => if hasB b f t = true then wrap64 (s + 1) else s) s
theorem keep_take {f t : Int} {bs : List Bv} {j : Nat} {b : Bv} (h : bs[j]? = some b) : keepL f t (bs.take (j + 1)) = if hasB b f t = true then keepL f t (bs.take j) else keepL f t (bs.take j) ++ [b] := by
  unfold keepL
  rw [List.take_add_one, h, List.filter_append]
  split
  · rename_i q; simp [q]
  · rename_i q; simp [q]
theorem cnt_take {f t s : Int} {bs : List Bv} {j : Nat} {b : Bv} (h : bs[j]? = some b) : cntS f t s (bs.take (j + 1)) = if hasB b f t = true then wrap64 (cntS f t s (bs.take j) + 1) else cntS f t s (bs.take j) := by
  unfold cntS
  rw [List.take_add_one, h, List.foldl_append]
  rfl
theorem keep_len (f t : Int) (bs : List Bv) (j : Nat) : (keepL f t (bs.take j)).length ≤ j := by
  unfold keepL
  refine Nat.le_trans (List.length_filter_le _ _) ?_
  simp
  omega
theorem infoB : (Try.prog.info? 28).map (fun i => (i.zero, i.size, i.bytes)) = some (some (.agg #[.int .u32 0, .slice none 0 0]), 2, 32) := by kernel_rfl
theorem four_of {w w' : World} {A B Z O : Array Value} {t u s r : Nat} (g : Gr ((((w.alloc (.cells A t)).alloc (.cells B u)).alloc (.cells Z s)).alloc (.cells O r)) w') : w'.heap[w.heap.size]? = some (.cells A t (0, 0)) ∧ w'.heap[w.heap.size + 1]? = some (.cells B u (0, 0)) ∧ w'.heap[w.heap.size + 1 + 1]? = some (.cells Z s (0, 0)) ∧ w'.heap[w.heap.size + 1 + 1 + 1]? = some (.cells O r (0, 0)) := by
  have up : ∀ {a b : World} (q : Gr a b) {k : Nat} {x : Obj}, a.heap[k]? = some x → b.heap[k]? = some x := fun q _ _ h => by rw [q.block _ (Array.getElem?_eq_some_iff.1 h).1]; exact h
  refine ⟨up g (up ((((Gr.refl _).alloc _).alloc _).alloc _) (heap_alloc_new w _)), up g (up (((Gr.refl _).alloc _).alloc _) ?_), up g (up ((Gr.refl _).alloc _) ?_), up g ?_⟩
  · have := heap_alloc_new (w.alloc (.cells A t)) (.cells B u)
    simpa using this
  · have := heap_alloc_new ((w.alloc (.cells A t)).alloc (.cells B u)) (.cells Z s)
    simpa using this
  · have := heap_alloc_new (((w.alloc (.cells A t)).alloc (.cells B u)).alloc (.cells Z s)) (.cells O r)
    simpa using this
theorem iCa : (Try.prog.info? 24).map (·.size) = some 4 := by kernel_rfl
theorem one_ca (a b c : Int) (sa : Option Addr) (m sc : Nat) : (#[.int .i64 a, .slice sa m sc, .int .i64 b, .int .i64 c] : Array Value).all (·.oneCell') = true := by
  refine all_oneCell_toArray (cs := [.int .i64 a, .slice sa m sc, .int .i64 b, .int .i64 c]) ?_
  intro v hv
  simp only [List.mem_cons, List.not_mem_nil, or_false] at hv
  rcases hv with rfl | rfl | rfl | rfl <;> rfl
theorem gr_sr {a w : World} (h : Gr a w) {g : Nat} (hg : a.heap.size ≤ g) (cs : Array Value) : Gr a (w.setRow g cs) := below_setRow h hg cs
theorem up_h {w w' : World} (g : Gr w w') {k : Nat} {x : Obj} (h : w.heap[k]? = some x) : w'.heap[k]? = some x := by
  rw [g.block k (Array.getElem?_eq_some_iff.1 h).1]; exact h
theorem row_keep {W w' : World} {base n : Nat} {V : Value} {xs : List Value} (O : W.ownsRow base 28 2 V n xs) (q : W.grownBy w' V.ownBlock) {k : Nat} {c : Array Value} {t : Nat} {f : Nat × Nat} (h : W.heap[k]? = some (.cells c t f)) (ht : t ≠ 28) : w'.heap[k]? = some (.cells c t f) := by
  rw [q.block k (Array.getElem?_eq_some_iff.1 h).1 (fun e => by
    rcases O.2 with ⟨h0, _⟩ | ⟨g', cp, cur, hv, _, hg, _⟩
    · rw [h0] at e; cases e
    · rw [hv] at e
      injection e with e
      exact ne_of_types h hg ht e)]
  exact h
theorem two_ones {u v : Value} (h1 : u.oneCell' = true) (h2 : v.oneCell' = true) : ∀ x ∈ [u, v], x.oneCell' = true := by
  intro x hx
  simp only [List.mem_cons, List.not_mem_nil, or_false] at hx
  rcases hx with rfl | rfl <;> assumption
set_option maxHeartbeats 4000000 in
set_option maxRecDepth 100000 in
theorem Stale_any {w : World} {ao : Option Addr} {n : Nat} (cap : Nat) {bs : List Bv} (B : Bs w ao n bs) (hn : n * 32 ≤ 140737488351232) (room pu sl : Int) (hs : -9223372036854775808 ≤ sl ∧ sl ≤ 9223372036854775807) {f t : Int} (hf : 0 ≤ f ∧ f < 4294967296) (ht : 0 ≤ t ∧ t < 4294967296) :
    Calls Try.prog 12 #[.agg #[.int .i64 room, .slice ao n cap, .int .i64 pu, .int .i64 sl], .agg #[.int .u32 f, .int .u32 t]] w fun e w' => ∃ V, e = .returned (.agg #[.int .i64 room, V, .int .i64 pu, .int .i64 (cntS f t sl bs)]) ∧ Bo w' w.heap.size V (keepL f t bs) ∧ Gr w w' := by
  have HL : Hid (bs.length = n) := B.len
  have HB : Hid (Bs w ao n bs) := B
  have Ha : Hid (∀ (W : World) (b : Bv) (u v : Value), Gr w W → Bc w b u v → Calls Try.prog 15 #[.agg #[u, v], .agg #[.int .u32 f, .int .u32 t]] W fun e w' => e = .returned (.bool (hasB b f t)) ∧ Gr W w') := fun W b u v G h => Has_any (h.of G) hf ht
  obtain ⟨i0, hi, hz0, hz1, hz2⟩ := info_parts infoB
  clear B
  go_enter Try.func12, Try.ntmps12
  go_wp2_with fail
  go_loopw [6] (fun i wr => ∃ j : Nat, j ≤ n ∧ i = .int .i64 j ∧ ∃ sa m sc xs, wr.heap[w.heap.size + 1 + 1 + 1]? = some (.cells #[.int .i64 room, .slice sa m sc, .int .i64 pu, .int .i64 (cntS f t sl (bs.take j))] 24 (0, 0)) ∧ wr.heap[w.heap.size]? = some (.cells #[.int .i64 room, .slice ao n cap, .int .i64 pu, .int .i64 sl] 24 (0, 0)) ∧ wr.heap[w.heap.size + 1]? = some (.cells #[.int .u32 f, .int .u32 t] 30 (0, 0)) ∧ (∃ Z : Array Value, Z.size = 4 ∧ wr.heap[w.heap.size + 1 + 1]? = some (.cells Z 24 (0, 0))) ∧ (keepL f t (bs.take j)).length = m ∧ wr.ownsRow (w.heap.size + 1 + 1 + 1 + 1) 28 2 (.slice sa m sc) m xs ∧ Bw w (keepL f t (bs.take j)) xs ∧ Gr w wr) (fun i _ => n - (intOf i).toNat)
  case atStart =>
    refine ⟨0, Nat.zero_le _, rfl, none, 0, 0, [], ?_⟩
    have q := four_of (Gr.refl ((((w.alloc (.cells #[.int .i64 room, .slice ao n cap, .int .i64 pu, .int .i64 sl] 24)).alloc (.cells #[.int .u32 f, .int .u32 t] 30)).alloc (.cells #[.int .i64 0, .slice none 0 0, .int .i64 0, .int .i64 0] 24)).alloc (.cells #[.int .i64 room, .slice none 0 0, .int .i64 pu, .int .i64 sl] 24)))
    exact ⟨q.2.2.2, q.1, q.2.1, ⟨_, rfl, q.2.2.1⟩, rfl, World.ownsRow_nil _ _ _ _, Bw.nil w, ((((Gr.refl _).alloc _).alloc _).alloc _).alloc _⟩
  case round =>
    obtain ⟨j, hj, rfl, sa, m, sc, xs, g3, g0, g1, g2, hm, hO, hW, G⟩ := hrel
    have HW : Hid (Bw w (keepL f t (bs.take j)) xs) := hW
    have HG : Hid (Gr w wr) := G
    have HO : Hid (wr.ownsRow (w.heap.size + 1 + 1 + 1 + 1) 28 2 (.slice sa m sc) m xs) := hO
    have HZ : Hid (∃ Z : Array Value, Z.size = 4 ∧ wr.heap[w.heap.size + 1 + 1]? = some (.cells Z 24 (0, 0))) := g2
    have HM : Hid ((keepL f t (bs.take j)).length = m) := hm
    have H0 : Hid (wr.heap[w.heap.size]? = some (.cells #[.int .i64 room, .slice ao n cap, .int .i64 pu, .int .i64 sl] 24 (0, 0))) := g0
    have H1 : Hid (wr.heap[w.heap.size + 1]? = some (.cells #[.int .u32 f, .int .u32 t] 30 (0, 0))) := g1
    have H3 : Hid (wr.heap[w.heap.size + 1 + 1 + 1]? = some (.cells #[.int .i64 room, .slice sa m sc, .int .i64 pu, .int .i64 (cntS f t sl (bs.take j))] 24 (0, 0))) := g3
    have c1 : wr.cell? ⟨w.heap.size, 1, none⟩ = some (.slice ao n cap) := cell_of_row _ _ _ _ _ _ g0
    have c2 : wr.cell? ⟨w.heap.size + 1, 0, none⟩ = some (.int .u32 f) := cell_of_row _ _ _ _ _ _ g1
    have c3 : wr.cell? ⟨w.heap.size + 1, 1, none⟩ = some (.int .u32 t) := cell_of_row _ _ _ _ _ _ g1
    have hmj : m ≤ j := by rw [← hm]; exact keep_len f t bs j
    clear hW G hO g0 g1 g2 g3 hm
    by_cases hlt : j < n
    · obtain ⟨b, hb⟩ : ∃ b, bs[j]? = some b := ⟨_, List.getElem?_eq_getElem (by rw [HL.out]; exact hlt)⟩
      obtain ⟨k, o, rfl, hk, hcell⟩ := HB.out.spot (by omega)
      obtain ⟨u, v, p0, p1, hbc⟩ := hcell j b hb
      obtain ⟨o1, o2, va, vn, vc, rfl⟩ := hbc.ones
      have d0 : wr.cell? ⟨k, o + j * 2, none⟩ = some u := (HG.out.cell _ (by exact hk)).trans p0
      have d1 : wr.cell? ⟨k, o + j * 2 + 1, none⟩ = some (.slice va vn vc) := (HG.out.cell _ (by exact hk)).trans p1
      have hu : u = .int .u32 b.pc := hbc.1
      subst hu
      have Ha2 : Hid (∀ W : World, Gr w W → Calls Try.prog 15 #[.agg #[.int .u32 b.pc, .slice va vn vc], .agg #[.int .u32 f, .int .u32 t]] W fun e w' => e = .returned (.bool (hasB b f t)) ∧ Gr W w') := fun W G => Ha.out W b _ _ G hbc
      have HBc : Hid (Bc w b (.int .u32 b.pc) (.slice va vn vc)) := hbc
      have HK := keep_take (f := f) (t := t) hb
      have HCt := cnt_take (f := f) (t := t) (s := sl) hb
      clear hcell p0 p1 hbc Ha
      cases hh : hasB b f t with
      | true =>
        rw [hh] at Ha2
        rw [if_pos hh] at HK HCt
        have HK2 : Hid (keepL f t (bs.take (j + 1)) = keepL f t (bs.take j)) := HK
        have HC2 : Hid (cntS f t sl (bs.take (j + 1)) = wrap64 (cntS f t sl (bs.take j) + 1)) := HCt
        clear HK HCt hh
        generalize b.pc = bp at *
        generalize cntS f t sl (bs.take j) = sv at *
        go_wp2_with fail
        go_region_with ((go_at_call 15; refine (Ha2.out _ (by repeat (first | exact HG.out | refine Gr.drewN ?_ _ | refine Gr.drew ?_ | refine Gr.alloc ?_ _))).mono ?_; rintro e w2 ⟨rfl, G2⟩; have HG2 : Hid (Gr wr w2) := Gr.trans (by repeat (first | exact Gr.refl wr | refine Gr.drewN ?_ _ | refine Gr.drew ?_ | refine Gr.alloc ?_ _)) G2; clear G2))
        all_goals
          have K3 : w2.heap[w.heap.size + 1 + 1 + 1]? = some (.cells #[.int .i64 room, .slice sa m sc, .int .i64 pu, .int .i64 sv] 24 (0, 0)) := up_h HG2.out H3.out
          have HK3 : Hid (w2.heap[w.heap.size + 1 + 1 + 1]? = some (.cells #[.int .i64 room, .slice sa m sc, .int .i64 pu, .int .i64 sv] 24 (0, 0))) := K3
          have k3 : w2.cell? ⟨w.heap.size + 1 + 1 + 1, 3, none⟩ = some (.int .i64 sv) := cell_of_row _ _ _ _ _ _ K3
          have fz : w2.frozen? ⟨w.heap.size + 1 + 1 + 1, 3, none⟩ = false := frozen_of_row _ _ _ _ _ K3
          clear K3
          go_wp2_with fail
          go_roundw
          case rel =>
            refine ⟨j + 1, by omega, by go_num, sa, m, sc, xs, ?_, ?_, ?_, ?_, by rw [HK2.out]; exact HM.out, ?_, by rw [HK2.out]; exact HW.out, ?_⟩
            · rw [heap_setCell_same _ _ _ _ _ _ HK3.out, HC2.out]
              rfl
            · rw [heap_setCell_other _ _ _ _ (by show w.heap.size ≠ w.heap.size + 1 + 1 + 1; omega)]
              exact up_h HG2.out H0.out
            · rw [heap_setCell_other _ _ _ _ (by show w.heap.size + 1 ≠ w.heap.size + 1 + 1 + 1; omega)]
              exact up_h HG2.out H1.out
            · obtain ⟨Z, hz, hZ⟩ := HZ.out
              refine ⟨Z, hz, ?_⟩
              rw [heap_setCell_other _ _ _ _ (by show w.heap.size + 1 + 1 ≠ w.heap.size + 1 + 1 + 1; omega)]
              exact up_h HG2.out hZ
            · exact owns_to (owns_gr HO.out HG2.out) fun q c r hq => heap_setCell_other _ _ _ _ (by exact ne_of_types hq HK3.out (by decide))
            · exact (HG.out.trans HG2.out).setCell (by show w.heap.size ≤ w.heap.size + 1 + 1 + 1; omega) _
          case measure => simp [intOf]; omega
      | false =>
        rw [hh] at Ha2
        rw [if_neg (by simp [hh])] at HK HCt
        have HK2 : Hid (keepL f t (bs.take (j + 1)) = keepL f t (bs.take j) ++ [b]) := HK
        have HC2 : Hid (cntS f t sl (bs.take (j + 1)) = cntS f t sl (bs.take j)) := HCt
        have HWn : Hid (Bw w (keepL f t (bs.take j) ++ [b]) (xs ++ [.int .u32 b.pc, .slice va vn vc])) := HW.out.snoc HBc.out
        clear HK HCt hh
        generalize b.pc = bp at *
        generalize cntS f t sl (bs.take j) = sv at *
        go_wp2_with fail
        go_region_with ((go_at_call 15; refine (Ha2.out _ (by repeat (first | exact HG.out | refine Gr.drewN ?_ _ | refine Gr.drew ?_ | refine Gr.alloc ?_ _))).mono ?_; rintro e w2 ⟨rfl, G2⟩; have HG2 : Hid (Gr wr w2) := Gr.trans (by repeat (first | exact Gr.refl wr | refine Gr.drewN ?_ _ | refine Gr.drew ?_ | refine Gr.alloc ?_ _)) G2; clear G2))
        all_goals
          have K3 : w2.heap[w.heap.size + 1 + 1 + 1]? = some (.cells #[.int .i64 room, .slice sa m sc, .int .i64 pu, .int .i64 sv] 24 (0, 0)) := up_h HG2.out H3.out
          have HK3 : Hid (w2.heap[w.heap.size + 1 + 1 + 1]? = some (.cells #[.int .i64 room, .slice sa m sc, .int .i64 pu, .int .i64 sv] 24 (0, 0))) := K3
          have k1 : w2.cell? ⟨w.heap.size + 1 + 1 + 1, 1, none⟩ = some (.slice sa m sc) := cell_of_row _ _ _ _ _ _ K3
          have k2 : w2.cell? ⟨w.heap.size, 1, none⟩ = some (.slice (some ⟨k, o, none⟩) n cap) := cell_of_row _ _ _ _ _ _ (up_h HG2.out H0.out)
          have e0 : w2.cell? ⟨k, o + j * 2, none⟩ = some (.int .u32 bp) := (HG2.out.cell _ (by exact Nat.lt_of_lt_of_le hk HG.out.size)).trans d0
          have e1 : w2.cell? ⟨k, o + j * 2 + 1, none⟩ = some (.slice va vn vc) := (HG2.out.cell _ (by exact Nat.lt_of_lt_of_le hk HG.out.size)).trans d1
          have hsz : w.heap.size + 1 + 1 + 1 < w2.heap.size := (Array.getElem?_eq_some_iff.1 K3).1
          have HO2 : Hid (w2.ownsRow (w.heap.size + 1 + 1 + 1 + 1) 28 2 (.slice sa m sc) m xs) := owns_gr HO.out HG2.out
          clear K3
          go_wp2_with fail
          go_region_law (refine step_append_own rfl (.tmp 33) (.tmp 39) 22 rfl (w.heap.size + 1 + 1 + 1 + 1) 28 i0 _ 2 32 Try.underlying22 hi hz0 hz1 hz2 rfl (by decide) (.slice sa m sc) m xs (by simp [Act.eval, Act.put]) (owns_gr HO2.out (by repeat (first | exact Gr.refl w2 | refine Gr.drewN ?_ _ | refine Gr.drew ?_ | refine Gr.alloc ?_ _))) ⟨w2.heap.size, 0, none⟩ 1 1 [.int .u32 bp, .slice va vn vc] (by simp [Act.eval, Act.put]) rfl (two_cells (by simp) (by simp)) (two_ones rfl rfl) (by unfold maxLen; omega) (by omega) (by simp; omega) ?_; intro v' w' hown hgrow; obtain ⟨g', cp, rfl⟩ := own_form hown (by omega); have HOn : Hid (w'.ownsRow (w.heap.size + 1 + 1 + 1 + 1) 28 2 (.slice (some ⟨g', 0, none⟩) (m + 1) cp) (m + 1) (xs ++ [.int .u32 bp, .slice va vn vc])) := hown; have HKp : Hid (∀ (q : Nat) (c : Array Value) (r : Nat) (z : Nat × Nat), w2.heap[q]? = some (.cells c r z) → r ≠ 28 → w'.heap[q]? = some (.cells c r z)) := fun q c r z hq hr => row_keep (owns_gr HO2.out (by repeat (first | exact Gr.refl w2 | refine Gr.drewN ?_ _ | refine Gr.drew ?_ | refine Gr.alloc ?_ _))) hgrow (up_h (by repeat (first | exact Gr.refl w2 | refine Gr.drewN ?_ _ | refine Gr.drew ?_ | refine Gr.alloc ?_ _)) hq) hr; have HGn : Hid (Gr w w') := Gr.grown (Gr.trans (HG.out.trans HG2.out) (by repeat (first | exact Gr.refl w2 | refine Gr.drewN ?_ _ | refine Gr.drew ?_ | refine Gr.alloc ?_ _))) hgrow (fun q e => by have := (HO2.out.lt q e).1; omega); have y1 : w'.cell? ⟨w.heap.size + 1 + 1 + 1, 1, none⟩ = some (.slice sa m sc) := cell_of_row _ _ _ _ _ _ (HKp.out _ _ _ _ HK3.out (by decide)); have yf : w'.frozen? ⟨w.heap.size + 1 + 1 + 1, 1, none⟩ = false := frozen_of_row _ _ _ _ _ (HKp.out _ _ _ _ HK3.out (by decide)); clear hown hgrow)
          all_goals
            go_wp2_with fail
            go_roundw
            case rel =>
              have HK4 := HKp.out _ _ _ _ HK3.out (by decide)
              refine ⟨j + 1, by omega, by go_num, some ⟨g', 0, none⟩, m + 1, cp, xs ++ [.int .u32 bp, .slice va vn vc], ?_, ?_, ?_, ?_, ?_, ?_, ?_, ?_⟩
              · rw [heap_setCell_same _ _ _ _ _ _ HK4, HC2.out]
                rfl
              · rw [heap_setCell_other _ _ _ _ (by show w.heap.size ≠ w.heap.size + 1 + 1 + 1; omega)]
                exact HKp.out _ _ _ _ (up_h HG2.out H0.out) (by decide)
              · rw [heap_setCell_other _ _ _ _ (by show w.heap.size + 1 ≠ w.heap.size + 1 + 1 + 1; omega)]
                exact HKp.out _ _ _ _ (up_h HG2.out H1.out) (by decide)
              · obtain ⟨Z, hz, hZ⟩ := HZ.out
                refine ⟨Z, hz, ?_⟩
                rw [heap_setCell_other _ _ _ _ (by show w.heap.size + 1 + 1 ≠ w.heap.size + 1 + 1 + 1; omega)]
                exact HKp.out _ _ _ _ (up_h HG2.out hZ) (by decide)
              · rw [HK2.out, List.length_append, HM.out]
                rfl
              · exact owns_to HOn.out fun q c r hq => heap_setCell_other _ _ _ _ (by exact ne_of_types hq HK4 (by decide))
              · rw [HK2.out]
                exact HWn.out
              · exact HGn.out.setCell (by show w.heap.size ≤ w.heap.size + 1 + 1 + 1; omega) _
            case measure => simp [intOf]; omega
    · have ej : j = n := by omega
      have HE : Hid (bs.take j = bs) := by unfold Hid; rw [ej, ← HL.out, List.take_length]
      obtain ⟨Z, hz, hZ⟩ := HZ.out
      have z3 := H3.out
      rw [HE.out] at z3
      have HWe : Hid (Bw w (keepL f t bs) xs) := by have := HW.out; rwa [HE.out] at this
      have HMe : Hid ((keepL f t bs).length = m) := by have := HM.out; rwa [HE.out] at this
      have y0 : wr.cell? ⟨w.heap.size + 1 + 1 + 1, 0, none⟩ = some (.int .i64 room) := cell_of_row _ _ _ _ _ _ z3
      have y1 : wr.cell? ⟨w.heap.size + 1 + 1 + 1, 1, none⟩ = some (.slice sa m sc) := cell_of_row _ _ _ _ _ _ z3
      have y2 : wr.cell? ⟨w.heap.size + 1 + 1 + 1, 2, none⟩ = some (.int .i64 pu) := cell_of_row _ _ _ _ _ _ z3
      have y3 : wr.cell? ⟨w.heap.size + 1 + 1 + 1, 3, none⟩ = some (.int .i64 (cntS f t sl bs)) := cell_of_row _ _ _ _ _ _ z3
      have HZ2 : Hid (wr.heap[w.heap.size + 1 + 1]? = some (.cells Z 24 (0, 0))) := hZ
      have HZs : Hid (Z.size = 4) := hz
      clear HB HW HM HE ej z3 hz hZ HZ H0 H1 H3 c2 c3
      generalize hsv : cntS f t sl bs = sv at *
      have HSv : Hid (cntS f t sl bs = sv) := hsv
      clear hsv
      go_wp2_with (refine wpList_store_row rfl 24 _ _ rfl (w.heap.size + 1 + 1) #[.int .i64 room, .slice sa m sc, .int .i64 pu, .int .i64 sv] rfl rfl 24 Z ?sr1 iCa (by rw [HZs.out]; rfl) (one_ca _ _ _ _ _ _) ?_; (case sr1 => exact HZ2.out))
      refine bodyPost_ret (v := .agg #[.int .i64 room, .slice sa m sc, .int .i64 pu, .int .i64 sv]) (results_cell_row Try.results12 _ _ _ _ _ (0, 0) _ rfl (setRow_heap _ _ _ _ _ (0, 0) HZ2.out) Try.underlying24 rfl iCa) rfl ⟨.slice sa m sc, by rw [HSv.out], ⟨xs, ?_, ?_⟩, ?_⟩
      · rw [HMe.out]
        have h1 : wr.ownsRow w.heap.size 28 2 (.slice sa m sc) m xs := by
          obtain ⟨a1, a2⟩ := HO.out
          refine ⟨a1, ?_⟩
          rcases a2 with a2 | ⟨q, cp, cur, e1, e2, e3⟩
          · exact .inl a2
          · exact .inr ⟨q, cp, cur, e1, by omega, e3⟩
        exact owns_to h1 fun q c r hq => setRow_other _ _ _ _ (ne_of_types hq HZ2.out (by decide))
      · exact HWe.out.of (gr_sr HG.out (by omega) _)
      · exact gr_sr HG.out (by omega) _
end Go.Proofs.Yteipplmmchaboab.Kc
