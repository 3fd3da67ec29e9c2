/-
  What the document's Put answers: the cache with a block behind the others.
-/
import Derived.Test.YteipplmmchaboabKr1
import Derived.Test.YteipplmmchaboabKr3
namespace Go.Proofs.Yteipplmmchaboab.Kc
open Go.ChangeShapes Go.WideShapes Go.ChangeAt Go.RowKit Mm Ts Hc
set_option linter.unusedVariables false
set_option linter.unusedSimpArgs false

/-- Blocks without the k-th one. -/
def rmK (k : Int) : List Bv → Nat → List Bv
  | [], _ => []
  | b :: r, i => if (i : Int) = k then rmK k r (i + 1) else b :: rmK k r (i + 1)
theorem rm_snoc (k : Int) (b : Bv) : ∀ (l : List Bv) (i : Nat), rmK k (l ++ [b]) i = rmK k l i ++ (if ((i + l.length : Nat) : Int) = k then [] else [b])
  | [], i => by
    show rmK k [b] i = _
    unfold rmK rmK
    simp only [List.nil_append, List.length_nil, Nat.add_zero]
  | c :: r, i => by
    show rmK k (c :: (r ++ [b])) i = _
    rw [rmK, rm_snoc k b r (i + 1), rmK, show i + (c :: r).length = i + 1 + r.length by simp; omega]
    split
    · rfl
    · rfl
theorem rm_take (k : Int) {bs : List Bv} {j : Nat} {b : Bv} (h : bs[j]? = some b) : rmK k (bs.take (j + 1)) 0 = if (j : Int) = k then rmK k (bs.take j) 0 else rmK k (bs.take j) 0 ++ [b] := by
  have hj : j < bs.length := (List.getElem?_eq_some_iff.1 h).1
  rw [List.take_add_one, h]
  show rmK k (bs.take j ++ [b]) 0 = _
  rw [rm_snoc, Nat.zero_add, List.length_take, Nat.min_eq_left (by omega)]
  split
  · simp
  · rfl
theorem rm_len (k : Int) : ∀ (l : List Bv) (i : Nat), (rmK k l i).length ≤ l.length
  | [], i => Nat.le_refl _
  | b :: r, i => by
    have := rm_len k r (i + 1)
    unfold rmK
    split
    · simp; omega
    · simp; omega
theorem cell_set_other (w : World) (p a : Addr) (v : Value) (h : a.block ≠ p.block) : (w.setCell p v).cell? a = w.cell? a := by
  unfold World.cell?
  rw [heap_setCell_other _ _ _ _ h]
theorem cells_own {w : World} {base n g cp : Nat} {xs : List Value} (O : w.ownsRow base 28 2 (.slice (some ⟨g, 0, none⟩) n cp) n xs) : g < w.heap.size ∧ n ≤ cp ∧ ∀ j u, xs[j]? = some u → w.cell? ⟨g, j, none⟩ = some u := by
  refine ⟨(O.lt g rfl).2, ?_, fun j u hu => ?_⟩
  · rcases O.2 with ⟨h, _⟩ | ⟨g', cap, cur, e, _, _, h, _⟩
    · cases h
    · injection e with _ _ e3
      omega
  · have := O.cells (g := g) rfl j u hu
    rwa [add_at, Nat.zero_add] at this
/-- A row of the program's own reads as blocks, from its k-th one on. -/
theorem bs_own {w : World} {base n g cp : Nat} {xs : List Value} {bs : List Bv} (O : w.ownsRow base 28 2 (.slice (some ⟨g, 0, none⟩) n cp) n xs) (W : Bw w bs xs) (k m : Nat) (hm : bs.length = k + m) : Bs w (some ⟨g, k * 2, none⟩) m (bs.drop k) := by
  obtain ⟨hg, _, hc⟩ := cells_own O
  refine ⟨by simp; omega, fun _ => ⟨g, k * 2, rfl, hg, fun j x hx => ?_⟩⟩
  rw [List.getElem?_drop] at hx
  obtain ⟨u, v, h1, h2, h3⟩ := W.at_ (k + j) x hx
  refine ⟨u, v, ?_, ?_, h3⟩
  · rw [show k * 2 + j * 2 = (k + j) * 2 by omega]
    exact hc _ _ h1
  · rw [show k * 2 + j * 2 + 1 = (k + j) * 2 + 1 by omega]
    exact hc _ _ h2
theorem bs_nil (w : World) (a : Option Addr) : Bs w a 0 [] := ⟨rfl, fun h => absurd h (by omega)⟩
theorem sets_keep {w' : World} {g z : Nat} {C Z : Array Value} (h3 : w'.heap[g]? = some (.cells C 24 (0, 0))) (hz : w'.heap[z]? = some (.cells Z 24 (0, 0))) (ws : List (Nat × Value)) (cs : Array Value) {q : Nat} {c : Array Value} {f : Nat × Nat} (hq : w'.heap[q]? = some (.cells c 28 f)) : ((ws.foldl (fun w x => w.setCell ⟨g, x.1, none⟩ x.2) w').setRow z cs).heap[q]? = w'.heap[q]? := by
  rw [setRow_other _ _ _ _ (ne_of_types hq hz (by decide))]
  have ng : q ≠ g := ne_of_types hq h3 (by decide)
  clear hq hz h3
  induction ws generalizing w' with
  | nil => rfl
  | cons x r ih =>
    show ((r.foldl (fun w x => w.setCell ⟨g, x.1, none⟩ x.2) (w'.setCell ⟨g, x.1, none⟩ x.2))).heap[q]? = _
    rw [ih]
    exact heap_setCell_other _ _ _ _ ng
theorem sets_gr {w w' : World} (G : Gr w w') {g z : Nat} (hg : w.heap.size ≤ g) (hz : w.heap.size ≤ z) (ws : List (Nat × Value)) (cs : Array Value) : Gr w ((ws.foldl (fun w x => w.setCell ⟨g, x.1, none⟩ x.2) w').setRow z cs) := by
  refine gr_sr ?_ hz cs
  induction ws generalizing w' with
  | nil => exact G
  | cons x r ih => exact ih (G.setCell hg x.2)
theorem sets_heap {w' : World} {g z : Nat} {Z : Array Value} (hz : w'.heap[z]? = some (.cells Z 24 (0, 0))) (ne : z ≠ g) (ws : List (Nat × Value)) : (ws.foldl (fun w x => w.setCell ⟨g, x.1, none⟩ x.2) w').heap[z]? = some (.cells Z 24 (0, 0)) := by
  induction ws generalizing w' with
  | nil => exact hz
  | cons x r ih => exact ih ((heap_setCell_other _ _ _ _ ne).trans hz)
set_option maxHeartbeats 4000000 in
set_option maxRecDepth 100000 in
theorem Put_any {w : World} {ao : Option Addr} {n : Nat} (cap : Nat) {bs : List Bv} (B : Bs w ao n bs) (hn : n * 32 ≤ 140737488351232) (room pu sl : Int) {b0 : Bv} {va0 : Option Addr} {vn0 vc0 : Nat} (hb0 : Bc w b0 (.int .u32 b0.pc) (.slice va0 vn0 vc0)) :
    Calls Try.prog 14 #[.agg #[.int .i64 room, .slice ao n cap, .int .i64 pu, .int .i64 sl], .agg #[.int .u32 b0.pc, .slice va0 vn0 vc0]] w fun e w' => ∃ ra rn rc, e = .returned (.agg #[.int .i64 room, .slice ra rn rc, .int .i64 (if room < ((rmK (place b0.pc bs 0) bs 0 ++ [b0]).length : Int) then wrap64 (pu + 1) else pu), .int .i64 sl]) ∧ Bs w' ra rn (if room < ((rmK (place b0.pc bs 0) bs 0 ++ [b0]).length : Int) then (rmK (place b0.pc bs 0) bs 0 ++ [b0]).drop 1 else rmK (place b0.pc bs 0) bs 0 ++ [b0]) ∧ Gr w w' := by
  have HL : Hid (bs.length = n) := B.len
  have HB : Hid (Bs w ao n bs) := B
  have Pl : Hid (∀ W : World, Gr w W → Calls Try.prog 9 #[.slice ao n cap, .int .u32 b0.pc] W fun e w' => e = .returned (.int .i64 (place b0.pc bs 0)) ∧ Gr W w') := fun W G => Place_any cap (B.of G) (by omega) b0.pc
  have H00 : Hid (Bc w b0 (.int .u32 b0.pc) (.slice va0 vn0 vc0)) := hb0
  obtain ⟨i0, hi, hz0, hz1, hz2⟩ := info_parts infoB
  clear B hb0
  generalize place b0.pc bs 0 = K at *
  generalize b0.pc = p0 at *
  generalize hR1 : (if room < (((rmK K bs 0 ++ [b0]).length : Nat) : Int) then wrap64 (pu + 1) else pu) = R1
  generalize hL1 : (if room < (((rmK K bs 0 ++ [b0]).length : Nat) : Int) then (rmK K bs 0 ++ [b0]).drop 1 else rmK K bs 0 ++ [b0]) = L1
  have HR1 : Hid ((if room < (((rmK K bs 0 ++ [b0]).length : Nat) : Int) then wrap64 (pu + 1) else pu) = R1) := hR1
  have HL1 : Hid ((if room < (((rmK K bs 0 ++ [b0]).length : Nat) : Int) then (rmK K bs 0 ++ [b0]).drop 1 else rmK K bs 0 ++ [b0]) = L1) := hL1
  clear hR1 hL1
  go_enter Try.func14, Try.ntmps14
  go_wp2_with fail
  refine (Pl.out _ (((((Gr.refl _).alloc _).alloc _).alloc _).alloc _)).mono ?_
  rintro e w1 ⟨rfl, G1⟩
  have q := four_of G1
  have HQ0 : Hid (w1.heap[w.heap.size]? = some (.cells #[.int .i64 room, .slice ao n cap, .int .i64 pu, .int .i64 sl] 24 (0, 0))) := q.1
  have HQ1 : Hid (w1.heap[w.heap.size + 1]? = some (.cells #[.int .u32 p0, .slice va0 vn0 vc0] 28 (0, 0))) := q.2.1
  have HQ2 : Hid (∃ Z : Array Value, Z.size = 4 ∧ w1.heap[w.heap.size + 1 + 1]? = some (.cells Z 24 (0, 0))) := ⟨_, rfl, q.2.2.1⟩
  have HQ3 : Hid (w1.heap[w.heap.size + 1 + 1 + 1]? = some (.cells #[.int .i64 room, .slice none 0 0, .int .i64 pu, .int .i64 sl] 24 (0, 0))) := q.2.2.2
  have HG1 : Hid (Gr w w1) := (((((Gr.refl _).alloc _).alloc _).alloc _).alloc _).trans G1
  clear q G1 Pl
  go_wp2_with fail
  go_loopw [7] (fun i wr => ∃ j : Nat, j ≤ n ∧ i = .int .i64 j ∧ ∃ sa m sc xs, wr.heap[w.heap.size + 1 + 1 + 1]? = some (.cells #[.int .i64 room, .slice sa m sc, .int .i64 pu, .int .i64 sl] 24 (0, 0)) ∧ wr.heap[w.heap.size]? = some (.cells #[.int .i64 room, .slice ao n cap, .int .i64 pu, .int .i64 sl] 24 (0, 0)) ∧ wr.cell? ⟨w.heap.size + 1, 0, none⟩ = some (.int .u32 p0) ∧ wr.cell? ⟨w.heap.size + 1, 1, none⟩ = some (.slice va0 vn0 vc0) ∧ (∃ Z : Array Value, Z.size = 4 ∧ wr.heap[w.heap.size + 1 + 1]? = some (.cells Z 24 (0, 0))) ∧ (rmK K (bs.take j) 0).length = m ∧ wr.ownsRow (w.heap.size + 1 + 1 + 1 + 1) 28 2 (.slice sa m sc) m xs ∧ Bw w (rmK K (bs.take j) 0) xs ∧ Gr w wr) (fun i _ => n - (intOf i).toNat)
  case atStart => exact ⟨0, Nat.zero_le _, rfl, none, 0, 0, [], HQ3.out, HQ0.out, cell_of_row _ _ _ _ _ _ HQ1.out, cell_of_row _ _ _ _ _ _ HQ1.out, HQ2.out, rfl, World.ownsRow_nil _ _ _ _, Bw.nil w, HG1.out⟩
  case round =>
    clear HQ0 HQ1 HQ2 HQ3 HG1
    obtain ⟨j, hj, rfl, sa, m, sc, xs, g3, g0, x0, x1, g2, hm, hO, hW, G⟩ := hrel
    have HW : Hid (Bw w (rmK K (bs.take j) 0) xs) := hW
    have HG : Hid (Gr w wr) := G
    have HO : Hid (wr.ownsRow (w.heap.size + 1 + 1 + 1 + 1) 28 2 (.slice sa m sc) m xs) := hO
    have HZ : Hid (∃ Z : Array Value, Z.size = 4 ∧ wr.heap[w.heap.size + 1 + 1]? = some (.cells Z 24 (0, 0))) := g2
    have HM : Hid ((rmK K (bs.take j) 0).length = m) := hm
    have H0 : Hid (wr.heap[w.heap.size]? = some (.cells #[.int .i64 room, .slice ao n cap, .int .i64 pu, .int .i64 sl] 24 (0, 0))) := g0
    have H3 : Hid (wr.heap[w.heap.size + 1 + 1 + 1]? = some (.cells #[.int .i64 room, .slice sa m sc, .int .i64 pu, .int .i64 sl] 24 (0, 0))) := g3
    have c1 : wr.cell? ⟨w.heap.size, 1, none⟩ = some (.slice ao n cap) := cell_of_row _ _ _ _ _ _ g0
    have hmj : m ≤ j := by
      have := rm_len K (bs.take j) 0
      rw [← hm]
      simp at this
      omega
    have hsz : w.heap.size + 1 + 1 + 1 < wr.heap.size := (Array.getElem?_eq_some_iff.1 g3).1
    clear hW G hO g0 g2 g3 hm
    by_cases hlt : j < n
    · obtain ⟨b, hb⟩ : ∃ b, bs[j]? = some b := ⟨_, List.getElem?_eq_getElem (by rw [HL.out]; exact hlt)⟩
      obtain ⟨k, o, rfl, hk, hcell⟩ := HB.out.spot (by omega)
      have HK := rm_take K hb
      by_cases hjk : (j : Int) = K
      · rw [if_pos hjk] at HK
        have HK2 : Hid (rmK K (bs.take (j + 1)) 0 = rmK K (bs.take j) 0) := HK
        have bj : ((j : Int) != K) = false := by simp [hjk]
        clear HK hjk hcell
        go_wp2_with fail
        go_roundw
        case rel => exact ⟨j + 1, by omega, by go_num, sa, m, sc, xs, H3.out, H0.out, x0, x1, HZ.out, by rw [HK2.out]; exact HM.out, HO.out, by rw [HK2.out]; exact HW.out, HG.out⟩
        case measure => simp [intOf]; omega
      · rw [if_neg hjk] at HK
        have HK2 : Hid (rmK K (bs.take (j + 1)) 0 = rmK K (bs.take j) 0 ++ [b]) := HK
        have bj : ((j : Int) != K) = true := by simp [hjk]
        obtain ⟨u, v, r0, r1, hbc⟩ := hcell j b hb
        obtain ⟨o1, o2, va, vn, vc, rfl⟩ := hbc.ones
        have hu : u = .int .u32 b.pc := hbc.1
        subst hu
        have d0 : wr.cell? ⟨k, o + j * 2, none⟩ = some (.int .u32 b.pc) := (HG.out.cell _ (by exact hk)).trans r0
        have d1 : wr.cell? ⟨k, o + j * 2 + 1, none⟩ = some (.slice va vn vc) := (HG.out.cell _ (by exact hk)).trans r1
        have HWn : Hid (Bw w (rmK K (bs.take j) 0 ++ [b]) (xs ++ [.int .u32 b.pc, .slice va vn vc])) := HW.out.snoc hbc
        have k1 : wr.cell? ⟨w.heap.size + 1 + 1 + 1, 1, none⟩ = some (.slice sa m sc) := cell_of_row _ _ _ _ _ _ H3.out
        clear HK hjk hcell r0 r1 hbc
        generalize b.pc = bp at *
        go_wp2_with fail
        go_region_law (refine step_append_own rfl (.tmp 31) (.tmp 37) 22 rfl (w.heap.size + 1 + 1 + 1 + 1) 28 i0 _ 2 32 Try.underlying22 hi hz0 hz1 hz2 rfl (by decide) (.slice sa m sc) m xs (by simp [Act.eval, Act.put]) (owns_gr HO.out (by repeat (first | exact Gr.refl wr | refine Gr.drewN ?_ _ | refine Gr.drew ?_ | refine Gr.alloc ?_ _))) ⟨wr.heap.size, 0, none⟩ 1 1 [.int .u32 bp, .slice va vn vc] (by simp [Act.eval, Act.put]) rfl (two_cells (by simp) (by simp)) (two_ones rfl rfl) (by unfold maxLen; omega) (by omega) (by simp; omega) ?_; intro v' w' hown hgrow; obtain ⟨g', cp, rfl⟩ := own_form hown (by omega); have HOn : Hid (w'.ownsRow (w.heap.size + 1 + 1 + 1 + 1) 28 2 (.slice (some ⟨g', 0, none⟩) (m + 1) cp) (m + 1) (xs ++ [.int .u32 bp, .slice va vn vc])) := hown; have HKp : Hid (∀ (q : Nat) (c : Array Value) (r : Nat) (z : Nat × Nat), wr.heap[q]? = some (.cells c r z) → r ≠ 28 → w'.heap[q]? = some (.cells c r z)) := fun q c r z hq hr => row_keep (owns_gr HO.out (by repeat (first | exact Gr.refl wr | refine Gr.drewN ?_ _ | refine Gr.drew ?_ | refine Gr.alloc ?_ _))) hgrow (up_h (by repeat (first | exact Gr.refl wr | refine Gr.drewN ?_ _ | refine Gr.drew ?_ | refine Gr.alloc ?_ _)) hq) hr; have HBl : Hid (Below (w.heap.size + 1 + 1 + 1 + 1) wr w') := Below.grown (Below.mono (by repeat (first | exact Gr.refl wr | refine Gr.drewN ?_ _ | refine Gr.drew ?_ | refine Gr.alloc ?_ _)) (by omega)) hgrow (by simp; omega) (fun q e => (HO.out.lt q e).1); have HGn : Hid (Gr w w') := Gr.grown (Gr.trans HG.out (by repeat (first | exact Gr.refl wr | refine Gr.drewN ?_ _ | refine Gr.drew ?_ | refine Gr.alloc ?_ _))) hgrow (fun q e => by have := (HO.out.lt q e).1; omega); have y1 : w'.cell? ⟨w.heap.size + 1 + 1 + 1, 1, none⟩ = some (.slice sa m sc) := cell_of_row _ _ _ _ _ _ (HKp.out _ _ _ _ H3.out (by decide)); have yf : w'.frozen? ⟨w.heap.size + 1 + 1 + 1, 1, none⟩ = false := frozen_of_row _ _ _ _ _ (HKp.out _ _ _ _ H3.out (by decide)); clear hown hgrow)
        all_goals
          go_wp2_with fail
          go_roundw
          case rel =>
            have HK4 := HKp.out _ _ _ _ H3.out (by decide)
            refine ⟨j + 1, by omega, by go_num, some ⟨g', 0, none⟩, m + 1, cp, xs ++ [.int .u32 bp, .slice va vn vc], ?_, ?_, ?_, ?_, ?_, ?_, ?_, ?_, ?_⟩
            · rw [heap_setCell_same _ _ _ _ _ _ HK4]
              rfl
            · rw [heap_setCell_other _ _ _ _ (by show w.heap.size ≠ w.heap.size + 1 + 1 + 1; omega)]
              exact HKp.out _ _ _ _ H0.out (by decide)
            · rw [cell_set_other _ _ _ _ (by show w.heap.size + 1 ≠ w.heap.size + 1 + 1 + 1; omega)]
              exact (Below.cell HBl.out (by show w.heap.size + 1 < _; omega)).trans x0
            · rw [cell_set_other _ _ _ _ (by show w.heap.size + 1 ≠ w.heap.size + 1 + 1 + 1; omega)]
              exact (Below.cell HBl.out (by show w.heap.size + 1 < _; omega)).trans x1
            · obtain ⟨Z, hz, hZ⟩ := HZ.out
              refine ⟨Z, hz, ?_⟩
              rw [heap_setCell_other _ _ _ _ (by show w.heap.size + 1 + 1 ≠ w.heap.size + 1 + 1 + 1; omega)]
              exact HKp.out _ _ _ _ hZ (by decide)
            · rw [HK2.out, List.length_append, HM.out]
              rfl
            · exact owns_to HOn.out fun q c r hq => heap_setCell_other _ _ _ _ (by exact ne_of_types hq HK4 (by decide))
            · rw [HK2.out]
              exact HWn.out
            · exact HGn.out.setCell (by show w.heap.size ≤ w.heap.size + 1 + 1 + 1; omega) _
          case measure => simp [intOf]; omega
    · have ej : j = n := by omega
      have HE : Hid (bs.take j = bs) := by unfold Hid; rw [ej, ← HL.out, List.take_length]
      obtain ⟨Z, hz, hZ⟩ := HZ.out
      have HWe : Hid (Bw w (rmK K bs 0 ++ [b0]) (xs ++ [.int .u32 p0, .slice va0 vn0 vc0])) := by have := HW.out.snoc H00.out; rwa [HE.out] at this
      have HMe : Hid ((rmK K bs 0 ++ [b0]).length = m + 1) := by have := HM.out; rw [HE.out] at this; unfold Hid; rw [List.length_append, this]; rfl
      have y1 : wr.cell? ⟨w.heap.size + 1 + 1 + 1, 1, none⟩ = some (.slice sa m sc) := cell_of_row _ _ _ _ _ _ H3.out
      have HZ2 : Hid (wr.heap[w.heap.size + 1 + 1]? = some (.cells Z 24 (0, 0))) := hZ
      have HZs : Hid (Z.size = 4) := hz
      have hm32 : (m + 1) * 32 ≤ 140737488355328 := by omega
      clear HB HW HM HE ej hz hZ HZ H00
      by_cases hroom : room < ((m + 1 : Nat) : Int)
      · have hr2 : room < (m : Int) + 1 := by omega
        have HR2 : Hid (wrap64 (pu + 1) = R1) := by have := HR1.out; rwa [HMe.out, if_pos hroom] at this
        have HL2 : Hid ((rmK K bs 0 ++ [b0]).drop 1 = L1) := by have := HL1.out; rwa [HMe.out, if_pos hroom] at this
        clear HR1 HL1
        go_wp2_with (first
          | (at_builtin; refine wpList_append_own _ rfl (.tmp 41) (.tmp 43) 22 rfl (w.heap.size + 1 + 1 + 1 + 1) 28 i0 _ 2 32 Try.underlying22 hi hz0 hz1 hz2 rfl (by decide) (.slice sa m sc) m xs rfl (owns_gr HO.out (by repeat (first | exact Gr.refl wr | refine Gr.drewN ?_ _ | refine Gr.drew ?_ | refine Gr.alloc ?_ _))) ⟨wr.heap.size, 0, none⟩ 1 1 [.int .u32 p0, .slice va0 vn0 vc0] rfl rfl (two_cells (by simp) (by simp)) (two_ones rfl rfl) (by unfold maxLen; omega) (by omega) (by simp; omega) ?_; intro v' w' hown hgrow _; obtain ⟨g', cp, rfl⟩ := own_form hown (by omega); have HOn : Hid (w'.ownsRow (w.heap.size + 1 + 1 + 1 + 1) 28 2 (.slice (some ⟨g', 0, none⟩) (m + 1) cp) (m + 1) (xs ++ [.int .u32 p0, .slice va0 vn0 vc0])) := hown; have HKp : Hid (∀ (q : Nat) (c : Array Value) (r : Nat) (z : Nat × Nat), wr.heap[q]? = some (.cells c r z) → r ≠ 28 → w'.heap[q]? = some (.cells c r z)) := fun q c r z hq hr => row_keep (owns_gr HO.out (by repeat (first | exact Gr.refl wr | refine Gr.drewN ?_ _ | refine Gr.drew ?_ | refine Gr.alloc ?_ _))) hgrow (up_h (by repeat (first | exact Gr.refl wr | refine Gr.drewN ?_ _ | refine Gr.drew ?_ | refine Gr.alloc ?_ _)) hq) hr; have HGn : Hid (Gr w w') := Gr.grown (Gr.trans HG.out (by repeat (first | exact Gr.refl wr | refine Gr.drewN ?_ _ | refine Gr.drew ?_ | refine Gr.alloc ?_ _))) hgrow (fun q e => by have := (HO.out.lt q e).1; omega); have f0 : w'.cell? ⟨w.heap.size + 1 + 1 + 1, 0, none⟩ = some (.int .i64 room) := cell_of_row _ _ _ _ _ _ (HKp.out _ _ _ _ H3.out (by decide)); have f1 : w'.cell? ⟨w.heap.size + 1 + 1 + 1, 1, none⟩ = some (.slice sa m sc) := cell_of_row _ _ _ _ _ _ (HKp.out _ _ _ _ H3.out (by decide)); have f2 : w'.cell? ⟨w.heap.size + 1 + 1 + 1, 2, none⟩ = some (.int .i64 pu) := cell_of_row _ _ _ _ _ _ (HKp.out _ _ _ _ H3.out (by decide)); have f3 : w'.cell? ⟨w.heap.size + 1 + 1 + 1, 3, none⟩ = some (.int .i64 sl) := cell_of_row _ _ _ _ _ _ (HKp.out _ _ _ _ H3.out (by decide)); have ff : ∀ i, w'.frozen? ⟨w.heap.size + 1 + 1 + 1, i, none⟩ = false := (fun i => frozen_of_row _ _ _ _ _ (HKp.out _ _ _ _ H3.out (by decide))); have f5 : w'.cell? ⟨w.heap.size, 0, none⟩ = some (.int .i64 room) := cell_of_row _ _ _ _ _ _ (HKp.out _ _ _ _ H0.out (by decide)); have hcp : m + 1 ≤ cp := (cells_own hown).2.1; clear hown hgrow)
          | (refine wpList_store_row rfl 24 _ _ rfl (w.heap.size + 1 + 1) _ rfl rfl 24 Z ?sr1 iCa (by rw [HZs.out]; rfl) (one_ca _ _ _ _ _ _) ?_; (case sr1 => (repeat (rw [heap_setCell_other _ _ _ _ (by show w.heap.size + 1 + 1 ≠ w.heap.size + 1 + 1 + 1; omega)])); exact HKp.out _ _ _ _ HZ2.out (by decide))))
        · have hm0 : m = 0 := by omega
          subst hm0
          have HZ3 : Hid (w'.heap[w.heap.size + 1 + 1]? = some (.cells Z 24 (0, 0))) := HKp.out _ _ _ _ HZ2.out (by decide)
          refine bodyPost_ret (v := .agg _) (results_cell_row Try.results14 _ _ _ _ _ (0, 0) _ rfl (setRow_heap _ _ Z _ _ (0, 0) (sets_heap HZ3.out (by omega) [(1, .slice (some ⟨g', 0, none⟩) (0 + 1) 1), (1, .slice (some ⟨g', 0, none⟩) 0 0), (2, .int .i64 (wrap64 (pu + 1)))])) Try.underlying24 rfl iCa) rfl ⟨_, _, ⟨_, by rw [← HR2.out]⟩, ?_, sets_gr HGn.out (by omega) (by omega) [(1, .slice (some ⟨g', 0, none⟩) (0 + 1) 1), (1, .slice (some ⟨g', 0, none⟩) 0 0), (2, .int .i64 (wrap64 (pu + 1)))] _⟩
          rw [← HL2.out, List.drop_eq_nil_of_le (by rw [HMe.out]; omega)]
          exact bs_nil _ _
        · have HZ3 : Hid (w'.heap[w.heap.size + 1 + 1]? = some (.cells Z 24 (0, 0))) := HKp.out _ _ _ _ HZ2.out (by decide)
          refine bodyPost_ret (v := .agg _) (results_cell_row Try.results14 _ _ _ _ _ (0, 0) _ rfl (setRow_heap _ _ Z _ _ (0, 0) (sets_heap HZ3.out (by omega) [(1, .slice (some ⟨g', 0, none⟩) (m + 1) cp), (1, .slice (some ⟨g', 2, none⟩) m (cp - 1)), (2, .int .i64 (wrap64 (pu + 1)))])) Try.underlying24 rfl iCa) rfl ⟨_, _, ⟨_, by rw [← HR2.out]⟩, ?_, sets_gr HGn.out (by omega) (by omega) [(1, .slice (some ⟨g', 0, none⟩) (m + 1) cp), (1, .slice (some ⟨g', 2, none⟩) m (cp - 1)), (2, .int .i64 (wrap64 (pu + 1)))] _⟩
          rw [← HL2.out]
          have hO2 := owns_to HOn.out fun q c r hq => sets_keep (HKp.out _ _ _ _ H3.out (by decide)) HZ3.out [(1, .slice (some ⟨g', 0, none⟩) (m + 1) cp), (1, .slice (some ⟨g', 2, none⟩) m (cp - 1)), (2, .int .i64 (wrap64 (pu + 1)))] #[.int .i64 room, .slice (some ⟨g', 2, none⟩) m (cp - 1), .int .i64 (wrap64 (pu + 1)), .int .i64 sl] hq
          exact bs_own hO2 (HWe.out.of (sets_gr HGn.out (by omega) (by omega) [(1, .slice (some ⟨g', 0, none⟩) (m + 1) cp), (1, .slice (some ⟨g', 2, none⟩) m (cp - 1)), (2, .int .i64 (wrap64 (pu + 1)))] _)) 1 m (by rw [HMe.out]; omega)
      · have hr2 : ¬ room < (m : Int) + 1 := by omega
        have HR2 : Hid (pu = R1) := by have := HR1.out; rwa [HMe.out, if_neg hroom] at this
        have HL2 : Hid (rmK K bs 0 ++ [b0] = L1) := by have := HL1.out; rwa [HMe.out, if_neg hroom] at this
        clear HR1 HL1
        go_wp2_with (first
          | (at_builtin; refine wpList_append_own _ rfl (.tmp 41) (.tmp 43) 22 rfl (w.heap.size + 1 + 1 + 1 + 1) 28 i0 _ 2 32 Try.underlying22 hi hz0 hz1 hz2 rfl (by decide) (.slice sa m sc) m xs rfl (owns_gr HO.out (by repeat (first | exact Gr.refl wr | refine Gr.drewN ?_ _ | refine Gr.drew ?_ | refine Gr.alloc ?_ _))) ⟨wr.heap.size, 0, none⟩ 1 1 [.int .u32 p0, .slice va0 vn0 vc0] rfl rfl (two_cells (by simp) (by simp)) (two_ones rfl rfl) (by unfold maxLen; omega) (by omega) (by simp; omega) ?_; intro v' w' hown hgrow _; obtain ⟨g', cp, rfl⟩ := own_form hown (by omega); have HOn : Hid (w'.ownsRow (w.heap.size + 1 + 1 + 1 + 1) 28 2 (.slice (some ⟨g', 0, none⟩) (m + 1) cp) (m + 1) (xs ++ [.int .u32 p0, .slice va0 vn0 vc0])) := hown; have HKp : Hid (∀ (q : Nat) (c : Array Value) (r : Nat) (z : Nat × Nat), wr.heap[q]? = some (.cells c r z) → r ≠ 28 → w'.heap[q]? = some (.cells c r z)) := fun q c r z hq hr => row_keep (owns_gr HO.out (by repeat (first | exact Gr.refl wr | refine Gr.drewN ?_ _ | refine Gr.drew ?_ | refine Gr.alloc ?_ _))) hgrow (up_h (by repeat (first | exact Gr.refl wr | refine Gr.drewN ?_ _ | refine Gr.drew ?_ | refine Gr.alloc ?_ _)) hq) hr; have HGn : Hid (Gr w w') := Gr.grown (Gr.trans HG.out (by repeat (first | exact Gr.refl wr | refine Gr.drewN ?_ _ | refine Gr.drew ?_ | refine Gr.alloc ?_ _))) hgrow (fun q e => by have := (HO.out.lt q e).1; omega); have f0 : w'.cell? ⟨w.heap.size + 1 + 1 + 1, 0, none⟩ = some (.int .i64 room) := cell_of_row _ _ _ _ _ _ (HKp.out _ _ _ _ H3.out (by decide)); have f1 : w'.cell? ⟨w.heap.size + 1 + 1 + 1, 1, none⟩ = some (.slice sa m sc) := cell_of_row _ _ _ _ _ _ (HKp.out _ _ _ _ H3.out (by decide)); have f2 : w'.cell? ⟨w.heap.size + 1 + 1 + 1, 2, none⟩ = some (.int .i64 pu) := cell_of_row _ _ _ _ _ _ (HKp.out _ _ _ _ H3.out (by decide)); have f3 : w'.cell? ⟨w.heap.size + 1 + 1 + 1, 3, none⟩ = some (.int .i64 sl) := cell_of_row _ _ _ _ _ _ (HKp.out _ _ _ _ H3.out (by decide)); have ff : ∀ i, w'.frozen? ⟨w.heap.size + 1 + 1 + 1, i, none⟩ = false := (fun i => frozen_of_row _ _ _ _ _ (HKp.out _ _ _ _ H3.out (by decide))); have f5 : w'.cell? ⟨w.heap.size, 0, none⟩ = some (.int .i64 room) := cell_of_row _ _ _ _ _ _ (HKp.out _ _ _ _ H0.out (by decide)); have hcp : m + 1 ≤ cp := (cells_own hown).2.1; clear hown hgrow)
          | (refine wpList_store_row rfl 24 _ _ rfl (w.heap.size + 1 + 1) _ rfl rfl 24 Z ?sr1 iCa (by rw [HZs.out]; rfl) (one_ca _ _ _ _ _ _) ?_; (case sr1 => (repeat (rw [heap_setCell_other _ _ _ _ (by show w.heap.size + 1 + 1 ≠ w.heap.size + 1 + 1 + 1; omega)])); exact HKp.out _ _ _ _ HZ2.out (by decide))))
        have HZ3 : Hid (w'.heap[w.heap.size + 1 + 1]? = some (.cells Z 24 (0, 0))) := HKp.out _ _ _ _ HZ2.out (by decide)
        refine bodyPost_ret (v := .agg _) (results_cell_row Try.results14 _ _ _ _ _ (0, 0) _ rfl (setRow_heap _ _ Z _ _ (0, 0) (sets_heap HZ3.out (by omega) [(1, .slice (some ⟨g', 0, none⟩) (m + 1) cp)])) Try.underlying24 rfl iCa) rfl ⟨_, _, ⟨_, by rw [← HR2.out]⟩, ?_, sets_gr HGn.out (by omega) (by omega) [(1, .slice (some ⟨g', 0, none⟩) (m + 1) cp)] _⟩
        rw [← HL2.out]
        have hO2 := owns_to HOn.out fun q c r hq => sets_keep (HKp.out _ _ _ _ H3.out (by decide)) HZ3.out [(1, .slice (some ⟨g', 0, none⟩) (m + 1) cp)] #[.int .i64 room, .slice (some ⟨g', 0, none⟩) (m + 1) cp, .int .i64 pu, .int .i64 sl] hq
        exact bs_own hO2 (HWe.out.of (sets_gr HGn.out (by omega) (by omega) [(1, .slice (some ⟨g', 0, none⟩) (m + 1) cp)] _)) 0 (m + 1) (by rw [HMe.out]; omega)
end Go.Proofs.Yteipplmmchaboab.Kc
