/-
  What Board's Lost answers: the harts that lose what they have reserved ('lostU').
-/
import Derived.Test.YtfolphjampklpabDoorMb3
namespace Go.Proofs.YtfolphjampklpabDoor.Mc
open Go.ChangeShapes Go.WideShapes Go.ChangeAt Go.RowKit Mm Hh Hc
set_option linter.unusedVariables false
set_option linter.unusedSimpArgs false

def lsC (ls : List (Nat × Int)) : List Value := ls.flatMap fun q => [.int .i64 q.1, .int .u32 q.2]
theorem lsC_snoc (ls : List (Nat × Int)) (q : Nat × Int) : lsC (ls ++ [q]) = lsC ls ++ [.int .i64 q.1, .int .u32 q.2] := by simp [lsC]
theorem lsC_len (ls : List (Nat × Int)) : (lsC ls).length = ls.length * 2 := by
  induction ls with
  | nil => rfl
  | cons p r ih => simp only [lsC, List.flatMap_cons, List.length_append, List.length_cons, List.length_nil] at ih ⊢; omega
theorem lsC_get : ∀ (ls : List (Nat × Int)) (i : Nat) (q : Nat × Int), ls[i]? = some q → (lsC ls)[i * 2]? = some (.int .i64 q.1) ∧ (lsC ls)[i * 2 + 1]? = some (.int .u32 q.2)
  | [], i, q, h => by simp at h
  | p :: r, 0, q, h => by simp at h; subst h; exact ⟨rfl, rfl⟩
  | p :: r, i + 1, q, h => by
    have ih := lsC_get r i q (by simpa using h)
    have e : lsC (p :: r) = [.int .i64 p.1, .int .u32 p.2] ++ lsC r := rfl
    rw [e, List.getElem?_append_right (by simp; omega), List.getElem?_append_right (by simp; omega)]
    simp only [List.length_cons, List.length_nil]
    rw [show (i + 1) * 2 - (0 + 1 + 1) = i * 2 by omega, show (i + 1) * 2 + 1 - (0 + 1 + 1) = i * 2 + 1 by omega]
    exact ih
theorem two_lost (a b : Int) : ∀ u ∈ [Value.int .i64 a, Value.int .u32 b], u.oneCell' = true := by
  intro u hu
  simp only [List.mem_cons, List.not_mem_nil, or_false] at hu
  rcases hu with rfl | rfl <;> rfl
theorem infoL : (Tryd.prog.info? 77).map (fun i => (i.zero, i.size, i.bytes)) = some (some (.agg #[.int .i64 0, .int .u32 0]), 2, 16) := by kernel_rfl
set_option maxHeartbeats 2000000 in
set_option maxRecDepth 100000 in
theorem Lost_any {w : World} {base g gh hc : Nat} {M O : Value} {s : Sh} (B : Bw w base g M gh hc O s) (hc4 : s.hs.length ≤ 4) (k : Nat) (p : Int × Int) (p0 : 0 ≤ p.1) (p1 : 0 < p.2) (p2 : p.1 + p.2 ≤ 4096) :
    Calls Tryd.prog 23 #[.pointer (some ⟨g, 0, none⟩), .int .i64 k, .agg #[.int .u32 p.1, .int .u32 (Wd.lo (p.1 + p.2))]] w fun e w' => ∃ v, e = .returned v ∧ w'.ownsRow w.heap.size 77 2 v (lostU k p s.hs s.hs.length).length (lsC (lostU k p s.hs s.hs.length)) ∧ Gr w w' := by
  have HB : Hid (w.heap[g]? = some (.cells #[M, .slice (some ⟨gh, 0, none⟩) s.hs.length hc, O, .int .i64 s.steps] 46 (0, 0))) := B.blk
  have HR : Hid (HRow w gh s.hs) := B.row
  have hgl : g < w.heap.size := (Array.getElem?_eq_some_iff.1 HB.out).1
  have hghl : gh < w.heap.size := by obtain ⟨_, e⟩ := B.row.row; exact (Array.getElem?_eq_some_iff.1 e).1
  have k1 : w.cell? ⟨g, 1, none⟩ = some (.slice (some ⟨gh, 0, none⟩) s.hs.length hc) := cell_of_row _ _ _ _ _ _ HB.out
  clear B
  have hlo : Wd.lo (p.1 + p.2) = p.1 + p.2 := by unfold Wd.lo; omega
  have HMe : Hid (∀ h : Hv, h.Ok → ∀ W : World, Calls Tryd.prog 35 #[.int .u32 h.heldAt, .agg #[.int .u32 p.1, .int .u32 (p.1 + p.2)]] W fun e w' => e = .returned (.bool (near h.heldAt p.1 p.2)) ∧ Gr W w') := fun h o W => by
    rw [meets_near o.at0 o.at1 p0 p1 p2 (Int.le_refl _)]
    exact meets_any o.at0 o.at1 p0 (by omega) W
  rw [hlo]
  obtain ⟨f, q⟩ := p
  simp only at *
  generalize hcc : s.hs.length = c at *
  have HC : Hid (s.hs.length = c) := hcc
  generalize s.hs = hs at *
  obtain ⟨i0, hi, hz0, hz1, hz2⟩ := info_parts infoL
  clear hlo hcc
  generalize hT : f + q = t at *
  clear hT
  go_enter Tryd.func23, Tryd.ntmps23
  go_wp2
  go_loopw [17, 7] (fun i v wr => ∃ (j : Nat) (L : Value), j ≤ c ∧ i = .int .i64 j ∧ L = v ∧ wr.ownsRow (w.heap.size + 1) 77 2 L (lostU k (f, q) hs j).length (lsC (lostU k (f, q) hs j)) ∧ Gr (w.alloc (.cells #[.int .u32 f, .int .u32 t] 73)) wr) (fun i _ _ => c - (intOf i).toNat)
  case atStart => exact ⟨0, _, Nat.zero_le _, rfl, rfl, World.ownsRow_nil _ _ _ _, Gr.refl _⟩
  case round =>
    obtain ⟨j, L, hj, rfl, rfl, hown, G⟩ := hrel
    have HO : Hid (wr.ownsRow (w.heap.size + 1) 77 2 L (lostU k (f, q) hs j).length (lsC (lostU k (f, q) hs j))) := hown
    have HG : Hid (Gr (w.alloc (.cells #[.int .u32 f, .int .u32 t] 73)) wr) := G
    clear hown G
    by_cases hlt : j < c
    · obtain ⟨h, hh⟩ : ∃ h, hs[j]? = some h := ⟨_, List.getElem?_eq_getElem (by rw [HC.out]; exact hlt)⟩
      have hgd : hs.getD j hN = h := by simp [List.getD, hh]
      have okh := HR.out.ok h (List.mem_of_getElem? hh)
      have hgw : Gr w wr := ((Gr.refl _).alloc _).trans HG.out
      have RG : Hid (wr.rangeAt gh (j * 37) (hL h)) := (HR.out.of hgw).range hh
      have HLL : Hid ((hL h).length = 37) := hL_len okh
      have HSZ : Hid ((hL h).toArray.size = 37) := by unfold Hid; simp [HLL.out]
      have HONE : Hid ((hL h).toArray.all (·.oneCell') = true) := one_hA h
      have HLU : Hid (lostU k (f, q) hs (j + 1) = lostU k (f, q) hs j ++ (if loses k (f, q) j h = true then [(j, h.heldAt)] else [])) := by unfold Hid; rw [lostU, hgd]
      have hlu := lostU_len k (f, q) hs j
      have HME : Hid (∀ W : World, Calls Tryd.prog 35 #[.int .u32 h.heldAt, .agg #[.int .u32 f, .int .u32 t]] W fun e w' => e = .returned (.bool (near h.heldAt f q)) ∧ Gr W w') := HMe.out h okh
      have HW4 : Hid (∀ Y : Array Value, Gr wr ((wr.alloc (.cells Y 52)).setRow wr.heap.size (hL h).toArray)) := fun Y => gr_setRow ((Gr.refl _).alloc _) (Nat.le_refl _) _
      have HX4 : Hid (∀ Y : Array Value, ((wr.alloc (.cells Y 52)).setRow wr.heap.size (hL h).toArray).heap[wr.heap.size]? = some (.cells (hL h).toArray 52 (0, 0))) := fun Y => setRow_heap _ _ _ _ _ (0, 0) (heap_alloc_new wr _)
      have k33 : ∀ Y : Array Value, ((wr.alloc (.cells Y 52)).setRow wr.heap.size (hL h).toArray).cell? ⟨wr.heap.size, 33, none⟩ = some (.bool h.held) := fun Y => (cell_of_row _ _ _ _ _ _ (HX4.out Y)).trans (by rw [List.getElem?_toArray]; exact hL_fld okh 1)
      have k34 : ∀ Y : Array Value, ((wr.alloc (.cells Y 52)).setRow wr.heap.size (hL h).toArray).cell? ⟨wr.heap.size, 34, none⟩ = some (.int .u32 h.heldAt) := fun Y => (cell_of_row _ _ _ _ _ _ (HX4.out Y)).trans (by rw [List.getElem?_toArray]; exact hL_fld okh 2)
      have HRg : Hid (wr.heap[w.heap.size]? = some (.cells #[.int .u32 f, .int .u32 t] 73 (0, 0))) := Hr.heap_of_gr HG.out (heap_alloc_new w _)
      have r0 : ∀ Y : Array Value, ((wr.alloc (.cells Y 52)).setRow wr.heap.size (hL h).toArray).cell? ⟨w.heap.size, 0, none⟩ = some (.int .u32 f) := fun Y => cell_of_row _ _ _ _ _ _ (Hr.heap_of_gr (HW4.out Y) HRg.out)
      have r1 : ∀ Y : Array Value, ((wr.alloc (.cells Y 52)).setRow wr.heap.size (hL h).toArray).cell? ⟨w.heap.size, 1, none⟩ = some (.int .u32 t) := fun Y => cell_of_row _ _ _ _ _ _ (Hr.heap_of_gr (HW4.out Y) HRg.out)
      have hwr : w.heap.size + 1 ≤ wr.heap.size := by have := HG.out.size; simpa using this
      have HB0 : Hid (0 ≤ h.heldAt) := okh.at0
      clear hh hgd okh hgw HR HMe HRg
      generalize lostU k (f, q) hs j = U at *
      generalize hhd : h.held = bh at *
      generalize hat : h.heldAt = ah at *
      have HLo : Hid (loses k (f, q) j h = (decide (j ≠ k) && (bh && near ah f q))) := by unfold Hid loses; rw [hhd, hat]
      clear hhd hat
      by_cases hjk : j = k
      · have hne : ((j : Int) != (k : Int)) = false := by simp [hjk]
        have HN : Hid (lostU k (f, q) hs (j + 1) = U) := by unfold Hid; rw [HLU.out, HLo.out, decide_eq_false (by simp [hjk])]; simp
        clear hjk HLU HLo
        go_wp2_with (first
            | (refine wpList_load_mid rfl 52 _ rfl gh (j * 37) rfl (hL h) _ ?r1 Tryd.underlying52 rfl (by rw [HLL.out]; exact iH) ?_; (case r1 => exact RG.out))
            | (refine wpList_store_row rfl 52 _ _ rfl wr.heap.size (hL h).toArray rfl rfl 52 _ (heap_alloc_new wr _) (by rw [HSZ.out]; exact iH) (by rw [HSZ.out]; rfl) HONE.out ?_))
        go_roundw
        case rel => exact ⟨j + 1, L, by omega, by go_num, rfl, by rw [HN.out]; exact owns_gr HO.out (HW4.out _), HG.out.trans (HW4.out _)⟩
        case measure => simp [intOf]; omega
      · have hne : ((j : Int) != (k : Int)) = true := by simp; omega
        cases bh with
        | false =>
          have HN : Hid (lostU k (f, q) hs (j + 1) = U) := by unfold Hid; rw [HLU.out, HLo.out]; simp
          clear hjk HLU HLo
          go_wp2_with (first
            | (refine wpList_load_mid rfl 52 _ rfl gh (j * 37) rfl (hL h) _ ?r1 Tryd.underlying52 rfl (by rw [HLL.out]; exact iH) ?_; (case r1 => exact RG.out))
            | (refine wpList_store_row rfl 52 _ _ rfl wr.heap.size (hL h).toArray rfl rfl 52 _ (heap_alloc_new wr _) (by rw [HSZ.out]; exact iH) (by rw [HSZ.out]; rfl) HONE.out ?_))
          go_roundw
          case rel => exact ⟨j + 1, L, by omega, by go_num, rfl, by rw [HN.out]; exact owns_gr HO.out (HW4.out _), HG.out.trans (HW4.out _)⟩
          case measure => simp [intOf]; omega
        | true =>
          cases hnr : near ah f q with
          | false =>
            have HM2 : Hid (∀ W : World, Calls Tryd.prog 35 #[.int .u32 ah, .agg #[.int .u32 f, .int .u32 t]] W fun e w' => e = .returned (.bool false) ∧ Gr W w') := fun W => by have := HME.out W; rwa [hnr] at this
            have HN : Hid (lostU k (f, q) hs (j + 1) = U) := by unfold Hid; rw [HLU.out, HLo.out, hnr]; simp
            clear hjk HLU HLo HME hnr
            go_wp2_with (first
            | (refine wpList_load_mid rfl 52 _ rfl gh (j * 37) rfl (hL h) _ ?r1 Tryd.underlying52 rfl (by rw [HLL.out]; exact iH) ?_; (case r1 => exact RG.out))
            | (refine wpList_store_row rfl 52 _ _ rfl wr.heap.size (hL h).toArray rfl rfl 52 _ (heap_alloc_new wr _) (by rw [HSZ.out]; exact iH) (by rw [HSZ.out]; rfl) HONE.out ?_))
            refine (HM2.out _).mono ?_
            rintro e w1 ⟨rfl, G1⟩
            have HG1 : Hid (Gr wr w1) := (HW4.out _).trans G1
            clear G1 HM2 HW4 HX4 k33 k34 r0 r1 RG
            go_wp2_with fail
            go_roundw
            case rel => exact ⟨j + 1, L, by omega, by go_num, rfl, by rw [HN.out]; exact owns_gr HO.out HG1.out, HG.out.trans HG1.out⟩
            case measure => simp [intOf]; omega
          | true =>
            have HM2 : Hid (∀ W : World, Calls Tryd.prog 35 #[.int .u32 ah, .agg #[.int .u32 f, .int .u32 t]] W fun e w' => e = .returned (.bool true) ∧ Gr W w') := fun W => by have := HME.out W; rwa [hnr] at this
            have HN : Hid (lostU k (f, q) hs (j + 1) = U ++ [(j, ah)]) := by unfold Hid; rw [HLU.out, HLo.out, hnr, decide_eq_true (show j ≠ k from hjk)]; simp
            clear hjk HLU HLo HME hnr
            go_wp2_with (first
            | (refine wpList_load_mid rfl 52 _ rfl gh (j * 37) rfl (hL h) _ ?r1 Tryd.underlying52 rfl (by rw [HLL.out]; exact iH) ?_; (case r1 => exact RG.out))
            | (refine wpList_store_row rfl 52 _ _ rfl wr.heap.size (hL h).toArray rfl rfl 52 _ (heap_alloc_new wr _) (by rw [HSZ.out]; exact iH) (by rw [HSZ.out]; rfl) HONE.out ?_))
            refine (HM2.out _).mono ?_
            rintro e w1 ⟨rfl, G1⟩
            have HG1 : Hid (Gr wr w1) := (HW4.out _).trans G1
            have q34 : w1.cell? ⟨wr.heap.size, 34, none⟩ = some (.int .u32 ah) := (G1.cell _ (by simp)).trans (k34 _)
            have hwr1 : wr.heap.size < w1.heap.size := by have := G1.size; simp at this; omega
            clear G1 HM2 HW4 HX4 k33 k34 r0 r1 RG
            go_wp2_with (at_builtin; refine wpList_append_own _ rfl (.tmp 35) (.tmp 40) 74 rfl (w.heap.size + 1) 77 i0 (.agg #[.int .i64 0, .int .u32 0]) 2 16 Tryd.underlying74 hi hz0 hz1 hz2 rfl (by decide) L U.length (lsC U) rfl (owns_gr HO.out (HG1.out.alloc _)) ⟨w1.heap.size, 0, none⟩ 1 1 [.int .i64 j, .int .u32 ah] rfl rfl (two_cells (by simp) (by simp)) (two_lost _ _) (by unfold maxLen; omega) (by omega) (by simp; omega) ?_; intro v' w2 hown hgrow _; have HO2 : Hid (w2.ownsRow (w.heap.size + 1) 77 2 v' (U.length + 1) (lsC U ++ [.int .i64 j, .int .u32 ah])) := hown; have HG2 : Hid (Gr (w.alloc (.cells #[.int .u32 f, .int .u32 t] 73)) w2) := (((HG.out.trans HG1.out).alloc _).grown hgrow (fun b e => by have := (HO.out.lt b e).1; simp; omega)); clear hown hgrow)
            go_roundw
            case rel => exact ⟨j + 1, v', by omega, by go_num, rfl, by rw [HN.out, lsC_snoc, List.length_append]; exact HO2.out, HG2.out⟩
            case measure => simp [intOf]; omega
    · have ej : j = c := by omega
      go_wp2_with fail
      go_ret
      refine ⟨L, rfl, ?_, ((Gr.refl _).alloc _).trans HG.out⟩
      have := HO.out
      rw [ej] at this
      refine ⟨this.1, ?_⟩
      rcases this.2 with h | ⟨g', cap, cur, hv, hb, r⟩
      · exact .inl h
      · exact .inr ⟨g', cap, cur, hv, by omega, r⟩
end Go.Proofs.YtfolphjampklpabDoor.Mc
