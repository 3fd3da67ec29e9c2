/-
  Mb6, Mb7, Uq: texts of ours that lie in one file.
-/
import Derived.Test.YtdiofidmlgliiaaDoorK02
import Derived.Laws.OwnMore
import Derived.Test.YtdiofidmlgliiaaDoorK01
/-
  What Board's Lost answers: the harts that lose what they have reserved ('lostU').
-/
namespace Go.Proofs.YtdiofidmlgliiaaDoor.Mc
open Go.ChangeShapes Go.WideShapes Go.ChangeAt Go.RowKit Mm Hh Hc
set_option linter.unusedVariables false
set_option linter.unusedSimpArgs false

variable {ty : Nat} {rs : List Value}
def lsC (ls : List (Nat × Int)) : List Value := ls.flatMap fun q => [.int .i64 q.1, .int .u32 q.2]
theorem lsC_snoc (ls : List (Nat × Int)) (q : Nat × Int) : lsC (ls ++ [q]) = lsC ls ++ [.int .i64 q.1, .int .u32 q.2] := by simp [lsC]
theorem lsC_len (ls : List (Nat × Int)) : (lsC ls).length = ls.length * 2 := by
  induction ls with
  | nil => rfl
  | cons p r ih => simp only [lsC, List.flatMap_cons, List.length_append, List.length_cons, List.length_nil] at ih ⊢; omega
theorem lsC_get : ∀ (ls : List (Nat × Int)) (i : Nat) (q : Nat × Int), ls[i]? = some q → (lsC ls)[i * 2]? = some (.int .i64 q.1) ∧ (lsC ls)[i * 2 + 1]? = some (.int .u32 q.2)
  | [], i, q, h => by simp at h
  | p :: r, 0, q, h => by simp at h; subst h; exact ⟨rfl, rfl⟩
  | p :: r, i + 1, q, h => by
    have ih := lsC_get r i q (by simpa using h)
    have e : lsC (p :: r) = [.int .i64 p.1, .int .u32 p.2] ++ lsC r := rfl
    rw [e, List.getElem?_append_right (by simp; omega), List.getElem?_append_right (by simp; omega)]
    simp only [List.length_cons, List.length_nil]
    rw [show (i + 1) * 2 - (0 + 1 + 1) = i * 2 by omega, show (i + 1) * 2 + 1 - (0 + 1 + 1) = i * 2 + 1 by omega]
    exact ih
theorem two_lost (a b : Int) : ∀ u ∈ [Value.int .i64 a, Value.int .u32 b], u.oneCell' = true := by
  intro u hu
  simp only [List.mem_cons, List.not_mem_nil, or_false] at hu
  rcases hu with rfl | rfl <;> rfl
theorem infoL : (Tryd.prog.info? 88).map (fun i => (i.zero, i.size, i.bytes)) = some (some (.agg #[.int .i64 0, .int .u32 0]), 2, 16) := by kernel_rfl
set_option maxHeartbeats 2000000 in
set_option maxRecDepth 100000 in
theorem Lost_any {w : World} {base g gh hc : Nat} {M O : Value} {s : Sh} (B : Bw ty rs w base g M gh hc O s) (hc4 : s.hs.length ≤ 4) (k : Nat) (p : Int × Int) (p0 : 0 ≤ p.1) (p1 : 0 < p.2) (p2 : p.1 + p.2 ≤ 4096) :
    Calls Tryd.prog 73 #[.pointer (some ⟨g, 0, none⟩), .int .i64 k, .agg #[.int .u32 p.1, .int .u32 (Wd.lo (p.1 + p.2))]] w fun e w' => ∃ v, e = .returned v ∧ w'.ownsRow w.heap.size 88 2 v (lostU k p s.hs s.hs.length).length (lsC (lostU k p s.hs s.hs.length)) ∧ Gr w w' := by
  have HR : Hid (HRow w gh s.hs) := B.row
  have hgl : g < w.heap.size := B.lt
  have hghl : gh < w.heap.size := by obtain ⟨_, e⟩ := B.row.row; exact (Array.getElem?_eq_some_iff.1 e).1
  have k1 : w.cell? ⟨g, 1, none⟩ = some (.slice (some ⟨gh, 0, none⟩) s.hs.length hc) := B.c1
  clear B
  have hlo : Wd.lo (p.1 + p.2) = p.1 + p.2 := by unfold Wd.lo; omega
  have HMe : Hid (∀ h : Hv, h.Ok → ∀ W : World, Calls Tryd.prog 102 #[.int .u32 h.heldAt, .agg #[.int .u32 p.1, .int .u32 (p.1 + p.2)]] W fun e w' => e = .returned (.bool (near h.heldAt p.1 p.2)) ∧ Gr W w') := fun h o W => by
    rw [meets_near o.at0 o.at1 p0 p1 p2 (Int.le_refl _)]
    exact meets_any o.at0 o.at1 p0 (by omega) W
  rw [hlo]
  obtain ⟨f, q⟩ := p
  simp only at *
  generalize hcc : s.hs.length = c at *
  have HC : Hid (s.hs.length = c) := hcc
  generalize s.hs = hs at *
  obtain ⟨i0, hi, hz0, hz1, hz2⟩ := info_parts infoL
  clear hlo hcc
  generalize hT : f + q = t at *
  clear hT
  go_enter Tryd.func73, Tryd.ntmps73
  go_wp2
  go_loopw [17, 7] (fun i v wr => ∃ (j : Nat) (L : Value), j ≤ c ∧ i = .int .i64 j ∧ L = v ∧ wr.ownsRow (w.heap.size + 1) 88 2 L (lostU k (f, q) hs j).length (lsC (lostU k (f, q) hs j)) ∧ Gr (w.alloc (.cells #[.int .u32 f, .int .u32 t] 143)) wr) (fun i _ _ => c - (intOf i).toNat)
  case atStart => exact ⟨0, _, Nat.zero_le _, rfl, rfl, World.ownsRow_nil _ _ _ _, Gr.refl _⟩
  case round =>
    obtain ⟨j, L, hj, rfl, rfl, hown, G⟩ := hrel
    have HO : Hid (wr.ownsRow (w.heap.size + 1) 88 2 L (lostU k (f, q) hs j).length (lsC (lostU k (f, q) hs j))) := hown
    have HG : Hid (Gr (w.alloc (.cells #[.int .u32 f, .int .u32 t] 143)) wr) := G
    clear hown G
    by_cases hlt : j < c
    · obtain ⟨h, hh⟩ : ∃ h, hs[j]? = some h := ⟨_, List.getElem?_eq_getElem (by rw [HC.out]; exact hlt)⟩
      have hgd : hs.getD j hN = h := by simp [List.getD, hh]
      have okh := HR.out.ok h (List.mem_of_getElem? hh)
      have hgw : Gr w wr := ((Gr.refl _).alloc _).trans HG.out
      have RG : Hid (wr.rangeAt gh (j * 37) (hL h)) := (HR.out.of hgw).range hh
      have HLL : Hid ((hL h).length = 37) := hL_len okh
      have HSZ : Hid ((hL h).toArray.size = 37) := by unfold Hid; simp [HLL.out]
      have HONE : Hid ((hL h).toArray.all (·.oneCell') = true) := one_hA h
      have HLU : Hid (lostU k (f, q) hs (j + 1) = lostU k (f, q) hs j ++ (if loses k (f, q) j h = true then [(j, h.heldAt)] else [])) := by unfold Hid; rw [lostU, hgd]
      have hlu := lostU_len k (f, q) hs j
      have HME : Hid (∀ W : World, Calls Tryd.prog 102 #[.int .u32 h.heldAt, .agg #[.int .u32 f, .int .u32 t]] W fun e w' => e = .returned (.bool (near h.heldAt f q)) ∧ Gr W w') := HMe.out h okh
      have HW4 : Hid (∀ Y : Array Value, Gr wr ((wr.alloc (.cells Y 70)).setRow wr.heap.size (hL h).toArray)) := fun Y => gr_setRow ((Gr.refl _).alloc _) (Nat.le_refl _) _
      have HX4 : Hid (∀ Y : Array Value, ((wr.alloc (.cells Y 70)).setRow wr.heap.size (hL h).toArray).heap[wr.heap.size]? = some (.cells (hL h).toArray 70 (0, 0))) := fun Y => setRow_heap _ _ _ _ _ (0, 0) (heap_alloc_new wr _)
      have k33 : ∀ Y : Array Value, ((wr.alloc (.cells Y 70)).setRow wr.heap.size (hL h).toArray).cell? ⟨wr.heap.size, 33, none⟩ = some (.bool h.held) := fun Y => (cell_of_row _ _ _ _ _ _ (HX4.out Y)).trans (by rw [List.getElem?_toArray]; exact hL_fld okh 1)
      have k34 : ∀ Y : Array Value, ((wr.alloc (.cells Y 70)).setRow wr.heap.size (hL h).toArray).cell? ⟨wr.heap.size, 34, none⟩ = some (.int .u32 h.heldAt) := fun Y => (cell_of_row _ _ _ _ _ _ (HX4.out Y)).trans (by rw [List.getElem?_toArray]; exact hL_fld okh 2)
      have HRg : Hid (wr.heap[w.heap.size]? = some (.cells #[.int .u32 f, .int .u32 t] 143 (0, 0))) := Hr.heap_of_gr HG.out (heap_alloc_new w _)
      have r0 : ∀ Y : Array Value, ((wr.alloc (.cells Y 70)).setRow wr.heap.size (hL h).toArray).cell? ⟨w.heap.size, 0, none⟩ = some (.int .u32 f) := fun Y => cell_of_row _ _ _ _ _ _ (Hr.heap_of_gr (HW4.out Y) HRg.out)
      have r1 : ∀ Y : Array Value, ((wr.alloc (.cells Y 70)).setRow wr.heap.size (hL h).toArray).cell? ⟨w.heap.size, 1, none⟩ = some (.int .u32 t) := fun Y => cell_of_row _ _ _ _ _ _ (Hr.heap_of_gr (HW4.out Y) HRg.out)
      have hwr : w.heap.size + 1 ≤ wr.heap.size := by have := HG.out.size; simpa using this
      have HB0 : Hid (0 ≤ h.heldAt) := okh.at0
      clear hh hgd okh hgw HR HMe HRg
      generalize lostU k (f, q) hs j = U at *
      generalize hhd : h.held = bh at *
      generalize hat : h.heldAt = ah at *
      have HLo : Hid (loses k (f, q) j h = (decide (j ≠ k) && (bh && near ah f q))) := by unfold Hid loses; rw [hhd, hat]
      clear hhd hat
      by_cases hjk : j = k
      · have hne : ((j : Int) != (k : Int)) = false := by simp [hjk]
        have HN : Hid (lostU k (f, q) hs (j + 1) = U) := by unfold Hid; rw [HLU.out, HLo.out, decide_eq_false (by simp [hjk])]; simp
        clear hjk HLU HLo
        go_wp2_with (first
            | (refine wpList_load_mid rfl 70 _ rfl gh (j * 37) rfl (hL h) _ ?r1 Tryd.underlying70 rfl (by rw [HLL.out]; exact iH) ?_; (case r1 => exact RG.out))
            | (refine wpList_store_row rfl 70 _ _ rfl wr.heap.size (hL h).toArray rfl rfl 70 _ (heap_alloc_new wr _) (by rw [HSZ.out]; exact iH) (by rw [HSZ.out]; rfl) HONE.out ?_))
        go_roundw
        case rel => exact ⟨j + 1, L, by omega, by go_num, rfl, by rw [HN.out]; exact owns_gr HO.out (HW4.out _), HG.out.trans (HW4.out _)⟩
        case measure => simp [intOf]; omega
      · have hne : ((j : Int) != (k : Int)) = true := by simp; omega
        cases bh with
        | false =>
          have HN : Hid (lostU k (f, q) hs (j + 1) = U) := by unfold Hid; rw [HLU.out, HLo.out]; simp
          clear hjk HLU HLo
          go_wp2_with (first
            | (refine wpList_load_mid rfl 70 _ rfl gh (j * 37) rfl (hL h) _ ?r1 Tryd.underlying70 rfl (by rw [HLL.out]; exact iH) ?_; (case r1 => exact RG.out))
            | (refine wpList_store_row rfl 70 _ _ rfl wr.heap.size (hL h).toArray rfl rfl 70 _ (heap_alloc_new wr _) (by rw [HSZ.out]; exact iH) (by rw [HSZ.out]; rfl) HONE.out ?_))
          go_roundw
          case rel => exact ⟨j + 1, L, by omega, by go_num, rfl, by rw [HN.out]; exact owns_gr HO.out (HW4.out _), HG.out.trans (HW4.out _)⟩
          case measure => simp [intOf]; omega
        | true =>
          cases hnr : near ah f q with
          | false =>
            have HM2 : Hid (∀ W : World, Calls Tryd.prog 102 #[.int .u32 ah, .agg #[.int .u32 f, .int .u32 t]] W fun e w' => e = .returned (.bool false) ∧ Gr W w') := fun W => by have := HME.out W; rwa [hnr] at this
            have HN : Hid (lostU k (f, q) hs (j + 1) = U) := by unfold Hid; rw [HLU.out, HLo.out, hnr]; simp
            clear hjk HLU HLo HME hnr
            go_wp2_with (first
            | (refine wpList_load_mid rfl 70 _ rfl gh (j * 37) rfl (hL h) _ ?r1 Tryd.underlying70 rfl (by rw [HLL.out]; exact iH) ?_; (case r1 => exact RG.out))
            | (refine wpList_store_row rfl 70 _ _ rfl wr.heap.size (hL h).toArray rfl rfl 70 _ (heap_alloc_new wr _) (by rw [HSZ.out]; exact iH) (by rw [HSZ.out]; rfl) HONE.out ?_))
            refine (HM2.out _).mono ?_
            rintro e w1 ⟨rfl, G1⟩
            have HG1 : Hid (Gr wr w1) := (HW4.out _).trans G1
            clear G1 HM2 HW4 HX4 k33 k34 r0 r1 RG
            go_wp2_with fail
            go_roundw
            case rel => exact ⟨j + 1, L, by omega, by go_num, rfl, by rw [HN.out]; exact owns_gr HO.out HG1.out, HG.out.trans HG1.out⟩
            case measure => simp [intOf]; omega
          | true =>
            have HM2 : Hid (∀ W : World, Calls Tryd.prog 102 #[.int .u32 ah, .agg #[.int .u32 f, .int .u32 t]] W fun e w' => e = .returned (.bool true) ∧ Gr W w') := fun W => by have := HME.out W; rwa [hnr] at this
            have HN : Hid (lostU k (f, q) hs (j + 1) = U ++ [(j, ah)]) := by unfold Hid; rw [HLU.out, HLo.out, hnr, decide_eq_true (show j ≠ k from hjk)]; simp
            clear hjk HLU HLo HME hnr
            go_wp2_with (first
            | (refine wpList_load_mid rfl 70 _ rfl gh (j * 37) rfl (hL h) _ ?r1 Tryd.underlying70 rfl (by rw [HLL.out]; exact iH) ?_; (case r1 => exact RG.out))
            | (refine wpList_store_row rfl 70 _ _ rfl wr.heap.size (hL h).toArray rfl rfl 70 _ (heap_alloc_new wr _) (by rw [HSZ.out]; exact iH) (by rw [HSZ.out]; rfl) HONE.out ?_))
            refine (HM2.out _).mono ?_
            rintro e w1 ⟨rfl, G1⟩
            have HG1 : Hid (Gr wr w1) := (HW4.out _).trans G1
            have q34 : w1.cell? ⟨wr.heap.size, 34, none⟩ = some (.int .u32 ah) := (G1.cell _ (by simp)).trans (k34 _)
            have hwr1 : wr.heap.size < w1.heap.size := by have := G1.size; simp at this; omega
            clear G1 HM2 HW4 HX4 k33 k34 r0 r1 RG
            go_wp2_with (at_builtin; refine wpList_append_own _ rfl (.tmp 35) (.tmp 40) 84 rfl (w.heap.size + 1) 88 i0 (.agg #[.int .i64 0, .int .u32 0]) 2 16 Tryd.underlying84 hi hz0 hz1 hz2 rfl (by decide) L U.length (lsC U) rfl (owns_gr HO.out (HG1.out.alloc _)) ⟨w1.heap.size, 0, none⟩ 1 1 [.int .i64 j, .int .u32 ah] rfl rfl (two_cells (by simp) (by simp)) (two_lost _ _) (by unfold maxLen; omega) (by omega) (by simp; omega) ?_; intro v' w2 hown hgrow _; have HO2 : Hid (w2.ownsRow (w.heap.size + 1) 88 2 v' (U.length + 1) (lsC U ++ [.int .i64 j, .int .u32 ah])) := hown; have HG2 : Hid (Gr (w.alloc (.cells #[.int .u32 f, .int .u32 t] 143)) w2) := (((HG.out.trans HG1.out).alloc _).grown hgrow (fun b e => by have := (HO.out.lt b e).1; simp; omega)); clear hown hgrow)
            go_roundw
            case rel => exact ⟨j + 1, v', by omega, by go_num, rfl, by rw [HN.out, lsC_snoc, List.length_append]; exact HO2.out, HG2.out⟩
            case measure => simp [intOf]; omega
    · have ej : j = c := by omega
      go_wp2_with fail
      go_ret
      refine ⟨L, rfl, ?_, ((Gr.refl _).alloc _).trans HG.out⟩
      have := HO.out
      rw [ej] at this
      refine ⟨this.1, ?_⟩
      rcases this.2 with h | ⟨g', cap, cur, hv, hb, r⟩
      · exact .inl h
      · exact .inr ⟨g', cap, cur, hv, by omega, r⟩
end Go.Proofs.YtdiofidmlgliiaaDoor.Mc
/-
  append from whatever slice, nil or not; what a board keeps while its harts, its memory, what came out and its steps are set.
-/
namespace Go.Proofs.YtdiofidmlgliiaaDoor.Mc
open Go.ChangeShapes Go.WideShapes Go.ChangeAt Go.RowKit Mm Hh Hc
set_option linter.unusedVariables false
set_option linter.unusedSimpArgs false

variable {ty : Nat} {rs : List Value}
/-- The slice vx, nil or not, reads as m elements of sz cells: news. -/
def Src (w : World) (vx : Value) (m sz : Nat) (news : List Value) : Prop :=
  (vx = .slice none 0 0 ∧ m = 0 ∧ news = []) ∨ ∃ ad c, vx = .slice (some ad) m c ∧ news.length = m * sz ∧ ∀ j u, news[j]? = some u → w.cell? (ad.add j) = some u
theorem Src.own {w : World} {base e sz n : Nat} {v : Value} {xs : List Value} (h : w.ownsRow base e sz v n xs) : Src w v n sz xs := by
  obtain ⟨hl, h⟩ := h
  rcases h with ⟨rfl, rfl⟩ | ⟨g, cap, cur, rfl, _, hg, _, _, _, ht⟩
  · exact .inl ⟨rfl, rfl, List.eq_nil_of_length_eq_zero (by simpa using hl)⟩
  · refine .inr ⟨_, cap, rfl, hl, fun j u hj => ?_⟩
    rw [add_at, Nat.zero_add, cr hg]
    rw [← ht] at hj
    rw [List.getElem?_take] at hj
    split at hj
    · simpa using hj
    · cases hj
theorem Src.gr {w w' : World} {vx : Value} {m sz : Nat} {news : List Value} (h : Src w vx m sz news) (G : Gr w w') : Src w' vx m sz news := by
  rcases h with h | ⟨ad, c, e, hl, hc⟩
  · exact .inl h
  · exact .inr ⟨ad, c, e, hl, fun j u hj => (G.cell _ (World.block_lt_of_cell? w _ (hc j u hj))).trans (hc j u hj)⟩
section
variable {P : Program} {w : World} {base e size bytes n m : Nat} {i : TypeInfo} {z : Value} {t : TypeId}
theorem run_append_src (ty : TypeId) (h1 : P.underlying t = some (.slice e)) (h2 : P.info? e = some i) (h3 : i.zero = some z) (h4 : i.size = size) (h5 : i.bytes = bytes) (h6 : z.cells.size = size) (h7 : 0 < size)
    {v vx : Value} {olds news : List Value} (hown : w.ownsRow base e size v n olds) (hsrc : Src w vx m size news) (h1c : ∀ u ∈ news, u.oneCell' = true) (b1 : n + m ≤ maxLen) (b2 : (n + m) * bytes ≤ 140737488355328) (hbase : base ≤ w.heap.size) :
    ∃ v' w', (Builtin.append_ #[t, t] ty #[v, vx]).run P w = .ok v' w' ∧ w'.ownsRow base e size v' (n + m) (olds ++ news) ∧ w.grownBy w' v.ownBlock := by
  rcases hsrc with ⟨rfl, rfl, rfl⟩ | ⟨ad, c, rfl, hl, hc⟩
  · exact ⟨v, w, run_append_owned_none w base t ty e i size h1 h2 v n olds hown, by simpa using hown, ⟨rfl, rfl, rfl, Nat.le_refl _, fun _ _ _ => rfl⟩⟩
  · obtain ⟨v', w', hrun, r1, r2, _⟩ := run_append_own (P := P) w base t ty e i z size bytes h1 h2 h3 h4 h5 h6 h7 v n olds hown ad m c news hl hc h1c b1 b2 hbase
    exact ⟨v', w', hrun, r1, r2⟩
theorem step_append_src {ops : Array Oper} {o : Oper} {a : Act} {K : Act → World → Prop} {Q : Exit → Act → World → Prop} {E : Prop}
    (hg : o.guard = none) (s x : Operand) (hop : o.op = Op.call { callee := Callee.builtin Builtin.append, args := #[s, x], argTypes := #[t, t] })
    (h1 : P.underlying t = some (.slice e)) (h2 : P.info? e = some i) (h3 : i.zero = some z) (h4 : i.size = size) (h5 : i.bytes = bytes) (h6 : z.cells.size = size) (h7 : 0 < size)
    {v vx : Value} {olds news : List Value} (hs : a.eval s = v) (hx : a.eval x = vx) (hown : w.ownsRow base e size v n olds) (hsrc : Src w vx m size news) (h1c : ∀ u ∈ news, u.oneCell' = true) (b1 : n + m ≤ maxLen) (b2 : (n + m) * bytes ≤ 140737488355328) (hbase : base ≤ w.heap.size)
    (hK : ∀ v' w', w'.ownsRow base e size v' (n + m) (olds ++ news) → w.grownBy w' v.ownBlock → K (a.put o.dst v') w') :
    if Region.wanted o (yielded ops a.tmps) = true then Oper.wp P o a w K Q else E := by
  have hw : Region.wanted o (yielded ops a.tmps) = true := by simp [Region.wanted, hg]
  rw [if_pos hw]
  obtain ⟨v', w', hrun, r1, r2⟩ := run_append_src (P := P) o.type h1 h2 h3 h4 h5 h6 h7 hown hsrc h1c b1 b2 hbase
  unfold Oper.wp
  simp [execOp, hop, resolve, invoke, builtin, hs, hx, hrun, Result.andThen]
  exact hK v' w' r1 r2
theorem wpList_append_src {ops : Array Oper} {rest : List Oper} {o : Oper} {a : Act} {Q : Exit → Act → World → Prop}
    (hg : o.guard = none) (s x : Operand) (hop : o.op = Op.call { callee := Callee.builtin Builtin.append, args := #[s, x], argTypes := #[t, t] })
    (h1 : P.underlying t = some (.slice e)) (h2 : P.info? e = some i) (h3 : i.zero = some z) (h4 : i.size = size) (h5 : i.bytes = bytes) (h6 : z.cells.size = size) (h7 : 0 < size)
    {v vx : Value} {olds news : List Value} (hs : a.eval s = v) (hx : a.eval x = vx) (hown : w.ownsRow base e size v n olds) (hsrc : Src w vx m size news) (h1c : ∀ u ∈ news, u.oneCell' = true) (b1 : n + m ≤ maxLen) (b2 : (n + m) * bytes ≤ 140737488355328) (hbase : base ≤ w.heap.size)
    (hK : ∀ v' w', w'.ownsRow base e size v' (n + m) (olds ++ news) → w.grownBy w' v.ownBlock → wpList P ops Q rest (a.put o.dst v') w') : wpList P ops Q (o :: rest) a w := by
  refine wpList_plain hg fun K hk => ?_
  obtain ⟨v', w', hrun, r1, r2⟩ := run_append_src (P := P) o.type h1 h2 h3 h4 h5 h6 h7 hown hsrc h1c b1 b2 hbase
  unfold Oper.wp
  simp [execOp, hop, resolve, invoke, builtin, hs, hx, hrun, Result.andThen]
  exact hk _ _ (hK v' w' r1 r2)
end
theorem step_store_mid {P : Program} {ops : Array Oper} {o : Oper} {a : Act} {w : World} {K : Act → World → Prop} {Q : Exit → Act → World → Prop} {E : Prop} (hg : o.guard = none) (ty : TypeId) (x y : Operand) (ho : o.op = .store ty x y)
    (b j : Nat) (cells : Array Value) (hx : a.eval x = .pointer (some ⟨b, j, none⟩)) (hy : a.eval y = .agg cells) (ht : w.there b j cells.size) (hi : (P.info? ty).map (·.size) = some cells.size) (h1 : cells.all (·.oneCell') = true)
    (h : K (a.put o.dst undef) (w.setCells b j cells.toList)) : if Region.wanted o (yielded ops a.tmps) = true then Oper.wp P o a w K Q else E := by
  rw [if_pos (by simp [Region.wanted, hg])]
  exact wp_store_mid ty x y ho b j cells hx hy ht hi h1 h
theorem held_store_mid {P : Program} {md : Region.Mode} {ops : Array Oper} {Q : Exit → Act → World → Prop} {S : World → Prop} {fuel i : Nat} {listed : Array Bool} {o : Oper} {a : Act} {w : World} (hr : Region.ready md ops listed = [i]) (hoi : ops[i]? = some o) (hg : o.guard = none) (ty : TypeId) (x y : Operand) (ho : o.op = .store ty x y)
    (b j : Nat) (cells : Array Value) (hx : a.eval x = .pointer (some ⟨b, j, none⟩)) (hy : a.eval y = .agg cells) (ht : w.there b j cells.size) (hi : (P.info? ty).map (·.size) = some cells.size) (h1 : cells.all (·.oneCell') = true)
    (hS : S (w.setCells b j cells.toList)) (h : wpAnyH P md ops Q S fuel (listed.setIfInBounds i true) (a.put o.dst undef) (w.setCells b j cells.toList)) : wpAnyH P md ops Q S (fuel + 1) listed a w :=
  wpAnyH_ready hr (by simp) (AllReadyH.cons hoi (fun K hK => step_store_mid hg ty x y ho b j cells hx hy ht hi h1 (hK.out _ _ hS fun _ => h)) AllReadyH.nil)
theorem words_one (os : List Int) : ∀ u ∈ os.map (Value.int .u32), u.oneCell' = true := by
  intro u hu
  obtain ⟨b, _, rfl⟩ := List.mem_map.1 hu
  rfl
theorem infoW : (Tryd.prog.info? 59).map (fun i => (i.zero, i.size, i.bytes)) = some (some (Value.int .u32 0), 1, 4) := by kernel_rfl

/-- Only the harts' block has turned: what is of another type is as it was. -/
theorem ch_keep {w w' : World} {gh : Nat} {hs : List Hv} (R : HRow w gh hs) (q : Ch gh w w') {t : Nat} (ht : t ≠ 70) {k : Nat} {o : Array Value} {f : Nat × Nat} (hk : w.heap[k]? = some (.cells o t f)) : w'.heap[k]? = w.heap[k]? := by
  obtain ⟨rest, e⟩ := R.row
  exact q.block k (gs hk).1 (fun h => ne_of_types hk e ht (by injection h))
theorem Bw.ch {w w' : World} {base g gh hc : Nat} {M O : Value} {s : Sh} (B : Bw ty rs w base g M gh hc O s) (q : Ch gh w w') {hs : List Hv} (R : HRow w' gh hs) (hl : hs.length = s.hs.length) : Bw ty rs w' base g M gh hc O ⟨hs, s.m, s.out, s.steps⟩ :=
  ⟨B.t1, B.t2, B.t3, B.bg, by show w'.heap[g]? = some (.cells (M :: .slice (some ⟨gh, 0, none⟩) hs.length hc :: O :: .int .i64 s.steps :: rs).toArray _ _); rw [hl]; exact (ch_keep B.row q B.t3 B.blk).trans B.blk, B.mem.to fun k o f hk => ch_keep B.row q (by decide) hk, B.bh, R, owns_to B.out fun k o f hk => ch_keep B.row q (by decide) hk⟩
theorem Dq.ch {w w' : World} {b gh : Nat} {d : Qv} {x : Wk} {hs : List Hv} (D : Dq w b d x) (R : HRow w gh hs) (q : Ch gh w w') : Dq w' b d x :=
  ⟨D.hh, D.n, D.mem.to fun k o f hk => ch_keep R q (by decide) hk, owns_to D.out fun k o f hk => ch_keep R q (by decide) hk, owns_to D.sto fun k o f hk => ch_keep R q (by decide) hk⟩
theorem Ch.ofGr {g : Nat} {w w' : World} (G : Gr w w') : Ch g w w' := (Ch.refl g w).gr G
theorem Dq.gr {w w' : World} {b : Nat} {d : Qv} {x : Wk} (D : Dq w b d x) (G : Gr w w') : Dq w' b d x :=
  ⟨D.hh, D.n, own_gr D.mem G, owns_gr D.out G, owns_gr D.sto G⟩
theorem Ch.setCells {g : Nat} {a w : World} (h : Ch g a w) : ∀ (vs : List Value) (o : Nat), Ch g a (w.setCells g o vs)
  | [], o => h
  | v :: r, o => by rw [World.setCells]; exact Ch.setCells (h.setCell o v) r (o + 1)
theorem Bw.fz {w : World} {base g gh hc : Nat} {M O : Value} {s : Sh} (B : Bw ty rs w base g M gh hc O s) (i : Nat) : w.frozen? ⟨g, i, none⟩ = false := fzr B.blk
theorem Bw.base_le {w : World} {base g gh hc : Nat} {M O : Value} {s : Sh} (B : Bw ty rs w base g M gh hc O s) : base ≤ w.heap.size := Nat.le_trans B.bg (Nat.le_of_lt (gs B.blk).1)
/-- A cell of the board's own block set: what is of another type is as it was. -/
theorem bw_other {w : World} {base g gh hc : Nat} {M O : Value} {s : Sh} (B : Bw ty rs w base g M gh hc O s) (i : Nat) (v : Value) {t : Nat} (ht : t ≠ ty) {k : Nat} {o : Array Value} {f : Nat × Nat} (hk : w.heap[k]? = some (.cells o t f)) : (w.setCell ⟨g, i, none⟩ v).heap[k]? = w.heap[k]? :=
  hso (by exact ne_of_types hk B.blk ht)
theorem HRow.to {w w' : World} {g : Nat} {hs : List Hv} (r : HRow w g hs) (h : ∀ (k : Nat) (o : Array Value) (f : Nat × Nat), w.heap[k]? = some (.cells o 70 f) → w'.heap[k]? = w.heap[k]?) : HRow w' g hs := by
  obtain ⟨rest, e⟩ := r.row
  exact ⟨r.ok, rest, (h _ _ _ e).trans e⟩
theorem Bw.setM {w : World} {base g gh hc : Nat} {M O : Value} {s : Sh} (B : Bw ty rs w base g M gh hc O s) {M' : Value} {m' : List UInt8} (h : Own w 0 M' m') : Bw ty rs (w.setCell ⟨g, 0, none⟩ M') base g M' gh hc O ⟨s.hs, m', s.out, s.steps⟩ :=
  ⟨B.t1, B.t2, B.t3, B.bg, by rw [hss B.blk]; simp, h.to fun k o f hk => bw_other B _ _ B.t1.symm hk, B.bh, B.row.to fun k o f hk => bw_other B _ _ B.t3.symm hk, owns_to B.out fun k o f hk => bw_other B _ _ B.t2.symm hk⟩
theorem Bw.setN {w : World} {base g gh hc : Nat} {M O : Value} {s : Sh} (B : Bw ty rs w base g M gh hc O s) (n' : Nat) : Bw ty rs (w.setCell ⟨g, 3, none⟩ (.int .i64 n')) base g M gh hc O ⟨s.hs, s.m, s.out, n'⟩ :=
  ⟨B.t1, B.t2, B.t3, B.bg, by rw [hss B.blk]; simp, B.mem.to fun k o f hk => bw_other B _ _ B.t1.symm hk, B.bh, B.row.to fun k o f hk => bw_other B _ _ B.t3.symm hk, owns_to B.out fun k o f hk => bw_other B _ _ B.t2.symm hk⟩
/-- A cell behind the board set. -/
theorem Bw.setR {w : World} {base g gh hc : Nat} {M O : Value} {s : Sh} (B : Bw ty rs w base g M gh hc O s) (i : Nat) (v : Value) : Bw ty (rs.set i v) (w.setCell ⟨g, 4 + i, none⟩ v) base g M gh hc O s :=
  ⟨B.t1, B.t2, B.t3, B.bg, by rw [hss B.blk, List.setIfInBounds_toArray, Nat.add_comm]; rfl, B.mem.to fun k o f hk => bw_other B _ _ B.t1.symm hk, B.bh, B.row.to fun k o f hk => bw_other B _ _ B.t3.symm hk, owns_to B.out fun k o f hk => bw_other B _ _ B.t2.symm hk⟩
/-- What a board's method leaves: of what lay below 'base' nothing has turned, nor any block but those of type ty, of harts or of words. -/
structure Fe (ty : Nat) (base : Nat) (w w' : World) : Prop where
  below : Below base w w'
  keep : ∀ (k : Nat) (o : Obj), w.heap[k]? = some o → (∀ q f, ¬ o = .cells q ty f) → (∀ q f, ¬ o = .cells q 70 f) → (∀ q f, ¬ o = .cells q 59 f) → w'.heap[k]? = some o
theorem Fe.refl (base : Nat) (w : World) : Fe ty base w w := ⟨Below.refl _ _, fun _ _ h _ _ _ => h⟩
theorem Fe.trans {base : Nat} {a b c : World} (h : Fe ty base a b) (k : Fe ty base b c) : Fe ty base a c := ⟨h.below.trans k.below, fun i o e t1 t2 t3 => k.keep i o (h.keep i o e t1 t2 t3) t1 t2 t3⟩
theorem Fe.ofGr {base : Nat} {w w' : World} (G : Gr w w') (hb : base ≤ w.heap.size) : Fe ty base w w' := ⟨Below.mono G hb, fun i o e _ _ _ => (G.block i (gs e).1).trans e⟩
theorem Fe.gr {base : Nat} {a w w' : World} (h : Fe ty base a w) (G : Gr w w') (hb : base ≤ w.heap.size) : Fe ty base a w' := h.trans (Fe.ofGr G hb)
theorem Fe.drew {base : Nat} {a w : World} (h : Fe ty base a w) : Fe ty base a w.drew := ⟨h.below.drew, h.keep⟩
theorem Fe.ch {base : Nat} {w w' : World} {gh : Nat} {hs : List Hv} (R : HRow w gh hs) (q : Ch gh w w') (hg : base ≤ gh) (hb : base ≤ w.heap.size) : Fe ty base w w' := ⟨q.below hg hb, fun i o e _ t2 _ => by
  obtain ⟨rest, e2⟩ := R.row
  refine (q.block i (gs e).1 (fun h => ?_)).trans e
  injection h with h
  subst h
  rw [e2] at e
  injection e with e
  exact t2 _ _ e.symm⟩
theorem Fe.setCell {base : Nat} {a w : World} {g : Nat} {Y : Array Value} {f : Nat × Nat} (h : Fe ty base a w) (hy : w.heap[g]? = some (.cells Y ty f)) (hg : base ≤ g) (i : Nat) (v : Value) : Fe ty base a (w.setCell ⟨g, i, none⟩ v) := ⟨Below.setCell h.below (by exact hg) _, fun k o e t1 t2 t3 => by
  have e2 := h.keep k o e t1 t2 t3
  rw [hso (by
    show k ≠ g
    intro ek
    subst ek
    rw [hy] at e2
    injection e2 with e2
    exact t1 _ _ e2.symm)]
  exact e2⟩
theorem Fe.grown {base : Nat} {w w' : World} {O : Value} {n : Nat} {xs : List Value} (hO : w.ownsRow base 59 1 O n xs) (q : w.grownBy w' O.ownBlock) (hb : base ≤ w.heap.size) : Fe ty base w w' := ⟨(Below.refl base w).grown q hb fun k e => (hO.lt k e).1, fun k o e _ _ t3 => (q.block k (gs e).1 (fun h => by
    rcases hO.2 with ⟨h0, _⟩ | ⟨g', cap, cur, hv, _, hg, _⟩
    · rw [h0] at h; cases h
    · rw [hv] at h
      injection h with h
      subst h
      rw [hg] at e
      injection e with e
      exact t3 _ _ e.symm)).trans e⟩
/-- A block of cells of another type stays. -/
theorem Fe.cells {base : Nat} {w w' : World} (h : Fe ty base w w') {k : Nat} {q : Array Value} {t : Nat} {f : Nat × Nat} (e : w.heap[k]? = some (.cells q t f)) (t1 : t ≠ ty) (t2 : t ≠ 70) (t3 : t ≠ 59) : w'.heap[k]? = w.heap[k]? :=
  (h.keep k _ e (fun _ _ c => t1 (by injection c)) (fun _ _ c => t2 (by injection c)) (fun _ _ c => t3 (by injection c))).trans e.symm
/-- What came out, appended to: behind the append, and behind the store. -/
theorem grown_keep {w w' : World} {base : Nat} {O : Value} {n : Nat} {xs : List Value} {e sz : Nat} (hO : w.ownsRow base e sz O n xs) (q : w.grownBy w' O.ownBlock) {t : Nat} (ht : t ≠ e) {k : Nat} {o : Array Value} {f : Nat × Nat} (hk : w.heap[k]? = some (.cells o t f)) : w'.heap[k]? = w.heap[k]? :=
  q.block k (gs hk).1 (fun h => by
    rcases hO.2 with ⟨h0, _⟩ | ⟨g', cap, cur, hv, _, hg, _⟩
    · rw [h0] at h; cases h
    · rw [hv] at h
      injection h with h
      exact ne_of_types hk hg ht h)
theorem Bw.grown {w w' : World} {base g gh hc : Nat} {M O : Value} {s : Sh} (B : Bw ty rs w base g M gh hc O s) (q : w.grownBy w' O.ownBlock) {v : Value} {os : List Int} (ho : w'.ownsRow base 59 1 v os.length (os.map (Value.int .u32))) :
    w'.cell? ⟨g, 2, none⟩ = some O ∧ w'.frozen? ⟨g, 2, none⟩ = false ∧ Bw ty rs (w'.setCell ⟨g, 2, none⟩ v) base g M gh hc v ⟨s.hs, s.m, os, s.steps⟩ ∧ Fe ty base w (w'.setCell ⟨g, 2, none⟩ v) := by
  have st : ∀ {t : Nat}, t ≠ 59 → ∀ {k : Nat} {o : Array Value} {f : Nat × Nat}, w.heap[k]? = some (.cells o t f) → w'.heap[k]? = w.heap[k]? := fun ht _ _ _ hk => grown_keep B.out q ht hk
  have hb := (st B.t2 B.blk).trans B.blk
  have ne : ∀ {t : Nat}, t ≠ ty → ∀ {k : Nat} {o : Array Value} {f : Nat × Nat}, w'.heap[k]? = some (.cells o t f) → (w'.setCell ⟨g, 2, none⟩ v).heap[k]? = w'.heap[k]? := fun ht _ _ _ hk => hso (by exact ne_of_types hk hb ht)
  have two : ∀ {t : Nat}, t ≠ ty → t ≠ 59 → ∀ {k : Nat} {o : Array Value} {f : Nat × Nat}, w.heap[k]? = some (.cells o t f) → (w'.setCell ⟨g, 2, none⟩ v).heap[k]? = w.heap[k]? := fun h1 h2 _ _ _ hk => by
    have e := st h2 hk
    exact (ne h1 (e.trans hk)).trans e
  refine ⟨(cr hb).trans (by simp), fzr hb, ⟨B.t1, B.t2, B.t3, B.bg, by rw [hss hb]; simp, B.mem.to fun k o f hk => two B.t1.symm (by decide) hk, B.bh, B.row.to fun k o f hk => two B.t3.symm (by decide) hk, owns_to ho fun k o f hk => ne B.t2.symm hk⟩, ?_⟩
  exact Fe.setCell (Fe.grown B.out q B.base_le) hb B.bg _ _
end Go.Proofs.YtdiofidmlgliiaaDoor.Mc
/-
  What steps have changed, as the cells of structs (api.Undo): in slices that are read ('Us'), and in rows of the program's own ('Ux').
-/
namespace Go.Proofs.YtdiofidmlgliiaaDoor.Ud
open Go.ChangeShapes Go.WideShapes Go.ChangeAt Go.RowKit Mm Hh Hc Mc
set_option linter.unusedVariables false
set_option linter.unusedSimpArgs false

variable {w w' : World} {u : Uv} {b l : Value} {ao : Option Addr} {n : Nat}
/-- The cells of an Undo: b its bytes, l the harts that lost, as slices. -/
def uL (u : Uv) (b l : Value) : List Value := .int .i64 u.k :: (hL u.was ++ [.int .u32 u.fr, b, l])
theorem uL_len (o : u.was.Ok) : (uL u b l).length = 41 := by simp [uL, hL_len o]
theorem uL_0 : (uL u b l)[0]? = some (.int .i64 u.k) := rfl
theorem uL_was (o : u.was.Ok) {j : Nat} (hj : j < 37) : (uL u b l)[1 + j]? = (hL u.was)[j]? := by
  have := hL_len o
  unfold uL
  rw [Nat.add_comm, List.getElem?_cons_succ, List.getElem?_append_left (by omega)]
theorem uL_fld (o : u.was.Ok) (j : Nat) : (uL u b l)[38 + j]? = [Value.int .u32 u.fr, b, l][j]? := by
  have h := hL_len o
  unfold uL
  rw [show 38 + j = 37 + j + 1 by omega, List.getElem?_cons_succ, List.getElem?_append_right (by omega), h, Nat.add_sub_cancel_left]
theorem hL_one (h : Hv) : ∀ v ∈ hL h, v.oneCell' = true := fun v hv => by
  simp only [hL, List.mem_append, List.mem_map, List.mem_cons, List.not_mem_nil, or_false] at hv
  rcases hv with ⟨n, _, rfl⟩ | rfl | rfl | rfl | rfl | rfl <;> rfl
theorem uL_one (h1 : b.oneCell' = true) (h2 : l.oneCell' = true) : ∀ v ∈ uL u b l, v.oneCell' = true := fun v hv => by
  simp only [uL, List.mem_cons, List.mem_append, List.not_mem_nil, or_false] at hv
  rcases hv with rfl | h | rfl | rfl | rfl
  · rfl
  · exact hL_one _ v h
  · rfl
  · exact h1
  · exact h2
theorem uA_one (h1 : b.oneCell' = true) (h2 : l.oneCell' = true) : (uL u b l).toArray.all (·.oneCell') = true := all_oneCell_toArray (uL_one h1 h2)
theorem iU : (Tryd.prog.info? 86).map (·.size) = some 41 := by kernel_rfl
def h00 : Uv := ⟨0, h0, 0, [], []⟩
theorem zU : (Tryd.prog.info? 86).bind (·.zero) = some (.agg (uL h00 nilS nilS).toArray) := by kernel_rfl
theorem infoU : (Tryd.prog.info? 86).map (fun i => (i.zero, i.size, i.bytes)) = some (some (.agg (uL h00 nilS nilS).toArray), 41, 224) := by kernel_rfl
theorem rangeAt_of {b o : Nat} {cs : List Value} (h : w.rangeAt b o cs) (hb : b < w.heap.size) (G : Gr w w') : w'.rangeAt b o cs := fun j v hv => (G.cell _ (by exact hb)).trans (h j v hv)
/-- Harts that lost, as cells. -/
def lsI (ls : List (Int × Int)) : List Value := ls.flatMap fun q => [.int .i64 q.1, .int .u32 q.2]
theorem lsI_lostI (ls : List (Nat × Int)) : lsI (lostI ls) = lsC ls := by
  induction ls with
  | nil => rfl
  | cons q r ih => simp only [lsI, lostI, lsC, List.map_cons, List.flatMap_cons] at ih ⊢; rw [ih]
theorem lsI_len (ls : List (Int × Int)) : (lsI ls).length = ls.length * 2 := by
  induction ls with
  | nil => rfl
  | cons p r ih => simp only [lsI, List.flatMap_cons, List.length_append, List.length_cons, List.length_nil] at ih ⊢; omega
theorem lsI_snoc (ls : List (Int × Int)) (q : Int × Int) : lsI (ls ++ [q]) = lsI ls ++ [.int .i64 q.1, .int .u32 q.2] := by simp [lsI]
theorem lsI_get : ∀ (ls : List (Int × Int)) (i : Nat) (q : Int × Int), ls[i]? = some q → (lsI ls)[i * 2]? = some (.int .i64 q.1) ∧ (lsI ls)[i * 2 + 1]? = some (.int .u32 q.2)
  | [], i, q, h => by simp at h
  | p :: r, 0, q, h => by simp at h; subst h; exact ⟨rfl, rfl⟩
  | p :: r, i + 1, q, h => by
    have ih := lsI_get r i q (by simpa using h)
    have e : lsI (p :: r) = [.int .i64 p.1, .int .u32 p.2] ++ lsI r := rfl
    rw [e, List.getElem?_append_right (by simp; omega), List.getElem?_append_right (by simp; omega)]
    simp only [List.length_cons, List.length_nil]
    rw [show (i + 1) * 2 - (0 + 1 + 1) = i * 2 by omega, show (i + 1) * 2 + 1 - (0 + 1 + 1) = i * 2 + 1 by omega]
    exact ih
/-- In world w, the slice at ao of n elements reads as harts that lost. -/
structure Ls (w : World) (ao : Option Addr) (n : Nat) (ls : List (Int × Int)) : Prop where
  len : ls.length = n
  spot : 0 < n → ∃ b o, ao = some ⟨b, o, none⟩ ∧ b < w.heap.size ∧ ∀ i p, ls[i]? = some p → w.cell? ⟨b, o + i * 2, none⟩ = some (.int .i64 p.1) ∧ w.cell? ⟨b, o + i * 2 + 1, none⟩ = some (.int .u32 p.2)
theorem Ls.of {ls : List (Int × Int)} (h : Ls w ao n ls) (g : Gr w w') : Ls w' ao n ls :=
  ⟨h.len, fun hn => by
    obtain ⟨b, o, e, hb, hc⟩ := h.spot hn
    exact ⟨b, o, e, Nat.lt_of_lt_of_le hb g.size, fun i q hq => ⟨(g.cell _ (by exact hb)).trans (hc i q hq).1, (g.cell _ (by exact hb)).trans (hc i q hq).2⟩⟩⟩
theorem Ls.below {n0 : Nat} {ls : List (Int × Int)} (h : Ls w ao n ls) (hb : ∀ ad, ao = some ad → 0 < n → ad.block < n0) (g : Below n0 w w') : Ls w' ao n ls :=
  ⟨h.len, fun hn => by
    obtain ⟨b, o, rfl, hl, hc⟩ := h.spot hn
    have hb2 := hb _ rfl hn
    exact ⟨b, o, rfl, Nat.lt_of_lt_of_le hl g.size, fun i q hq => ⟨(g.cell (by exact hb2)).trans (hc i q hq).1, (g.cell (by exact hb2)).trans (hc i q hq).2⟩⟩⟩
/-- An Undo as cells that are read. -/
def Uc (w : World) (u : Uv) (x : List Value) : Prop := ∃ ba bn bc la ln lc, x = uL u (.slice ba bn bc) (.slice la ln lc) ∧ u.Ok ∧ (-9223372036854775808 ≤ u.k ∧ u.k ≤ 9223372036854775807) ∧ (∀ q ∈ u.lost, -9223372036854775808 ≤ q.1 ∧ q.1 ≤ 9223372036854775807) ∧ Mem w ba bn u.bs ∧ Ls w la ln u.lost ∧ bn ≤ 140737488351232 ∧ ln ≤ 8796093022208
theorem Uc.of {x : List Value} (h : Uc w u x) (G : Gr w w') : Uc w' u x := by
  obtain ⟨ba, bn, bc, la, ln, lc, e, o, k1, k2, M, L, b1, b2⟩ := h
  exact ⟨ba, bn, bc, la, ln, lc, e, o, k1, k2, M.of G, L.of G, b1, b2⟩
theorem Uc.len {x : List Value} (h : Uc w u x) : x.length = 41 := by
  obtain ⟨ba, bn, bc, la, ln, lc, rfl, o, _⟩ := h
  exact uL_len o.was
theorem Uc.one {x : List Value} (h : Uc w u x) : x.toArray.all (·.oneCell') = true := by
  obtain ⟨ba, bn, bc, la, ln, lc, rfl, o, _⟩ := h
  exact uA_one rfl rfl
/-- In world w, the slice at ao of n elements reads as the Undos us. -/
structure Us (w : World) (ao : Option Addr) (n : Nat) (us : List Uv) : Prop where
  len : us.length = n
  spot : 0 < n → ∃ b o, ao = some ⟨b, o, none⟩ ∧ b < w.heap.size ∧ ∀ j u, us[j]? = some u → ∃ x, Uc w u x ∧ w.rangeAt b (o + j * 41) x
theorem Us.of {us : List Uv} (h : Us w ao n us) (G : Gr w w') : Us w' ao n us :=
  ⟨h.len, fun hn => by
    obtain ⟨b, o, e, hb, hc⟩ := h.spot hn
    refine ⟨b, o, e, Nat.lt_of_lt_of_le hb G.size, fun j u hj => ?_⟩
    obtain ⟨x, h1, h2⟩ := hc j u hj
    exact ⟨x, h1.of G, rangeAt_of h2 hb G⟩⟩
/-- An Undo as cells of the program's own: its bytes and those that lost lie in rows of its own. -/
def Uo (w : World) (u : Uv) (x : List Value) : Prop := ∃ M L, x = uL u M L ∧ Hc.Own w 0 M u.bs ∧ w.ownsRow 0 88 2 L u.lost.length (lsI u.lost)
/-- What keeps rows of bytes and of those that lost. -/
def Ky (w w' : World) : Prop := ∀ (k : Nat) (o : Array Value) (t : Nat) (f : Nat × Nat), (t = 5 ∨ t = 88) → w.heap[k]? = some (.cells o t f) → w'.heap[k]? = w.heap[k]?
theorem Ky.ofGr (G : Gr w w') : Ky w w' := fun k o t f _ h => G.block _ (gs h).1
theorem Uo.to {x : List Value} (h : Uo w u x) (q : Ky w w') : Uo w' u x := by
  obtain ⟨M, L, e, h1, h2⟩ := h
  exact ⟨M, L, e, h1.to fun k o f hk => q k o _ f (.inl rfl) hk, owns_to h2 fun k o f hk => q k o _ f (.inr rfl) hk⟩
theorem Uo.one {x : List Value} (h : Uo w u x) : ∀ v ∈ x, v.oneCell' = true := by
  obtain ⟨M, L, rfl, h1, h2⟩ := h
  obtain ⟨a, c, rfl, _⟩ := h1.mem
  exact uL_one rfl (owns_cells h2).2.1
structure Ux (w : World) (us : List Uv) (xs : List Value) : Prop where
  len : xs.length = us.length * 41
  at_ : ∀ (j : Nat) (u : Uv), us[j]? = some u → ∃ x, Uo w u x ∧ x.length = 41 ∧ ∀ i v, x[i]? = some v → xs[j * 41 + i]? = some v
theorem Ux.nil (w : World) : Ux w [] [] := ⟨rfl, fun j u h => by simp at h⟩
theorem Ux.to {us : List Uv} {xs : List Value} (h : Ux w us xs) (q : Ky w w') : Ux w' us xs :=
  ⟨h.len, fun j u hj => by
    obtain ⟨x, h1, h2⟩ := h.at_ j u hj
    exact ⟨x, h1.to q, h2⟩⟩
theorem Ux.snoc {us : List Uv} {xs x : List Value} (h : Ux w us xs) (k : Uo w u x) (hx : x.length = 41) : Ux w (us ++ [u]) (xs ++ x) := by
  have hl := h.len
  refine ⟨by rw [List.length_append, List.length_append, hl, hx]; simp; omega, fun j c hc => ?_⟩
  by_cases hj : j < us.length
  · rw [List.getElem?_append_left hj] at hc
    obtain ⟨y, h1, h2, h3⟩ := h.at_ j c hc
    refine ⟨y, h1, h2, fun i v hi => ?_⟩
    have : i < 41 := by have := (List.getElem?_eq_some_iff.1 hi).1; omega
    rw [List.getElem?_append_left (by omega)]
    exact h3 i v hi
  · rw [List.getElem?_append_right (by omega)] at hc
    have hj2 : j = us.length := by
      have := (List.getElem?_eq_some_iff.1 hc).1
      simp at this
      omega
    subst hj2
    simp at hc
    subst hc
    refine ⟨x, k, hx, fun i v hi => ?_⟩
    rw [List.getElem?_append_right (by omega), hl, Nat.add_sub_cancel_left]
    exact hi
theorem owns_read {base e sz c : Nat} {a : Option Addr} {xs : List Value} (h : w.ownsRow base e sz (.slice a n c) n xs) (hn : 0 < n) : ∃ g, a = some ⟨g, 0, none⟩ ∧ g < w.heap.size ∧ ∀ j v, xs[j]? = some v → w.cell? ⟨g, j, none⟩ = some v := by
  rcases h.2 with ⟨e0, hz⟩ | ⟨g, cap, cur, e1, _, hg, _, _, _, ht⟩
  · omega
  · injection e1 with e1 _ _
    refine ⟨g, e1, (gs hg).1, fun j v hj => ?_⟩
    rw [cr hg]
    rw [← ht, List.getElem?_take] at hj
    split at hj
    · simpa using hj
    · cases hj
theorem Uo.uc {x : List Value} (h : Uo w u x) (o : u.Ok) (k1 : -9223372036854775808 ≤ u.k ∧ u.k ≤ 9223372036854775807) (k2 : ∀ q ∈ u.lost, -9223372036854775808 ≤ q.1 ∧ q.1 ≤ 9223372036854775807) (b1 : u.bs.length ≤ 4096) (b2 : u.lost.length ≤ 4096) : Uc w u x := by
  obtain ⟨M, L, rfl, h1, h2⟩ := h
  obtain ⟨ba, bc, rfl, M1⟩ := h1.mem
  obtain ⟨_, _, la, lc, rfl⟩ := owns_cells h2
  refine ⟨ba, _, bc, la, _, lc, rfl, o, k1, k2, M1, ⟨rfl, fun hn => ?_⟩, by omega, by omega⟩
  obtain ⟨g, rfl, hg, hr⟩ := owns_read h2 hn
  refine ⟨g, 0, rfl, hg, fun i p hp => ?_⟩
  have := lsI_get _ _ _ hp
  rw [Nat.zero_add]
  exact ⟨hr _ _ this.1, hr _ _ this.2⟩
theorem Ux.us {us : List Uv} {xs : List Value} {base c : Nat} {a : Option Addr} (h : Ux w us xs) (r : w.ownsRow base 86 41 (.slice a n c) n xs) (hl : us.length = n) (ok : ∀ u ∈ us, u.Ok ∧ (-9223372036854775808 ≤ u.k ∧ u.k ≤ 9223372036854775807) ∧ (∀ q ∈ u.lost, -9223372036854775808 ≤ q.1 ∧ q.1 ≤ 9223372036854775807) ∧ u.bs.length ≤ 4096 ∧ u.lost.length ≤ 4096) : Us w a n us :=
  ⟨hl, fun hn => by
    obtain ⟨g, e, hg, hr⟩ := owns_read r hn
    refine ⟨g, 0, e, hg, fun j u hj => ?_⟩
    obtain ⟨x, h1, h2, h3⟩ := h.at_ j u hj
    obtain ⟨o, k1, k2, b1, b2⟩ := ok u (List.mem_of_getElem? hj)
    exact ⟨x, h1.uc o k1 k2 b1 b2, fun i v hi => by rw [Nat.zero_add]; exact hr _ _ (h3 i v hi)⟩⟩
end Go.Proofs.YtdiofidmlgliiaaDoor.Ud
