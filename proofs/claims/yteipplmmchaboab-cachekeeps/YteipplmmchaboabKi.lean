/-
  What package cache's copyOfBlock and copyOf answer: the same in new memory.
-/
import Derived.Test.YteipplmmchaboabKh
import Derived.Test.YteipplmmchaboabKf
namespace Go.Proofs.Yteipplmmchaboab.Kc
open Go.ChangeShapes Go.WideShapes Go.ChangeAt Go.RowKit Mm Ts Hc
set_option linter.unusedVariables false
set_option linter.unusedSimpArgs false

theorem infoI : (Try.prog.info? 45).map (fun i => (i.zero, i.size, i.bytes)) = some (some (.agg #[.int .i64 0, .int .i64 0, .int .i64 0, .int .i64 0, .int .i32 0]), 5, 40) := by kernel_rfl
theorem iBk : (Try.prog.info? 28).map (·.size) = some 2 := by kernel_rfl
/-- Instructions that are read, as a slice that is appended. -/
def Sc (w : World) (vx : Value) (m : Nat) (news : List Value) : Prop :=
  (∃ x c, vx = .slice x 0 c ∧ m = 0 ∧ news = []) ∨ ∃ ad c, vx = .slice (some ad) m c ∧ news.length = m * 5 ∧ ∀ j u, news[j]? = some u → w.cell? (ad.add j) = some u
theorem is_sc {w : World} {ao : Option Addr} {n c : Nat} {is : List Iv} (h : Is w ao n is) : Sc w (.slice ao n c) n (isC is) := by
  have hl := h.len
  by_cases hn : 0 < n
  · obtain ⟨b, o, rfl, hb, hc⟩ := h.spot hn
    refine .inr ⟨_, c, rfl, by rw [isC_len, hl], fun j u hj => ?_⟩
    have hlt := (List.getElem?_eq_some_iff.1 hj).1
    rw [isC_len] at hlt
    obtain ⟨i, hi⟩ : ∃ i, is[j / 5]? = some i := ⟨_, List.getElem?_eq_getElem (by omega)⟩
    have q := isC_get is (j / 5) (j % 5) i hi (by omega)
    rw [show j / 5 * 5 + j % 5 = j by omega, hj] at q
    obtain ⟨h0, h1, h2, h3, h4⟩ := hc _ i hi
    rw [add_at]
    have hm : j % 5 < 5 := by omega
    generalize hr : j % 5 = r at *
    have ej : j = j / 5 * 5 + r := by omega
    match r, hm, q, ej with
    | 0, _, q, ej => rw [ej, show o + (j / 5 * 5 + 0) = o + j / 5 * 5 by omega, h0]; exact q.symm
    | 1, _, q, ej => rw [ej, ← Nat.add_assoc, h1]; exact q.symm
    | 2, _, q, ej => rw [ej, ← Nat.add_assoc, h2]; exact q.symm
    | 3, _, q, ej => rw [ej, ← Nat.add_assoc, h3]; exact q.symm
    | 4, _, q, ej => rw [ej, ← Nat.add_assoc, h4]; exact q.symm
    | r + 5, hm, _, _ => exact absurd hm (by omega)
  · have e : n = 0 := by omega
    subst e
    have e2 := List.eq_nil_of_length_eq_zero hl
    subst e2
    exact .inl ⟨ao, c, rfl, rfl, rfl⟩
theorem Sc.gr {w w' : World} {vx : Value} {m : Nat} {news : List Value} (h : Sc w vx m news) (G : Gr w w') : Sc w' vx m news := by
  rcases h with h | ⟨ad, c, e, hl, hc⟩
  · exact .inl h
  · exact .inr ⟨ad, c, e, hl, fun j u hj => (G.cell _ (World.block_lt_of_cell? w _ (hc j u hj))).trans (hc j u hj)⟩
/-- append of instructions to nothing. -/
theorem run_append_sc {P : Program} {w : World} {base e bytes m : Nat} {i : TypeInfo} {z : Value} {t : TypeId} (ty : TypeId)
    (h1 : P.underlying t = some (.slice e)) (h2 : P.info? e = some i) (h3 : i.zero = some z) (h4 : i.size = 5) (h5 : i.bytes = bytes) (h6 : z.cells.size = 5)
    {vx : Value} {news : List Value} (hsrc : Sc w vx m news) (h1c : ∀ u ∈ news, u.oneCell' = true) (b1 : m ≤ maxLen) (b2 : m * bytes ≤ 140737488355328) (hbase : base ≤ w.heap.size) :
    ∃ v' w', (Builtin.append_ #[t, t] ty #[.slice none 0 0, vx]).run P w = .ok v' w' ∧ w'.ownsRow base e 5 v' m news ∧ w.grownBy w' none := by
  rcases hsrc with ⟨x, c, rfl, rfl, rfl⟩ | ⟨ad, c, rfl, hl, hc⟩
  · refine ⟨.slice none 0 0, w, ?_, World.ownsRow_nil w base e 5, ⟨rfl, rfl, rfl, Nat.le_refl _, fun _ _ _ => rfl⟩⟩
    cases x <;> simp [Builtin.append_, run_underlying h1, sizeOf, typeInfo, h2, Builtin.lenOf, Builtin.firstCells, loadCells, loadCellsFrom]
  · obtain ⟨v', w', hrun, r1, r2, _⟩ := run_append_own (P := P) w base t ty e i z 5 bytes h1 h2 h3 h4 h5 h6 (by decide) (.slice none 0 0) 0 [] (World.ownsRow_nil w base e 5) ad m c news hl hc h1c (by omega) (by rw [Nat.zero_add]; exact b2) hbase
    exact ⟨v', w', hrun, by simpa using r1, r2⟩
theorem wpList_append_sc {P : Program} {w : World} {base e bytes m : Nat} {i : TypeInfo} {z : Value} {t : TypeId} {ops : Array Oper} {rest : List Oper} {o : Oper} {a : Act} {Q : Exit → Act → World → Prop}
    (hg : o.guard = none) (s x : Operand) (hop : o.op = Op.call { callee := Callee.builtin Builtin.append, args := #[s, x], argTypes := #[t, t] })
    (h1 : P.underlying t = some (.slice e)) (h2 : P.info? e = some i) (h3 : i.zero = some z) (h4 : i.size = 5) (h5 : i.bytes = bytes) (h6 : z.cells.size = 5)
    {vx : Value} {news : List Value} (hs : a.eval s = .slice none 0 0) (hx : a.eval x = vx) (hsrc : Sc w vx m news) (h1c : ∀ u ∈ news, u.oneCell' = true) (b1 : m ≤ maxLen) (b2 : m * bytes ≤ 140737488355328) (hbase : base ≤ w.heap.size)
    (hK : ∀ v' w', w'.ownsRow base e 5 v' m news → w.grownBy w' none → wpList P ops Q rest (a.put o.dst v') w') : wpList P ops Q (o :: rest) a w := by
  refine wpList_plain hg fun K hk => ?_
  obtain ⟨v', w', hrun, r1, r2⟩ := run_append_sc (P := P) o.type h1 h2 h3 h4 h5 h6 hsrc h1c b1 b2 hbase
  unfold Oper.wp
  simp [execOp, hop, resolve, invoke, builtin, hs, hx, hrun, Result.andThen]
  exact hk _ _ (hK v' w' r1 r2)
theorem gr_none {w w' : World} (h : w.grownBy w' none) : Gr w w' := Gr.grown (Gr.refl w) h (fun k e => by cases e)
set_option maxHeartbeats 1000000 in
theorem copyB_any {w : World} {b : Bv} {va : Option Addr} {vn vc : Nat} (hb : Bc w b (.int .u32 b.pc) (.slice va vn vc)) :
    Calls Try.prog 22 #[.agg #[.int .u32 b.pc, .slice va vn vc]] w fun e w' => ∃ v, e = .returned (.agg #[.int .u32 b.pc, v]) ∧ Io w' w.heap.size v b.is ∧ Gr w w' := by
  obtain ⟨_, _, sa, sn, sc, e2, I, hsz⟩ := hb
  injection e2 with q1 q2 q3
  subst q1
  subst q2
  subst q3
  have hbl : b.is.length * 40 ≤ 140737488351232 := by rw [I.len]; exact hsz
  have HS : Hid (Sc w (.slice va vn vc) vn (isC b.is)) := is_sc I
  have HL : Hid (b.is.length = vn) := I.len
  obtain ⟨i0, hi, hz0, hz1, hz2⟩ := info_parts infoI
  clear I hbl
  generalize b.pc = x at *
  go_enter Try.func22, Try.ntmps22
  go_wp2_with (at_builtin; refine wpList_append_sc (base := w.heap.size) rfl _ _ rfl Try.underlying26 hi hz0 hz1 hz2 rfl rfl rfl (HS.out.gr (((Gr.refl w).alloc _).alloc _)) (isC_one _) (by unfold maxLen; omega) (by omega) (by simp; omega) ?_)
  intro v' w' hown hgrow
  have G2 : Gr ((w.alloc (.cells #[.int .u32 x, .slice va vn vc] 28)).alloc (.cells #[.int .u32 0, .slice none 0 0] 28)) w' := gr_none hgrow
  have HIo : Hid (Io w' w.heap.size v' b.is) := by unfold Hid Io; rw [HL.out]; exact hown
  have HG : Hid (Gr w w') := (((Gr.refl w).alloc _).alloc _).trans G2
  obtain ⟨a', c', rfl⟩ := HIo.out.shape
  have B0 : w'.heap[w.heap.size]? = some (.cells #[.int .u32 x, .slice va vn vc] 28 (0, 0)) := up_h (((Gr.refl _).alloc _).trans G2) (heap_alloc_new w _)
  have B1 : w'.heap[w.heap.size + 1]? = some (.cells #[.int .u32 0, .slice none 0 0] 28 (0, 0)) := up_h G2 (new2 w _ _)
  have HB0 : Hid (w'.heap[w.heap.size]? = some (.cells #[.int .u32 x, .slice va vn vc] 28 (0, 0))) := B0
  have HB1 : Hid (w'.heap[w.heap.size + 1]? = some (.cells #[.int .u32 0, .slice none 0 0] 28 (0, 0))) := B1
  have c0 : w'.cell? ⟨w.heap.size, 0, none⟩ = some (.int .u32 x) := cell_of_row _ _ _ _ _ _ B0
  have c1 : w'.cell? ⟨w.heap.size, 1, none⟩ = some (.slice va vn vc) := cell_of_row _ _ _ _ _ _ B0
  have f1 : w'.frozen? ⟨w.heap.size, 1, none⟩ = false := frozen_of_row _ _ _ _ _ B0
  have d0 : w'.cell? ⟨w.heap.size + 1, 0, none⟩ = some (.int .u32 0) := cell_of_row _ _ _ _ _ _ B1
  have d1 : w'.cell? ⟨w.heap.size + 1, 1, none⟩ = some (.slice none 0 0) := cell_of_row _ _ _ _ _ _ B1
  have g1 : ∀ j, w'.frozen? ⟨w.heap.size + 1, j, none⟩ = false := fun j => frozen_of_row _ _ _ _ _ B1
  clear hown hgrow G2 B0 B1
  generalize b.is.length = q at *
  go_wp2_with fail
  have e1 : (w'.setCell ⟨w.heap.size, 1, none⟩ (.slice a' q c')).heap[w.heap.size + 1]? = some (.cells #[.int .u32 0, .slice none 0 0] 28 (0, 0)) := (heap_setCell_other _ _ _ _ (by show w.heap.size + 1 ≠ w.heap.size; omega)).trans HB1.out
  have e2 := heap_setCell_same _ _ 0 _ _ (.int .u32 x) e1
  have e3 := heap_setCell_same _ _ 1 _ _ (.slice a' q c') e2
  refine bodyPost_ret (v := .agg #[.int .u32 x, .slice a' q c']) (results_cell_row Try.results22 _ _ _ _ _ (0, 0) _ rfl e3 Try.underlying28 rfl iBk) rfl ⟨_, rfl, ?_, ?_⟩
  · refine HIo.out.to fun k o f hk => ?_
    have n0 : k ≠ w.heap.size := ne_of_types hk HB0.out (by decide)
    have n1 : k ≠ w.heap.size + 1 := ne_of_types hk HB1.out (by decide)
    rw [heap_setCell_other _ _ _ _ (by exact n1), heap_setCell_other _ _ _ _ (by exact n1), heap_setCell_other _ _ _ _ (by exact n0)]
  · exact ((HG.out.setCell (by show w.heap.size ≤ w.heap.size; omega) _).setCell (by show w.heap.size ≤ w.heap.size + 1; omega) _).setCell (by show w.heap.size ≤ w.heap.size + 1; omega) _
theorem four_h (W : World) (g : Nat) (a b c d : Value) {k : Nat} (hk : k ≠ g) : ((((W.setCell ⟨g, 0, none⟩ a).setCell ⟨g, 1, none⟩ b).setCell ⟨g, 2, none⟩ c).setCell ⟨g, 3, none⟩ d).heap[k]? = W.heap[k]? := by
  rw [heap_setCell_other _ _ _ _ (by exact hk), heap_setCell_other _ _ _ _ (by exact hk), heap_setCell_other _ _ _ _ (by exact hk), heap_setCell_other _ _ _ _ (by exact hk)]
theorem owns_low {w : World} {base b0 e sz n : Nat} {v : Value} {xs : List Value} (h : w.ownsRow base e sz v n xs) (hb : b0 ≤ base) : w.ownsRow b0 e sz v n xs := by
  obtain ⟨h1, h2⟩ := h
  refine ⟨h1, ?_⟩
  rcases h2 with h2 | ⟨g, cp, cur, e1, e2, e3⟩
  · exact .inl h2
  · exact .inr ⟨g, cp, cur, e1, by omega, e3⟩
theorem three_of {w w' : World} {A B C : Array Value} {t u s : Nat} (g : Gr (((w.alloc (.cells A t)).alloc (.cells B u)).alloc (.cells C s)) w') : w'.heap[w.heap.size]? = some (.cells A t (0, 0)) ∧ w'.heap[w.heap.size + 1]? = some (.cells B u (0, 0)) ∧ w'.heap[w.heap.size + 1 + 1]? = some (.cells C s (0, 0)) := by
  refine ⟨up_h ((((Gr.refl _).alloc _).alloc _).trans g) (heap_alloc_new w _), up_h (((Gr.refl _).alloc _).trans g) (new2 w _ _), up_h g ?_⟩
  have := heap_alloc_new ((w.alloc (.cells A t)).alloc (.cells B u)) (.cells C s)
  simpa using this
set_option maxHeartbeats 4000000 in
set_option maxRecDepth 100000 in
theorem copyC_any {w : World} {ao : Option Addr} {n : Nat} (cap : Nat) {bs : List Bv} (B : Bs w ao n bs) (hn : n * 32 ≤ 140737488351232) (room pu sl : Int) :
    Calls Try.prog 23 #[.agg #[.int .i64 room, .slice ao n cap, .int .i64 pu, .int .i64 sl]] w fun e w' => ∃ g cp xs, e = .returned (.agg #[.int .i64 room, .slice (some ⟨g, 0, none⟩) n cp, .int .i64 pu, .int .i64 sl]) ∧ w'.ownsRow w.heap.size 28 2 (.slice (some ⟨g, 0, none⟩) n cp) n xs ∧ Bx w' w.heap.size bs xs ∧ Gr w w' := by
  have HL : Hid (bs.length = n) := B.len
  have HB : Hid (Bs w ao n bs) := B
  have CP : Hid (∀ (W : World) (b : Bv) (va : Option Addr) (vn vc : Nat), Gr w W → Bc w b (.int .u32 b.pc) (.slice va vn vc) → Calls Try.prog 22 #[.agg #[.int .u32 b.pc, .slice va vn vc]] W fun e w' => ∃ v, e = .returned (.agg #[.int .u32 b.pc, v]) ∧ Io w' W.heap.size v b.is ∧ Gr W w') := fun W b va vn vc G h => copyB_any (h.of G)
  obtain ⟨i0, hi, hz0, hz1, hz2⟩ := info_parts infoB
  clear B
  go_enter Try.func23, Try.ntmps23
  go_wp2_with (at_make; refine wpList_make_own _ rfl _ _ 22 rfl (w.heap.size + 1 + 1) 28 i0 _ 2 Try.underlying22 hi hz0 hz1 _ _ _ (n + 1) rfl rfl (by go_num) (by rw [hz2]; omega) (by unfold maxLen; omega) (by simp) ?_)
  intro w0 hown0 hgrow0
  have G0 : Gr ((w.alloc (.cells #[.int .i64 room, .slice ao n cap, .int .i64 pu, .int .i64 sl] 24)).alloc (.cells #[.int .i64 0, .slice none 0 0, .int .i64 0, .int .i64 0] 24)) w0 := gr_none hgrow0
  have HO0 : Hid (∃ g, w0.ownsRow (w.heap.size + 1 + 1) 28 2 (.slice (some ⟨g, 0, none⟩) 0 (n + 1)) 0 [] ∧ g = w.heap.size + 1 + 1) := ⟨_, hown0, by simp⟩
  have H00 : Hid (w0.heap[w.heap.size]? = some (.cells #[.int .i64 room, .slice ao n cap, .int .i64 pu, .int .i64 sl] 24 (0, 0))) := up_h (((Gr.refl _).alloc _).trans G0) (heap_alloc_new w _)
  have H01 : Hid (w0.heap[w.heap.size + 1]? = some (.cells #[.int .i64 0, .slice none 0 0, .int .i64 0, .int .i64 0] 24 (0, 0))) := up_h G0 (new2 w _ _)
  have HG0 : Hid (Gr w w0) := (((Gr.refl w).alloc _).alloc _).trans G0
  have z1 : w0.cell? ⟨w.heap.size, 1, none⟩ = some (.slice ao n cap) := cell_of_row _ _ _ _ _ _ H00.out
  clear hown0 hgrow0 G0
  go_wp2_with fail
  go_loopw [3, 14] (fun V i wr => ∃ j : Nat, j ≤ n ∧ i = .int .i64 j ∧ ∃ g cp xs, V = .slice (some ⟨g, 0, none⟩) j cp ∧ wr.heap[w.heap.size]? = some (.cells #[.int .i64 room, .slice ao n cap, .int .i64 pu, .int .i64 sl] 24 (0, 0)) ∧ wr.heap[w.heap.size + 1]? = some (.cells #[.int .i64 0, .slice none 0 0, .int .i64 0, .int .i64 0] 24 (0, 0)) ∧ wr.ownsRow (w.heap.size + 1 + 1) 28 2 (.slice (some ⟨g, 0, none⟩) j cp) j xs ∧ Bx wr w.heap.size (bs.take j) xs ∧ Gr w wr) (fun _ i _ => n - (intOf i).toNat)
  case atStart =>
    obtain ⟨g, O, rfl⟩ := HO0.out
    exact ⟨0, Nat.zero_le _, rfl, _, _, [], rfl, H00.out, H01.out, O, Bx.nil _ _, HG0.out⟩
  case round =>
    obtain ⟨j, hj, rfl, g, cp, xs, rfl, h0, h1, hO, hX, G⟩ := hrel
    have HG : Hid (Gr w wr) := G
    have HO : Hid (wr.ownsRow (w.heap.size + 1 + 1) 28 2 (.slice (some ⟨g, 0, none⟩) j cp) j xs) := hO
    have HX : Hid (Bx wr w.heap.size (bs.take j) xs) := hX
    have H0 : Hid (wr.heap[w.heap.size]? = some (.cells #[.int .i64 room, .slice ao n cap, .int .i64 pu, .int .i64 sl] 24 (0, 0))) := h0
    have H1 : Hid (wr.heap[w.heap.size + 1]? = some (.cells #[.int .i64 0, .slice none 0 0, .int .i64 0, .int .i64 0] 24 (0, 0))) := h1
    clear h0 h1 hO hX G HO0 H00 H01 HG0 z1
    by_cases hlt : j < n
    · obtain ⟨b, hb⟩ : ∃ b, bs[j]? = some b := ⟨_, List.getElem?_eq_getElem (by rw [HL.out]; exact hlt)⟩
      obtain ⟨k, o, rfl, hk, hcell⟩ := HB.out.spot (by omega)
      obtain ⟨u, v, p0, p1, hbc⟩ := hcell j b hb
      obtain ⟨o1, o2, va, vn, vc, rfl⟩ := hbc.ones
      have d0 : wr.cell? ⟨k, o + j * 2, none⟩ = some u := (HG.out.cell _ (by exact hk)).trans p0
      have d1 : wr.cell? ⟨k, o + j * 2 + 1, none⟩ = some (.slice va vn vc) := (HG.out.cell _ (by exact hk)).trans p1
      have hu : u = .int .u32 b.pc := hbc.1
      subst hu
      have CP2 : Hid (∀ W : World, Gr w W → Calls Try.prog 22 #[.agg #[.int .u32 b.pc, .slice va vn vc]] W fun e w' => ∃ v, e = .returned (.agg #[.int .u32 b.pc, v]) ∧ Io w' W.heap.size v b.is ∧ Gr W w') := fun W G => CP.out W b va vn vc G hbc
      have HT : Hid (∀ (W : World) (v : Value), Bx W w.heap.size (bs.take j) xs → Io W w.heap.size v b.is → Bx W w.heap.size (bs.take (j + 1)) (xs ++ [.int .u32 b.pc, v])) := fun W v h1 h2 => by rw [List.take_add_one, hb]; exact h1.snoc h2
      clear hcell p0 p1 hbc CP hb
      generalize b.pc = bp at *
      go_wp2_with fail
      refine (CP2.out _ (HG.out.alloc _)).mono ?_
      rintro e w2 ⟨v2, rfl, I2, G2⟩
      have HG2 : Hid (Gr wr w2) := ((Gr.refl wr).alloc _).trans G2
      have HI2 : Hid (Io w2 w.heap.size v2 b.is) := I2.low (by have := HG.out.size; simp; omega)
      obtain ⟨ia, ic, rfl⟩ := I2.shape
      clear CP2 G2 I2
      generalize b.is.length = iq at *
      have HO2 : Hid (w2.ownsRow (w.heap.size + 1 + 1) 28 2 (.slice (some ⟨g, 0, none⟩) j cp) j xs) := owns_gr HO.out HG2.out
      have HC2 : Hid (w.heap.size + 1 + 1 ≤ w2.heap.size) := by
        have q1 := HG2.out.size
        have q3 := (Array.getElem?_eq_some_iff.1 H1.out).1
        unfold Hid
        omega
      go_wp2_with (at_builtin; have q0 := HC2.out; have q1 := owns_gr HO2.out ((Gr.refl w2).alloc (.cells #[.int .u32 bp, .slice ia iq ic] 28)); refine wpList_append_own _ rfl (.tmp 18) (.tmp 21) 22 rfl (w.heap.size + 1 + 1) 28 i0 _ 2 32 Try.underlying22 hi hz0 hz1 hz2 rfl (by decide) (.slice (some ⟨g, 0, none⟩) j cp) j xs rfl q1 ⟨w2.heap.size, 0, none⟩ 1 1 [.int .u32 bp, .slice ia iq ic] rfl rfl ?xc (two_ones rfl rfl) ?xd ?xe ?xf ?xg; (case xc => exact two_cells (by simp) (by simp)); (case xd => unfold maxLen; omega); (case xe => omega); (case xf => simp; omega))
      rintro v' w' hown hgrow -
      obtain ⟨g', cp', rfl⟩ := own_form hown (by omega)
      have HOn : Hid (w'.ownsRow (w.heap.size + 1 + 1) 28 2 (.slice (some ⟨g', 0, none⟩) (j + 1) cp') (j + 1) (xs ++ [.int .u32 bp, .slice ia iq ic])) := hown
      have HKp : Hid (∀ (q : Nat) (c : Array Value) (r : Nat) (z : Nat × Nat), w2.heap[q]? = some (.cells c r z) → r ≠ 28 → w'.heap[q]? = some (.cells c r z)) := fun q c r z hq hr => row_keep (owns_gr HO2.out ((Gr.refl w2).alloc _)) hgrow (up_h ((Gr.refl w2).alloc _) hq) hr
      have HGn : Hid (Gr w w') := Gr.grown ((HG.out.trans HG2.out).alloc _) hgrow (fun q e => by have := (HO2.out.lt q e).1; omega)
      clear hown hgrow d0 d1 HB
      go_wp2_with fail
      go_roundw
      case rel =>
        refine ⟨j + 1, by omega, by go_num, g', cp', xs ++ [.int .u32 bp, .slice ia iq ic], rfl, HKp.out _ _ _ _ (up_h HG2.out H0.out) (by decide), HKp.out _ _ _ _ (up_h HG2.out H1.out) (by decide), HOn.out, ?_, HGn.out⟩
        exact HT.out _ _ ((HX.out.of HG2.out).to fun q c f hq => by rw [HKp.out _ _ _ _ hq (by decide)]; exact hq.symm) (HI2.out.to fun q c f hq => by rw [HKp.out _ _ _ _ hq (by decide)]; exact hq.symm)
      case measure => simp [intOf]; omega
    · have ej : j = n := by omega
      have HE : Hid (bs.take j = bs) := by unfold Hid; rw [ej, ← HL.out, List.take_length]
      have HXe : Hid (Bx wr w.heap.size bs xs) := by have := HX.out; rwa [HE.out] at this
      have HOe : Hid (wr.ownsRow (w.heap.size + 1 + 1) 28 2 (.slice (some ⟨g, 0, none⟩) n cp) n xs) := by have := HO.out; rwa [ej] at this
      subst ej
      have y0 : wr.cell? ⟨w.heap.size, 0, none⟩ = some (.int .i64 room) := cell_of_row _ _ _ _ _ _ H0.out
      have y1 : wr.cell? ⟨w.heap.size, 1, none⟩ = some (.slice ao j cap) := cell_of_row _ _ _ _ _ _ H0.out
      have y2 : wr.cell? ⟨w.heap.size, 2, none⟩ = some (.int .i64 pu) := cell_of_row _ _ _ _ _ _ H0.out
      have y3 : wr.cell? ⟨w.heap.size, 3, none⟩ = some (.int .i64 sl) := cell_of_row _ _ _ _ _ _ H0.out
      have yf : wr.frozen? ⟨w.heap.size, 1, none⟩ = false := frozen_of_row _ _ _ _ _ H0.out
      have x0 : wr.cell? ⟨w.heap.size + 1, 0, none⟩ = some (.int .i64 0) := cell_of_row _ _ _ _ _ _ H1.out
      have x1 : wr.cell? ⟨w.heap.size + 1, 1, none⟩ = some (.slice none 0 0) := cell_of_row _ _ _ _ _ _ H1.out
      have x2 : wr.cell? ⟨w.heap.size + 1, 2, none⟩ = some (.int .i64 0) := cell_of_row _ _ _ _ _ _ H1.out
      have x3 : wr.cell? ⟨w.heap.size + 1, 3, none⟩ = some (.int .i64 0) := cell_of_row _ _ _ _ _ _ H1.out
      have xf : ∀ j, wr.frozen? ⟨w.heap.size + 1, j, none⟩ = false := fun j => frozen_of_row _ _ _ _ _ H1.out
      clear HB HE HO HX CP
      go_wp2_with fail
      have e1 : (wr.setCell ⟨w.heap.size, 1, none⟩ (.slice (some ⟨g, 0, none⟩) j cp)).heap[w.heap.size + 1]? = some (.cells #[.int .i64 0, .slice none 0 0, .int .i64 0, .int .i64 0] 24 (0, 0)) := (heap_setCell_other _ _ _ _ (by show w.heap.size + 1 ≠ w.heap.size; omega)).trans H1.out
      have hk : ∀ (k : Nat) (c : Array Value) (r : Nat) (f : Nat × Nat), wr.heap[k]? = some (.cells c r f) → r ≠ 24 → (((((wr.setCell ⟨w.heap.size, 1, none⟩ (.slice (some ⟨g, 0, none⟩) j cp)).setCell ⟨w.heap.size + 1, 0, none⟩ (.int .i64 room)).setCell ⟨w.heap.size + 1, 1, none⟩ (.slice (some ⟨g, 0, none⟩) j cp)).setCell ⟨w.heap.size + 1, 2, none⟩ (.int .i64 pu)).setCell ⟨w.heap.size + 1, 3, none⟩ (.int .i64 sl)).heap[k]? = wr.heap[k]? := fun k c r f hq hr => by
        rw [four_h _ _ _ _ _ _ (ne_of_types hq H1.out hr), heap_setCell_other _ _ _ _ (by exact ne_of_types hq H0.out hr)]
      refine bodyPost_ret (v := .agg #[.int .i64 room, .slice (some ⟨g, 0, none⟩) j cp, .int .i64 pu, .int .i64 sl]) (results_cell_row Try.results23 _ _ _ _ _ (0, 0) _ rfl (four_set e1 _ _ _ _) Try.underlying24 rfl iCa) rfl ⟨g, cp, xs, rfl, ?_, ?_, ?_⟩
      · exact owns_to (owns_low HOe.out (by omega)) fun q c r hq => hk q c _ r hq (by decide)
      · exact HXe.out.to fun q c r hq => hk q c _ r hq (by decide)
      · have q1 : w.heap.size ≤ w.heap.size + 1 := by omega
        exact ((((HG.out.setCell (by show w.heap.size ≤ w.heap.size; omega) _).setCell (by exact q1) _).setCell (by exact q1) _).setCell (by exact q1) _).setCell (by exact q1) _
end Go.Proofs.Yteipplmmchaboab.Kc
