/-
  Ki, Kj, Kl: texts of ours that lie in one file.
-/
import Derived.Test.YtchllaeembmioaaGreatDoorQ06
import Derived.Test.YtchllaeembmioaaGreatDoorQ20
import Derived.Deep.RegionLaw
set_option linter.unusedVariables false
set_option linter.unusedSimpArgs false
set_option maxHeartbeats 8000000
set_option maxRecDepth 100000
namespace Go.Proofs.YtchllaeembmioaaGreatDoor.Kc
open Go.ChangeShapes Go.WideShapes Go.ChangeAt Go.RowKit Mm Ts Hc

theorem infoI : (Tryz.prog.info? 77).map (fun i => (i.zero, i.size, i.bytes)) = some (some (.agg #[.int .i64 0, .int .i64 0, .int .i64 0, .int .i64 0, .int .i32 0]), 5, 40) := by kernel_rfl
theorem iBk : (Tryz.prog.info? 45).map (·.size) = some 2 := by kernel_rfl
def Sc (w : World) (vx : Value) (m : Nat) (news : List Value) : Prop :=
 (∃ x c, vx = .slice x 0 c ∧ m = 0 ∧ news = []) ∨ ∃ ad c, vx = .slice (some ad) m c ∧ news.length = m * 5 ∧ ∀ j u, news[j]? = some u → w.cell? (ad.add j) = some u
theorem is_sc {w : World} {ao : Option Addr} {n c : Nat} {is : List Iv} (h : Is w ao n is) : Sc w (.slice ao n c) n (isC is) := by
 have hl := h.len
 by_cases hn : 0 < n
 ·obtain ⟨b, o, rfl, hb, hc⟩ := h.spot hn
  refine .inr ⟨_, c, rfl, by rw [isC_len, hl], fun j u hj => ?_⟩
  have hlt := (List.getElem?_eq_some_iff.1 hj).1
  rw [isC_len] at hlt
  obtain ⟨i, hi⟩ : ∃ i, is[j / 5]? = some i := ⟨_, List.getElem?_eq_getElem (by omega)⟩
  have q := isC_get is (j / 5) (j % 5) i hi (by omega)
  rw [show j / 5 * 5 + j % 5 = j by omega, hj] at q
  obtain ⟨h0, h1, h2, h3, h4⟩ := hc _ i hi
  rw [add_at]
  have hm : j % 5 < 5 := by omega
  generalize hr : j % 5 = r at *
  have ej : j = j / 5 * 5 + r := by omega
  match r, hm, q, ej with
  | 0, _, q, ej => rw [ej, show o + (j / 5 * 5 + 0) = o + j / 5 * 5 by omega, h0]; exact q.symm
  | 1, _, q, ej => rw [ej, ← Nat.add_assoc, h1]; exact q.symm
  | 2, _, q, ej => rw [ej, ← Nat.add_assoc, h2]; exact q.symm
  | 3, _, q, ej => rw [ej, ← Nat.add_assoc, h3]; exact q.symm
  | 4, _, q, ej => rw [ej, ← Nat.add_assoc, h4]; exact q.symm
  | r + 5, hm, _, _ => exact absurd hm (by omega)
 ·have e : n = 0 := by omega
  subst e
  have e2 := List.eq_nil_of_length_eq_zero hl
  subst e2
  exact .inl ⟨ao, c, rfl, rfl, rfl⟩
theorem Sc.gr {w w' : World} {vx : Value} {m : Nat} {news : List Value} (h : Sc w vx m news) (G : Gr w w') : Sc w' vx m news := by
 rcases h with h | ⟨ad, c, e, hl, hc⟩
 ·exact .inl h
 ·exact .inr ⟨ad, c, e, hl, fun j u hj => (G.cell _ (World.block_lt_of_cell? w _ (hc j u hj))).trans (hc j u hj)⟩
theorem run_append_sc {P : Program} {w : World} {base e bytes m : Nat} {i : TypeInfo} {z : Value} {t : TypeId} (ty : TypeId)
  (h1 : P.underlying t = some (.slice e)) (h2 : P.info? e = some i) (h3 : i.zero = some z) (h4 : i.size = 5) (h5 : i.bytes = bytes) (h6 : z.cells.size = 5)
  {vx : Value} {news : List Value} (hsrc : Sc w vx m news) (h1c : ∀ u ∈ news, u.oneCell' = true) (b1 : m ≤ maxLen) (b2 : m * bytes ≤ 140737488355328) (hbase : base ≤ w.heap.size) :
  ∃ v' w', (Builtin.append_ #[t, t] ty #[.slice none 0 0, vx]).run P w = .ok v' w' ∧ w'.ownsRow base e 5 v' m news ∧ w.grownBy w' none := by
 rcases hsrc with ⟨x, c, rfl, rfl, rfl⟩ | ⟨ad, c, rfl, hl, hc⟩
 ·refine ⟨.slice none 0 0, w, ?_, World.ownsRow_nil w base e 5, ⟨rfl, rfl, rfl, Nat.le_refl _, fun _ _ _ => rfl⟩⟩
  cases x <;> simp [Builtin.append_, run_underlying h1, sizeOf, typeInfo, h2, Builtin.lenOf, Builtin.firstCells, loadCells, loadCellsFrom]
 ·obtain ⟨v', w', hrun, r1, r2, _⟩ := run_append_own (P := P) w base t ty e i z 5 bytes h1 h2 h3 h4 h5 h6 (by decide) (.slice none 0 0) 0 [] (World.ownsRow_nil w base e 5) ad m c news hl hc h1c (by omega) (by rw [Nat.zero_add]; exact b2) hbase
  exact ⟨v', w', hrun, by simpa using r1, r2⟩
theorem wpList_append_sc {P : Program} {w : World} {base e bytes m : Nat} {i : TypeInfo} {z : Value} {t : TypeId} {ops : Array Oper} {rest : List Oper} {o : Oper} {a : Act} {Q : Exit → Act → World → Prop}
  (hg : o.guard = none) (s x : Operand) (hop : o.op = Op.call { callee := Callee.builtin Builtin.append, args := #[s, x], argTypes := #[t, t] })
  (h1 : P.underlying t = some (.slice e)) (h2 : P.info? e = some i) (h3 : i.zero = some z) (h4 : i.size = 5) (h5 : i.bytes = bytes) (h6 : z.cells.size = 5)
  {vx : Value} {news : List Value} (hs : a.eval s = .slice none 0 0) (hx : a.eval x = vx) (hsrc : Sc w vx m news) (h1c : ∀ u ∈ news, u.oneCell' = true) (b1 : m ≤ maxLen) (b2 : m * bytes ≤ 140737488355328) (hbase : base ≤ w.heap.size)
  (hK : ∀ v' w', w'.ownsRow base e 5 v' m news → w.grownBy w' none → wpList P ops Q rest (a.put o.dst v') w') : wpList P ops Q (o :: rest) a w := by
 refine wpList_plain hg fun K hk => ?_
 obtain ⟨v', w', hrun, r1, r2⟩ := run_append_sc (P := P) o.type h1 h2 h3 h4 h5 h6 hsrc h1c b1 b2 hbase
 unfold Oper.wp
 simp [execOp, hop, resolve, invoke, builtin, hs, hx, hrun, Result.andThen]
 exact hk _ _ (hK v' w' r1 r2)
theorem gr_none {w w' : World} (h : w.grownBy w' none) : Gr w w' := Gr.grown (Gr.refl w) h (fun k e => by cases e)
theorem copyB_any {w : World} {b : Bv} {va : Option Addr} {vn vc : Nat} (hb : Bc w b (.int .u32 b.pc) (.slice va vn vc)) :
  Calls Tryz.prog 93 #[.agg #[.int .u32 b.pc, .slice va vn vc]] w fun e w' => ∃ v, e = .returned (.agg #[.int .u32 b.pc, v]) ∧ Io w' w.heap.size v b.is ∧ Gr w w' := by
 obtain ⟨_, _, sa, sn, sc, e2, I, hsz⟩ := hb
 injection e2 with q1 q2 q3
 subst q1
 subst q2
 subst q3
 have hbl : b.is.length * 40 ≤ 140737488351232 := by rw [I.len]; exact hsz
 have HS : Hid (Sc w (.slice va vn vc) vn (isC b.is)) := is_sc I
 have HL : Hid (b.is.length = vn) := I.len
 obtain ⟨i0, hi, hz0, hz1, hz2⟩ := info_parts infoI
 clear I hbl
 generalize b.pc = x at *
 go_enter Tryz.func93, Tryz.ntmps93
 go_wp2_with (at_builtin; refine wpList_append_sc (base := w.heap.size) rfl _ _ rfl Tryz.underlying43 hi hz0 hz1 hz2 rfl rfl rfl (HS.out.gr (((Gr.refl w).alloc _).alloc _)) (isC_one _) (by unfold maxLen; omega) (by omega) (by simp; omega) ?_)
 intro v' w' hown hgrow
 have G2 : Gr ((w.alloc (.cells #[.int .u32 x, .slice va vn vc] 45)).alloc (.cells #[.int .u32 0, .slice none 0 0] 45)) w' := gr_none hgrow
 have HIo : Hid (Io w' w.heap.size v' b.is) := by unfold Hid Io; rw [HL.out]; exact hown
 have HG : Hid (Gr w w') := (((Gr.refl w).alloc _).alloc _).trans G2
 obtain ⟨a', c', rfl⟩ := HIo.out.shape
 have B0 : w'.heap[w.heap.size]? = some (.cells #[.int .u32 x, .slice va vn vc] 45 (0, 0)) := up_h (((Gr.refl _).alloc _).trans G2) (heap_alloc_new w _)
 have B1 : w'.heap[w.heap.size + 1]? = some (.cells #[.int .u32 0, .slice none 0 0] 45 (0, 0)) := up_h G2 (new2 w _ _)
 have HB0 : Hid (w'.heap[w.heap.size]? = some (.cells #[.int .u32 x, .slice va vn vc] 45 (0, 0))) := B0
 have HB1 : Hid (w'.heap[w.heap.size + 1]? = some (.cells #[.int .u32 0, .slice none 0 0] 45 (0, 0))) := B1
 have c0 : w'.cell? ⟨w.heap.size, 0, none⟩ = some (.int .u32 x) := cell_of_row _ _ _ _ _ _ B0
 have c1 : w'.cell? ⟨w.heap.size, 1, none⟩ = some (.slice va vn vc) := cell_of_row _ _ _ _ _ _ B0
 have f1 : w'.frozen? ⟨w.heap.size, 1, none⟩ = false := frozen_of_row _ _ _ _ _ B0
 have d0 : w'.cell? ⟨w.heap.size + 1, 0, none⟩ = some (.int .u32 0) := cell_of_row _ _ _ _ _ _ B1
 have d1 : w'.cell? ⟨w.heap.size + 1, 1, none⟩ = some (.slice none 0 0) := cell_of_row _ _ _ _ _ _ B1
 have g1 : ∀ j, w'.frozen? ⟨w.heap.size + 1, j, none⟩ = false := fun j => frozen_of_row _ _ _ _ _ B1
 clear hown hgrow G2 B0 B1
 generalize b.is.length = q at *
 go_wp2_with fail
 have e1 : (w'.setCell ⟨w.heap.size, 1, none⟩ (.slice a' q c')).heap[w.heap.size + 1]? = some (.cells #[.int .u32 0, .slice none 0 0] 45 (0, 0)) := (heap_setCell_other _ _ _ _ (by show w.heap.size + 1 ≠ w.heap.size; omega)).trans HB1.out
 have e2 := heap_setCell_same _ _ 0 _ _ (.int .u32 x) e1
 have e3 := heap_setCell_same _ _ 1 _ _ (.slice a' q c') e2
 refine bodyPost_ret (v := .agg #[.int .u32 x, .slice a' q c']) (results_cell_row Tryz.results93 _ _ _ _ _ (0, 0) _ rfl e3 Tryz.underlying45 rfl iBk) rfl ⟨_, rfl, ?_, ?_⟩
 ·refine HIo.out.to fun k o f hk => ?_
  have n0 : k ≠ w.heap.size := ne_of_types hk HB0.out (by decide)
  have n1 : k ≠ w.heap.size + 1 := ne_of_types hk HB1.out (by decide)
  rw [heap_setCell_other _ _ _ _ (by exact n1), heap_setCell_other _ _ _ _ (by exact n1), heap_setCell_other _ _ _ _ (by exact n0)]
 ·exact ((HG.out.setCell (by show w.heap.size ≤ w.heap.size; omega) _).setCell (by show w.heap.size ≤ w.heap.size + 1; omega) _).setCell (by show w.heap.size ≤ w.heap.size + 1; omega) _
theorem four_h (W : World) (g : Nat) (a b c d : Value) {k : Nat} (hk : k ≠ g) : ((((W.setCell ⟨g, 0, none⟩ a).setCell ⟨g, 1, none⟩ b).setCell ⟨g, 2, none⟩ c).setCell ⟨g, 3, none⟩ d).heap[k]? = W.heap[k]? := by
 rw [heap_setCell_other _ _ _ _ (by exact hk), heap_setCell_other _ _ _ _ (by exact hk), heap_setCell_other _ _ _ _ (by exact hk), heap_setCell_other _ _ _ _ (by exact hk)]
theorem owns_low {w : World} {base b0 e sz n : Nat} {v : Value} {xs : List Value} (h : w.ownsRow base e sz v n xs) (hb : b0 ≤ base) : w.ownsRow b0 e sz v n xs := by
 obtain ⟨h1, h2⟩ := h
 refine ⟨h1, ?_⟩
 rcases h2 with h2 | ⟨g, cp, cur, e1, e2, e3⟩
 ·exact .inl h2
 ·exact .inr ⟨g, cp, cur, e1, by omega, e3⟩
theorem three_of {w w' : World} {A B C : Array Value} {t u s : Nat} (g : Gr (((w.alloc (.cells A t)).alloc (.cells B u)).alloc (.cells C s)) w') : w'.heap[w.heap.size]? = some (.cells A t (0, 0)) ∧ w'.heap[w.heap.size + 1]? = some (.cells B u (0, 0)) ∧ w'.heap[w.heap.size + 1 + 1]? = some (.cells C s (0, 0)) := by
 refine ⟨up_h ((((Gr.refl _).alloc _).alloc _).trans g) (heap_alloc_new w _), up_h (((Gr.refl _).alloc _).trans g) (new2 w _ _), up_h g ?_⟩
 have := heap_alloc_new ((w.alloc (.cells A t)).alloc (.cells B u)) (.cells C s)
 simpa using this
theorem copyC_any {w : World} {ao : Option Addr} {n : Nat} (cap : Nat) {bs : List Bv} (B : Bs w ao n bs) (hn : n * 32 ≤ 140737488351232) (room pu sl : Int) :
  Calls Tryz.prog 78 #[.agg #[.int .i64 room, .slice ao n cap, .int .i64 pu, .int .i64 sl]] w fun e w' => ∃ g cp xs, e = .returned (.agg #[.int .i64 room, .slice (some ⟨g, 0, none⟩) n cp, .int .i64 pu, .int .i64 sl]) ∧ w'.ownsRow w.heap.size 45 2 (.slice (some ⟨g, 0, none⟩) n cp) n xs ∧ Bx w' w.heap.size bs xs ∧ Gr w w' := by
 have HL : Hid (bs.length = n) := B.len
 have HB : Hid (Bs w ao n bs) := B
 have CP : Hid (∀ (W : World) (b : Bv) (va : Option Addr) (vn vc : Nat), Gr w W → Bc w b (.int .u32 b.pc) (.slice va vn vc) → Calls Tryz.prog 93 #[.agg #[.int .u32 b.pc, .slice va vn vc]] W fun e w' => ∃ v, e = .returned (.agg #[.int .u32 b.pc, v]) ∧ Io w' W.heap.size v b.is ∧ Gr W w') := fun W b va vn vc G h => copyB_any (h.of G)
 obtain ⟨i0, hi, hz0, hz1, hz2⟩ := info_parts infoB
 clear B
 go_enter Tryz.func78, Tryz.ntmps78
 go_wp2_with (at_make; refine wpList_make_own _ rfl _ _ 33 rfl (w.heap.size + 1 + 1) 45 i0 _ 2 Tryz.underlying33 hi hz0 hz1 _ _ _ (n + 1) rfl rfl (by go_num) (by rw [hz2]; omega) (by unfold maxLen; omega) (by simp) ?_)
 intro w0 hown0 hgrow0
 have G0 : Gr ((w.alloc (.cells #[.int .i64 room, .slice ao n cap, .int .i64 pu, .int .i64 sl] 35)).alloc (.cells #[.int .i64 0, .slice none 0 0, .int .i64 0, .int .i64 0] 35)) w0 := gr_none hgrow0
 have HO0 : Hid (∃ g, w0.ownsRow (w.heap.size + 1 + 1) 45 2 (.slice (some ⟨g, 0, none⟩) 0 (n + 1)) 0 [] ∧ g = w.heap.size + 1 + 1) := ⟨_, hown0, by simp⟩
 have H00 : Hid (w0.heap[w.heap.size]? = some (.cells #[.int .i64 room, .slice ao n cap, .int .i64 pu, .int .i64 sl] 35 (0, 0))) := up_h (((Gr.refl _).alloc _).trans G0) (heap_alloc_new w _)
 have H01 : Hid (w0.heap[w.heap.size + 1]? = some (.cells #[.int .i64 0, .slice none 0 0, .int .i64 0, .int .i64 0] 35 (0, 0))) := up_h G0 (new2 w _ _)
 have HG0 : Hid (Gr w w0) := (((Gr.refl w).alloc _).alloc _).trans G0
 have z1 : w0.cell? ⟨w.heap.size, 1, none⟩ = some (.slice ao n cap) := cell_of_row _ _ _ _ _ _ H00.out
 clear hown0 hgrow0 G0
 go_wp2_with fail
 go_loopw [3, 14] (fun V i wr => ∃ j : Nat, j ≤ n ∧ i = .int .i64 j ∧ ∃ g cp xs, V = .slice (some ⟨g, 0, none⟩) j cp ∧ wr.heap[w.heap.size]? = some (.cells #[.int .i64 room, .slice ao n cap, .int .i64 pu, .int .i64 sl] 35 (0, 0)) ∧ wr.heap[w.heap.size + 1]? = some (.cells #[.int .i64 0, .slice none 0 0, .int .i64 0, .int .i64 0] 35 (0, 0)) ∧ wr.ownsRow (w.heap.size + 1 + 1) 45 2 (.slice (some ⟨g, 0, none⟩) j cp) j xs ∧ Bx wr w.heap.size (bs.take j) xs ∧ Gr w wr) (fun _ i _ => n - (intOf i).toNat)
 case atStart =>
  obtain ⟨g, O, rfl⟩ := HO0.out
  exact ⟨0, Nat.zero_le _, rfl, _, _, [], rfl, H00.out, H01.out, O, Bx.nil _ _, HG0.out⟩
 case round =>
  obtain ⟨j, hj, rfl, g, cp, xs, rfl, h0, h1, hO, hX, G⟩ := hrel
  have HG : Hid (Gr w wr) := G
  have HO : Hid (wr.ownsRow (w.heap.size + 1 + 1) 45 2 (.slice (some ⟨g, 0, none⟩) j cp) j xs) := hO
  have HX : Hid (Bx wr w.heap.size (bs.take j) xs) := hX
  have H0 : Hid (wr.heap[w.heap.size]? = some (.cells #[.int .i64 room, .slice ao n cap, .int .i64 pu, .int .i64 sl] 35 (0, 0))) := h0
  have H1 : Hid (wr.heap[w.heap.size + 1]? = some (.cells #[.int .i64 0, .slice none 0 0, .int .i64 0, .int .i64 0] 35 (0, 0))) := h1
  clear h0 h1 hO hX G HO0 H00 H01 HG0 z1
  by_cases hlt : j < n
  ·obtain ⟨b, hb⟩ : ∃ b, bs[j]? = some b := ⟨_, List.getElem?_eq_getElem (by rw [HL.out]; exact hlt)⟩
   obtain ⟨k, o, rfl, hk, hcell⟩ := HB.out.spot (by omega)
   obtain ⟨u, v, p0, p1, hbc⟩ := hcell j b hb
   obtain ⟨o1, o2, va, vn, vc, rfl⟩ := hbc.ones
   have d0 : wr.cell? ⟨k, o + j * 2, none⟩ = some u := (HG.out.cell _ (by exact hk)).trans p0
   have d1 : wr.cell? ⟨k, o + j * 2 + 1, none⟩ = some (.slice va vn vc) := (HG.out.cell _ (by exact hk)).trans p1
   have hu : u = .int .u32 b.pc := hbc.1
   subst hu
   have CP2 : Hid (∀ W : World, Gr w W → Calls Tryz.prog 93 #[.agg #[.int .u32 b.pc, .slice va vn vc]] W fun e w' => ∃ v, e = .returned (.agg #[.int .u32 b.pc, v]) ∧ Io w' W.heap.size v b.is ∧ Gr W w') := fun W G => CP.out W b va vn vc G hbc
   have HT : Hid (∀ (W : World) (v : Value), Bx W w.heap.size (bs.take j) xs → Io W w.heap.size v b.is → Bx W w.heap.size (bs.take (j + 1)) (xs ++ [.int .u32 b.pc, v])) := fun W v h1 h2 => by rw [List.take_add_one, hb]; exact h1.snoc h2
   clear hcell p0 p1 hbc CP hb
   generalize b.pc = bp at *
   go_wp2_with fail
   refine (CP2.out _ (HG.out.alloc _)).mono ?_
   rintro e w2 ⟨v2, rfl, I2, G2⟩
   have HG2 : Hid (Gr wr w2) := ((Gr.refl wr).alloc _).trans G2
   have HI2 : Hid (Io w2 w.heap.size v2 b.is) := I2.low (by have := HG.out.size; simp; omega)
   obtain ⟨ia, ic, rfl⟩ := I2.shape
   clear CP2 G2 I2
   generalize b.is.length = iq at *
   have HO2 : Hid (w2.ownsRow (w.heap.size + 1 + 1) 45 2 (.slice (some ⟨g, 0, none⟩) j cp) j xs) := owns_gr HO.out HG2.out
   have HC2 : Hid (w.heap.size + 1 + 1 ≤ w2.heap.size) := by
    have q1 := HG2.out.size
    have q3 := (Array.getElem?_eq_some_iff.1 H1.out).1
    unfold Hid
    omega
   go_wp2_with (at_builtin; have q0 := HC2.out; have q1 := owns_gr HO2.out ((Gr.refl w2).alloc (.cells #[.int .u32 bp, .slice ia iq ic] 45)); refine wpList_append_own _ rfl (.tmp 18) (.tmp 21) 33 rfl (w.heap.size + 1 + 1) 45 i0 _ 2 32 Tryz.underlying33 hi hz0 hz1 hz2 rfl (by decide) (.slice (some ⟨g, 0, none⟩) j cp) j xs rfl q1 ⟨w2.heap.size, 0, none⟩ 1 1 [.int .u32 bp, .slice ia iq ic] rfl rfl ?xc (two_ones rfl rfl) ?xd ?xe ?xf ?xg; (case xc => exact two_cells (by simp) (by simp)); (case xd => unfold maxLen; omega); (case xe => omega); (case xf => simp; omega))
   rintro v' w' hown hgrow -
   obtain ⟨g', cp', rfl⟩ := own_form hown (by omega)
   have HOn : Hid (w'.ownsRow (w.heap.size + 1 + 1) 45 2 (.slice (some ⟨g', 0, none⟩) (j + 1) cp') (j + 1) (xs ++ [.int .u32 bp, .slice ia iq ic])) := hown
   have HKp : Hid (∀ (q : Nat) (c : Array Value) (r : Nat) (z : Nat × Nat), w2.heap[q]? = some (.cells c r z) → r ≠ 45 → w'.heap[q]? = some (.cells c r z)) := fun q c r z hq hr => row_keep (owns_gr HO2.out ((Gr.refl w2).alloc _)) hgrow (up_h ((Gr.refl w2).alloc _) hq) hr
   have HGn : Hid (Gr w w') := Gr.grown ((HG.out.trans HG2.out).alloc _) hgrow (fun q e => by have := (HO2.out.lt q e).1; omega)
   clear hown hgrow d0 d1 HB
   go_wp2_with fail
   go_roundw
   case rel =>
    refine ⟨j + 1, by omega, by go_num, g', cp', xs ++ [.int .u32 bp, .slice ia iq ic], rfl, HKp.out _ _ _ _ (up_h HG2.out H0.out) (by decide), HKp.out _ _ _ _ (up_h HG2.out H1.out) (by decide), HOn.out, ?_, HGn.out⟩
    exact HT.out _ _ ((HX.out.of HG2.out).to fun q c f hq => by rw [HKp.out _ _ _ _ hq (by decide)]; exact hq.symm) (HI2.out.to fun q c f hq => by rw [HKp.out _ _ _ _ hq (by decide)]; exact hq.symm)
   case measure => simp [intOf]; omega
  ·have ej : j = n := by omega
   have HE : Hid (bs.take j = bs) := by unfold Hid; rw [ej, ← HL.out, List.take_length]
   have HXe : Hid (Bx wr w.heap.size bs xs) := by have := HX.out; rwa [HE.out] at this
   have HOe : Hid (wr.ownsRow (w.heap.size + 1 + 1) 45 2 (.slice (some ⟨g, 0, none⟩) n cp) n xs) := by have := HO.out; rwa [ej] at this
   subst ej
   have y0 : wr.cell? ⟨w.heap.size, 0, none⟩ = some (.int .i64 room) := cell_of_row _ _ _ _ _ _ H0.out
   have y1 : wr.cell? ⟨w.heap.size, 1, none⟩ = some (.slice ao j cap) := cell_of_row _ _ _ _ _ _ H0.out
   have y2 : wr.cell? ⟨w.heap.size, 2, none⟩ = some (.int .i64 pu) := cell_of_row _ _ _ _ _ _ H0.out
   have y3 : wr.cell? ⟨w.heap.size, 3, none⟩ = some (.int .i64 sl) := cell_of_row _ _ _ _ _ _ H0.out
   have yf : wr.frozen? ⟨w.heap.size, 1, none⟩ = false := frozen_of_row _ _ _ _ _ H0.out
   have x0 : wr.cell? ⟨w.heap.size + 1, 0, none⟩ = some (.int .i64 0) := cell_of_row _ _ _ _ _ _ H1.out
   have x1 : wr.cell? ⟨w.heap.size + 1, 1, none⟩ = some (.slice none 0 0) := cell_of_row _ _ _ _ _ _ H1.out
   have x2 : wr.cell? ⟨w.heap.size + 1, 2, none⟩ = some (.int .i64 0) := cell_of_row _ _ _ _ _ _ H1.out
   have x3 : wr.cell? ⟨w.heap.size + 1, 3, none⟩ = some (.int .i64 0) := cell_of_row _ _ _ _ _ _ H1.out
   have xf : ∀ j, wr.frozen? ⟨w.heap.size + 1, j, none⟩ = false := fun j => frozen_of_row _ _ _ _ _ H1.out
   clear HB HE HO HX CP
   go_wp2_with fail
   have e1 : (wr.setCell ⟨w.heap.size, 1, none⟩ (.slice (some ⟨g, 0, none⟩) j cp)).heap[w.heap.size + 1]? = some (.cells #[.int .i64 0, .slice none 0 0, .int .i64 0, .int .i64 0] 35 (0, 0)) := (heap_setCell_other _ _ _ _ (by show w.heap.size + 1 ≠ w.heap.size; omega)).trans H1.out
   have hk : ∀ (k : Nat) (c : Array Value) (r : Nat) (f : Nat × Nat), wr.heap[k]? = some (.cells c r f) → r ≠ 35 → (((((wr.setCell ⟨w.heap.size, 1, none⟩ (.slice (some ⟨g, 0, none⟩) j cp)).setCell ⟨w.heap.size + 1, 0, none⟩ (.int .i64 room)).setCell ⟨w.heap.size + 1, 1, none⟩ (.slice (some ⟨g, 0, none⟩) j cp)).setCell ⟨w.heap.size + 1, 2, none⟩ (.int .i64 pu)).setCell ⟨w.heap.size + 1, 3, none⟩ (.int .i64 sl)).heap[k]? = wr.heap[k]? := fun k c r f hq hr => by
    rw [four_h _ _ _ _ _ _ (ne_of_types hq H1.out hr), heap_setCell_other _ _ _ _ (by exact ne_of_types hq H0.out hr)]
   refine bodyPost_ret (v := .agg #[.int .i64 room, .slice (some ⟨g, 0, none⟩) j cp, .int .i64 pu, .int .i64 sl]) (results_cell_row Tryz.results78 _ _ _ _ _ (0, 0) _ rfl (four_set e1 _ _ _ _) Tryz.underlying35 rfl iCa) rfl ⟨g, cp, xs, rfl, ?_, ?_, ?_⟩
   ·exact owns_to (owns_low HOe.out (by omega)) fun q c r hq => hk q c _ r hq (by decide)
   ·exact HXe.out.to fun q c r hq => hk q c _ r hq (by decide)
   ·have q1 : w.heap.size ≤ w.heap.size + 1 := by omega
    exact ((((HG.out.setCell (by show w.heap.size ≤ w.heap.size; omega) _).setCell (by exact q1) _).setCell (by exact q1) _).setCell (by exact q1) _).setCell (by exact q1) _
end Go.Proofs.YtchllaeembmioaaGreatDoor.Kc
namespace Go.Proofs.YtchllaeembmioaaGreatDoor.Kc
open Go.ChangeShapes Go.WideShapes Go.ChangeAt Go.RowKit Mm Ts Hc

theorem Delete_any {w : World} {base g n cap k : Nat} {cs : List Value} (R : Rw w base g cap cs) (hn : n ≤ cap) (hk : k < n) (h1c : ∀ u ∈ (cs.take (n * 2)).drop ((k + 1) * 2), u.oneCell' = true) :
  Calls Tryz.prog 142 #[.slice (some ⟨g, 0, none⟩) n cap, .int .i64 k, .int .i64 ((k : Int) + 1)] w fun e w' => e = .returned (.slice (some ⟨g, 0, none⟩) (n - 1) cap) ∧ ∃ cs', Rw w' base g cap cs' ∧ cs'.take ((n - 1) * 2) = cs.take (k * 2) ++ (cs.take (n * 2)).drop ((k + 1) * 2) ∧ Ch g w w' := by
 have hm := R.cap
 unfold maxLen at hm
 have HR : Hid (Rw w base g cap cs) := R
 obtain ⟨i0, hi, hz0, hz1, hz2⟩ := info_parts infoB
 obtain ⟨news, hnews⟩ : ∃ news, news = (cs.take (n * 2)).drop ((k + 1) * 2) := ⟨_, rfl⟩
 have hcl := R.len
 have hlen : news.length = (n - (k + 1)) * 2 := by rw [hnews, List.length_drop, List.length_take, hcl]; omega
 have hget : ∀ t u, news[t]? = some u → cs[(k + 1) * 2 + t]? = some u := fun t u hu => by
  rw [hnews, List.getElem?_drop, List.getElem?_take] at hu
  split at hu
  ·exact hu
  ·cases hu
 obtain ⟨A, hA, hsrc⟩ : ∃ A : Addr, (if cap = k + 1 then some (⟨g, 0, none⟩ : Addr) else some ⟨g, (k + 1) * 2, none⟩) = some A ∧ Hid (∀ t u, news[t]? = some u → w.drew.cell? (A.add t) = some u) := by
  by_cases h : cap = k + 1
  ·refine ⟨⟨g, 0, none⟩, by simp [h], fun t u hu => ?_⟩
   have := (List.getElem?_eq_some_iff.1 hu).1
   omega
  ·refine ⟨⟨g, (k + 1) * 2, none⟩, by simp [h], fun t u hu => ?_⟩
   rw [add_at]
   exact R.cell (hget t u hu)
 have s1 : Hid (news.length = (n - (k + 1)) * 2) := hlen
 have s2 : Hid (∀ u ∈ news, u.oneCell' = true) := fun u hu => h1c u (by rw [← hnews]; exact hu)
 have s3 : Hid (∀ j, j < news.length → (w.drew.cell? ⟨g, 0 + k * 2 + j, none⟩).isSome = true ∧ w.drew.frozen? ⟨g, 0 + k * 2 + j, none⟩ = false) := fun j hj => ⟨R.isS (w := w) (by omega), R.fz _⟩
 obtain ⟨W1, hW1⟩ : ∃ W1, W1 = w.drew.setCells g (0 + k * 2) news := ⟨_, rfl⟩
 have HW : Hid (W1 = w.drew.setCells g (0 + k * 2) news) := hW1
 have R1 : Rw W1 base g cap (cs.take (k * 2) ++ news ++ cs.drop (k * 2 + news.length)) := by
  rw [hW1, Nat.zero_add]
  exact (R.of (Gr.refl w).drew).set (by omega)
 have HR1 : Hid (Rw W1 base g cap (cs.take (k * 2) ++ news ++ cs.drop (k * 2 + news.length))) := R1
 have HCh : Hid (Ch g w W1) := by unfold Hid; rw [hW1]; exact chC ((Ch.refl g w).gr (Gr.refl w).drew) _ _
 have HNw : Hid (news = (cs.take (n * 2)).drop ((k + 1) * 2)) := hnews
 have hcr : ∀ ty, (Builtin.clear_ #[33] ty #[.slice (some ⟨g, (n - 1) * 2, none⟩) (n - (n - 1)) (cap - (n - 1))]).run Tryz.prog W1 = .ok (.tuple #[]) (W1.setCells g ((n - 1) * 2) (zrs (n - (n - 1)))) := fun ty =>
  run_clear2 W1 _ _ ty Tryz.underlying33 Tryz.zeroValue45 g ((n - 1) * 2) (n - (n - 1)) (cap - (n - 1)) (by omega) (fun j hj => R1.isS (by omega)) (fun j hj => R1.fz _)
 clear R hget hnews hlen hW1 R1 h1c hcl
 have e1 : k + (n - (k + 1)) = n - 1 := by omega
 have hic : k ≤ cap := by omega
 have hjc : k + 1 ≤ cap := by omega
 have hq1 : (0 : Int) ≤ (k : Int) + 1 := by omega
 have hq2 : (k : Int) + 1 ≤ (n : Int) := by omega
 go_enter Tryz.func142, Tryz.ntmps142
 go_wp2_with fail
 go_region_law (refine step_append_room rfl (.tmp 22) (.tmp 25) 33 rfl 45 i0 2 Tryz.underlying33 hi hz1 g 0 k cap (by simp [Act.eval, Act.put]) A (n - (k + 1)) (cap - (k + 1)) news (by simp [Act.eval, Act.put]) s1.out hsrc.out s2.out (by omega) s3.out ?_; rw [← HW.out])
 go_wp2_with fail
 go_ret
 have hl := HR.out.len
 have hnl := s1.out
 refine ⟨rfl, _, HR1.out.set (by rw [zrs_len]; omega), ?_, chC HCh.out _ _⟩
 have e2 : (cs.take (k * 2)).length = k * 2 := by rw [List.length_take, hl]; omega
 have e3 : (cs.take (k * 2) ++ news).length = (n - 1) * 2 := by rw [List.length_append, e2, hnl]; omega
 rw [List.append_assoc, List.take_append_of_le_length (by simp only [List.length_take, List.length_append, List.length_drop]; omega), List.take_take, Nat.min_self, ← e3, List.take_left, HNw.out]
theorem without_any {w : World} {base g n cap k : Nat} {cs : List Value} (R : Rw w base g cap cs) (hn : n ≤ cap) (hk : k < n) (h1c : ∀ u ∈ (cs.take (n * 2)).drop ((k + 1) * 2), u.oneCell' = true) :
  Calls Tryz.prog 121 #[.slice (some ⟨g, 0, none⟩) n cap, .int .i64 k] w fun e w' => e = .returned (.slice (some ⟨g, 0, none⟩) (n - 1) cap) ∧ ∃ cs', Rw w' base g cap cs' ∧ cs'.take ((n - 1) * 2) = cs.take (k * 2) ++ (cs.take (n * 2)).drop ((k + 1) * 2) ∧ Ch g w w' := by
 have hm := R.cap
 unfold maxLen at hm
 have D : Hid (Calls Tryz.prog 142 #[.slice (some ⟨g, 0, none⟩) n cap, .int .i64 k, .int .i64 ((k : Int) + 1)] w fun e w' => e = .returned (.slice (some ⟨g, 0, none⟩) (n - 1) cap) ∧ ∃ cs', Rw w' base g cap cs' ∧ cs'.take ((n - 1) * 2) = cs.take (k * 2) ++ (cs.take (n * 2)).drop ((k + 1) * 2) ∧ Ch g w w') := Delete_any R hn hk h1c
 clear R h1c
 go_enter Tryz.func121, Tryz.ntmps121
 go_wp2_with fail
 refine D.out.mono ?_
 rintro e w1 ⟨rfl, X⟩
 have HX : Hid (∃ cs', Rw w1 base g cap cs' ∧ cs'.take ((n - 1) * 2) = cs.take (k * 2) ++ (cs.take (n * 2)).drop ((k + 1) * 2) ∧ Ch g w w1) := X
 clear X D
 go_wp2_with fail
 go_ret
 exact ⟨rfl, HX.out⟩
theorem without_bx {w : World} {base b1 g n cap k : Nat} {xs : List Value} {bs : List Bv} (O : w.ownsRow base 45 2 (.slice (some ⟨g, 0, none⟩) n cap) n xs) (B : Bx w b1 bs xs) (hl : bs.length = n) (hk : k < n) :
  Calls Tryz.prog 121 #[.slice (some ⟨g, 0, none⟩) n cap, .int .i64 k] w fun e w' => e = .returned (.slice (some ⟨g, 0, none⟩) (n - 1) cap) ∧ ∃ xs', w'.ownsRow base 45 2 (.slice (some ⟨g, 0, none⟩) (n - 1) cap) (n - 1) xs' ∧ Bx w' b1 (bs.take k ++ bs.drop (k + 1)) xs' ∧ Ch g w w' := by
 obtain ⟨hn, cs, R, rfl⟩ := Rw.open O
 refine (without_any R hn hk fun u hu => B.one u (List.mem_of_mem_drop hu)).mono ?_
 rintro e w' ⟨rfl, cs', R', e', q⟩
 have O' := R'.own (m := n - 1) (by omega)
 rw [e'] at O'
 refine ⟨rfl, _, O', ?_, q⟩
 have h1 := B.take k
 rw [List.take_take, show min (k * 2) (n * 2) = k * 2 by omega] at h1
 exact (h1.app (B.drop (k + 1))).ch R q
end Go.Proofs.YtchllaeembmioaaGreatDoor.Kc
namespace Go.Proofs.YtchllaeembmioaaGreatDoor.Kc
open Go.ChangeShapes Go.WideShapes Go.ChangeAt Go.RowKit Mm Ts Hc

theorem keep_all {f t : Int} {bs : List Bv} (h : ∀ (i : Nat) (x : Bv), bs[i]? = some x → hasB x f t = false) : keepL f t bs = bs := by
 unfold keepL
 rw [List.filter_eq_self]
 intro b hb
 obtain ⟨i, hi⟩ := List.mem_iff_getElem?.1 hb
 rw [h i b hi]
 rfl
theorem keep_upto {f t : Int} {bs : List Bv} {k : Nat} (h : ∀ (i : Nat) (x : Bv), i < k → bs[i]? = some x → hasB x f t = false) : keepL f t (bs.take k) = bs.take k :=
 keep_all fun i x hx => by
  rw [List.getElem?_take] at hx
  split at hx
  ·rename_i hi
   exact h i x hi hx
  ·cases hx
theorem drop_cell {cs : List Value} {n j r : Nat} {u : Value} (h : ((cs.take (n * 2)).drop (j * 2))[r]? = some u) : cs[j * 2 + r]? = some u := by
 rw [List.getElem?_drop, List.getElem?_take] at h
 split at h
 ·exact h
 ·cases h
theorem DelF_any {w : World} {base b1 g n cap : Nat} {xs : List Value} {bs : List Bv} (O : w.ownsRow base 45 2 (.slice (some ⟨g, 0, none⟩) n cap) n xs) (B : Bx w b1 bs xs) (hl : bs.length = n) (hn : n ≤ 140737488351232) (ok : ∀ b ∈ bs, b.Ok) {K : Nat} {f t : Int} (hK : w.heap[K]? = some (.cells #[.int .u32 f, .int .u32 t] 109 (0, 0))) (ht : t < 4294967296) :
  Calls Tryz.prog 79 #[.slice (some ⟨g, 0, none⟩) n cap, .func (.func 101) #[] #[.pointer (some ⟨K, 0, none⟩)]] w fun e w' => ∃ m xs', e = .returned (.slice (some ⟨g, 0, none⟩) m cap) ∧ (keepL f t bs).length = m ∧ w'.ownsRow base 45 2 (.slice (some ⟨g, 0, none⟩) m cap) m xs' ∧ Bx w' b1 (keepL f t bs) xs' ∧ Ch g w w' := by
 obtain ⟨hnc, cs, R, rfl⟩ := Rw.open O
 have hm := R.cap
 unfold maxLen at hm
 have IX : Hid (Calls Tryz.prog 91 #[.slice (some ⟨g, 0, none⟩) n cap, .func (.func 101) #[] #[.pointer (some ⟨K, 0, none⟩)]] w fun e w' => e = .returned (.int .i64 (fidx (fun b => hasB b f t) bs 0)) ∧ Gr w w') :=
  idx_touched cap (R.bq B hl) hn K (fun b => hasB b f t) fun W b sa sc G hb => touched1_any (cell_of_row _ _ _ _ _ _ (up_h G hK)) (cell_of_row _ _ _ _ _ _ (up_h G hK)) ht (ok b hb) sa sc
 have HR : Hid (Rw w base g cap cs) := R
 have HB : Hid (Bx w b1 bs (cs.take (n * 2))) := B
 have HO : Hid (w.ownsRow base 45 2 (.slice (some ⟨g, 0, none⟩) n cap) n (cs.take (n * 2))) := O
 have HL : Hid (bs.length = n) := hl
 have HK : Hid (w.heap[K]? = some (.cells #[.int .u32 f, .int .u32 t] 109 (0, 0))) := hK
 have Cl : Hid (∀ (W : World) (b : Bv) (sa : Option Addr) (sc : Nat), W.heap[K]? = some (.cells #[.int .u32 f, .int .u32 t] 109 (0, 0)) → b ∈ bs → Calls Tryz.prog 101 #[.agg #[.int .u32 b.pc, .slice sa b.is.length sc], .pointer (some ⟨K, 0, none⟩)] W fun e w' => e = .returned (.bool (hasB b f t)) ∧ Gr W w') := fun W b sa sc h hb => touched1_any (cell_of_row _ _ _ _ _ _ h) (cell_of_row _ _ _ _ _ _ h) ht (ok b hb) sa sc
 clear R B O hl hK ok
 rcases fidx_bd (fun b => hasB b f t) bs with ⟨e1, hall⟩ | ⟨k0, x0, e1, hx0, hp0, hall⟩
 ·rw [e1] at IX
  have HA : Hid (keepL f t bs = bs) := keep_all hall
  clear hall Cl e1 HR
  go_enter Tryz.func79, Tryz.ntmps79
  go_wp2_with fail
  refine IX.out.mono ?_
  rintro e w1 ⟨rfl, G1⟩
  have HG1 : Hid (Gr w w1) := G1
  clear IX G1
  go_wp2_with fail
  go_ret
  refine ⟨n, _, rfl, by rw [HA.out]; exact HL.out, owns_gr HO.out HG1.out, by rw [HA.out]; exact HB.out.of HG1.out, (Ch.refl g w).gr HG1.out⟩
 ·rw [e1] at IX
  have hk0 : k0 < n := by rw [← HL.out]; exact (List.getElem?_eq_some_iff.1 hx0).1
  have hne : ((k0 : Int) == -1) = false := beq_eq_false_iff_ne.2 (by omega)
  have HKu : Hid (keepL f t (bs.take (k0 + 1)) = bs.take k0) := by
   unfold Hid
   rw [keep_take hx0, if_pos hp0]
   exact keep_upto hall
  clear hall e1 hp0 hx0 HO
  go_enter Tryz.func79, Tryz.ntmps79
  go_wp2_with fail
  refine IX.out.mono ?_
  rintro e w1 ⟨rfl, G1⟩
  have HG1 : Hid (Gr w w1) := G1
  clear IX G1
  go_wp2_with fail
  go_loopw [5, 6] (fun vi vj wr => ∃ (i j : Nat) (cs : List Value), vi = .int .i64 i ∧ vj = .int .i64 j ∧ i < j ∧ j ≤ n ∧ Rw wr base g cap cs ∧ (keepL f t (bs.take j)).length = i ∧ Bx wr b1 (keepL f t (bs.take j)) (cs.take (i * 2)) ∧ Bx wr b1 (bs.drop j) ((cs.take (n * 2)).drop (j * 2)) ∧ wr.heap[K]? = some (.cells #[.int .u32 f, .int .u32 t] 109 (0, 0)) ∧ Ch g w wr) (fun _ j _ => n - (intOf j).toNat)
  case atStart =>
   have B1 := HB.out.of HG1.out
   refine ⟨k0, k0 + 1, cs, rfl, by go_num, by omega, by omega, HR.out.of HG1.out, ?_, ?_, B1.drop (k0 + 1), up_h HG1.out HK.out, (Ch.refl g w).gr HG1.out⟩
   ·rw [HKu.out, List.length_take, HL.out]; omega
   ·rw [HKu.out]
    have := B1.take k0
    rwa [List.take_take, show min (k0 * 2) (n * 2) = k0 * 2 by omega] at this
  case round =>
   obtain ⟨i, j, ds, rfl, rfl, hij, hjn, R, hli, B1, B2, hK, q⟩ := hrel
   have HRr : Hid (Rw wr base g cap ds) := R
   have HB1 : Hid (Bx wr b1 (keepL f t (bs.take j)) (ds.take (i * 2))) := B1
   have HB2 : Hid (Bx wr b1 (bs.drop j) ((ds.take (n * 2)).drop (j * 2))) := B2
   have HLi : Hid ((keepL f t (bs.take j)).length = i) := hli
   have HKr : Hid (wr.heap[K]? = some (.cells #[.int .u32 f, .int .u32 t] 109 (0, 0))) := hK
   have HQ : Hid (Ch g w wr) := q
   clear R B1 B2 hli hK q HR HB HG1 HK HKu
   by_cases hlt : j < n
   ·obtain ⟨b, hb⟩ : ∃ b, bs[j]? = some b := ⟨_, List.getElem?_eq_getElem (by rw [HL.out]; exact hlt)⟩
    obtain ⟨v, h1, h2, h3⟩ := HB2.out.at_ 0 b (by rw [List.getElem?_drop]; exact hb)
    obtain ⟨sa, sc, rfl⟩ := h3.shape
    have c0 : wr.cell? ⟨g, j * 2, none⟩ = some (.int .u32 b.pc) := HRr.out.cell (drop_cell h1)
    have c1 : wr.cell? ⟨g, j * 2 + 1, none⟩ = some (.slice sa b.is.length sc) := HRr.out.cell (drop_cell h2)
    have HI3 : Hid (Io wr b1 (.slice sa b.is.length sc) b.is) := h3
    have Cl2 : Hid (∀ W : World, W.heap[K]? = some (.cells #[.int .u32 f, .int .u32 t] 109 (0, 0)) → Calls Tryz.prog 101 #[.agg #[.int .u32 b.pc, .slice sa b.is.length sc], .pointer (some ⟨K, 0, none⟩)] W fun e w' => e = .returned (.bool (hasB b f t)) ∧ Gr W w') := fun W h => Cl.out W b sa sc h (List.mem_of_getElem? hb)
    have HKt := keep_take (f := f) (t := t) hb
    have HBd : Hid (bs.drop (j + 1) = (bs.drop j).drop 1) := by unfold Hid; rw [List.drop_drop]
    clear h1 h2 h3 Cl hb
    cases hh : hasB b f t with
    | true =>
     rw [hh] at Cl2
     rw [if_pos hh] at HKt
     have HK2 : Hid (keepL f t (bs.take (j + 1)) = keepL f t (bs.take j)) := HKt
     clear HKt hh
     generalize b.pc = bp at *
     generalize b.is.length = bn at *
     go_wp2_with fail
     refine (Cl2.out _ (up_h ((Gr.refl wr).alloc _) HKr.out)).mono ?_
     rintro e w2 ⟨rfl, G2⟩
     have HG2 : Hid (Gr wr w2) := ((Gr.refl wr).alloc _).trans G2
     clear G2 c0 c1 Cl2
     go_wp2_with fail
     go_roundw
     case rel =>
      refine ⟨i, j + 1, ds, rfl, by go_num, by omega, by omega, HRr.out.of HG2.out, by rw [HK2.out]; exact HLi.out, by rw [HK2.out]; exact HB1.out.of HG2.out, ?_, up_h HG2.out HKr.out, HQ.out.gr HG2.out⟩
      have := (HB2.out.of HG2.out).drop 1
      rwa [List.drop_drop, List.drop_drop, show j * 2 + 1 * 2 = (j + 1) * 2 by omega] at this
     case measure => simp [intOf]; omega
    | false =>
     rw [hh] at Cl2
     rw [if_neg (by simp [hh])] at HKt
     have HK2 : Hid (keepL f t (bs.take (j + 1)) = keepL f t (bs.take j) ++ [b]) := HKt
     have HBs : Hid (∀ W : World, Bx W b1 (keepL f t (bs.take j)) (ds.take (i * 2)) → Io W b1 (.slice sa b.is.length sc) b.is → Bx W b1 (keepL f t (bs.take j) ++ [b]) (ds.take (i * 2) ++ [.int .u32 b.pc, .slice sa b.is.length sc])) := fun W h k => h.snoc k
     clear HKt hh
     generalize b.pc = bp at *
     generalize b.is.length = bn at *
     go_wp2_with fail
     refine (Cl2.out _ (up_h ((Gr.refl wr).alloc _) HKr.out)).mono ?_
     rintro e w2 ⟨rfl, G2⟩
     have HG2 : Hid (Gr wr w2) := ((Gr.refl wr).alloc _).trans G2
     have HR2 : Hid (Rw w2 base g cap ds) := HRr.out.of HG2.out
     have e0 : w2.cell? ⟨wr.heap.size, 0, none⟩ = some (.int .u32 bp) := cell_of_row _ _ _ _ _ _ (up_h G2 (heap_alloc_new wr _))
     have e1 : w2.cell? ⟨wr.heap.size, 1, none⟩ = some (.slice sa bn sc) := cell_of_row _ _ _ _ _ _ (up_h G2 (heap_alloc_new wr _))
     have hcl := HR2.out.len
     obtain ⟨y0, hy0⟩ : ∃ y, w2.cell? ⟨g, i * 2, none⟩ = some y := ⟨_, HR2.out.cell (List.getElem?_eq_getElem (by omega))⟩
     obtain ⟨y1, hy1⟩ : ∃ y, w2.cell? ⟨g, i * 2 + 1, none⟩ = some y := ⟨_, HR2.out.cell (List.getElem?_eq_getElem (by omega))⟩
     have hfz : ∀ o, w2.frozen? ⟨g, o, none⟩ = false := fun o => HR2.out.fz o
     have hi0 : (0 : Int) ≤ (i : Int) := by omega
     have hi1 : (i : Int) < (n : Int) := by omega
     clear G2 c0 c1 Cl2 hcl
     go_wp2_with fail
     go_roundw
     case rel =>
      have q2 : Ch g w2 (w2.setCells g (i * 2) [.int .u32 bp, .slice sa bn sc]) := chC (Ch.refl g w2) _ _
      have hcl := HR2.out.len
      have R3 := HR2.out.set (o := i * 2) (vs := [.int .u32 bp, .slice sa bn sc]) (by simp; omega)
      have lt : (ds.take (i * 2)).length = i * 2 := by rw [List.length_take, hcl]; omega
      refine ⟨i + 1, j + 1, _, by go_num, by go_num, by omega, by omega, R3, by rw [HK2.out, List.length_append, HLi.out]; rfl, ?_, ?_, ?_, (HQ.out.gr HG2.out).trans q2⟩
      ·have e6 : (ds.take (i * 2) ++ [Value.int .u32 bp, Value.slice sa bn sc] ++ ds.drop (i * 2 + [Value.int .u32 bp, Value.slice sa bn sc].length)).take ((i + 1) * 2) = ds.take (i * 2) ++ [Value.int .u32 bp, Value.slice sa bn sc] := by
        have l2 : (ds.take (i * 2) ++ [Value.int .u32 bp, Value.slice sa bn sc]).length = (i + 1) * 2 := by rw [List.length_append, lt]; simp; omega
        rw [← l2]
        exact List.take_left
       rw [HK2.out, e6]
       exact HBs.out _ ((HB1.out.of HG2.out).ch HR2.out q2) ((HI3.out.of HG2.out).to fun k o r hk => HR2.out.keep q2 k o _ r (by decide) hk)
      ·have h4 := ((HB2.out.of HG2.out).ch HR2.out q2).drop 1
       rw [List.drop_drop, List.drop_drop, show j * 2 + 1 * 2 = (j + 1) * 2 by omega] at h4
       have e5 : ((ds.take (i * 2) ++ [Value.int .u32 bp, Value.slice sa bn sc] ++ ds.drop (i * 2 + [Value.int .u32 bp, .slice sa bn sc].length)).take (n * 2)).drop ((j + 1) * 2) = (ds.take (n * 2)).drop ((j + 1) * 2) := by
        apply List.ext_getElem?
        intro z
        rw [List.getElem?_drop, List.getElem?_drop, List.getElem?_take, List.getElem?_take]
        split
        ·have l2 : (ds.take (i * 2) ++ [Value.int .u32 bp, Value.slice sa bn sc]).length = (i + 1) * 2 := by rw [List.length_append, lt]; simp; omega
         rw [List.getElem?_append_right (by omega), List.getElem?_drop, l2]
         congr 1
         simp
         omega
        ·rfl
       rw [e5]
       exact h4
      ·exact (HR2.out.keep q2 K _ _ _ (by decide) (up_h HG2.out HKr.out)).trans (up_h HG2.out HKr.out)
     case measure => simp [intOf]; omega
   ·have ej : j = n := by omega
    subst ej
    have HT : Hid (bs.take j = bs) := by unfold Hid; rw [← HL.out, List.take_length]
    have HB1e : Hid (Bx wr b1 (keepL f t bs) (ds.take (i * 2))) := by have := HB1.out; rwa [HT.out] at this
    have HLe : Hid ((keepL f t bs).length = i) := by have := HLi.out; rwa [HT.out] at this
    have hcr : ∀ ty, (Builtin.clear_ #[33] ty #[.slice (some ⟨g, i * 2, none⟩) (j - i) (cap - i)]).run Tryz.prog wr = .ok (.tuple #[]) (wr.setCells g (i * 2) (zrs (j - i))) := fun ty =>
     run_clear2 wr _ _ ty Tryz.underlying33 Tryz.zeroValue45 g (i * 2) (j - i) (cap - i) (by omega) (fun z hz => HRr.out.isS (by omega)) (fun z hz => HRr.out.fz _)
    have hi0 : (0 : Int) ≤ (i : Int) := by omega
    have hi1 : (i : Int) < (j : Int) := by omega
    clear HB1 HLi HT HB2 Cl
    go_wp2_with fail
    go_ret
    have R3 := HRr.out.set (o := i * 2) (vs := zrs (j - i)) (by rw [zrs_len]; omega)
    have lt : (ds.take (i * 2)).length = i * 2 := by rw [List.length_take, HRr.out.len]; omega
    have e5 : (ds.take (i * 2) ++ zrs (j - i) ++ ds.drop (i * 2 + (zrs (j - i)).length)).take (i * 2) = ds.take (i * 2) := by
     rw [List.append_assoc, List.take_append_of_le_length (by omega), List.take_of_length_le (by omega)]
    have q2 : Ch g wr (wr.setCells g (i * 2) (zrs (j - i))) := chC (Ch.refl g wr) _ _
    refine ⟨i, _, rfl, HLe.out, R3.own (by omega), ?_, HQ.out.trans q2⟩
    rw [e5]
    exact HB1e.out.ch HRr.out q2
end Go.Proofs.YtchllaeembmioaaGreatDoor.Kc
