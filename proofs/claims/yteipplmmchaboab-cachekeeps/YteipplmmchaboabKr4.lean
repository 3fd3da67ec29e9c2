/-
  What the document says of two blocks, and of two caches, that read as the same: they are one.
-/
import Derived.Test.YteipplmmchaboabKp
namespace Go.Proofs.Yteipplmmchaboab.Kc
open Go.ChangeShapes Go.WideShapes Go.ChangeAt Go.RowKit Mm Ts
set_option linter.unusedVariables false
set_option linter.unusedSimpArgs false

theorem heapN {w : World} {g n : Nat} {x : Option Obj} (h : w.heap[g]? = x) : (w.drewN n).heap[g]? = x := h
theorem upK {w w' : World} (g : Gr w w') {k : Nat} {x : Obj} (h : w.heap[k]? = some x) : w'.heap[k]? = some x := by
  rw [g.block k (Array.getElem?_eq_some_iff.1 h).1]; exact h
set_option maxHeartbeats 4000000 in
set_option maxRecDepth 100000 in
theorem Same6 {w : World} {b : Bv} {x1 y1 x2 y2 : Value} (B1 : Bc w b x1 y1) (B2 : Bc w b x2 y2) :
    Calls Try.prog 10 #[.agg #[x1, y1], .agg #[x2, y2]] w fun e w' => e = .returned (.bool true) ∧ Gr w w' := by
  obtain ⟨rfl, _, a1, n1, c1, rfl, I1, hb1⟩ := B1
  obtain ⟨rfl, _, a2, n2, c2, rfl, I2, hb2⟩ := B2
  have e12 : n2 = n1 := I2.len.symm.trans I1.len
  subst e12
  have HN : Hid (b.is.length = n2) := I1.len
  have H1 : Hid (Is w a1 n2 b.is) := I1
  have H2 : Hid (Is w a2 n2 b.is) := I2
  generalize b.pc = pc at *
  clear I1 I2
  go_enter Try.func10, Try.ntmps10
  go_wp2
  go_loopw [5] (fun i wr => ∃ j : Nat, j ≤ n2 ∧ i = .int .i64 j ∧ wr.heap[w.heap.size]? = some (.cells #[.int .u32 pc, .slice a1 n2 c1] 28 (0, 0)) ∧ wr.heap[w.heap.size + 1]? = some (.cells #[.int .u32 pc, .slice a2 n2 c2] 28 (0, 0)) ∧ Gr w wr) (fun i _ => n2 - (intOf i).toNat)
  case atStart => exact ⟨0, Nat.zero_le _, rfl, heap_alloc2_old w _ _, heap_alloc2_new w _ _, ((Gr.refl _).alloc _).alloc _⟩
  case round =>
    obtain ⟨j, hj, rfl, B1, B2, G⟩ := hrel
    have HB1 : Hid (wr.heap[w.heap.size]? = some (.cells #[.int .u32 pc, .slice a1 n2 c1] 28 (0, 0))) := B1
    have HB2 : Hid (wr.heap[w.heap.size + 1]? = some (.cells #[.int .u32 pc, .slice a2 n2 c2] 28 (0, 0))) := B2
    have HG : Hid (Gr w wr) := G
    have k1 : wr.cell? ⟨w.heap.size, 1, none⟩ = some (.slice a1 n2 c1) := cell_of_row _ _ _ _ _ _ B1
    have k2 : wr.cell? ⟨w.heap.size + 1, 1, none⟩ = some (.slice a2 n2 c2) := cell_of_row _ _ _ _ _ _ B2
    clear B1 B2 G
    by_cases hlt : j < n2
    · obtain ⟨x, hx⟩ : ∃ x, b.is[j]? = some x := ⟨_, List.getElem?_eq_getElem (by rw [HN.out]; exact hlt)⟩
      obtain ⟨g1, o1, rfl, l1, f1⟩ := (H1.out.of HG.out).spot (by omega)
      obtain ⟨g2, o2, rfl, l2, f2⟩ := (H2.out.of HG.out).spot (by omega)
      obtain ⟨p0, p1, p2, p3, p4⟩ := f1 j x hx
      obtain ⟨q0, q1, q2, q3, q4⟩ := f2 j x hx
      clear f1 f2 hx H1 H2
      obtain ⟨z0, z1, z2, z3, z4⟩ := x
      simp only at *
      go_wp2
      go_quiet (fail)
      go_wp2
      go_roundw
      case rel => exact ⟨j + 1, by omega, by go_num, heapN HB1.out, heapN HB2.out, HG.out.drewN _⟩
      case measure => simp [intOf]; omega
    · go_wp2
      go_ret
      exact ⟨rfl, HG.out⟩
set_option maxHeartbeats 4000000 in
set_option maxRecDepth 100000 in
theorem Same9 {w : World} {bs : List Bv} {a1 a2 : Option Addr} {n : Nat} (c1 c2 : Nat) (B1 : Bs w a1 n bs) (B2 : Bs w a2 n bs) (hn : n ≤ 140737488351232) (room pu sl : Int) :
    Calls Try.prog 7 #[.agg #[.int .i64 room, .slice a1 n c1, .int .i64 pu, .int .i64 sl], .agg #[.int .i64 room, .slice a2 n c2, .int .i64 pu, .int .i64 sl]] w fun e w' => e = .returned (.bool true) ∧ Gr w w' := by
  have HN : Hid (bs.length = n) := B1.len
  have H1 : Hid (Bs w a1 n bs) := B1
  have H2 : Hid (Bs w a2 n bs) := B2
  have S6 : Hid (∀ (W : World) (b : Bv) (x1 y1 x2 y2 : Value), Bc W b x1 y1 → Bc W b x2 y2 → Calls Try.prog 10 #[.agg #[x1, y1], .agg #[x2, y2]] W fun e w' => e = .returned (.bool true) ∧ Gr W w') := fun W b x1 y1 x2 y2 => Same6
  clear B1 B2
  go_enter Try.func7, Try.ntmps7
  go_wp2_with fail
  go_loopw [5] (fun i wr => ∃ j : Nat, j ≤ n ∧ i = .int .i64 j ∧ wr.heap[w.heap.size]? = some (.cells #[.int .i64 room, .slice a1 n c1, .int .i64 pu, .int .i64 sl] 24 (0, 0)) ∧ wr.heap[w.heap.size + 1]? = some (.cells #[.int .i64 room, .slice a2 n c2, .int .i64 pu, .int .i64 sl] 24 (0, 0)) ∧ Gr w wr) (fun i _ => n - (intOf i).toNat)
  case atStart => exact ⟨0, Nat.zero_le _, rfl, heap_alloc2_old w _ _, heap_alloc2_new w _ _, ((Gr.refl _).alloc _).alloc _⟩
  case round =>
    obtain ⟨j, hj, rfl, B1, B2, G⟩ := hrel
    have HB1 : Hid (wr.heap[w.heap.size]? = some (.cells #[.int .i64 room, .slice a1 n c1, .int .i64 pu, .int .i64 sl] 24 (0, 0))) := B1
    have HB2 : Hid (wr.heap[w.heap.size + 1]? = some (.cells #[.int .i64 room, .slice a2 n c2, .int .i64 pu, .int .i64 sl] 24 (0, 0))) := B2
    have HG : Hid (Gr w wr) := G
    have k1 : wr.cell? ⟨w.heap.size, 1, none⟩ = some (.slice a1 n c1) := cell_of_row _ _ _ _ _ _ B1
    have k2 : wr.cell? ⟨w.heap.size + 1, 1, none⟩ = some (.slice a2 n c2) := cell_of_row _ _ _ _ _ _ B2
    clear B1 B2 G
    by_cases hlt : j < n
    · obtain ⟨x, hx⟩ : ∃ x, bs[j]? = some x := ⟨_, List.getElem?_eq_getElem (by rw [HN.out]; exact hlt)⟩
      obtain ⟨g1, o1, rfl, l1, f1⟩ := (H1.out.of HG.out).spot (by omega)
      obtain ⟨g2, o2, rfl, l2, f2⟩ := (H2.out.of HG.out).spot (by omega)
      obtain ⟨u1, v1, p0, p1, bc1⟩ := f1 j x hx
      obtain ⟨u2, v2, q0, q1, bc2⟩ := f2 j x hx
      have S7 : Hid (∀ W : World, Gr wr W → Calls Try.prog 10 #[.agg #[u1, v1], .agg #[u2, v2]] W fun e w' => e = .returned (.bool true) ∧ Gr W w') := fun W G => S6.out W x u1 v1 u2 v2 (bc1.of G) (bc2.of G)
      obtain ⟨rfl, _, m1, r1, s1, rfl, _⟩ := bc1
      obtain ⟨rfl, _, m2, r2, s2, rfl, _⟩ := bc2
      clear f1 f2 hx H1 H2 S6
      generalize x.pc = pc at *
      go_wp2_with fail
      go_region_with ((go_at_call 10; refine (S7.out _ (by repeat (first | exact Gr.refl wr | refine Gr.drewN ?_ _ | refine Gr.drew ?_ | refine Gr.alloc ?_ _))).mono ?_; rintro e w2 ⟨rfl, G2⟩; have HG2 : Hid (Gr wr w2) := Gr.trans (by repeat (first | exact Gr.refl wr | refine Gr.drewN ?_ _ | refine Gr.drew ?_ | refine Gr.alloc ?_ _)) G2; clear G2))
      all_goals
        go_wp2_with fail
        go_roundw
        case rel => exact ⟨j + 1, by omega, by go_num, upK HG2.out HB1.out, upK HG2.out HB2.out, HG.out.trans HG2.out⟩
        case measure => simp [intOf]; omega
    · go_wp2_with fail
      go_ret
      exact ⟨rfl, HG.out⟩
end Go.Proofs.Yteipplmmchaboab.Kc
