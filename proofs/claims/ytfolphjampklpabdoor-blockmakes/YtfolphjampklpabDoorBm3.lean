/-
  What the document's chapter 6 says of two blocks of the same place and instructions: they are one.
-/
import Derived.Test.YtfolphjampklpabDoorBm1
namespace Go.Proofs.YtfolphjampklpabDoor.Bk
open Go.ChangeShapes Go.WideShapes Go.ChangeAt Go.RowKit Mm Hh Hc
set_option linter.unusedVariables false
set_option linter.unusedSimpArgs false

theorem owns_ins {w : World} {base n : Nat} {v : Value} {xs : List Int} {g c : Nat} (h : w.ownsRow base 60 5 v n (blC xs)) (hv : v = .slice (some ⟨g, 0, none⟩) n c) {i : Nat} {x : Int} (hi : xs[i]? = some x) :
    w.cell? ⟨g, i * 5, none⟩ = some (.int .i64 (Dc.dop x)) ∧ w.cell? ⟨g, i * 5 + 1, none⟩ = some (.int .i64 (Dc.rdF (Dc.frm (Dc.dop x)) x)) ∧ w.cell? ⟨g, i * 5 + 2, none⟩ = some (.int .i64 (Dc.rs1F (Dc.frm (Dc.dop x)) x)) ∧ w.cell? ⟨g, i * 5 + 3, none⟩ = some (.int .i64 (Dc.rs2F (Dc.frm (Dc.dop x)) x)) ∧ w.cell? ⟨g, i * 5 + 4, none⟩ = some (.int .i32 (Dc.immF (Dc.frm (Dc.dop x)) x)) := by
  have hb : v.ownBlock = some g := by rw [hv]; rfl
  have q : ∀ j u, (blC xs)[j]? = some u → w.cell? ⟨g, j, none⟩ = some u := fun j u hu => by
    have := h.cells hb j u hu
    rwa [add_at, Nat.zero_add] at this
  exact ⟨q _ _ (blC_get xs i 0 x hi (by omega)), q _ _ (blC_get xs i 1 x hi (by omega)), q _ _ (blC_get xs i 2 x hi (by omega)), q _ _ (blC_get xs i 3 x hi (by omega)), q _ _ (blC_get xs i 4 x hi (by omega))⟩

theorem drew_heap {w : World} {g n : Nat} {x : Option Obj} (h : w.heap[g]? = x) : (w.drewN n).heap[g]? = x := h
set_option maxHeartbeats 4000000 in
set_option maxRecDepth 100000 in
theorem Same_yes {w : World} {b1 b2 : Nat} {v1 v2 : Value} {xs : List Int} (pc : Int) (O1 : w.ownsRow b1 60 5 v1 xs.length (blC xs)) (O2 : w.ownsRow b2 60 5 v2 xs.length (blC xs)) (hx : xs.length ≤ 16) :
    Calls Tryd.prog 9 #[.agg #[.int .u32 pc, v1], .agg #[.int .u32 pc, v2]] w fun e w' => e = .returned (.bool true) ∧ Gr w w' := by
  obtain ⟨a1, c1, rfl⟩ := owns_form O1
  obtain ⟨a2, c2, rfl⟩ := owns_form O2
  have HC : Hid (∀ i x, xs[i]? = some x → ∃ g1 g2, a1 = some ⟨g1, 0, none⟩ ∧ a2 = some ⟨g2, 0, none⟩ ∧ g1 < w.heap.size ∧ g2 < w.heap.size ∧ ∃ x0 x1 x2 x3 x4 : Int, (w.cell? ⟨g1, i * 5, none⟩ = some (.int .i64 x0) ∧ w.cell? ⟨g1, i * 5 + 1, none⟩ = some (.int .i64 x1) ∧ w.cell? ⟨g1, i * 5 + 2, none⟩ = some (.int .i64 x2) ∧ w.cell? ⟨g1, i * 5 + 3, none⟩ = some (.int .i64 x3) ∧ w.cell? ⟨g1, i * 5 + 4, none⟩ = some (.int .i32 x4)) ∧ (w.cell? ⟨g2, i * 5, none⟩ = some (.int .i64 x0) ∧ w.cell? ⟨g2, i * 5 + 1, none⟩ = some (.int .i64 x1) ∧ w.cell? ⟨g2, i * 5 + 2, none⟩ = some (.int .i64 x2) ∧ w.cell? ⟨g2, i * 5 + 3, none⟩ = some (.int .i64 x3) ∧ w.cell? ⟨g2, i * 5 + 4, none⟩ = some (.int .i32 x4))) := fun i x hi => by
    have hn : 0 < xs.length := by
      have := (List.getElem?_eq_some_iff.1 hi).1
      omega
    obtain ⟨g1, d1, e1⟩ := own_form O1 hn
    obtain ⟨g2, d2, e2⟩ := own_form O2 hn
    injection e1 with f1 _ f2
    injection e2 with f3 _ f4
    subst f1 f2 f3 f4
    exact ⟨g1, g2, rfl, rfl, (O1.lt g1 rfl).2, (O2.lt g2 rfl).2, _, _, _, _, _, owns_ins O1 rfl hi, owns_ins O2 rfl hi⟩
  generalize hn : xs.length = n at *
  have HN : Hid (xs.length = n) := hn
  clear O1 O2 hn
  go_enter Tryd.func9, Tryd.ntmps9
  go_wp2
  go_loopw [5] (fun i wr => ∃ j : Nat, j ≤ n ∧ i = .int .i64 j ∧ wr.heap[w.heap.size]? = some (.cells #[.int .u32 pc, .slice a1 n c1] 41 (0, 0)) ∧ wr.heap[w.heap.size + 1]? = some (.cells #[.int .u32 pc, .slice a2 n c2] 41 (0, 0)) ∧ Gr w wr) (fun i _ => n - (intOf i).toNat)
  case atStart => exact ⟨0, Nat.zero_le _, rfl, heap_alloc2_old w _ _, heap_alloc2_new w _ _, ((Gr.refl _).alloc _).alloc _⟩
  case round =>
    obtain ⟨j, hj, rfl, B1, B2, G⟩ := hrel
    have HB1 : Hid _ := B1
    have HB2 : Hid _ := B2
    have HG : Hid (Gr w wr) := G
    have k1 : wr.cell? ⟨w.heap.size, 1, none⟩ = some (.slice a1 n c1) := cell_of_row _ _ _ _ _ _ B1
    have k2 : wr.cell? ⟨w.heap.size + 1, 1, none⟩ = some (.slice a2 n c2) := cell_of_row _ _ _ _ _ _ B2
    clear B1 B2 G
    by_cases hlt : j < n
    · obtain ⟨x, hx2⟩ : ∃ x, xs[j]? = some x := ⟨_, List.getElem?_eq_getElem (by rw [HN.out]; exact hlt)⟩
      obtain ⟨g1, g2, rfl, rfl, l1, l2, x0, x1, x2, x3, x4, ⟨p0, p1, p2, p3, p4⟩, ⟨q0, q1, q2, q3, q4⟩⟩ := HC.out j x hx2
      have P0 := (HG.out.cell ⟨g1, j * 5, none⟩ (by exact l1)).trans p0
      have P1 := (HG.out.cell ⟨g1, j * 5 + 1, none⟩ (by exact l1)).trans p1
      have P2 := (HG.out.cell ⟨g1, j * 5 + 2, none⟩ (by exact l1)).trans p2
      have P3 := (HG.out.cell ⟨g1, j * 5 + 3, none⟩ (by exact l1)).trans p3
      have P4 := (HG.out.cell ⟨g1, j * 5 + 4, none⟩ (by exact l1)).trans p4
      have Q0 := (HG.out.cell ⟨g2, j * 5, none⟩ (by exact l2)).trans q0
      have Q1 := (HG.out.cell ⟨g2, j * 5 + 1, none⟩ (by exact l2)).trans q1
      have Q2 := (HG.out.cell ⟨g2, j * 5 + 2, none⟩ (by exact l2)).trans q2
      have Q3 := (HG.out.cell ⟨g2, j * 5 + 3, none⟩ (by exact l2)).trans q3
      have Q4 := (HG.out.cell ⟨g2, j * 5 + 4, none⟩ (by exact l2)).trans q4
      clear HC hx2 p0 p1 p2 p3 p4 q0 q1 q2 q3 q4
      go_wp2
      go_quiet (fail)
      go_wp2
      go_roundw
      case rel => exact ⟨j + 1, by omega, by go_num, drew_heap HB1.out, drew_heap HB2.out, HG.out.drewN _⟩
      case measure => simp [intOf]; omega
    · go_wp2
      go_ret
      exact ⟨rfl, HG.out⟩
end Go.Proofs.YtfolphjampklpabDoor.Bk
