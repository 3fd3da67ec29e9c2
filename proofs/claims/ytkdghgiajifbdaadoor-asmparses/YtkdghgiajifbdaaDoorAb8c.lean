/-
  What the function read of package ferrybridgeref11 answers, a walk a class of instructions. Printed by tools/mkab8.py.
-/
import Derived.Test.YtkdghgiajifbdaaDoorAb8
namespace Go.Proofs.YtkdghgiajifbdaaDoor.As
open Go.ChangeShapes Go.WideShapes Go.ChangeAt Go.RowKit Mm
set_option linter.unusedVariables false
set_option linter.unusedSimpArgs false

variable {w w' : World}
set_option maxHeartbeats 8000000 in
set_option maxRecDepth 1000000 in
theorem read_k3 {op m v1 v2 n : Int} {L : List Nat} {o0 o1 o2 o3 o4 o5 o6 : Option (List Nat)} (hl : L.length ≤ 140737488355328) (p1 : 5 ≤ op) (p2 : op ≤ 10) (m0 : 0 ≤ m) (m3 : m ≤ 3) (n0 : -10000000000 < n) (n1 : n < 10000000000) (ho : o0 = some L) (H1 : EatC (w.heap.size + 1 + 1) L 32 o0 o1) (H2 : RegC (w.heap.size + 1 + 1) L o1 v1 o2) (H3 : EatC (w.heap.size + 1 + 1) L 44 o2 o3) (H4 : RegC (w.heap.size + 1 + 1) L o3 v2 o4) (H5 : EatC (w.heap.size + 1 + 1) L 44 o4 o5) (H6 : NumC (w.heap.size + 1 + 1) L o5 n o6) :
    Calls Tryd.prog 53 #[.int .i64 op, .int .i32 m, .string (bs L)] w (RdE w o6 op 0 v1 v2 n) := by
  have I1 : Hid _ := H1
  have I2 : Hid _ := H2
  have I3 : Hid _ := H3
  have I4 : Hid _ := H4
  have I5 : Hid _ := H5
  have I6 : Hid _ := H6
  have e58 : (op == 58) = false := by simp; omega
  have e59 : (op == 59) = false := by simp; omega
  have l3 : ¬ op ≤ 3 := by omega
  have e4 : (op == 4) = false := by simp; omega
  have g19 : ¬ 19 ≤ op := by omega
  have l27 : op ≤ 27 := by omega
  have e57 : (op == 57) = false := by simp; omega
  have l10 : op ≤ 10 := by omega
  have l15 : op ≤ 15 := by omega
  have l18 : op ≤ 18 := by omega
  have l45 : op ≤ 45 := by omega
  have e46 : (op == 46) = false := by simp; omega
  have l2 : ¬ op ≤ 2 := by omega
  have hz : ((bs L).size : Int) = (L.length : Int) := by rw [bs_size]
  have HX0 : Hid (∀ W : World, W.heap[w.heap.size + 1 + 1]? = some (.cells #[.string (bs L), .int .i64 0, .bool false] 157 (0, 0)) → Rx W (w.heap.size + 1 + 1) L o0) := fun W h => ⟨0, false, h, Nat.zero_le _, by rw [ho]; rfl⟩
  clear H1 H2 H3 H4 H5 H6 ho p1 p2
  go_enter Tryd.func53, Tryd.ntmps53
  go_wp2_with fail
  have HW0 : Hid (Rw w L o0 op 0 0 0 0 (((w.alloc (.cells #[.int .i64 0, .int .i64 0, .int .i64 0, .int .i64 0, .int .i32 0] 23)).alloc (.cells #[.int .i64 op, .int .i64 0, .int .i64 0, .int .i64 0, .int .i32 0] 23)).alloc (.cells #[.string (bs L), .int .i64 0, .bool false] 157))) := by
    refine ⟨(((Gr.refl w).alloc _).alloc _).alloc _, ?_, ?_, HX0.out _ ?_⟩
    · rw [heap_alloc_old _ _ (by simp; omega), heap_alloc_old _ _ (by simp)]
      exact heap_alloc_new w _
    · rw [heap_alloc_old _ _ (by simp)]
      exact al2' _ _ _
    · have := heap_alloc_new ((w.alloc (.cells #[.int .i64 0, .int .i64 0, .int .i64 0, .int .i64 0, .int .i32 0] 23)).alloc (.cells #[.int .i64 op, .int .i64 0, .int .i64 0, .int .i64 0, .int .i32 0] 23)) (.cells #[.string (bs L), .int .i64 0, .bool false] 157)
      simpa using this
  refine (I1.out _ HW0.out.x).mono ?_
  rintro e W1 ⟨rfl, X1, k1⟩
  have HW1 : Hid (Rw w L o1 op 0 0 0 0 W1) := HW0.out.call X1 k1
  clear X1 k1
  have y0 := cr0 HW1.out.i
  have y1 := cr1 HW1.out.i
  have y2 := cr2 HW1.out.i
  have y3 := cr3 HW1.out.i
  have y4 := cr4 HW1.out.i
  have yf : ∀ j, W1.frozen? ⟨w.heap.size + 1, j, none⟩ = false := fun j => fzr HW1.out.i
  go_wp2_with fail
  refine (I2.out _ HW1.out.x).mono ?_
  rintro e W2 ⟨rfl, X2, k2⟩
  have HW2 : Hid (Rw w L o2 op 0 0 0 0 W2) := HW1.out.call X2 k2
  clear X2 k2
  have y0 := cr0 HW2.out.i
  have y1 := cr1 HW2.out.i
  have y2 := cr2 HW2.out.i
  have y3 := cr3 HW2.out.i
  have y4 := cr4 HW2.out.i
  have yf : ∀ j, W2.frozen? ⟨w.heap.size + 1, j, none⟩ = false := fun j => fzr HW2.out.i
  go_wp2_with fail
  refine (I3.out _ HW2.out.x).mono ?_
  rintro e W3 ⟨rfl, X3, k3⟩
  have HW3 : Hid (Rw w L o3 op 0 0 0 0 W3) := HW2.out.call X3 k3
  clear X3 k3
  have y0 := cr0 HW3.out.i
  have y1 := cr1 HW3.out.i
  have y2 := cr2 HW3.out.i
  have y3 := cr3 HW3.out.i
  have y4 := cr4 HW3.out.i
  have yf : ∀ j, W3.frozen? ⟨w.heap.size + 1, j, none⟩ = false := fun j => fzr HW3.out.i
  have HS32 : Hid _ := HW3.out.set 2 (.int .i64 v1) rfl
  go_wp2_with fail
  refine (I4.out _ HS32.out.x).mono ?_
  rintro e W4 ⟨rfl, X4, k4⟩
  have HW4 : Hid (Rw w L o4 op 0 v1 0 0 W4) := HS32.out.call X4 k4
  clear X4 k4
  have y0 := cr0 HW4.out.i
  have y1 := cr1 HW4.out.i
  have y2 := cr2 HW4.out.i
  have y3 := cr3 HW4.out.i
  have y4 := cr4 HW4.out.i
  have yf : ∀ j, W4.frozen? ⟨w.heap.size + 1, j, none⟩ = false := fun j => fzr HW4.out.i
  have HS43 : Hid _ := HW4.out.set 3 (.int .i64 v2) rfl
  go_wp2_with fail
  refine (I5.out _ HS43.out.x).mono ?_
  rintro e W5 ⟨rfl, X5, k5⟩
  have HW5 : Hid (Rw w L o5 op 0 v1 v2 0 W5) := HS43.out.call X5 k5
  clear X5 k5
  have y0 := cr0 HW5.out.i
  have y1 := cr1 HW5.out.i
  have y2 := cr2 HW5.out.i
  have y3 := cr3 HW5.out.i
  have y4 := cr4 HW5.out.i
  have yf : ∀ j, W5.frozen? ⟨w.heap.size + 1, j, none⟩ = false := fun j => fzr HW5.out.i
  go_wp2_with fail
  refine (I6.out _ HW5.out.x).mono ?_
  rintro e W6 ⟨rfl, X6, k6⟩
  have HW6 : Hid (Rw w L o6 op 0 v1 v2 0 W6) := HW5.out.call X6 k6
  clear X6 k6
  have y0 := cr0 HW6.out.i
  have y1 := cr1 HW6.out.i
  have y2 := cr2 HW6.out.i
  have y3 := cr3 HW6.out.i
  have y4 := cr4 HW6.out.i
  have yf : ∀ j, W6.frozen? ⟨w.heap.size + 1, j, none⟩ = false := fun j => fzr HW6.out.i
  go_wp2_with fail
  refine atWz (fun W => Rw w L o6 op 0 v1 v2 (wrap32 n) W) (HW6.out.set 4 _ rfl) (fun W HWz => ?_)
  obtain ⟨q, bad, hx, hq, ho⟩ := HWz.x.ex
  have HZ : Hid (Rw w L o6 op 0 v1 v2 (wrap32 n) W) := HWz
  have HO : Hid (o6 = if bad = true then none else some (L.drop q)) := ho
  have r0 := cr0 hx
  have r1 := cr1 hx
  have r2 := cr2 hx
  have y0 := cr0 HWz.i
  have y1 := cr1 HWz.i
  have y2 := cr2 HWz.i
  have y3 := cr3 HWz.i
  have y4 := cr4 HWz.i
  have t0 := cr0 HWz.r
  have t1 := cr1 HWz.r
  have t2 := cr2 HWz.r
  have t3 := cr3 HWz.r
  have t4 := cr4 HWz.r
  have tf : ∀ j, W.frozen? ⟨w.heap.size, j, none⟩ = false := fun j => fzr HWz.r
  have hw := wrap_in32 n
  have HU1 : Hid (W.heap[w.heap.size]? = some (.cells #[.int .i64 0, .int .i64 0, .int .i64 0, .int .i64 0, .int .i32 0] 23 (0, 0))) := HWz.r
  have HG : Hid (Gr w W) := HWz.g
  clear hx ho HWz HZ HW0 HW1 HW2 HW3 HW4 HW5 HW6 t0 t1 t2 t3 t4 tf r0
  generalize wrap32 n = F5 at *
  cases bad with
  | true =>
    refine wp_region_held_drew (S := fun W => W.cell? ⟨(w.heap.size + 1), 0, none⟩ = some (.int .i64 op) ∧ W.cell? ⟨(w.heap.size + 1), 1, none⟩ = some (.int .i64 0) ∧ W.cell? ⟨(w.heap.size + 1), 2, none⟩ = some (.int .i64 v1) ∧ W.cell? ⟨(w.heap.size + 1), 3, none⟩ = some (.int .i64 v2) ∧ W.cell? ⟨(w.heap.size + 1), 4, none⟩ = some (.int .i32 F5) ∧ W.cell? ⟨(w.heap.size + 1 + 1), 1, none⟩ = some (.int .i64 (q : Int)) ∧ W.cell? ⟨(w.heap.size + 1 + 1), 2, none⟩ = some (.bool true)) (by kernel_rfl) ⟨y0, y1, y2, y3, y4, r1, r2⟩ (fun hHeld => ?_)
    have HS0 : Hid _ := hHeld
    clear hHeld
    refine wpAnyH_take (i := 0) (v := .agg #[.int .i64 op, .int .i64 0, .int .i64 v1, .int .i64 v2, .int .i32 F5]) rfl (by kernel_rfl) (by kernel_rfl) (by kernel_rfl) (fun _ _ _ h => h) (Or.inl ⟨by rfl, fun W hW => by obtain ⟨y0, y1, y2, y3, y4, r1, r2⟩ := hW; go_simp⟩) HS0.out ?_
    simp only [List.getElem_toArray, List.getElem_cons_succ, List.getElem_cons_zero, Act.put, List.setIfInBounds_toArray, List.set_cons_zero, List.set_cons_succ]
    refine wpAnyH_take (i := 1) (v := .pointer (some ⟨(w.heap.size + 1 + 1), 0, none⟩)) rfl (by kernel_rfl) (by kernel_rfl) (by kernel_rfl) (fun _ _ _ h => h) (Or.inl ⟨by rfl, fun W hW => by obtain ⟨y0, y1, y2, y3, y4, r1, r2⟩ := hW; go_simp⟩) HS0.out ?_
    simp only [List.getElem_toArray, List.getElem_cons_succ, List.getElem_cons_zero, Act.put, List.setIfInBounds_toArray, List.set_cons_zero, List.set_cons_succ]
    refine wpAnyH_take (i := 2) (v := .pointer (some ⟨(w.heap.size + 1 + 1), 0, none⟩)) rfl (by kernel_rfl) (by kernel_rfl) (by kernel_rfl) (fun _ _ _ h => h) (Or.inl ⟨by rfl, fun W hW => by obtain ⟨y0, y1, y2, y3, y4, r1, r2⟩ := hW; go_simp⟩) HS0.out ?_
    simp only [List.getElem_toArray, List.getElem_cons_succ, List.getElem_cons_zero, Act.put, List.setIfInBounds_toArray, List.set_cons_zero, List.set_cons_succ]
    refine wpAnyH_take (i := 3) (v := .pointer (some ⟨(w.heap.size + 1 + 1), 2, none⟩)) rfl (by kernel_rfl) (by kernel_rfl) (by kernel_rfl) (fun _ _ _ h => h) (Or.inl ⟨by rfl, fun W hW => by obtain ⟨y0, y1, y2, y3, y4, r1, r2⟩ := hW; go_simp⟩) HS0.out ?_
    simp only [List.getElem_toArray, List.getElem_cons_succ, List.getElem_cons_zero, Act.put, List.setIfInBounds_toArray, List.set_cons_zero, List.set_cons_succ]
    refine wpAnyH_take (i := 4) (v := .bool true) rfl (by kernel_rfl) (by kernel_rfl) (by kernel_rfl) (fun _ _ _ h => h) (Or.inl ⟨by rfl, fun W hW => by obtain ⟨y0, y1, y2, y3, y4, r1, r2⟩ := hW; go_simp⟩) HS0.out ?_
    simp only [List.getElem_toArray, List.getElem_cons_succ, List.getElem_cons_zero, Act.put, List.setIfInBounds_toArray, List.set_cons_zero, List.set_cons_succ]
    refine wpAnyH_take (i := 5) (v := .bool false) rfl (by kernel_rfl) (by kernel_rfl) (by kernel_rfl) (fun _ _ _ h => h) (Or.inl ⟨by rfl, fun W hW => by obtain ⟨y0, y1, y2, y3, y4, r1, r2⟩ := hW; go_simp⟩) HS0.out ?_
    simp only [List.getElem_toArray, List.getElem_cons_succ, List.getElem_cons_zero, Act.put, List.setIfInBounds_toArray, List.set_cons_zero, List.set_cons_succ]
    refine wpAnyH_take (i := 6) (v := .bool false) rfl (by kernel_rfl) (by kernel_rfl) (by kernel_rfl) (fun _ _ _ h => h) (Or.inl ⟨by rfl, fun W hW => by obtain ⟨y0, y1, y2, y3, y4, r1, r2⟩ := hW; go_simp⟩) HS0.out ?_
    simp only [List.getElem_toArray, List.getElem_cons_succ, List.getElem_cons_zero, Act.put, List.setIfInBounds_toArray, List.set_cons_zero, List.set_cons_succ]
    refine wpAnyH_take (i := 7) (v := undef) rfl (by kernel_rfl) (by kernel_rfl) (by kernel_rfl) (fun _ _ _ h => h) (Or.inr ⟨by rfl, rfl⟩) HS0.out ?_
    simp only [List.getElem_toArray, List.getElem_cons_succ, List.getElem_cons_zero, Act.put, List.setIfInBounds_toArray, List.set_cons_zero, List.set_cons_succ]
    refine wpAnyH_take (i := 8) (v := undef) rfl (by kernel_rfl) (by kernel_rfl) (by kernel_rfl) (fun _ _ _ h => h) (Or.inr ⟨by rfl, rfl⟩) HS0.out ?_
    simp only [List.getElem_toArray, List.getElem_cons_succ, List.getElem_cons_zero, Act.put, List.setIfInBounds_toArray, List.set_cons_zero, List.set_cons_succ]
    refine wpAnyH_take (i := 9) (v := undef) rfl (by kernel_rfl) (by kernel_rfl) (by kernel_rfl) (fun _ _ _ h => h) (Or.inr ⟨by rfl, rfl⟩) HS0.out ?_
    simp only [List.getElem_toArray, List.getElem_cons_succ, List.getElem_cons_zero, Act.put, List.setIfInBounds_toArray, List.set_cons_zero, List.set_cons_succ]
    refine wpAnyH_take (i := 10) (v := undef) rfl (by kernel_rfl) (by kernel_rfl) (by kernel_rfl) (fun _ _ _ h => h) (Or.inr ⟨by rfl, rfl⟩) HS0.out ?_
    simp only [List.getElem_toArray, List.getElem_cons_succ, List.getElem_cons_zero, Act.put, List.setIfInBounds_toArray, List.set_cons_zero, List.set_cons_succ]
    refine wpAnyH_take (i := 11) (v := undef) rfl (by kernel_rfl) (by kernel_rfl) (by kernel_rfl) (fun _ _ _ h => h) (Or.inr ⟨by rfl, rfl⟩) HS0.out ?_
    simp only [List.getElem_toArray, List.getElem_cons_succ, List.getElem_cons_zero, Act.put, List.setIfInBounds_toArray, List.set_cons_zero, List.set_cons_succ]
    refine wpAnyH_take (i := 12) (v := undef) rfl (by kernel_rfl) (by kernel_rfl) (by kernel_rfl) (fun _ _ _ h => h) (Or.inr ⟨by rfl, rfl⟩) HS0.out ?_
    simp only [List.getElem_toArray, List.getElem_cons_succ, List.getElem_cons_zero, Act.put, List.setIfInBounds_toArray, List.set_cons_zero, List.set_cons_succ]
    refine wpAnyH_take (i := 13) (v := undef) rfl (by kernel_rfl) (by kernel_rfl) (by kernel_rfl) (fun _ _ _ h => h) (Or.inr ⟨by rfl, rfl⟩) HS0.out ?_
    simp only [List.getElem_toArray, List.getElem_cons_succ, List.getElem_cons_zero, Act.put, List.setIfInBounds_toArray, List.set_cons_zero, List.set_cons_succ]
    refine wpAnyH_take (i := 14) (v := .bool false) rfl (by kernel_rfl) (by kernel_rfl) (by kernel_rfl) (fun _ _ _ h => h) (Or.inl ⟨by rfl, fun W hW => by obtain ⟨y0, y1, y2, y3, y4, r1, r2⟩ := hW; go_simp⟩) HS0.out ?_
    simp only [List.getElem_toArray, List.getElem_cons_succ, List.getElem_cons_zero, Act.put, List.setIfInBounds_toArray, List.set_cons_zero, List.set_cons_succ]
    refine wpAnyH_take (i := 15) (v := .bool false) rfl (by kernel_rfl) (by kernel_rfl) (by kernel_rfl) (fun _ _ _ h => h) (Or.inl ⟨by rfl, fun W hW => by obtain ⟨y0, y1, y2, y3, y4, r1, r2⟩ := hW; go_simp⟩) HS0.out ?_
    simp only [List.getElem_toArray, List.getElem_cons_succ, List.getElem_cons_zero, Act.put, List.setIfInBounds_toArray, List.set_cons_zero, List.set_cons_succ]
    refine wpAnyH_take (i := 16) (v := undef) rfl (by kernel_rfl) (by kernel_rfl) (by kernel_rfl) (fun _ _ _ h => h) (Or.inr ⟨by rfl, rfl⟩) HS0.out ?_
    simp only [List.getElem_toArray, List.getElem_cons_succ, List.getElem_cons_zero, Act.put, List.setIfInBounds_toArray, List.set_cons_zero, List.set_cons_succ]
    refine wpAnyH_take (i := 17) (v := undef) rfl (by kernel_rfl) (by kernel_rfl) (by kernel_rfl) (fun _ _ _ h => h) (Or.inr ⟨by rfl, rfl⟩) HS0.out ?_
    simp only [List.getElem_toArray, List.getElem_cons_succ, List.getElem_cons_zero, Act.put, List.setIfInBounds_toArray, List.set_cons_zero, List.set_cons_succ]
    refine wpAnyH_take (i := 18) (v := undef) rfl (by kernel_rfl) (by kernel_rfl) (by kernel_rfl) (fun _ _ _ h => h) (Or.inr ⟨by rfl, rfl⟩) HS0.out ?_
    simp only [List.getElem_toArray, List.getElem_cons_succ, List.getElem_cons_zero, Act.put, List.setIfInBounds_toArray, List.set_cons_zero, List.set_cons_succ]
    refine wpAnyH_take (i := 19) (v := undef) rfl (by kernel_rfl) (by kernel_rfl) (by kernel_rfl) (fun _ _ _ h => h) (Or.inr ⟨by rfl, rfl⟩) HS0.out ?_
    simp only [List.getElem_toArray, List.getElem_cons_succ, List.getElem_cons_zero, Act.put, List.setIfInBounds_toArray, List.set_cons_zero, List.set_cons_succ]
    refine wpAnyH_take (i := 20) (v := undef) rfl (by kernel_rfl) (by kernel_rfl) (by kernel_rfl) (fun _ _ _ h => h) (Or.inr ⟨by rfl, rfl⟩) HS0.out ?_
    simp only [List.getElem_toArray, List.getElem_cons_succ, List.getElem_cons_zero, Act.put, List.setIfInBounds_toArray, List.set_cons_zero, List.set_cons_succ]
    refine wpAnyH_take (i := 21) (v := .bool false) rfl (by kernel_rfl) (by kernel_rfl) (by kernel_rfl) (fun _ _ _ h => h) (Or.inl ⟨by rfl, fun W hW => by obtain ⟨y0, y1, y2, y3, y4, r1, r2⟩ := hW; go_simp⟩) HS0.out ?_
    simp only [List.getElem_toArray, List.getElem_cons_succ, List.getElem_cons_zero, Act.put, List.setIfInBounds_toArray, List.set_cons_zero, List.set_cons_succ]
    have HC : Hid (∀ b j : Nat, b ≠ w.heap.size → (W.drew.setRow w.heap.size #[.int .i64 op, .int .i64 0, .int .i64 v1, .int .i64 v2, .int .i32 F5]).cell? ⟨b, j, none⟩ = W.cell? ⟨b, j, none⟩) := fun b j hb => World.cell?_of_block (setRow_other _ _ _ _ hb)
    have HS1 : Hid ((fun W => W.cell? ⟨(w.heap.size + 1), 0, none⟩ = some (.int .i64 op) ∧ W.cell? ⟨(w.heap.size + 1), 1, none⟩ = some (.int .i64 0) ∧ W.cell? ⟨(w.heap.size + 1), 2, none⟩ = some (.int .i64 v1) ∧ W.cell? ⟨(w.heap.size + 1), 3, none⟩ = some (.int .i64 v2) ∧ W.cell? ⟨(w.heap.size + 1), 4, none⟩ = some (.int .i32 F5) ∧ W.cell? ⟨(w.heap.size + 1 + 1), 1, none⟩ = some (.int .i64 (q : Int)) ∧ W.cell? ⟨(w.heap.size + 1 + 1), 2, none⟩ = some (.bool true)) (W.drew.setRow w.heap.size #[.int .i64 op, .int .i64 0, .int .i64 v1, .int .i64 v2, .int .i32 F5])) := ⟨(HC.out _ _ (by omega)).trans y0, (HC.out _ _ (by omega)).trans y1, (HC.out _ _ (by omega)).trans y2, (HC.out _ _ (by omega)).trans y3, (HC.out _ _ (by omega)).trans y4, (HC.out _ _ (by omega)).trans r1, (HC.out _ _ (by omega)).trans r2⟩
    refine held_store_r (i := 22) (by kernel_rfl) rfl rfl 23 (.tmp 6) (.tmp 137) rfl w.heap.size #[.int .i64 op, .int .i64 0, .int .i64 v1, .int .i64 v2, .int .i32 F5] (by simp [Act.eval]) (by simp [Act.eval]) 23 #[.int .i64 0, .int .i64 0, .int .i64 0, .int .i64 0, .int .i32 0] HU1.out iIn rfl (one5 _ _ _ _ _) ?_ ?_
    · exact HS1.out
    refine wpAnyH_take (i := 23) (v := .bool false) rfl (by kernel_rfl) (by kernel_rfl) (by kernel_rfl) (fun _ _ _ h => h) (Or.inl ⟨by rfl, fun W hW => by obtain ⟨y0, y1, y2, y3, y4, r1, r2⟩ := hW; go_simp⟩) HS1.out ?_
    simp only [List.getElem_toArray, List.getElem_cons_succ, List.getElem_cons_zero, Act.put, List.setIfInBounds_toArray, List.set_cons_zero, List.set_cons_succ]
    refine wpAnyH_done (by kernel_rfl) ?_ _
    go_wp2_with fail
    refine bodyPost_ret (v := .tuple #[.agg #[.int .i64 op, .int .i64 0, .int .i64 v1, .int .i64 v2, .int .i32 F5], .bool false]) (results_ct Tryd.results53 _ _ _ _ _ (0, 0) _ _ rfl rfl (setRow_heap _ _ _ _ _ (0, 0) HU1.out) Tryd.underlying23 rfl iIn) rfl ⟨_, _, _, _, _, false, rfl, gr_row HG.out.dr1 _, ⟨hw.1, hw.2.1⟩, ⟨fun h => (by cases h), fun h => absurd ((show o6 = none from HO.out).symm.trans h.1) (by simp)⟩, fun h => by cases h⟩
  | false =>
    by_cases hqe : q < L.length
    · have fq : ((q : Int) == (L.length : Int)) = false := by simp; omega
      refine wp_region_held_drew (S := fun W => W.cell? ⟨(w.heap.size + 1), 0, none⟩ = some (.int .i64 op) ∧ W.cell? ⟨(w.heap.size + 1), 1, none⟩ = some (.int .i64 0) ∧ W.cell? ⟨(w.heap.size + 1), 2, none⟩ = some (.int .i64 v1) ∧ W.cell? ⟨(w.heap.size + 1), 3, none⟩ = some (.int .i64 v2) ∧ W.cell? ⟨(w.heap.size + 1), 4, none⟩ = some (.int .i32 F5) ∧ W.cell? ⟨(w.heap.size + 1 + 1), 1, none⟩ = some (.int .i64 (q : Int)) ∧ W.cell? ⟨(w.heap.size + 1 + 1), 2, none⟩ = some (.bool false)) (by kernel_rfl) ⟨y0, y1, y2, y3, y4, r1, r2⟩ (fun hHeld => ?_)
      have HS0 : Hid _ := hHeld
      clear hHeld
      refine wpAnyH_take (i := 0) (v := .agg #[.int .i64 op, .int .i64 0, .int .i64 v1, .int .i64 v2, .int .i32 F5]) rfl (by kernel_rfl) (by kernel_rfl) (by kernel_rfl) (fun _ _ _ h => h) (Or.inl ⟨by rfl, fun W hW => by obtain ⟨y0, y1, y2, y3, y4, r1, r2⟩ := hW; go_simp⟩) HS0.out ?_
      simp only [List.getElem_toArray, List.getElem_cons_succ, List.getElem_cons_zero, Act.put, List.setIfInBounds_toArray, List.set_cons_zero, List.set_cons_succ]
      refine wpAnyH_take (i := 1) (v := .pointer (some ⟨(w.heap.size + 1 + 1), 0, none⟩)) rfl (by kernel_rfl) (by kernel_rfl) (by kernel_rfl) (fun _ _ _ h => h) (Or.inl ⟨by rfl, fun W hW => by obtain ⟨y0, y1, y2, y3, y4, r1, r2⟩ := hW; go_simp⟩) HS0.out ?_
      simp only [List.getElem_toArray, List.getElem_cons_succ, List.getElem_cons_zero, Act.put, List.setIfInBounds_toArray, List.set_cons_zero, List.set_cons_succ]
      refine wpAnyH_take (i := 2) (v := .pointer (some ⟨(w.heap.size + 1 + 1), 0, none⟩)) rfl (by kernel_rfl) (by kernel_rfl) (by kernel_rfl) (fun _ _ _ h => h) (Or.inl ⟨by rfl, fun W hW => by obtain ⟨y0, y1, y2, y3, y4, r1, r2⟩ := hW; go_simp⟩) HS0.out ?_
      simp only [List.getElem_toArray, List.getElem_cons_succ, List.getElem_cons_zero, Act.put, List.setIfInBounds_toArray, List.set_cons_zero, List.set_cons_succ]
      refine wpAnyH_take (i := 3) (v := .pointer (some ⟨(w.heap.size + 1 + 1), 2, none⟩)) rfl (by kernel_rfl) (by kernel_rfl) (by kernel_rfl) (fun _ _ _ h => h) (Or.inl ⟨by rfl, fun W hW => by obtain ⟨y0, y1, y2, y3, y4, r1, r2⟩ := hW; go_simp⟩) HS0.out ?_
      simp only [List.getElem_toArray, List.getElem_cons_succ, List.getElem_cons_zero, Act.put, List.setIfInBounds_toArray, List.set_cons_zero, List.set_cons_succ]
      refine wpAnyH_take (i := 4) (v := .bool false) rfl (by kernel_rfl) (by kernel_rfl) (by kernel_rfl) (fun _ _ _ h => h) (Or.inl ⟨by rfl, fun W hW => by obtain ⟨y0, y1, y2, y3, y4, r1, r2⟩ := hW; go_simp⟩) HS0.out ?_
      simp only [List.getElem_toArray, List.getElem_cons_succ, List.getElem_cons_zero, Act.put, List.setIfInBounds_toArray, List.set_cons_zero, List.set_cons_succ]
      refine wpAnyH_take (i := 5) (v := .bool true) rfl (by kernel_rfl) (by kernel_rfl) (by kernel_rfl) (fun _ _ _ h => h) (Or.inl ⟨by rfl, fun W hW => by obtain ⟨y0, y1, y2, y3, y4, r1, r2⟩ := hW; go_simp⟩) HS0.out ?_
      simp only [List.getElem_toArray, List.getElem_cons_succ, List.getElem_cons_zero, Act.put, List.setIfInBounds_toArray, List.set_cons_zero, List.set_cons_succ]
      refine wpAnyH_take (i := 6) (v := .bool true) rfl (by kernel_rfl) (by kernel_rfl) (by kernel_rfl) (fun _ _ _ h => h) (Or.inl ⟨by rfl, fun W hW => by obtain ⟨y0, y1, y2, y3, y4, r1, r2⟩ := hW; go_simp⟩) HS0.out ?_
      simp only [List.getElem_toArray, List.getElem_cons_succ, List.getElem_cons_zero, Act.put, List.setIfInBounds_toArray, List.set_cons_zero, List.set_cons_succ]
      refine wpAnyH_take (i := 7) (v := .pointer (some ⟨(w.heap.size + 1 + 1), 0, none⟩)) rfl (by kernel_rfl) (by kernel_rfl) (by kernel_rfl) (fun _ _ _ h => h) (Or.inl ⟨by rfl, fun W hW => by obtain ⟨y0, y1, y2, y3, y4, r1, r2⟩ := hW; go_simp⟩) HS0.out ?_
      simp only [List.getElem_toArray, List.getElem_cons_succ, List.getElem_cons_zero, Act.put, List.setIfInBounds_toArray, List.set_cons_zero, List.set_cons_succ]
      refine wpAnyH_take (i := 8) (v := .pointer (some ⟨(w.heap.size + 1 + 1), 0, none⟩)) rfl (by kernel_rfl) (by kernel_rfl) (by kernel_rfl) (fun _ _ _ h => h) (Or.inl ⟨by rfl, fun W hW => by obtain ⟨y0, y1, y2, y3, y4, r1, r2⟩ := hW; go_simp⟩) HS0.out ?_
      simp only [List.getElem_toArray, List.getElem_cons_succ, List.getElem_cons_zero, Act.put, List.setIfInBounds_toArray, List.set_cons_zero, List.set_cons_succ]
      refine wpAnyH_take (i := 9) (v := .pointer (some ⟨(w.heap.size + 1 + 1), 1, none⟩)) rfl (by kernel_rfl) (by kernel_rfl) (by kernel_rfl) (fun _ _ _ h => h) (Or.inl ⟨by rfl, fun W hW => by obtain ⟨y0, y1, y2, y3, y4, r1, r2⟩ := hW; go_simp⟩) HS0.out ?_
      simp only [List.getElem_toArray, List.getElem_cons_succ, List.getElem_cons_zero, Act.put, List.setIfInBounds_toArray, List.set_cons_zero, List.set_cons_succ]
      refine wpAnyH_take (i := 10) (v := .int .i64 (q : Int)) rfl (by kernel_rfl) (by kernel_rfl) (by kernel_rfl) (fun _ _ _ h => h) (Or.inl ⟨by rfl, fun W hW => by obtain ⟨y0, y1, y2, y3, y4, r1, r2⟩ := hW; go_simp⟩) HS0.out ?_
      simp only [List.getElem_toArray, List.getElem_cons_succ, List.getElem_cons_zero, Act.put, List.setIfInBounds_toArray, List.set_cons_zero, List.set_cons_succ]
      refine wpAnyH_take (i := 11) (v := .string (bs L)) rfl (by kernel_rfl) (by kernel_rfl) (by kernel_rfl) (fun _ _ _ h => h) (Or.inl ⟨by rfl, fun W hW => by obtain ⟨y0, y1, y2, y3, y4, r1, r2⟩ := hW; go_simp⟩) HS0.out ?_
      simp only [List.getElem_toArray, List.getElem_cons_succ, List.getElem_cons_zero, Act.put, List.setIfInBounds_toArray, List.set_cons_zero, List.set_cons_succ]
      refine wpAnyH_take (i := 12) (v := .int .i64 (L.length : Int)) rfl (by kernel_rfl) (by kernel_rfl) (by kernel_rfl) (fun _ _ _ h => h) (Or.inl ⟨by rfl, fun W hW => by obtain ⟨y0, y1, y2, y3, y4, r1, r2⟩ := hW; go_simp⟩) HS0.out ?_
      simp only [List.getElem_toArray, List.getElem_cons_succ, List.getElem_cons_zero, Act.put, List.setIfInBounds_toArray, List.set_cons_zero, List.set_cons_succ]
      refine wpAnyH_take (i := 13) (v := .bool false) rfl (by kernel_rfl) (by kernel_rfl) (by kernel_rfl) (fun _ _ _ h => h) (Or.inl ⟨by rfl, fun W hW => by obtain ⟨y0, y1, y2, y3, y4, r1, r2⟩ := hW; go_simp⟩) HS0.out ?_
      simp only [List.getElem_toArray, List.getElem_cons_succ, List.getElem_cons_zero, Act.put, List.setIfInBounds_toArray, List.set_cons_zero, List.set_cons_succ]
      refine wpAnyH_take (i := 14) (v := .bool false) rfl (by kernel_rfl) (by kernel_rfl) (by kernel_rfl) (fun _ _ _ h => h) (Or.inl ⟨by rfl, fun W hW => by obtain ⟨y0, y1, y2, y3, y4, r1, r2⟩ := hW; go_simp⟩) HS0.out ?_
      simp only [List.getElem_toArray, List.getElem_cons_succ, List.getElem_cons_zero, Act.put, List.setIfInBounds_toArray, List.set_cons_zero, List.set_cons_succ]
      refine wpAnyH_take (i := 15) (v := .bool false) rfl (by kernel_rfl) (by kernel_rfl) (by kernel_rfl) (fun _ _ _ h => h) (Or.inl ⟨by rfl, fun W hW => by obtain ⟨y0, y1, y2, y3, y4, r1, r2⟩ := hW; go_simp⟩) HS0.out ?_
      simp only [List.getElem_toArray, List.getElem_cons_succ, List.getElem_cons_zero, Act.put, List.setIfInBounds_toArray, List.set_cons_zero, List.set_cons_succ]
      refine wpAnyH_take (i := 16) (v := undef) rfl (by kernel_rfl) (by kernel_rfl) (by kernel_rfl) (fun _ _ _ h => h) (Or.inr ⟨by rfl, rfl⟩) HS0.out ?_
      simp only [List.getElem_toArray, List.getElem_cons_succ, List.getElem_cons_zero, Act.put, List.setIfInBounds_toArray, List.set_cons_zero, List.set_cons_succ]
      refine wpAnyH_take (i := 17) (v := undef) rfl (by kernel_rfl) (by kernel_rfl) (by kernel_rfl) (fun _ _ _ h => h) (Or.inr ⟨by rfl, rfl⟩) HS0.out ?_
      simp only [List.getElem_toArray, List.getElem_cons_succ, List.getElem_cons_zero, Act.put, List.setIfInBounds_toArray, List.set_cons_zero, List.set_cons_succ]
      refine wpAnyH_take (i := 18) (v := undef) rfl (by kernel_rfl) (by kernel_rfl) (by kernel_rfl) (fun _ _ _ h => h) (Or.inr ⟨by rfl, rfl⟩) HS0.out ?_
      simp only [List.getElem_toArray, List.getElem_cons_succ, List.getElem_cons_zero, Act.put, List.setIfInBounds_toArray, List.set_cons_zero, List.set_cons_succ]
      refine wpAnyH_take (i := 19) (v := undef) rfl (by kernel_rfl) (by kernel_rfl) (by kernel_rfl) (fun _ _ _ h => h) (Or.inr ⟨by rfl, rfl⟩) HS0.out ?_
      simp only [List.getElem_toArray, List.getElem_cons_succ, List.getElem_cons_zero, Act.put, List.setIfInBounds_toArray, List.set_cons_zero, List.set_cons_succ]
      refine wpAnyH_take (i := 20) (v := undef) rfl (by kernel_rfl) (by kernel_rfl) (by kernel_rfl) (fun _ _ _ h => h) (Or.inr ⟨by rfl, rfl⟩) HS0.out ?_
      simp only [List.getElem_toArray, List.getElem_cons_succ, List.getElem_cons_zero, Act.put, List.setIfInBounds_toArray, List.set_cons_zero, List.set_cons_succ]
      refine wpAnyH_take (i := 21) (v := .bool false) rfl (by kernel_rfl) (by kernel_rfl) (by kernel_rfl) (fun _ _ _ h => h) (Or.inl ⟨by rfl, fun W hW => by obtain ⟨y0, y1, y2, y3, y4, r1, r2⟩ := hW; go_simp⟩) HS0.out ?_
      simp only [List.getElem_toArray, List.getElem_cons_succ, List.getElem_cons_zero, Act.put, List.setIfInBounds_toArray, List.set_cons_zero, List.set_cons_succ]
      have HC : Hid (∀ b j : Nat, b ≠ w.heap.size → (W.drew.setRow w.heap.size #[.int .i64 op, .int .i64 0, .int .i64 v1, .int .i64 v2, .int .i32 F5]).cell? ⟨b, j, none⟩ = W.cell? ⟨b, j, none⟩) := fun b j hb => World.cell?_of_block (setRow_other _ _ _ _ hb)
      have HS1 : Hid ((fun W => W.cell? ⟨(w.heap.size + 1), 0, none⟩ = some (.int .i64 op) ∧ W.cell? ⟨(w.heap.size + 1), 1, none⟩ = some (.int .i64 0) ∧ W.cell? ⟨(w.heap.size + 1), 2, none⟩ = some (.int .i64 v1) ∧ W.cell? ⟨(w.heap.size + 1), 3, none⟩ = some (.int .i64 v2) ∧ W.cell? ⟨(w.heap.size + 1), 4, none⟩ = some (.int .i32 F5) ∧ W.cell? ⟨(w.heap.size + 1 + 1), 1, none⟩ = some (.int .i64 (q : Int)) ∧ W.cell? ⟨(w.heap.size + 1 + 1), 2, none⟩ = some (.bool false)) (W.drew.setRow w.heap.size #[.int .i64 op, .int .i64 0, .int .i64 v1, .int .i64 v2, .int .i32 F5])) := ⟨(HC.out _ _ (by omega)).trans y0, (HC.out _ _ (by omega)).trans y1, (HC.out _ _ (by omega)).trans y2, (HC.out _ _ (by omega)).trans y3, (HC.out _ _ (by omega)).trans y4, (HC.out _ _ (by omega)).trans r1, (HC.out _ _ (by omega)).trans r2⟩
      refine held_store_r (i := 22) (by kernel_rfl) rfl rfl 23 (.tmp 6) (.tmp 137) rfl w.heap.size #[.int .i64 op, .int .i64 0, .int .i64 v1, .int .i64 v2, .int .i32 F5] (by simp [Act.eval]) (by simp [Act.eval]) 23 #[.int .i64 0, .int .i64 0, .int .i64 0, .int .i64 0, .int .i32 0] HU1.out iIn rfl (one5 _ _ _ _ _) ?_ ?_
      · exact HS1.out
      refine wpAnyH_take (i := 23) (v := .bool false) rfl (by kernel_rfl) (by kernel_rfl) (by kernel_rfl) (fun _ _ _ h => h) (Or.inl ⟨by rfl, fun W hW => by obtain ⟨y0, y1, y2, y3, y4, r1, r2⟩ := hW; go_simp⟩) HS1.out ?_
      simp only [List.getElem_toArray, List.getElem_cons_succ, List.getElem_cons_zero, Act.put, List.setIfInBounds_toArray, List.set_cons_zero, List.set_cons_succ]
      refine wpAnyH_done (by kernel_rfl) ?_ _
      go_wp2_with fail
      refine bodyPost_ret (v := .tuple #[.agg #[.int .i64 op, .int .i64 0, .int .i64 v1, .int .i64 v2, .int .i32 F5], .bool false]) (results_ct Tryd.results53 _ _ _ _ _ (0, 0) _ _ rfl rfl (setRow_heap _ _ _ _ _ (0, 0) HU1.out) Tryd.underlying23 rfl iIn) rfl ⟨_, _, _, _, _, false, rfl, gr_row HG.out.dr1 _, ⟨hw.1, hw.2.1⟩, ⟨fun h => (by cases h), fun h => absurd (Option.some.inj ((show o6 = some (L.drop q) from HO.out).symm.trans h.1)) (drop_ne hqe)⟩, fun h => by cases h⟩
    · have hqe' : q = L.length := by omega
      subst hqe'
      by_cases hfit : -2147483648 ≤ n ∧ n < 2147483648
      · have ff : n = F5 := (hw.2.2 hfit.1 hfit.2).symm
        subst ff
        have b0 : IntKind.i64.wrap n = n := by rw [IntKind.wrap_i64]; omega
        refine wp_region_held_drew (S := fun W => W.cell? ⟨(w.heap.size + 1), 0, none⟩ = some (.int .i64 op) ∧ W.cell? ⟨(w.heap.size + 1), 1, none⟩ = some (.int .i64 0) ∧ W.cell? ⟨(w.heap.size + 1), 2, none⟩ = some (.int .i64 v1) ∧ W.cell? ⟨(w.heap.size + 1), 3, none⟩ = some (.int .i64 v2) ∧ W.cell? ⟨(w.heap.size + 1), 4, none⟩ = some (.int .i32 n) ∧ W.cell? ⟨(w.heap.size + 1 + 1), 1, none⟩ = some (.int .i64 (L.length : Int)) ∧ W.cell? ⟨(w.heap.size + 1 + 1), 2, none⟩ = some (.bool false)) (by kernel_rfl) ⟨y0, y1, y2, y3, y4, r1, r2⟩ (fun hHeld => ?_)
        have HS0 : Hid _ := hHeld
        clear hHeld
        refine wpAnyH_take (i := 0) (v := .agg #[.int .i64 op, .int .i64 0, .int .i64 v1, .int .i64 v2, .int .i32 n]) rfl (by kernel_rfl) (by kernel_rfl) (by kernel_rfl) (fun _ _ _ h => h) (Or.inl ⟨by rfl, fun W hW => by obtain ⟨y0, y1, y2, y3, y4, r1, r2⟩ := hW; go_simp⟩) HS0.out ?_
        simp only [List.getElem_toArray, List.getElem_cons_succ, List.getElem_cons_zero, Act.put, List.setIfInBounds_toArray, List.set_cons_zero, List.set_cons_succ]
        refine wpAnyH_take (i := 1) (v := .pointer (some ⟨(w.heap.size + 1 + 1), 0, none⟩)) rfl (by kernel_rfl) (by kernel_rfl) (by kernel_rfl) (fun _ _ _ h => h) (Or.inl ⟨by rfl, fun W hW => by obtain ⟨y0, y1, y2, y3, y4, r1, r2⟩ := hW; go_simp⟩) HS0.out ?_
        simp only [List.getElem_toArray, List.getElem_cons_succ, List.getElem_cons_zero, Act.put, List.setIfInBounds_toArray, List.set_cons_zero, List.set_cons_succ]
        refine wpAnyH_take (i := 2) (v := .pointer (some ⟨(w.heap.size + 1 + 1), 0, none⟩)) rfl (by kernel_rfl) (by kernel_rfl) (by kernel_rfl) (fun _ _ _ h => h) (Or.inl ⟨by rfl, fun W hW => by obtain ⟨y0, y1, y2, y3, y4, r1, r2⟩ := hW; go_simp⟩) HS0.out ?_
        simp only [List.getElem_toArray, List.getElem_cons_succ, List.getElem_cons_zero, Act.put, List.setIfInBounds_toArray, List.set_cons_zero, List.set_cons_succ]
        refine wpAnyH_take (i := 3) (v := .pointer (some ⟨(w.heap.size + 1 + 1), 2, none⟩)) rfl (by kernel_rfl) (by kernel_rfl) (by kernel_rfl) (fun _ _ _ h => h) (Or.inl ⟨by rfl, fun W hW => by obtain ⟨y0, y1, y2, y3, y4, r1, r2⟩ := hW; go_simp⟩) HS0.out ?_
        simp only [List.getElem_toArray, List.getElem_cons_succ, List.getElem_cons_zero, Act.put, List.setIfInBounds_toArray, List.set_cons_zero, List.set_cons_succ]
        refine wpAnyH_take (i := 4) (v := .bool false) rfl (by kernel_rfl) (by kernel_rfl) (by kernel_rfl) (fun _ _ _ h => h) (Or.inl ⟨by rfl, fun W hW => by obtain ⟨y0, y1, y2, y3, y4, r1, r2⟩ := hW; go_simp⟩) HS0.out ?_
        simp only [List.getElem_toArray, List.getElem_cons_succ, List.getElem_cons_zero, Act.put, List.setIfInBounds_toArray, List.set_cons_zero, List.set_cons_succ]
        refine wpAnyH_take (i := 5) (v := .bool true) rfl (by kernel_rfl) (by kernel_rfl) (by kernel_rfl) (fun _ _ _ h => h) (Or.inl ⟨by rfl, fun W hW => by obtain ⟨y0, y1, y2, y3, y4, r1, r2⟩ := hW; go_simp⟩) HS0.out ?_
        simp only [List.getElem_toArray, List.getElem_cons_succ, List.getElem_cons_zero, Act.put, List.setIfInBounds_toArray, List.set_cons_zero, List.set_cons_succ]
        refine wpAnyH_take (i := 6) (v := .bool true) rfl (by kernel_rfl) (by kernel_rfl) (by kernel_rfl) (fun _ _ _ h => h) (Or.inl ⟨by rfl, fun W hW => by obtain ⟨y0, y1, y2, y3, y4, r1, r2⟩ := hW; go_simp⟩) HS0.out ?_
        simp only [List.getElem_toArray, List.getElem_cons_succ, List.getElem_cons_zero, Act.put, List.setIfInBounds_toArray, List.set_cons_zero, List.set_cons_succ]
        refine wpAnyH_take (i := 7) (v := .pointer (some ⟨(w.heap.size + 1 + 1), 0, none⟩)) rfl (by kernel_rfl) (by kernel_rfl) (by kernel_rfl) (fun _ _ _ h => h) (Or.inl ⟨by rfl, fun W hW => by obtain ⟨y0, y1, y2, y3, y4, r1, r2⟩ := hW; go_simp⟩) HS0.out ?_
        simp only [List.getElem_toArray, List.getElem_cons_succ, List.getElem_cons_zero, Act.put, List.setIfInBounds_toArray, List.set_cons_zero, List.set_cons_succ]
        refine wpAnyH_take (i := 8) (v := .pointer (some ⟨(w.heap.size + 1 + 1), 0, none⟩)) rfl (by kernel_rfl) (by kernel_rfl) (by kernel_rfl) (fun _ _ _ h => h) (Or.inl ⟨by rfl, fun W hW => by obtain ⟨y0, y1, y2, y3, y4, r1, r2⟩ := hW; go_simp⟩) HS0.out ?_
        simp only [List.getElem_toArray, List.getElem_cons_succ, List.getElem_cons_zero, Act.put, List.setIfInBounds_toArray, List.set_cons_zero, List.set_cons_succ]
        refine wpAnyH_take (i := 9) (v := .pointer (some ⟨(w.heap.size + 1 + 1), 1, none⟩)) rfl (by kernel_rfl) (by kernel_rfl) (by kernel_rfl) (fun _ _ _ h => h) (Or.inl ⟨by rfl, fun W hW => by obtain ⟨y0, y1, y2, y3, y4, r1, r2⟩ := hW; go_simp⟩) HS0.out ?_
        simp only [List.getElem_toArray, List.getElem_cons_succ, List.getElem_cons_zero, Act.put, List.setIfInBounds_toArray, List.set_cons_zero, List.set_cons_succ]
        refine wpAnyH_take (i := 10) (v := .int .i64 (L.length : Int)) rfl (by kernel_rfl) (by kernel_rfl) (by kernel_rfl) (fun _ _ _ h => h) (Or.inl ⟨by rfl, fun W hW => by obtain ⟨y0, y1, y2, y3, y4, r1, r2⟩ := hW; go_simp⟩) HS0.out ?_
        simp only [List.getElem_toArray, List.getElem_cons_succ, List.getElem_cons_zero, Act.put, List.setIfInBounds_toArray, List.set_cons_zero, List.set_cons_succ]
        refine wpAnyH_take (i := 11) (v := .string (bs L)) rfl (by kernel_rfl) (by kernel_rfl) (by kernel_rfl) (fun _ _ _ h => h) (Or.inl ⟨by rfl, fun W hW => by obtain ⟨y0, y1, y2, y3, y4, r1, r2⟩ := hW; go_simp⟩) HS0.out ?_
        simp only [List.getElem_toArray, List.getElem_cons_succ, List.getElem_cons_zero, Act.put, List.setIfInBounds_toArray, List.set_cons_zero, List.set_cons_succ]
        refine wpAnyH_take (i := 12) (v := .int .i64 (L.length : Int)) rfl (by kernel_rfl) (by kernel_rfl) (by kernel_rfl) (fun _ _ _ h => h) (Or.inl ⟨by rfl, fun W hW => by obtain ⟨y0, y1, y2, y3, y4, r1, r2⟩ := hW; go_simp⟩) HS0.out ?_
        simp only [List.getElem_toArray, List.getElem_cons_succ, List.getElem_cons_zero, Act.put, List.setIfInBounds_toArray, List.set_cons_zero, List.set_cons_succ]
        refine wpAnyH_take (i := 13) (v := .bool true) rfl (by kernel_rfl) (by kernel_rfl) (by kernel_rfl) (fun _ _ _ h => h) (Or.inl ⟨by rfl, fun W hW => by obtain ⟨y0, y1, y2, y3, y4, r1, r2⟩ := hW; go_simp⟩) HS0.out ?_
        simp only [List.getElem_toArray, List.getElem_cons_succ, List.getElem_cons_zero, Act.put, List.setIfInBounds_toArray, List.set_cons_zero, List.set_cons_succ]
        refine wpAnyH_take (i := 14) (v := .bool true) rfl (by kernel_rfl) (by kernel_rfl) (by kernel_rfl) (fun _ _ _ h => h) (Or.inl ⟨by rfl, fun W hW => by obtain ⟨y0, y1, y2, y3, y4, r1, r2⟩ := hW; go_simp⟩) HS0.out ?_
        simp only [List.getElem_toArray, List.getElem_cons_succ, List.getElem_cons_zero, Act.put, List.setIfInBounds_toArray, List.set_cons_zero, List.set_cons_succ]
        refine wpAnyH_take (i := 15) (v := .bool true) rfl (by kernel_rfl) (by kernel_rfl) (by kernel_rfl) (fun _ _ _ h => h) (Or.inl ⟨by rfl, fun W hW => by obtain ⟨y0, y1, y2, y3, y4, r1, r2⟩ := hW; go_simp⟩) HS0.out ?_
        simp only [List.getElem_toArray, List.getElem_cons_succ, List.getElem_cons_zero, Act.put, List.setIfInBounds_toArray, List.set_cons_zero, List.set_cons_succ]
        refine wpAnyH_take (i := 16) (v := .pointer (some ⟨(w.heap.size + 1), 4, none⟩)) rfl (by kernel_rfl) (by kernel_rfl) (by kernel_rfl) (fun _ _ _ h => h) (Or.inl ⟨by rfl, fun W hW => by obtain ⟨y0, y1, y2, y3, y4, r1, r2⟩ := hW; go_simp⟩) HS0.out ?_
        simp only [List.getElem_toArray, List.getElem_cons_succ, List.getElem_cons_zero, Act.put, List.setIfInBounds_toArray, List.set_cons_zero, List.set_cons_succ]
        refine wpAnyH_take (i := 17) (v := .int .i32 n) rfl (by kernel_rfl) (by kernel_rfl) (by kernel_rfl) (fun _ _ _ h => h) (Or.inl ⟨by rfl, fun W hW => by obtain ⟨y0, y1, y2, y3, y4, r1, r2⟩ := hW; go_simp⟩) HS0.out ?_
        simp only [List.getElem_toArray, List.getElem_cons_succ, List.getElem_cons_zero, Act.put, List.setIfInBounds_toArray, List.set_cons_zero, List.set_cons_succ]
        refine wpAnyH_take (i := 18) (v := .int .i64 n) rfl (by kernel_rfl) (by kernel_rfl) (by kernel_rfl) (fun _ _ _ h => h) (Or.inl ⟨by rfl, fun W hW => by obtain ⟨y0, y1, y2, y3, y4, r1, r2⟩ := hW; go_simp⟩) HS0.out ?_
        simp only [List.getElem_toArray, List.getElem_cons_succ, List.getElem_cons_zero, Act.put, List.setIfInBounds_toArray, List.set_cons_zero, List.set_cons_succ]
        refine wpAnyH_take (i := 19) (v := .int .i64 n) rfl (by kernel_rfl) (by kernel_rfl) (by kernel_rfl) (fun _ _ _ h => h) (Or.inl ⟨by rfl, fun W hW => by obtain ⟨y0, y1, y2, y3, y4, r1, r2⟩ := hW; go_simp⟩) HS0.out ?_
        simp only [List.getElem_toArray, List.getElem_cons_succ, List.getElem_cons_zero, Act.put, List.setIfInBounds_toArray, List.set_cons_zero, List.set_cons_succ]
        refine wpAnyH_take (i := 20) (v := .bool true) rfl (by kernel_rfl) (by kernel_rfl) (by kernel_rfl) (fun _ _ _ h => h) (Or.inl ⟨by rfl, fun W hW => by obtain ⟨y0, y1, y2, y3, y4, r1, r2⟩ := hW; go_simp⟩) HS0.out ?_
        simp only [List.getElem_toArray, List.getElem_cons_succ, List.getElem_cons_zero, Act.put, List.setIfInBounds_toArray, List.set_cons_zero, List.set_cons_succ]
        refine wpAnyH_take (i := 21) (v := .bool true) rfl (by kernel_rfl) (by kernel_rfl) (by kernel_rfl) (fun _ _ _ h => h) (Or.inl ⟨by rfl, fun W hW => by obtain ⟨y0, y1, y2, y3, y4, r1, r2⟩ := hW; go_simp⟩) HS0.out ?_
        simp only [List.getElem_toArray, List.getElem_cons_succ, List.getElem_cons_zero, Act.put, List.setIfInBounds_toArray, List.set_cons_zero, List.set_cons_succ]
        have HC : Hid (∀ b j : Nat, b ≠ w.heap.size → (W.drew.setRow w.heap.size #[.int .i64 op, .int .i64 0, .int .i64 v1, .int .i64 v2, .int .i32 n]).cell? ⟨b, j, none⟩ = W.cell? ⟨b, j, none⟩) := fun b j hb => World.cell?_of_block (setRow_other _ _ _ _ hb)
        have HS1 : Hid ((fun W => W.cell? ⟨(w.heap.size + 1), 0, none⟩ = some (.int .i64 op) ∧ W.cell? ⟨(w.heap.size + 1), 1, none⟩ = some (.int .i64 0) ∧ W.cell? ⟨(w.heap.size + 1), 2, none⟩ = some (.int .i64 v1) ∧ W.cell? ⟨(w.heap.size + 1), 3, none⟩ = some (.int .i64 v2) ∧ W.cell? ⟨(w.heap.size + 1), 4, none⟩ = some (.int .i32 n) ∧ W.cell? ⟨(w.heap.size + 1 + 1), 1, none⟩ = some (.int .i64 (L.length : Int)) ∧ W.cell? ⟨(w.heap.size + 1 + 1), 2, none⟩ = some (.bool false)) (W.drew.setRow w.heap.size #[.int .i64 op, .int .i64 0, .int .i64 v1, .int .i64 v2, .int .i32 n])) := ⟨(HC.out _ _ (by omega)).trans y0, (HC.out _ _ (by omega)).trans y1, (HC.out _ _ (by omega)).trans y2, (HC.out _ _ (by omega)).trans y3, (HC.out _ _ (by omega)).trans y4, (HC.out _ _ (by omega)).trans r1, (HC.out _ _ (by omega)).trans r2⟩
        refine held_store_r (i := 22) (by kernel_rfl) rfl rfl 23 (.tmp 6) (.tmp 137) rfl w.heap.size #[.int .i64 op, .int .i64 0, .int .i64 v1, .int .i64 v2, .int .i32 n] (by simp [Act.eval]) (by simp [Act.eval]) 23 #[.int .i64 0, .int .i64 0, .int .i64 0, .int .i64 0, .int .i32 0] HU1.out iIn rfl (one5 _ _ _ _ _) ?_ ?_
        · exact HS1.out
        refine wpAnyH_take (i := 23) (v := .bool true) rfl (by kernel_rfl) (by kernel_rfl) (by kernel_rfl) (fun _ _ _ h => h) (Or.inl ⟨by rfl, fun W hW => by obtain ⟨y0, y1, y2, y3, y4, r1, r2⟩ := hW; go_simp⟩) HS1.out ?_
        simp only [List.getElem_toArray, List.getElem_cons_succ, List.getElem_cons_zero, Act.put, List.setIfInBounds_toArray, List.set_cons_zero, List.set_cons_succ]
        refine wpAnyH_done (by kernel_rfl) ?_ _
        go_wp2_with fail
        refine bodyPost_ret (v := .tuple #[.agg #[.int .i64 op, .int .i64 0, .int .i64 v1, .int .i64 v2, .int .i32 n], .bool true]) (results_ct Tryd.results53 _ _ _ _ _ (0, 0) _ _ rfl rfl (setRow_heap _ _ _ _ _ (0, 0) HU1.out) Tryd.underlying23 rfl iIn) rfl ⟨_, _, _, _, _, true, rfl, gr_row HG.out.dr1 _, hfit, ⟨fun _ => ⟨(show o6 = some (L.drop L.length) from HO.out).trans (by rw [List.drop_length]), hfit.1, hfit.2⟩, fun _ => rfl⟩, fun _ => rfl⟩
      · have ff : ((F5 : Int) == n) = false := by simp; omega
        have b0 : IntKind.i64.wrap F5 = F5 := by rw [IntKind.wrap_i64]; omega
        refine wp_region_held_drew (S := fun W => W.cell? ⟨(w.heap.size + 1), 0, none⟩ = some (.int .i64 op) ∧ W.cell? ⟨(w.heap.size + 1), 1, none⟩ = some (.int .i64 0) ∧ W.cell? ⟨(w.heap.size + 1), 2, none⟩ = some (.int .i64 v1) ∧ W.cell? ⟨(w.heap.size + 1), 3, none⟩ = some (.int .i64 v2) ∧ W.cell? ⟨(w.heap.size + 1), 4, none⟩ = some (.int .i32 F5) ∧ W.cell? ⟨(w.heap.size + 1 + 1), 1, none⟩ = some (.int .i64 (L.length : Int)) ∧ W.cell? ⟨(w.heap.size + 1 + 1), 2, none⟩ = some (.bool false)) (by kernel_rfl) ⟨y0, y1, y2, y3, y4, r1, r2⟩ (fun hHeld => ?_)
        have HS0 : Hid _ := hHeld
        clear hHeld
        refine wpAnyH_take (i := 0) (v := .agg #[.int .i64 op, .int .i64 0, .int .i64 v1, .int .i64 v2, .int .i32 F5]) rfl (by kernel_rfl) (by kernel_rfl) (by kernel_rfl) (fun _ _ _ h => h) (Or.inl ⟨by rfl, fun W hW => by obtain ⟨y0, y1, y2, y3, y4, r1, r2⟩ := hW; go_simp⟩) HS0.out ?_
        simp only [List.getElem_toArray, List.getElem_cons_succ, List.getElem_cons_zero, Act.put, List.setIfInBounds_toArray, List.set_cons_zero, List.set_cons_succ]
        refine wpAnyH_take (i := 1) (v := .pointer (some ⟨(w.heap.size + 1 + 1), 0, none⟩)) rfl (by kernel_rfl) (by kernel_rfl) (by kernel_rfl) (fun _ _ _ h => h) (Or.inl ⟨by rfl, fun W hW => by obtain ⟨y0, y1, y2, y3, y4, r1, r2⟩ := hW; go_simp⟩) HS0.out ?_
        simp only [List.getElem_toArray, List.getElem_cons_succ, List.getElem_cons_zero, Act.put, List.setIfInBounds_toArray, List.set_cons_zero, List.set_cons_succ]
        refine wpAnyH_take (i := 2) (v := .pointer (some ⟨(w.heap.size + 1 + 1), 0, none⟩)) rfl (by kernel_rfl) (by kernel_rfl) (by kernel_rfl) (fun _ _ _ h => h) (Or.inl ⟨by rfl, fun W hW => by obtain ⟨y0, y1, y2, y3, y4, r1, r2⟩ := hW; go_simp⟩) HS0.out ?_
        simp only [List.getElem_toArray, List.getElem_cons_succ, List.getElem_cons_zero, Act.put, List.setIfInBounds_toArray, List.set_cons_zero, List.set_cons_succ]
        refine wpAnyH_take (i := 3) (v := .pointer (some ⟨(w.heap.size + 1 + 1), 2, none⟩)) rfl (by kernel_rfl) (by kernel_rfl) (by kernel_rfl) (fun _ _ _ h => h) (Or.inl ⟨by rfl, fun W hW => by obtain ⟨y0, y1, y2, y3, y4, r1, r2⟩ := hW; go_simp⟩) HS0.out ?_
        simp only [List.getElem_toArray, List.getElem_cons_succ, List.getElem_cons_zero, Act.put, List.setIfInBounds_toArray, List.set_cons_zero, List.set_cons_succ]
        refine wpAnyH_take (i := 4) (v := .bool false) rfl (by kernel_rfl) (by kernel_rfl) (by kernel_rfl) (fun _ _ _ h => h) (Or.inl ⟨by rfl, fun W hW => by obtain ⟨y0, y1, y2, y3, y4, r1, r2⟩ := hW; go_simp⟩) HS0.out ?_
        simp only [List.getElem_toArray, List.getElem_cons_succ, List.getElem_cons_zero, Act.put, List.setIfInBounds_toArray, List.set_cons_zero, List.set_cons_succ]
        refine wpAnyH_take (i := 5) (v := .bool true) rfl (by kernel_rfl) (by kernel_rfl) (by kernel_rfl) (fun _ _ _ h => h) (Or.inl ⟨by rfl, fun W hW => by obtain ⟨y0, y1, y2, y3, y4, r1, r2⟩ := hW; go_simp⟩) HS0.out ?_
        simp only [List.getElem_toArray, List.getElem_cons_succ, List.getElem_cons_zero, Act.put, List.setIfInBounds_toArray, List.set_cons_zero, List.set_cons_succ]
        refine wpAnyH_take (i := 6) (v := .bool true) rfl (by kernel_rfl) (by kernel_rfl) (by kernel_rfl) (fun _ _ _ h => h) (Or.inl ⟨by rfl, fun W hW => by obtain ⟨y0, y1, y2, y3, y4, r1, r2⟩ := hW; go_simp⟩) HS0.out ?_
        simp only [List.getElem_toArray, List.getElem_cons_succ, List.getElem_cons_zero, Act.put, List.setIfInBounds_toArray, List.set_cons_zero, List.set_cons_succ]
        refine wpAnyH_take (i := 7) (v := .pointer (some ⟨(w.heap.size + 1 + 1), 0, none⟩)) rfl (by kernel_rfl) (by kernel_rfl) (by kernel_rfl) (fun _ _ _ h => h) (Or.inl ⟨by rfl, fun W hW => by obtain ⟨y0, y1, y2, y3, y4, r1, r2⟩ := hW; go_simp⟩) HS0.out ?_
        simp only [List.getElem_toArray, List.getElem_cons_succ, List.getElem_cons_zero, Act.put, List.setIfInBounds_toArray, List.set_cons_zero, List.set_cons_succ]
        refine wpAnyH_take (i := 8) (v := .pointer (some ⟨(w.heap.size + 1 + 1), 0, none⟩)) rfl (by kernel_rfl) (by kernel_rfl) (by kernel_rfl) (fun _ _ _ h => h) (Or.inl ⟨by rfl, fun W hW => by obtain ⟨y0, y1, y2, y3, y4, r1, r2⟩ := hW; go_simp⟩) HS0.out ?_
        simp only [List.getElem_toArray, List.getElem_cons_succ, List.getElem_cons_zero, Act.put, List.setIfInBounds_toArray, List.set_cons_zero, List.set_cons_succ]
        refine wpAnyH_take (i := 9) (v := .pointer (some ⟨(w.heap.size + 1 + 1), 1, none⟩)) rfl (by kernel_rfl) (by kernel_rfl) (by kernel_rfl) (fun _ _ _ h => h) (Or.inl ⟨by rfl, fun W hW => by obtain ⟨y0, y1, y2, y3, y4, r1, r2⟩ := hW; go_simp⟩) HS0.out ?_
        simp only [List.getElem_toArray, List.getElem_cons_succ, List.getElem_cons_zero, Act.put, List.setIfInBounds_toArray, List.set_cons_zero, List.set_cons_succ]
        refine wpAnyH_take (i := 10) (v := .int .i64 (L.length : Int)) rfl (by kernel_rfl) (by kernel_rfl) (by kernel_rfl) (fun _ _ _ h => h) (Or.inl ⟨by rfl, fun W hW => by obtain ⟨y0, y1, y2, y3, y4, r1, r2⟩ := hW; go_simp⟩) HS0.out ?_
        simp only [List.getElem_toArray, List.getElem_cons_succ, List.getElem_cons_zero, Act.put, List.setIfInBounds_toArray, List.set_cons_zero, List.set_cons_succ]
        refine wpAnyH_take (i := 11) (v := .string (bs L)) rfl (by kernel_rfl) (by kernel_rfl) (by kernel_rfl) (fun _ _ _ h => h) (Or.inl ⟨by rfl, fun W hW => by obtain ⟨y0, y1, y2, y3, y4, r1, r2⟩ := hW; go_simp⟩) HS0.out ?_
        simp only [List.getElem_toArray, List.getElem_cons_succ, List.getElem_cons_zero, Act.put, List.setIfInBounds_toArray, List.set_cons_zero, List.set_cons_succ]
        refine wpAnyH_take (i := 12) (v := .int .i64 (L.length : Int)) rfl (by kernel_rfl) (by kernel_rfl) (by kernel_rfl) (fun _ _ _ h => h) (Or.inl ⟨by rfl, fun W hW => by obtain ⟨y0, y1, y2, y3, y4, r1, r2⟩ := hW; go_simp⟩) HS0.out ?_
        simp only [List.getElem_toArray, List.getElem_cons_succ, List.getElem_cons_zero, Act.put, List.setIfInBounds_toArray, List.set_cons_zero, List.set_cons_succ]
        refine wpAnyH_take (i := 13) (v := .bool true) rfl (by kernel_rfl) (by kernel_rfl) (by kernel_rfl) (fun _ _ _ h => h) (Or.inl ⟨by rfl, fun W hW => by obtain ⟨y0, y1, y2, y3, y4, r1, r2⟩ := hW; go_simp⟩) HS0.out ?_
        simp only [List.getElem_toArray, List.getElem_cons_succ, List.getElem_cons_zero, Act.put, List.setIfInBounds_toArray, List.set_cons_zero, List.set_cons_succ]
        refine wpAnyH_take (i := 14) (v := .bool true) rfl (by kernel_rfl) (by kernel_rfl) (by kernel_rfl) (fun _ _ _ h => h) (Or.inl ⟨by rfl, fun W hW => by obtain ⟨y0, y1, y2, y3, y4, r1, r2⟩ := hW; go_simp⟩) HS0.out ?_
        simp only [List.getElem_toArray, List.getElem_cons_succ, List.getElem_cons_zero, Act.put, List.setIfInBounds_toArray, List.set_cons_zero, List.set_cons_succ]
        refine wpAnyH_take (i := 15) (v := .bool true) rfl (by kernel_rfl) (by kernel_rfl) (by kernel_rfl) (fun _ _ _ h => h) (Or.inl ⟨by rfl, fun W hW => by obtain ⟨y0, y1, y2, y3, y4, r1, r2⟩ := hW; go_simp⟩) HS0.out ?_
        simp only [List.getElem_toArray, List.getElem_cons_succ, List.getElem_cons_zero, Act.put, List.setIfInBounds_toArray, List.set_cons_zero, List.set_cons_succ]
        refine wpAnyH_take (i := 16) (v := .pointer (some ⟨(w.heap.size + 1), 4, none⟩)) rfl (by kernel_rfl) (by kernel_rfl) (by kernel_rfl) (fun _ _ _ h => h) (Or.inl ⟨by rfl, fun W hW => by obtain ⟨y0, y1, y2, y3, y4, r1, r2⟩ := hW; go_simp⟩) HS0.out ?_
        simp only [List.getElem_toArray, List.getElem_cons_succ, List.getElem_cons_zero, Act.put, List.setIfInBounds_toArray, List.set_cons_zero, List.set_cons_succ]
        refine wpAnyH_take (i := 17) (v := .int .i32 F5) rfl (by kernel_rfl) (by kernel_rfl) (by kernel_rfl) (fun _ _ _ h => h) (Or.inl ⟨by rfl, fun W hW => by obtain ⟨y0, y1, y2, y3, y4, r1, r2⟩ := hW; go_simp⟩) HS0.out ?_
        simp only [List.getElem_toArray, List.getElem_cons_succ, List.getElem_cons_zero, Act.put, List.setIfInBounds_toArray, List.set_cons_zero, List.set_cons_succ]
        refine wpAnyH_take (i := 18) (v := .int .i64 F5) rfl (by kernel_rfl) (by kernel_rfl) (by kernel_rfl) (fun _ _ _ h => h) (Or.inl ⟨by rfl, fun W hW => by obtain ⟨y0, y1, y2, y3, y4, r1, r2⟩ := hW; go_simp⟩) HS0.out ?_
        simp only [List.getElem_toArray, List.getElem_cons_succ, List.getElem_cons_zero, Act.put, List.setIfInBounds_toArray, List.set_cons_zero, List.set_cons_succ]
        refine wpAnyH_take (i := 19) (v := .int .i64 n) rfl (by kernel_rfl) (by kernel_rfl) (by kernel_rfl) (fun _ _ _ h => h) (Or.inl ⟨by rfl, fun W hW => by obtain ⟨y0, y1, y2, y3, y4, r1, r2⟩ := hW; go_simp⟩) HS0.out ?_
        simp only [List.getElem_toArray, List.getElem_cons_succ, List.getElem_cons_zero, Act.put, List.setIfInBounds_toArray, List.set_cons_zero, List.set_cons_succ]
        refine wpAnyH_take (i := 20) (v := .bool false) rfl (by kernel_rfl) (by kernel_rfl) (by kernel_rfl) (fun _ _ _ h => h) (Or.inl ⟨by rfl, fun W hW => by obtain ⟨y0, y1, y2, y3, y4, r1, r2⟩ := hW; go_simp⟩) HS0.out ?_
        simp only [List.getElem_toArray, List.getElem_cons_succ, List.getElem_cons_zero, Act.put, List.setIfInBounds_toArray, List.set_cons_zero, List.set_cons_succ]
        refine wpAnyH_take (i := 21) (v := .bool false) rfl (by kernel_rfl) (by kernel_rfl) (by kernel_rfl) (fun _ _ _ h => h) (Or.inl ⟨by rfl, fun W hW => by obtain ⟨y0, y1, y2, y3, y4, r1, r2⟩ := hW; go_simp⟩) HS0.out ?_
        simp only [List.getElem_toArray, List.getElem_cons_succ, List.getElem_cons_zero, Act.put, List.setIfInBounds_toArray, List.set_cons_zero, List.set_cons_succ]
        have HC : Hid (∀ b j : Nat, b ≠ w.heap.size → (W.drew.setRow w.heap.size #[.int .i64 op, .int .i64 0, .int .i64 v1, .int .i64 v2, .int .i32 F5]).cell? ⟨b, j, none⟩ = W.cell? ⟨b, j, none⟩) := fun b j hb => World.cell?_of_block (setRow_other _ _ _ _ hb)
        have HS1 : Hid ((fun W => W.cell? ⟨(w.heap.size + 1), 0, none⟩ = some (.int .i64 op) ∧ W.cell? ⟨(w.heap.size + 1), 1, none⟩ = some (.int .i64 0) ∧ W.cell? ⟨(w.heap.size + 1), 2, none⟩ = some (.int .i64 v1) ∧ W.cell? ⟨(w.heap.size + 1), 3, none⟩ = some (.int .i64 v2) ∧ W.cell? ⟨(w.heap.size + 1), 4, none⟩ = some (.int .i32 F5) ∧ W.cell? ⟨(w.heap.size + 1 + 1), 1, none⟩ = some (.int .i64 (L.length : Int)) ∧ W.cell? ⟨(w.heap.size + 1 + 1), 2, none⟩ = some (.bool false)) (W.drew.setRow w.heap.size #[.int .i64 op, .int .i64 0, .int .i64 v1, .int .i64 v2, .int .i32 F5])) := ⟨(HC.out _ _ (by omega)).trans y0, (HC.out _ _ (by omega)).trans y1, (HC.out _ _ (by omega)).trans y2, (HC.out _ _ (by omega)).trans y3, (HC.out _ _ (by omega)).trans y4, (HC.out _ _ (by omega)).trans r1, (HC.out _ _ (by omega)).trans r2⟩
        refine held_store_r (i := 22) (by kernel_rfl) rfl rfl 23 (.tmp 6) (.tmp 137) rfl w.heap.size #[.int .i64 op, .int .i64 0, .int .i64 v1, .int .i64 v2, .int .i32 F5] (by simp [Act.eval]) (by simp [Act.eval]) 23 #[.int .i64 0, .int .i64 0, .int .i64 0, .int .i64 0, .int .i32 0] HU1.out iIn rfl (one5 _ _ _ _ _) ?_ ?_
        · exact HS1.out
        refine wpAnyH_take (i := 23) (v := .bool false) rfl (by kernel_rfl) (by kernel_rfl) (by kernel_rfl) (fun _ _ _ h => h) (Or.inl ⟨by rfl, fun W hW => by obtain ⟨y0, y1, y2, y3, y4, r1, r2⟩ := hW; go_simp⟩) HS1.out ?_
        simp only [List.getElem_toArray, List.getElem_cons_succ, List.getElem_cons_zero, Act.put, List.setIfInBounds_toArray, List.set_cons_zero, List.set_cons_succ]
        refine wpAnyH_done (by kernel_rfl) ?_ _
        go_wp2_with fail
        refine bodyPost_ret (v := .tuple #[.agg #[.int .i64 op, .int .i64 0, .int .i64 v1, .int .i64 v2, .int .i32 F5], .bool false]) (results_ct Tryd.results53 _ _ _ _ _ (0, 0) _ _ rfl rfl (setRow_heap _ _ _ _ _ (0, 0) HU1.out) Tryd.underlying23 rfl iIn) rfl ⟨_, _, _, _, _, false, rfl, gr_row HG.out.dr1 _, ⟨hw.1, hw.2.1⟩, ⟨fun h => (by cases h), fun h => absurd h.2 hfit⟩, fun h => by cases h⟩
set_option maxHeartbeats 8000000 in
set_option maxRecDepth 1000000 in
theorem read_k4 {op m v1 v2 n : Int} {L : List Nat} {o0 o1 o2 o3 o4 o5 : Option (List Nat)} (hl : L.length ≤ 140737488355328) (p1 : 11 ≤ op) (p2 : op ≤ 15) (m0 : 0 ≤ m) (m3 : m ≤ 3) (n0 : -10000000000 < n) (n1 : n < 10000000000) (ho : o0 = some L) (H1 : EatC (w.heap.size + 1 + 1) L 32 o0 o1) (H2 : RegC (w.heap.size + 1 + 1) L o1 v1 o2) (H3 : EatC (w.heap.size + 1 + 1) L 44 o2 o3) (H4 : NumC (w.heap.size + 1 + 1) L o3 n o4) (H5 : PlcC (w.heap.size + 1 + 1) L o4 v2 o5) :
    Calls Tryd.prog 53 #[.int .i64 op, .int .i32 m, .string (bs L)] w (RdE w o5 op v1 v2 0 n) := by
  have I1 : Hid _ := H1
  have I2 : Hid _ := H2
  have I3 : Hid _ := H3
  have I4 : Hid _ := H4
  have I5 : Hid _ := H5
  have e58 : (op == 58) = false := by simp; omega
  have e59 : (op == 59) = false := by simp; omega
  have l3 : ¬ op ≤ 3 := by omega
  have e4 : (op == 4) = false := by simp; omega
  have g19 : ¬ 19 ≤ op := by omega
  have l27 : op ≤ 27 := by omega
  have e57 : (op == 57) = false := by simp; omega
  have l10 : ¬ op ≤ 10 := by omega
  have l15 : op ≤ 15 := by omega
  have l18 : op ≤ 18 := by omega
  have l45 : op ≤ 45 := by omega
  have e46 : (op == 46) = false := by simp; omega
  have l2 : ¬ op ≤ 2 := by omega
  have hz : ((bs L).size : Int) = (L.length : Int) := by rw [bs_size]
  have HX0 : Hid (∀ W : World, W.heap[w.heap.size + 1 + 1]? = some (.cells #[.string (bs L), .int .i64 0, .bool false] 157 (0, 0)) → Rx W (w.heap.size + 1 + 1) L o0) := fun W h => ⟨0, false, h, Nat.zero_le _, by rw [ho]; rfl⟩
  clear H1 H2 H3 H4 H5 ho p1 p2
  go_enter Tryd.func53, Tryd.ntmps53
  go_wp2_with fail
  have HW0 : Hid (Rw w L o0 op 0 0 0 0 (((w.alloc (.cells #[.int .i64 0, .int .i64 0, .int .i64 0, .int .i64 0, .int .i32 0] 23)).alloc (.cells #[.int .i64 op, .int .i64 0, .int .i64 0, .int .i64 0, .int .i32 0] 23)).alloc (.cells #[.string (bs L), .int .i64 0, .bool false] 157))) := by
    refine ⟨(((Gr.refl w).alloc _).alloc _).alloc _, ?_, ?_, HX0.out _ ?_⟩
    · rw [heap_alloc_old _ _ (by simp; omega), heap_alloc_old _ _ (by simp)]
      exact heap_alloc_new w _
    · rw [heap_alloc_old _ _ (by simp)]
      exact al2' _ _ _
    · have := heap_alloc_new ((w.alloc (.cells #[.int .i64 0, .int .i64 0, .int .i64 0, .int .i64 0, .int .i32 0] 23)).alloc (.cells #[.int .i64 op, .int .i64 0, .int .i64 0, .int .i64 0, .int .i32 0] 23)) (.cells #[.string (bs L), .int .i64 0, .bool false] 157)
      simpa using this
  refine (I1.out _ HW0.out.x).mono ?_
  rintro e W1 ⟨rfl, X1, k1⟩
  have HW1 : Hid (Rw w L o1 op 0 0 0 0 W1) := HW0.out.call X1 k1
  clear X1 k1
  have y0 := cr0 HW1.out.i
  have y1 := cr1 HW1.out.i
  have y2 := cr2 HW1.out.i
  have y3 := cr3 HW1.out.i
  have y4 := cr4 HW1.out.i
  have yf : ∀ j, W1.frozen? ⟨w.heap.size + 1, j, none⟩ = false := fun j => fzr HW1.out.i
  go_wp2_with fail
  refine (I2.out _ HW1.out.x).mono ?_
  rintro e W2 ⟨rfl, X2, k2⟩
  have HW2 : Hid (Rw w L o2 op 0 0 0 0 W2) := HW1.out.call X2 k2
  clear X2 k2
  have y0 := cr0 HW2.out.i
  have y1 := cr1 HW2.out.i
  have y2 := cr2 HW2.out.i
  have y3 := cr3 HW2.out.i
  have y4 := cr4 HW2.out.i
  have yf : ∀ j, W2.frozen? ⟨w.heap.size + 1, j, none⟩ = false := fun j => fzr HW2.out.i
  go_wp2_with fail
  refine (I3.out _ HW2.out.x).mono ?_
  rintro e W3 ⟨rfl, X3, k3⟩
  have HW3 : Hid (Rw w L o3 op 0 0 0 0 W3) := HW2.out.call X3 k3
  clear X3 k3
  have y0 := cr0 HW3.out.i
  have y1 := cr1 HW3.out.i
  have y2 := cr2 HW3.out.i
  have y3 := cr3 HW3.out.i
  have y4 := cr4 HW3.out.i
  have yf : ∀ j, W3.frozen? ⟨w.heap.size + 1, j, none⟩ = false := fun j => fzr HW3.out.i
  have HS31 : Hid _ := HW3.out.set 1 (.int .i64 v1) rfl
  go_wp2_with fail
  refine (I4.out _ HS31.out.x).mono ?_
  rintro e W4 ⟨rfl, X4, k4⟩
  have HW4 : Hid (Rw w L o4 op v1 0 0 0 W4) := HS31.out.call X4 k4
  clear X4 k4
  have y0 := cr0 HW4.out.i
  have y1 := cr1 HW4.out.i
  have y2 := cr2 HW4.out.i
  have y3 := cr3 HW4.out.i
  have y4 := cr4 HW4.out.i
  have yf : ∀ j, W4.frozen? ⟨w.heap.size + 1, j, none⟩ = false := fun j => fzr HW4.out.i
  go_wp2_with fail
  refine (I5.out _ HW4.out.x).mono ?_
  rintro e W5 ⟨rfl, X5, k5⟩
  have HW5 : Hid (Rw w L o5 op v1 0 0 0 W5) := HW4.out.call X5 k5
  clear X5 k5
  have y0 := cr0 HW5.out.i
  have y1 := cr1 HW5.out.i
  have y2 := cr2 HW5.out.i
  have y3 := cr3 HW5.out.i
  have y4 := cr4 HW5.out.i
  have yf : ∀ j, W5.frozen? ⟨w.heap.size + 1, j, none⟩ = false := fun j => fzr HW5.out.i
  have HS52 : Hid _ := HW5.out.set 2 (.int .i64 v2) rfl
  go_wp2_with fail
  refine atWz (fun W => Rw w L o5 op v1 v2 0 (wrap32 n) W) (HS52.out.set 4 _ rfl) (fun W HWz => ?_)
  obtain ⟨q, bad, hx, hq, ho⟩ := HWz.x.ex
  have HZ : Hid (Rw w L o5 op v1 v2 0 (wrap32 n) W) := HWz
  have HO : Hid (o5 = if bad = true then none else some (L.drop q)) := ho
  have r0 := cr0 hx
  have r1 := cr1 hx
  have r2 := cr2 hx
  have y0 := cr0 HWz.i
  have y1 := cr1 HWz.i
  have y2 := cr2 HWz.i
  have y3 := cr3 HWz.i
  have y4 := cr4 HWz.i
  have t0 := cr0 HWz.r
  have t1 := cr1 HWz.r
  have t2 := cr2 HWz.r
  have t3 := cr3 HWz.r
  have t4 := cr4 HWz.r
  have tf : ∀ j, W.frozen? ⟨w.heap.size, j, none⟩ = false := fun j => fzr HWz.r
  have hw := wrap_in32 n
  have HU1 : Hid (W.heap[w.heap.size]? = some (.cells #[.int .i64 0, .int .i64 0, .int .i64 0, .int .i64 0, .int .i32 0] 23 (0, 0))) := HWz.r
  have HG : Hid (Gr w W) := HWz.g
  clear hx ho HWz HZ HW0 HW1 HW2 HW3 HW4 HW5 t0 t1 t2 t3 t4 tf r0
  generalize wrap32 n = F5 at *
  cases bad with
  | true =>
    refine wp_region_held_drew (S := fun W => W.cell? ⟨(w.heap.size + 1), 0, none⟩ = some (.int .i64 op) ∧ W.cell? ⟨(w.heap.size + 1), 1, none⟩ = some (.int .i64 v1) ∧ W.cell? ⟨(w.heap.size + 1), 2, none⟩ = some (.int .i64 v2) ∧ W.cell? ⟨(w.heap.size + 1), 3, none⟩ = some (.int .i64 0) ∧ W.cell? ⟨(w.heap.size + 1), 4, none⟩ = some (.int .i32 F5) ∧ W.cell? ⟨(w.heap.size + 1 + 1), 1, none⟩ = some (.int .i64 (q : Int)) ∧ W.cell? ⟨(w.heap.size + 1 + 1), 2, none⟩ = some (.bool true)) (by kernel_rfl) ⟨y0, y1, y2, y3, y4, r1, r2⟩ (fun hHeld => ?_)
    have HS0 : Hid _ := hHeld
    clear hHeld
    refine wpAnyH_take (i := 0) (v := .agg #[.int .i64 op, .int .i64 v1, .int .i64 v2, .int .i64 0, .int .i32 F5]) rfl (by kernel_rfl) (by kernel_rfl) (by kernel_rfl) (fun _ _ _ h => h) (Or.inl ⟨by rfl, fun W hW => by obtain ⟨y0, y1, y2, y3, y4, r1, r2⟩ := hW; go_simp⟩) HS0.out ?_
    simp only [List.getElem_toArray, List.getElem_cons_succ, List.getElem_cons_zero, Act.put, List.setIfInBounds_toArray, List.set_cons_zero, List.set_cons_succ]
    refine wpAnyH_take (i := 1) (v := .pointer (some ⟨(w.heap.size + 1 + 1), 0, none⟩)) rfl (by kernel_rfl) (by kernel_rfl) (by kernel_rfl) (fun _ _ _ h => h) (Or.inl ⟨by rfl, fun W hW => by obtain ⟨y0, y1, y2, y3, y4, r1, r2⟩ := hW; go_simp⟩) HS0.out ?_
    simp only [List.getElem_toArray, List.getElem_cons_succ, List.getElem_cons_zero, Act.put, List.setIfInBounds_toArray, List.set_cons_zero, List.set_cons_succ]
    refine wpAnyH_take (i := 2) (v := .pointer (some ⟨(w.heap.size + 1 + 1), 0, none⟩)) rfl (by kernel_rfl) (by kernel_rfl) (by kernel_rfl) (fun _ _ _ h => h) (Or.inl ⟨by rfl, fun W hW => by obtain ⟨y0, y1, y2, y3, y4, r1, r2⟩ := hW; go_simp⟩) HS0.out ?_
    simp only [List.getElem_toArray, List.getElem_cons_succ, List.getElem_cons_zero, Act.put, List.setIfInBounds_toArray, List.set_cons_zero, List.set_cons_succ]
    refine wpAnyH_take (i := 3) (v := .pointer (some ⟨(w.heap.size + 1 + 1), 2, none⟩)) rfl (by kernel_rfl) (by kernel_rfl) (by kernel_rfl) (fun _ _ _ h => h) (Or.inl ⟨by rfl, fun W hW => by obtain ⟨y0, y1, y2, y3, y4, r1, r2⟩ := hW; go_simp⟩) HS0.out ?_
    simp only [List.getElem_toArray, List.getElem_cons_succ, List.getElem_cons_zero, Act.put, List.setIfInBounds_toArray, List.set_cons_zero, List.set_cons_succ]
    refine wpAnyH_take (i := 4) (v := .bool true) rfl (by kernel_rfl) (by kernel_rfl) (by kernel_rfl) (fun _ _ _ h => h) (Or.inl ⟨by rfl, fun W hW => by obtain ⟨y0, y1, y2, y3, y4, r1, r2⟩ := hW; go_simp⟩) HS0.out ?_
    simp only [List.getElem_toArray, List.getElem_cons_succ, List.getElem_cons_zero, Act.put, List.setIfInBounds_toArray, List.set_cons_zero, List.set_cons_succ]
    refine wpAnyH_take (i := 5) (v := .bool false) rfl (by kernel_rfl) (by kernel_rfl) (by kernel_rfl) (fun _ _ _ h => h) (Or.inl ⟨by rfl, fun W hW => by obtain ⟨y0, y1, y2, y3, y4, r1, r2⟩ := hW; go_simp⟩) HS0.out ?_
    simp only [List.getElem_toArray, List.getElem_cons_succ, List.getElem_cons_zero, Act.put, List.setIfInBounds_toArray, List.set_cons_zero, List.set_cons_succ]
    refine wpAnyH_take (i := 6) (v := .bool false) rfl (by kernel_rfl) (by kernel_rfl) (by kernel_rfl) (fun _ _ _ h => h) (Or.inl ⟨by rfl, fun W hW => by obtain ⟨y0, y1, y2, y3, y4, r1, r2⟩ := hW; go_simp⟩) HS0.out ?_
    simp only [List.getElem_toArray, List.getElem_cons_succ, List.getElem_cons_zero, Act.put, List.setIfInBounds_toArray, List.set_cons_zero, List.set_cons_succ]
    refine wpAnyH_take (i := 7) (v := undef) rfl (by kernel_rfl) (by kernel_rfl) (by kernel_rfl) (fun _ _ _ h => h) (Or.inr ⟨by rfl, rfl⟩) HS0.out ?_
    simp only [List.getElem_toArray, List.getElem_cons_succ, List.getElem_cons_zero, Act.put, List.setIfInBounds_toArray, List.set_cons_zero, List.set_cons_succ]
    refine wpAnyH_take (i := 8) (v := undef) rfl (by kernel_rfl) (by kernel_rfl) (by kernel_rfl) (fun _ _ _ h => h) (Or.inr ⟨by rfl, rfl⟩) HS0.out ?_
    simp only [List.getElem_toArray, List.getElem_cons_succ, List.getElem_cons_zero, Act.put, List.setIfInBounds_toArray, List.set_cons_zero, List.set_cons_succ]
    refine wpAnyH_take (i := 9) (v := undef) rfl (by kernel_rfl) (by kernel_rfl) (by kernel_rfl) (fun _ _ _ h => h) (Or.inr ⟨by rfl, rfl⟩) HS0.out ?_
    simp only [List.getElem_toArray, List.getElem_cons_succ, List.getElem_cons_zero, Act.put, List.setIfInBounds_toArray, List.set_cons_zero, List.set_cons_succ]
    refine wpAnyH_take (i := 10) (v := undef) rfl (by kernel_rfl) (by kernel_rfl) (by kernel_rfl) (fun _ _ _ h => h) (Or.inr ⟨by rfl, rfl⟩) HS0.out ?_
    simp only [List.getElem_toArray, List.getElem_cons_succ, List.getElem_cons_zero, Act.put, List.setIfInBounds_toArray, List.set_cons_zero, List.set_cons_succ]
    refine wpAnyH_take (i := 11) (v := undef) rfl (by kernel_rfl) (by kernel_rfl) (by kernel_rfl) (fun _ _ _ h => h) (Or.inr ⟨by rfl, rfl⟩) HS0.out ?_
    simp only [List.getElem_toArray, List.getElem_cons_succ, List.getElem_cons_zero, Act.put, List.setIfInBounds_toArray, List.set_cons_zero, List.set_cons_succ]
    refine wpAnyH_take (i := 12) (v := undef) rfl (by kernel_rfl) (by kernel_rfl) (by kernel_rfl) (fun _ _ _ h => h) (Or.inr ⟨by rfl, rfl⟩) HS0.out ?_
    simp only [List.getElem_toArray, List.getElem_cons_succ, List.getElem_cons_zero, Act.put, List.setIfInBounds_toArray, List.set_cons_zero, List.set_cons_succ]
    refine wpAnyH_take (i := 13) (v := undef) rfl (by kernel_rfl) (by kernel_rfl) (by kernel_rfl) (fun _ _ _ h => h) (Or.inr ⟨by rfl, rfl⟩) HS0.out ?_
    simp only [List.getElem_toArray, List.getElem_cons_succ, List.getElem_cons_zero, Act.put, List.setIfInBounds_toArray, List.set_cons_zero, List.set_cons_succ]
    refine wpAnyH_take (i := 14) (v := .bool false) rfl (by kernel_rfl) (by kernel_rfl) (by kernel_rfl) (fun _ _ _ h => h) (Or.inl ⟨by rfl, fun W hW => by obtain ⟨y0, y1, y2, y3, y4, r1, r2⟩ := hW; go_simp⟩) HS0.out ?_
    simp only [List.getElem_toArray, List.getElem_cons_succ, List.getElem_cons_zero, Act.put, List.setIfInBounds_toArray, List.set_cons_zero, List.set_cons_succ]
    refine wpAnyH_take (i := 15) (v := .bool false) rfl (by kernel_rfl) (by kernel_rfl) (by kernel_rfl) (fun _ _ _ h => h) (Or.inl ⟨by rfl, fun W hW => by obtain ⟨y0, y1, y2, y3, y4, r1, r2⟩ := hW; go_simp⟩) HS0.out ?_
    simp only [List.getElem_toArray, List.getElem_cons_succ, List.getElem_cons_zero, Act.put, List.setIfInBounds_toArray, List.set_cons_zero, List.set_cons_succ]
    refine wpAnyH_take (i := 16) (v := undef) rfl (by kernel_rfl) (by kernel_rfl) (by kernel_rfl) (fun _ _ _ h => h) (Or.inr ⟨by rfl, rfl⟩) HS0.out ?_
    simp only [List.getElem_toArray, List.getElem_cons_succ, List.getElem_cons_zero, Act.put, List.setIfInBounds_toArray, List.set_cons_zero, List.set_cons_succ]
    refine wpAnyH_take (i := 17) (v := undef) rfl (by kernel_rfl) (by kernel_rfl) (by kernel_rfl) (fun _ _ _ h => h) (Or.inr ⟨by rfl, rfl⟩) HS0.out ?_
    simp only [List.getElem_toArray, List.getElem_cons_succ, List.getElem_cons_zero, Act.put, List.setIfInBounds_toArray, List.set_cons_zero, List.set_cons_succ]
    refine wpAnyH_take (i := 18) (v := undef) rfl (by kernel_rfl) (by kernel_rfl) (by kernel_rfl) (fun _ _ _ h => h) (Or.inr ⟨by rfl, rfl⟩) HS0.out ?_
    simp only [List.getElem_toArray, List.getElem_cons_succ, List.getElem_cons_zero, Act.put, List.setIfInBounds_toArray, List.set_cons_zero, List.set_cons_succ]
    refine wpAnyH_take (i := 19) (v := undef) rfl (by kernel_rfl) (by kernel_rfl) (by kernel_rfl) (fun _ _ _ h => h) (Or.inr ⟨by rfl, rfl⟩) HS0.out ?_
    simp only [List.getElem_toArray, List.getElem_cons_succ, List.getElem_cons_zero, Act.put, List.setIfInBounds_toArray, List.set_cons_zero, List.set_cons_succ]
    refine wpAnyH_take (i := 20) (v := undef) rfl (by kernel_rfl) (by kernel_rfl) (by kernel_rfl) (fun _ _ _ h => h) (Or.inr ⟨by rfl, rfl⟩) HS0.out ?_
    simp only [List.getElem_toArray, List.getElem_cons_succ, List.getElem_cons_zero, Act.put, List.setIfInBounds_toArray, List.set_cons_zero, List.set_cons_succ]
    refine wpAnyH_take (i := 21) (v := .bool false) rfl (by kernel_rfl) (by kernel_rfl) (by kernel_rfl) (fun _ _ _ h => h) (Or.inl ⟨by rfl, fun W hW => by obtain ⟨y0, y1, y2, y3, y4, r1, r2⟩ := hW; go_simp⟩) HS0.out ?_
    simp only [List.getElem_toArray, List.getElem_cons_succ, List.getElem_cons_zero, Act.put, List.setIfInBounds_toArray, List.set_cons_zero, List.set_cons_succ]
    have HC : Hid (∀ b j : Nat, b ≠ w.heap.size → (W.drew.setRow w.heap.size #[.int .i64 op, .int .i64 v1, .int .i64 v2, .int .i64 0, .int .i32 F5]).cell? ⟨b, j, none⟩ = W.cell? ⟨b, j, none⟩) := fun b j hb => World.cell?_of_block (setRow_other _ _ _ _ hb)
    have HS1 : Hid ((fun W => W.cell? ⟨(w.heap.size + 1), 0, none⟩ = some (.int .i64 op) ∧ W.cell? ⟨(w.heap.size + 1), 1, none⟩ = some (.int .i64 v1) ∧ W.cell? ⟨(w.heap.size + 1), 2, none⟩ = some (.int .i64 v2) ∧ W.cell? ⟨(w.heap.size + 1), 3, none⟩ = some (.int .i64 0) ∧ W.cell? ⟨(w.heap.size + 1), 4, none⟩ = some (.int .i32 F5) ∧ W.cell? ⟨(w.heap.size + 1 + 1), 1, none⟩ = some (.int .i64 (q : Int)) ∧ W.cell? ⟨(w.heap.size + 1 + 1), 2, none⟩ = some (.bool true)) (W.drew.setRow w.heap.size #[.int .i64 op, .int .i64 v1, .int .i64 v2, .int .i64 0, .int .i32 F5])) := ⟨(HC.out _ _ (by omega)).trans y0, (HC.out _ _ (by omega)).trans y1, (HC.out _ _ (by omega)).trans y2, (HC.out _ _ (by omega)).trans y3, (HC.out _ _ (by omega)).trans y4, (HC.out _ _ (by omega)).trans r1, (HC.out _ _ (by omega)).trans r2⟩
    refine held_store_r (i := 22) (by kernel_rfl) rfl rfl 23 (.tmp 6) (.tmp 137) rfl w.heap.size #[.int .i64 op, .int .i64 v1, .int .i64 v2, .int .i64 0, .int .i32 F5] (by simp [Act.eval]) (by simp [Act.eval]) 23 #[.int .i64 0, .int .i64 0, .int .i64 0, .int .i64 0, .int .i32 0] HU1.out iIn rfl (one5 _ _ _ _ _) ?_ ?_
    · exact HS1.out
    refine wpAnyH_take (i := 23) (v := .bool false) rfl (by kernel_rfl) (by kernel_rfl) (by kernel_rfl) (fun _ _ _ h => h) (Or.inl ⟨by rfl, fun W hW => by obtain ⟨y0, y1, y2, y3, y4, r1, r2⟩ := hW; go_simp⟩) HS1.out ?_
    simp only [List.getElem_toArray, List.getElem_cons_succ, List.getElem_cons_zero, Act.put, List.setIfInBounds_toArray, List.set_cons_zero, List.set_cons_succ]
    refine wpAnyH_done (by kernel_rfl) ?_ _
    go_wp2_with fail
    refine bodyPost_ret (v := .tuple #[.agg #[.int .i64 op, .int .i64 v1, .int .i64 v2, .int .i64 0, .int .i32 F5], .bool false]) (results_ct Tryd.results53 _ _ _ _ _ (0, 0) _ _ rfl rfl (setRow_heap _ _ _ _ _ (0, 0) HU1.out) Tryd.underlying23 rfl iIn) rfl ⟨_, _, _, _, _, false, rfl, gr_row HG.out.dr1 _, ⟨hw.1, hw.2.1⟩, ⟨fun h => (by cases h), fun h => absurd ((show o5 = none from HO.out).symm.trans h.1) (by simp)⟩, fun h => by cases h⟩
  | false =>
    by_cases hqe : q < L.length
    · have fq : ((q : Int) == (L.length : Int)) = false := by simp; omega
      refine wp_region_held_drew (S := fun W => W.cell? ⟨(w.heap.size + 1), 0, none⟩ = some (.int .i64 op) ∧ W.cell? ⟨(w.heap.size + 1), 1, none⟩ = some (.int .i64 v1) ∧ W.cell? ⟨(w.heap.size + 1), 2, none⟩ = some (.int .i64 v2) ∧ W.cell? ⟨(w.heap.size + 1), 3, none⟩ = some (.int .i64 0) ∧ W.cell? ⟨(w.heap.size + 1), 4, none⟩ = some (.int .i32 F5) ∧ W.cell? ⟨(w.heap.size + 1 + 1), 1, none⟩ = some (.int .i64 (q : Int)) ∧ W.cell? ⟨(w.heap.size + 1 + 1), 2, none⟩ = some (.bool false)) (by kernel_rfl) ⟨y0, y1, y2, y3, y4, r1, r2⟩ (fun hHeld => ?_)
      have HS0 : Hid _ := hHeld
      clear hHeld
      refine wpAnyH_take (i := 0) (v := .agg #[.int .i64 op, .int .i64 v1, .int .i64 v2, .int .i64 0, .int .i32 F5]) rfl (by kernel_rfl) (by kernel_rfl) (by kernel_rfl) (fun _ _ _ h => h) (Or.inl ⟨by rfl, fun W hW => by obtain ⟨y0, y1, y2, y3, y4, r1, r2⟩ := hW; go_simp⟩) HS0.out ?_
      simp only [List.getElem_toArray, List.getElem_cons_succ, List.getElem_cons_zero, Act.put, List.setIfInBounds_toArray, List.set_cons_zero, List.set_cons_succ]
      refine wpAnyH_take (i := 1) (v := .pointer (some ⟨(w.heap.size + 1 + 1), 0, none⟩)) rfl (by kernel_rfl) (by kernel_rfl) (by kernel_rfl) (fun _ _ _ h => h) (Or.inl ⟨by rfl, fun W hW => by obtain ⟨y0, y1, y2, y3, y4, r1, r2⟩ := hW; go_simp⟩) HS0.out ?_
      simp only [List.getElem_toArray, List.getElem_cons_succ, List.getElem_cons_zero, Act.put, List.setIfInBounds_toArray, List.set_cons_zero, List.set_cons_succ]
      refine wpAnyH_take (i := 2) (v := .pointer (some ⟨(w.heap.size + 1 + 1), 0, none⟩)) rfl (by kernel_rfl) (by kernel_rfl) (by kernel_rfl) (fun _ _ _ h => h) (Or.inl ⟨by rfl, fun W hW => by obtain ⟨y0, y1, y2, y3, y4, r1, r2⟩ := hW; go_simp⟩) HS0.out ?_
      simp only [List.getElem_toArray, List.getElem_cons_succ, List.getElem_cons_zero, Act.put, List.setIfInBounds_toArray, List.set_cons_zero, List.set_cons_succ]
      refine wpAnyH_take (i := 3) (v := .pointer (some ⟨(w.heap.size + 1 + 1), 2, none⟩)) rfl (by kernel_rfl) (by kernel_rfl) (by kernel_rfl) (fun _ _ _ h => h) (Or.inl ⟨by rfl, fun W hW => by obtain ⟨y0, y1, y2, y3, y4, r1, r2⟩ := hW; go_simp⟩) HS0.out ?_
      simp only [List.getElem_toArray, List.getElem_cons_succ, List.getElem_cons_zero, Act.put, List.setIfInBounds_toArray, List.set_cons_zero, List.set_cons_succ]
      refine wpAnyH_take (i := 4) (v := .bool false) rfl (by kernel_rfl) (by kernel_rfl) (by kernel_rfl) (fun _ _ _ h => h) (Or.inl ⟨by rfl, fun W hW => by obtain ⟨y0, y1, y2, y3, y4, r1, r2⟩ := hW; go_simp⟩) HS0.out ?_
      simp only [List.getElem_toArray, List.getElem_cons_succ, List.getElem_cons_zero, Act.put, List.setIfInBounds_toArray, List.set_cons_zero, List.set_cons_succ]
      refine wpAnyH_take (i := 5) (v := .bool true) rfl (by kernel_rfl) (by kernel_rfl) (by kernel_rfl) (fun _ _ _ h => h) (Or.inl ⟨by rfl, fun W hW => by obtain ⟨y0, y1, y2, y3, y4, r1, r2⟩ := hW; go_simp⟩) HS0.out ?_
      simp only [List.getElem_toArray, List.getElem_cons_succ, List.getElem_cons_zero, Act.put, List.setIfInBounds_toArray, List.set_cons_zero, List.set_cons_succ]
      refine wpAnyH_take (i := 6) (v := .bool true) rfl (by kernel_rfl) (by kernel_rfl) (by kernel_rfl) (fun _ _ _ h => h) (Or.inl ⟨by rfl, fun W hW => by obtain ⟨y0, y1, y2, y3, y4, r1, r2⟩ := hW; go_simp⟩) HS0.out ?_
      simp only [List.getElem_toArray, List.getElem_cons_succ, List.getElem_cons_zero, Act.put, List.setIfInBounds_toArray, List.set_cons_zero, List.set_cons_succ]
      refine wpAnyH_take (i := 7) (v := .pointer (some ⟨(w.heap.size + 1 + 1), 0, none⟩)) rfl (by kernel_rfl) (by kernel_rfl) (by kernel_rfl) (fun _ _ _ h => h) (Or.inl ⟨by rfl, fun W hW => by obtain ⟨y0, y1, y2, y3, y4, r1, r2⟩ := hW; go_simp⟩) HS0.out ?_
      simp only [List.getElem_toArray, List.getElem_cons_succ, List.getElem_cons_zero, Act.put, List.setIfInBounds_toArray, List.set_cons_zero, List.set_cons_succ]
      refine wpAnyH_take (i := 8) (v := .pointer (some ⟨(w.heap.size + 1 + 1), 0, none⟩)) rfl (by kernel_rfl) (by kernel_rfl) (by kernel_rfl) (fun _ _ _ h => h) (Or.inl ⟨by rfl, fun W hW => by obtain ⟨y0, y1, y2, y3, y4, r1, r2⟩ := hW; go_simp⟩) HS0.out ?_
      simp only [List.getElem_toArray, List.getElem_cons_succ, List.getElem_cons_zero, Act.put, List.setIfInBounds_toArray, List.set_cons_zero, List.set_cons_succ]
      refine wpAnyH_take (i := 9) (v := .pointer (some ⟨(w.heap.size + 1 + 1), 1, none⟩)) rfl (by kernel_rfl) (by kernel_rfl) (by kernel_rfl) (fun _ _ _ h => h) (Or.inl ⟨by rfl, fun W hW => by obtain ⟨y0, y1, y2, y3, y4, r1, r2⟩ := hW; go_simp⟩) HS0.out ?_
      simp only [List.getElem_toArray, List.getElem_cons_succ, List.getElem_cons_zero, Act.put, List.setIfInBounds_toArray, List.set_cons_zero, List.set_cons_succ]
      refine wpAnyH_take (i := 10) (v := .int .i64 (q : Int)) rfl (by kernel_rfl) (by kernel_rfl) (by kernel_rfl) (fun _ _ _ h => h) (Or.inl ⟨by rfl, fun W hW => by obtain ⟨y0, y1, y2, y3, y4, r1, r2⟩ := hW; go_simp⟩) HS0.out ?_
      simp only [List.getElem_toArray, List.getElem_cons_succ, List.getElem_cons_zero, Act.put, List.setIfInBounds_toArray, List.set_cons_zero, List.set_cons_succ]
      refine wpAnyH_take (i := 11) (v := .string (bs L)) rfl (by kernel_rfl) (by kernel_rfl) (by kernel_rfl) (fun _ _ _ h => h) (Or.inl ⟨by rfl, fun W hW => by obtain ⟨y0, y1, y2, y3, y4, r1, r2⟩ := hW; go_simp⟩) HS0.out ?_
      simp only [List.getElem_toArray, List.getElem_cons_succ, List.getElem_cons_zero, Act.put, List.setIfInBounds_toArray, List.set_cons_zero, List.set_cons_succ]
      refine wpAnyH_take (i := 12) (v := .int .i64 (L.length : Int)) rfl (by kernel_rfl) (by kernel_rfl) (by kernel_rfl) (fun _ _ _ h => h) (Or.inl ⟨by rfl, fun W hW => by obtain ⟨y0, y1, y2, y3, y4, r1, r2⟩ := hW; go_simp⟩) HS0.out ?_
      simp only [List.getElem_toArray, List.getElem_cons_succ, List.getElem_cons_zero, Act.put, List.setIfInBounds_toArray, List.set_cons_zero, List.set_cons_succ]
      refine wpAnyH_take (i := 13) (v := .bool false) rfl (by kernel_rfl) (by kernel_rfl) (by kernel_rfl) (fun _ _ _ h => h) (Or.inl ⟨by rfl, fun W hW => by obtain ⟨y0, y1, y2, y3, y4, r1, r2⟩ := hW; go_simp⟩) HS0.out ?_
      simp only [List.getElem_toArray, List.getElem_cons_succ, List.getElem_cons_zero, Act.put, List.setIfInBounds_toArray, List.set_cons_zero, List.set_cons_succ]
      refine wpAnyH_take (i := 14) (v := .bool false) rfl (by kernel_rfl) (by kernel_rfl) (by kernel_rfl) (fun _ _ _ h => h) (Or.inl ⟨by rfl, fun W hW => by obtain ⟨y0, y1, y2, y3, y4, r1, r2⟩ := hW; go_simp⟩) HS0.out ?_
      simp only [List.getElem_toArray, List.getElem_cons_succ, List.getElem_cons_zero, Act.put, List.setIfInBounds_toArray, List.set_cons_zero, List.set_cons_succ]
      refine wpAnyH_take (i := 15) (v := .bool false) rfl (by kernel_rfl) (by kernel_rfl) (by kernel_rfl) (fun _ _ _ h => h) (Or.inl ⟨by rfl, fun W hW => by obtain ⟨y0, y1, y2, y3, y4, r1, r2⟩ := hW; go_simp⟩) HS0.out ?_
      simp only [List.getElem_toArray, List.getElem_cons_succ, List.getElem_cons_zero, Act.put, List.setIfInBounds_toArray, List.set_cons_zero, List.set_cons_succ]
      refine wpAnyH_take (i := 16) (v := undef) rfl (by kernel_rfl) (by kernel_rfl) (by kernel_rfl) (fun _ _ _ h => h) (Or.inr ⟨by rfl, rfl⟩) HS0.out ?_
      simp only [List.getElem_toArray, List.getElem_cons_succ, List.getElem_cons_zero, Act.put, List.setIfInBounds_toArray, List.set_cons_zero, List.set_cons_succ]
      refine wpAnyH_take (i := 17) (v := undef) rfl (by kernel_rfl) (by kernel_rfl) (by kernel_rfl) (fun _ _ _ h => h) (Or.inr ⟨by rfl, rfl⟩) HS0.out ?_
      simp only [List.getElem_toArray, List.getElem_cons_succ, List.getElem_cons_zero, Act.put, List.setIfInBounds_toArray, List.set_cons_zero, List.set_cons_succ]
      refine wpAnyH_take (i := 18) (v := undef) rfl (by kernel_rfl) (by kernel_rfl) (by kernel_rfl) (fun _ _ _ h => h) (Or.inr ⟨by rfl, rfl⟩) HS0.out ?_
      simp only [List.getElem_toArray, List.getElem_cons_succ, List.getElem_cons_zero, Act.put, List.setIfInBounds_toArray, List.set_cons_zero, List.set_cons_succ]
      refine wpAnyH_take (i := 19) (v := undef) rfl (by kernel_rfl) (by kernel_rfl) (by kernel_rfl) (fun _ _ _ h => h) (Or.inr ⟨by rfl, rfl⟩) HS0.out ?_
      simp only [List.getElem_toArray, List.getElem_cons_succ, List.getElem_cons_zero, Act.put, List.setIfInBounds_toArray, List.set_cons_zero, List.set_cons_succ]
      refine wpAnyH_take (i := 20) (v := undef) rfl (by kernel_rfl) (by kernel_rfl) (by kernel_rfl) (fun _ _ _ h => h) (Or.inr ⟨by rfl, rfl⟩) HS0.out ?_
      simp only [List.getElem_toArray, List.getElem_cons_succ, List.getElem_cons_zero, Act.put, List.setIfInBounds_toArray, List.set_cons_zero, List.set_cons_succ]
      refine wpAnyH_take (i := 21) (v := .bool false) rfl (by kernel_rfl) (by kernel_rfl) (by kernel_rfl) (fun _ _ _ h => h) (Or.inl ⟨by rfl, fun W hW => by obtain ⟨y0, y1, y2, y3, y4, r1, r2⟩ := hW; go_simp⟩) HS0.out ?_
      simp only [List.getElem_toArray, List.getElem_cons_succ, List.getElem_cons_zero, Act.put, List.setIfInBounds_toArray, List.set_cons_zero, List.set_cons_succ]
      have HC : Hid (∀ b j : Nat, b ≠ w.heap.size → (W.drew.setRow w.heap.size #[.int .i64 op, .int .i64 v1, .int .i64 v2, .int .i64 0, .int .i32 F5]).cell? ⟨b, j, none⟩ = W.cell? ⟨b, j, none⟩) := fun b j hb => World.cell?_of_block (setRow_other _ _ _ _ hb)
      have HS1 : Hid ((fun W => W.cell? ⟨(w.heap.size + 1), 0, none⟩ = some (.int .i64 op) ∧ W.cell? ⟨(w.heap.size + 1), 1, none⟩ = some (.int .i64 v1) ∧ W.cell? ⟨(w.heap.size + 1), 2, none⟩ = some (.int .i64 v2) ∧ W.cell? ⟨(w.heap.size + 1), 3, none⟩ = some (.int .i64 0) ∧ W.cell? ⟨(w.heap.size + 1), 4, none⟩ = some (.int .i32 F5) ∧ W.cell? ⟨(w.heap.size + 1 + 1), 1, none⟩ = some (.int .i64 (q : Int)) ∧ W.cell? ⟨(w.heap.size + 1 + 1), 2, none⟩ = some (.bool false)) (W.drew.setRow w.heap.size #[.int .i64 op, .int .i64 v1, .int .i64 v2, .int .i64 0, .int .i32 F5])) := ⟨(HC.out _ _ (by omega)).trans y0, (HC.out _ _ (by omega)).trans y1, (HC.out _ _ (by omega)).trans y2, (HC.out _ _ (by omega)).trans y3, (HC.out _ _ (by omega)).trans y4, (HC.out _ _ (by omega)).trans r1, (HC.out _ _ (by omega)).trans r2⟩
      refine held_store_r (i := 22) (by kernel_rfl) rfl rfl 23 (.tmp 6) (.tmp 137) rfl w.heap.size #[.int .i64 op, .int .i64 v1, .int .i64 v2, .int .i64 0, .int .i32 F5] (by simp [Act.eval]) (by simp [Act.eval]) 23 #[.int .i64 0, .int .i64 0, .int .i64 0, .int .i64 0, .int .i32 0] HU1.out iIn rfl (one5 _ _ _ _ _) ?_ ?_
      · exact HS1.out
      refine wpAnyH_take (i := 23) (v := .bool false) rfl (by kernel_rfl) (by kernel_rfl) (by kernel_rfl) (fun _ _ _ h => h) (Or.inl ⟨by rfl, fun W hW => by obtain ⟨y0, y1, y2, y3, y4, r1, r2⟩ := hW; go_simp⟩) HS1.out ?_
      simp only [List.getElem_toArray, List.getElem_cons_succ, List.getElem_cons_zero, Act.put, List.setIfInBounds_toArray, List.set_cons_zero, List.set_cons_succ]
      refine wpAnyH_done (by kernel_rfl) ?_ _
      go_wp2_with fail
      refine bodyPost_ret (v := .tuple #[.agg #[.int .i64 op, .int .i64 v1, .int .i64 v2, .int .i64 0, .int .i32 F5], .bool false]) (results_ct Tryd.results53 _ _ _ _ _ (0, 0) _ _ rfl rfl (setRow_heap _ _ _ _ _ (0, 0) HU1.out) Tryd.underlying23 rfl iIn) rfl ⟨_, _, _, _, _, false, rfl, gr_row HG.out.dr1 _, ⟨hw.1, hw.2.1⟩, ⟨fun h => (by cases h), fun h => absurd (Option.some.inj ((show o5 = some (L.drop q) from HO.out).symm.trans h.1)) (drop_ne hqe)⟩, fun h => by cases h⟩
    · have hqe' : q = L.length := by omega
      subst hqe'
      by_cases hfit : -2147483648 ≤ n ∧ n < 2147483648
      · have ff : n = F5 := (hw.2.2 hfit.1 hfit.2).symm
        subst ff
        have b0 : IntKind.i64.wrap n = n := by rw [IntKind.wrap_i64]; omega
        refine wp_region_held_drew (S := fun W => W.cell? ⟨(w.heap.size + 1), 0, none⟩ = some (.int .i64 op) ∧ W.cell? ⟨(w.heap.size + 1), 1, none⟩ = some (.int .i64 v1) ∧ W.cell? ⟨(w.heap.size + 1), 2, none⟩ = some (.int .i64 v2) ∧ W.cell? ⟨(w.heap.size + 1), 3, none⟩ = some (.int .i64 0) ∧ W.cell? ⟨(w.heap.size + 1), 4, none⟩ = some (.int .i32 n) ∧ W.cell? ⟨(w.heap.size + 1 + 1), 1, none⟩ = some (.int .i64 (L.length : Int)) ∧ W.cell? ⟨(w.heap.size + 1 + 1), 2, none⟩ = some (.bool false)) (by kernel_rfl) ⟨y0, y1, y2, y3, y4, r1, r2⟩ (fun hHeld => ?_)
        have HS0 : Hid _ := hHeld
        clear hHeld
        refine wpAnyH_take (i := 0) (v := .agg #[.int .i64 op, .int .i64 v1, .int .i64 v2, .int .i64 0, .int .i32 n]) rfl (by kernel_rfl) (by kernel_rfl) (by kernel_rfl) (fun _ _ _ h => h) (Or.inl ⟨by rfl, fun W hW => by obtain ⟨y0, y1, y2, y3, y4, r1, r2⟩ := hW; go_simp⟩) HS0.out ?_
        simp only [List.getElem_toArray, List.getElem_cons_succ, List.getElem_cons_zero, Act.put, List.setIfInBounds_toArray, List.set_cons_zero, List.set_cons_succ]
        refine wpAnyH_take (i := 1) (v := .pointer (some ⟨(w.heap.size + 1 + 1), 0, none⟩)) rfl (by kernel_rfl) (by kernel_rfl) (by kernel_rfl) (fun _ _ _ h => h) (Or.inl ⟨by rfl, fun W hW => by obtain ⟨y0, y1, y2, y3, y4, r1, r2⟩ := hW; go_simp⟩) HS0.out ?_
        simp only [List.getElem_toArray, List.getElem_cons_succ, List.getElem_cons_zero, Act.put, List.setIfInBounds_toArray, List.set_cons_zero, List.set_cons_succ]
        refine wpAnyH_take (i := 2) (v := .pointer (some ⟨(w.heap.size + 1 + 1), 0, none⟩)) rfl (by kernel_rfl) (by kernel_rfl) (by kernel_rfl) (fun _ _ _ h => h) (Or.inl ⟨by rfl, fun W hW => by obtain ⟨y0, y1, y2, y3, y4, r1, r2⟩ := hW; go_simp⟩) HS0.out ?_
        simp only [List.getElem_toArray, List.getElem_cons_succ, List.getElem_cons_zero, Act.put, List.setIfInBounds_toArray, List.set_cons_zero, List.set_cons_succ]
        refine wpAnyH_take (i := 3) (v := .pointer (some ⟨(w.heap.size + 1 + 1), 2, none⟩)) rfl (by kernel_rfl) (by kernel_rfl) (by kernel_rfl) (fun _ _ _ h => h) (Or.inl ⟨by rfl, fun W hW => by obtain ⟨y0, y1, y2, y3, y4, r1, r2⟩ := hW; go_simp⟩) HS0.out ?_
        simp only [List.getElem_toArray, List.getElem_cons_succ, List.getElem_cons_zero, Act.put, List.setIfInBounds_toArray, List.set_cons_zero, List.set_cons_succ]
        refine wpAnyH_take (i := 4) (v := .bool false) rfl (by kernel_rfl) (by kernel_rfl) (by kernel_rfl) (fun _ _ _ h => h) (Or.inl ⟨by rfl, fun W hW => by obtain ⟨y0, y1, y2, y3, y4, r1, r2⟩ := hW; go_simp⟩) HS0.out ?_
        simp only [List.getElem_toArray, List.getElem_cons_succ, List.getElem_cons_zero, Act.put, List.setIfInBounds_toArray, List.set_cons_zero, List.set_cons_succ]
        refine wpAnyH_take (i := 5) (v := .bool true) rfl (by kernel_rfl) (by kernel_rfl) (by kernel_rfl) (fun _ _ _ h => h) (Or.inl ⟨by rfl, fun W hW => by obtain ⟨y0, y1, y2, y3, y4, r1, r2⟩ := hW; go_simp⟩) HS0.out ?_
        simp only [List.getElem_toArray, List.getElem_cons_succ, List.getElem_cons_zero, Act.put, List.setIfInBounds_toArray, List.set_cons_zero, List.set_cons_succ]
        refine wpAnyH_take (i := 6) (v := .bool true) rfl (by kernel_rfl) (by kernel_rfl) (by kernel_rfl) (fun _ _ _ h => h) (Or.inl ⟨by rfl, fun W hW => by obtain ⟨y0, y1, y2, y3, y4, r1, r2⟩ := hW; go_simp⟩) HS0.out ?_
        simp only [List.getElem_toArray, List.getElem_cons_succ, List.getElem_cons_zero, Act.put, List.setIfInBounds_toArray, List.set_cons_zero, List.set_cons_succ]
        refine wpAnyH_take (i := 7) (v := .pointer (some ⟨(w.heap.size + 1 + 1), 0, none⟩)) rfl (by kernel_rfl) (by kernel_rfl) (by kernel_rfl) (fun _ _ _ h => h) (Or.inl ⟨by rfl, fun W hW => by obtain ⟨y0, y1, y2, y3, y4, r1, r2⟩ := hW; go_simp⟩) HS0.out ?_
        simp only [List.getElem_toArray, List.getElem_cons_succ, List.getElem_cons_zero, Act.put, List.setIfInBounds_toArray, List.set_cons_zero, List.set_cons_succ]
        refine wpAnyH_take (i := 8) (v := .pointer (some ⟨(w.heap.size + 1 + 1), 0, none⟩)) rfl (by kernel_rfl) (by kernel_rfl) (by kernel_rfl) (fun _ _ _ h => h) (Or.inl ⟨by rfl, fun W hW => by obtain ⟨y0, y1, y2, y3, y4, r1, r2⟩ := hW; go_simp⟩) HS0.out ?_
        simp only [List.getElem_toArray, List.getElem_cons_succ, List.getElem_cons_zero, Act.put, List.setIfInBounds_toArray, List.set_cons_zero, List.set_cons_succ]
        refine wpAnyH_take (i := 9) (v := .pointer (some ⟨(w.heap.size + 1 + 1), 1, none⟩)) rfl (by kernel_rfl) (by kernel_rfl) (by kernel_rfl) (fun _ _ _ h => h) (Or.inl ⟨by rfl, fun W hW => by obtain ⟨y0, y1, y2, y3, y4, r1, r2⟩ := hW; go_simp⟩) HS0.out ?_
        simp only [List.getElem_toArray, List.getElem_cons_succ, List.getElem_cons_zero, Act.put, List.setIfInBounds_toArray, List.set_cons_zero, List.set_cons_succ]
        refine wpAnyH_take (i := 10) (v := .int .i64 (L.length : Int)) rfl (by kernel_rfl) (by kernel_rfl) (by kernel_rfl) (fun _ _ _ h => h) (Or.inl ⟨by rfl, fun W hW => by obtain ⟨y0, y1, y2, y3, y4, r1, r2⟩ := hW; go_simp⟩) HS0.out ?_
        simp only [List.getElem_toArray, List.getElem_cons_succ, List.getElem_cons_zero, Act.put, List.setIfInBounds_toArray, List.set_cons_zero, List.set_cons_succ]
        refine wpAnyH_take (i := 11) (v := .string (bs L)) rfl (by kernel_rfl) (by kernel_rfl) (by kernel_rfl) (fun _ _ _ h => h) (Or.inl ⟨by rfl, fun W hW => by obtain ⟨y0, y1, y2, y3, y4, r1, r2⟩ := hW; go_simp⟩) HS0.out ?_
        simp only [List.getElem_toArray, List.getElem_cons_succ, List.getElem_cons_zero, Act.put, List.setIfInBounds_toArray, List.set_cons_zero, List.set_cons_succ]
        refine wpAnyH_take (i := 12) (v := .int .i64 (L.length : Int)) rfl (by kernel_rfl) (by kernel_rfl) (by kernel_rfl) (fun _ _ _ h => h) (Or.inl ⟨by rfl, fun W hW => by obtain ⟨y0, y1, y2, y3, y4, r1, r2⟩ := hW; go_simp⟩) HS0.out ?_
        simp only [List.getElem_toArray, List.getElem_cons_succ, List.getElem_cons_zero, Act.put, List.setIfInBounds_toArray, List.set_cons_zero, List.set_cons_succ]
        refine wpAnyH_take (i := 13) (v := .bool true) rfl (by kernel_rfl) (by kernel_rfl) (by kernel_rfl) (fun _ _ _ h => h) (Or.inl ⟨by rfl, fun W hW => by obtain ⟨y0, y1, y2, y3, y4, r1, r2⟩ := hW; go_simp⟩) HS0.out ?_
        simp only [List.getElem_toArray, List.getElem_cons_succ, List.getElem_cons_zero, Act.put, List.setIfInBounds_toArray, List.set_cons_zero, List.set_cons_succ]
        refine wpAnyH_take (i := 14) (v := .bool true) rfl (by kernel_rfl) (by kernel_rfl) (by kernel_rfl) (fun _ _ _ h => h) (Or.inl ⟨by rfl, fun W hW => by obtain ⟨y0, y1, y2, y3, y4, r1, r2⟩ := hW; go_simp⟩) HS0.out ?_
        simp only [List.getElem_toArray, List.getElem_cons_succ, List.getElem_cons_zero, Act.put, List.setIfInBounds_toArray, List.set_cons_zero, List.set_cons_succ]
        refine wpAnyH_take (i := 15) (v := .bool true) rfl (by kernel_rfl) (by kernel_rfl) (by kernel_rfl) (fun _ _ _ h => h) (Or.inl ⟨by rfl, fun W hW => by obtain ⟨y0, y1, y2, y3, y4, r1, r2⟩ := hW; go_simp⟩) HS0.out ?_
        simp only [List.getElem_toArray, List.getElem_cons_succ, List.getElem_cons_zero, Act.put, List.setIfInBounds_toArray, List.set_cons_zero, List.set_cons_succ]
        refine wpAnyH_take (i := 16) (v := .pointer (some ⟨(w.heap.size + 1), 4, none⟩)) rfl (by kernel_rfl) (by kernel_rfl) (by kernel_rfl) (fun _ _ _ h => h) (Or.inl ⟨by rfl, fun W hW => by obtain ⟨y0, y1, y2, y3, y4, r1, r2⟩ := hW; go_simp⟩) HS0.out ?_
        simp only [List.getElem_toArray, List.getElem_cons_succ, List.getElem_cons_zero, Act.put, List.setIfInBounds_toArray, List.set_cons_zero, List.set_cons_succ]
        refine wpAnyH_take (i := 17) (v := .int .i32 n) rfl (by kernel_rfl) (by kernel_rfl) (by kernel_rfl) (fun _ _ _ h => h) (Or.inl ⟨by rfl, fun W hW => by obtain ⟨y0, y1, y2, y3, y4, r1, r2⟩ := hW; go_simp⟩) HS0.out ?_
        simp only [List.getElem_toArray, List.getElem_cons_succ, List.getElem_cons_zero, Act.put, List.setIfInBounds_toArray, List.set_cons_zero, List.set_cons_succ]
        refine wpAnyH_take (i := 18) (v := .int .i64 n) rfl (by kernel_rfl) (by kernel_rfl) (by kernel_rfl) (fun _ _ _ h => h) (Or.inl ⟨by rfl, fun W hW => by obtain ⟨y0, y1, y2, y3, y4, r1, r2⟩ := hW; go_simp⟩) HS0.out ?_
        simp only [List.getElem_toArray, List.getElem_cons_succ, List.getElem_cons_zero, Act.put, List.setIfInBounds_toArray, List.set_cons_zero, List.set_cons_succ]
        refine wpAnyH_take (i := 19) (v := .int .i64 n) rfl (by kernel_rfl) (by kernel_rfl) (by kernel_rfl) (fun _ _ _ h => h) (Or.inl ⟨by rfl, fun W hW => by obtain ⟨y0, y1, y2, y3, y4, r1, r2⟩ := hW; go_simp⟩) HS0.out ?_
        simp only [List.getElem_toArray, List.getElem_cons_succ, List.getElem_cons_zero, Act.put, List.setIfInBounds_toArray, List.set_cons_zero, List.set_cons_succ]
        refine wpAnyH_take (i := 20) (v := .bool true) rfl (by kernel_rfl) (by kernel_rfl) (by kernel_rfl) (fun _ _ _ h => h) (Or.inl ⟨by rfl, fun W hW => by obtain ⟨y0, y1, y2, y3, y4, r1, r2⟩ := hW; go_simp⟩) HS0.out ?_
        simp only [List.getElem_toArray, List.getElem_cons_succ, List.getElem_cons_zero, Act.put, List.setIfInBounds_toArray, List.set_cons_zero, List.set_cons_succ]
        refine wpAnyH_take (i := 21) (v := .bool true) rfl (by kernel_rfl) (by kernel_rfl) (by kernel_rfl) (fun _ _ _ h => h) (Or.inl ⟨by rfl, fun W hW => by obtain ⟨y0, y1, y2, y3, y4, r1, r2⟩ := hW; go_simp⟩) HS0.out ?_
        simp only [List.getElem_toArray, List.getElem_cons_succ, List.getElem_cons_zero, Act.put, List.setIfInBounds_toArray, List.set_cons_zero, List.set_cons_succ]
        have HC : Hid (∀ b j : Nat, b ≠ w.heap.size → (W.drew.setRow w.heap.size #[.int .i64 op, .int .i64 v1, .int .i64 v2, .int .i64 0, .int .i32 n]).cell? ⟨b, j, none⟩ = W.cell? ⟨b, j, none⟩) := fun b j hb => World.cell?_of_block (setRow_other _ _ _ _ hb)
        have HS1 : Hid ((fun W => W.cell? ⟨(w.heap.size + 1), 0, none⟩ = some (.int .i64 op) ∧ W.cell? ⟨(w.heap.size + 1), 1, none⟩ = some (.int .i64 v1) ∧ W.cell? ⟨(w.heap.size + 1), 2, none⟩ = some (.int .i64 v2) ∧ W.cell? ⟨(w.heap.size + 1), 3, none⟩ = some (.int .i64 0) ∧ W.cell? ⟨(w.heap.size + 1), 4, none⟩ = some (.int .i32 n) ∧ W.cell? ⟨(w.heap.size + 1 + 1), 1, none⟩ = some (.int .i64 (L.length : Int)) ∧ W.cell? ⟨(w.heap.size + 1 + 1), 2, none⟩ = some (.bool false)) (W.drew.setRow w.heap.size #[.int .i64 op, .int .i64 v1, .int .i64 v2, .int .i64 0, .int .i32 n])) := ⟨(HC.out _ _ (by omega)).trans y0, (HC.out _ _ (by omega)).trans y1, (HC.out _ _ (by omega)).trans y2, (HC.out _ _ (by omega)).trans y3, (HC.out _ _ (by omega)).trans y4, (HC.out _ _ (by omega)).trans r1, (HC.out _ _ (by omega)).trans r2⟩
        refine held_store_r (i := 22) (by kernel_rfl) rfl rfl 23 (.tmp 6) (.tmp 137) rfl w.heap.size #[.int .i64 op, .int .i64 v1, .int .i64 v2, .int .i64 0, .int .i32 n] (by simp [Act.eval]) (by simp [Act.eval]) 23 #[.int .i64 0, .int .i64 0, .int .i64 0, .int .i64 0, .int .i32 0] HU1.out iIn rfl (one5 _ _ _ _ _) ?_ ?_
        · exact HS1.out
        refine wpAnyH_take (i := 23) (v := .bool true) rfl (by kernel_rfl) (by kernel_rfl) (by kernel_rfl) (fun _ _ _ h => h) (Or.inl ⟨by rfl, fun W hW => by obtain ⟨y0, y1, y2, y3, y4, r1, r2⟩ := hW; go_simp⟩) HS1.out ?_
        simp only [List.getElem_toArray, List.getElem_cons_succ, List.getElem_cons_zero, Act.put, List.setIfInBounds_toArray, List.set_cons_zero, List.set_cons_succ]
        refine wpAnyH_done (by kernel_rfl) ?_ _
        go_wp2_with fail
        refine bodyPost_ret (v := .tuple #[.agg #[.int .i64 op, .int .i64 v1, .int .i64 v2, .int .i64 0, .int .i32 n], .bool true]) (results_ct Tryd.results53 _ _ _ _ _ (0, 0) _ _ rfl rfl (setRow_heap _ _ _ _ _ (0, 0) HU1.out) Tryd.underlying23 rfl iIn) rfl ⟨_, _, _, _, _, true, rfl, gr_row HG.out.dr1 _, hfit, ⟨fun _ => ⟨(show o5 = some (L.drop L.length) from HO.out).trans (by rw [List.drop_length]), hfit.1, hfit.2⟩, fun _ => rfl⟩, fun _ => rfl⟩
      · have ff : ((F5 : Int) == n) = false := by simp; omega
        have b0 : IntKind.i64.wrap F5 = F5 := by rw [IntKind.wrap_i64]; omega
        refine wp_region_held_drew (S := fun W => W.cell? ⟨(w.heap.size + 1), 0, none⟩ = some (.int .i64 op) ∧ W.cell? ⟨(w.heap.size + 1), 1, none⟩ = some (.int .i64 v1) ∧ W.cell? ⟨(w.heap.size + 1), 2, none⟩ = some (.int .i64 v2) ∧ W.cell? ⟨(w.heap.size + 1), 3, none⟩ = some (.int .i64 0) ∧ W.cell? ⟨(w.heap.size + 1), 4, none⟩ = some (.int .i32 F5) ∧ W.cell? ⟨(w.heap.size + 1 + 1), 1, none⟩ = some (.int .i64 (L.length : Int)) ∧ W.cell? ⟨(w.heap.size + 1 + 1), 2, none⟩ = some (.bool false)) (by kernel_rfl) ⟨y0, y1, y2, y3, y4, r1, r2⟩ (fun hHeld => ?_)
        have HS0 : Hid _ := hHeld
        clear hHeld
        refine wpAnyH_take (i := 0) (v := .agg #[.int .i64 op, .int .i64 v1, .int .i64 v2, .int .i64 0, .int .i32 F5]) rfl (by kernel_rfl) (by kernel_rfl) (by kernel_rfl) (fun _ _ _ h => h) (Or.inl ⟨by rfl, fun W hW => by obtain ⟨y0, y1, y2, y3, y4, r1, r2⟩ := hW; go_simp⟩) HS0.out ?_
        simp only [List.getElem_toArray, List.getElem_cons_succ, List.getElem_cons_zero, Act.put, List.setIfInBounds_toArray, List.set_cons_zero, List.set_cons_succ]
        refine wpAnyH_take (i := 1) (v := .pointer (some ⟨(w.heap.size + 1 + 1), 0, none⟩)) rfl (by kernel_rfl) (by kernel_rfl) (by kernel_rfl) (fun _ _ _ h => h) (Or.inl ⟨by rfl, fun W hW => by obtain ⟨y0, y1, y2, y3, y4, r1, r2⟩ := hW; go_simp⟩) HS0.out ?_
        simp only [List.getElem_toArray, List.getElem_cons_succ, List.getElem_cons_zero, Act.put, List.setIfInBounds_toArray, List.set_cons_zero, List.set_cons_succ]
        refine wpAnyH_take (i := 2) (v := .pointer (some ⟨(w.heap.size + 1 + 1), 0, none⟩)) rfl (by kernel_rfl) (by kernel_rfl) (by kernel_rfl) (fun _ _ _ h => h) (Or.inl ⟨by rfl, fun W hW => by obtain ⟨y0, y1, y2, y3, y4, r1, r2⟩ := hW; go_simp⟩) HS0.out ?_
        simp only [List.getElem_toArray, List.getElem_cons_succ, List.getElem_cons_zero, Act.put, List.setIfInBounds_toArray, List.set_cons_zero, List.set_cons_succ]
        refine wpAnyH_take (i := 3) (v := .pointer (some ⟨(w.heap.size + 1 + 1), 2, none⟩)) rfl (by kernel_rfl) (by kernel_rfl) (by kernel_rfl) (fun _ _ _ h => h) (Or.inl ⟨by rfl, fun W hW => by obtain ⟨y0, y1, y2, y3, y4, r1, r2⟩ := hW; go_simp⟩) HS0.out ?_
        simp only [List.getElem_toArray, List.getElem_cons_succ, List.getElem_cons_zero, Act.put, List.setIfInBounds_toArray, List.set_cons_zero, List.set_cons_succ]
        refine wpAnyH_take (i := 4) (v := .bool false) rfl (by kernel_rfl) (by kernel_rfl) (by kernel_rfl) (fun _ _ _ h => h) (Or.inl ⟨by rfl, fun W hW => by obtain ⟨y0, y1, y2, y3, y4, r1, r2⟩ := hW; go_simp⟩) HS0.out ?_
        simp only [List.getElem_toArray, List.getElem_cons_succ, List.getElem_cons_zero, Act.put, List.setIfInBounds_toArray, List.set_cons_zero, List.set_cons_succ]
        refine wpAnyH_take (i := 5) (v := .bool true) rfl (by kernel_rfl) (by kernel_rfl) (by kernel_rfl) (fun _ _ _ h => h) (Or.inl ⟨by rfl, fun W hW => by obtain ⟨y0, y1, y2, y3, y4, r1, r2⟩ := hW; go_simp⟩) HS0.out ?_
        simp only [List.getElem_toArray, List.getElem_cons_succ, List.getElem_cons_zero, Act.put, List.setIfInBounds_toArray, List.set_cons_zero, List.set_cons_succ]
        refine wpAnyH_take (i := 6) (v := .bool true) rfl (by kernel_rfl) (by kernel_rfl) (by kernel_rfl) (fun _ _ _ h => h) (Or.inl ⟨by rfl, fun W hW => by obtain ⟨y0, y1, y2, y3, y4, r1, r2⟩ := hW; go_simp⟩) HS0.out ?_
        simp only [List.getElem_toArray, List.getElem_cons_succ, List.getElem_cons_zero, Act.put, List.setIfInBounds_toArray, List.set_cons_zero, List.set_cons_succ]
        refine wpAnyH_take (i := 7) (v := .pointer (some ⟨(w.heap.size + 1 + 1), 0, none⟩)) rfl (by kernel_rfl) (by kernel_rfl) (by kernel_rfl) (fun _ _ _ h => h) (Or.inl ⟨by rfl, fun W hW => by obtain ⟨y0, y1, y2, y3, y4, r1, r2⟩ := hW; go_simp⟩) HS0.out ?_
        simp only [List.getElem_toArray, List.getElem_cons_succ, List.getElem_cons_zero, Act.put, List.setIfInBounds_toArray, List.set_cons_zero, List.set_cons_succ]
        refine wpAnyH_take (i := 8) (v := .pointer (some ⟨(w.heap.size + 1 + 1), 0, none⟩)) rfl (by kernel_rfl) (by kernel_rfl) (by kernel_rfl) (fun _ _ _ h => h) (Or.inl ⟨by rfl, fun W hW => by obtain ⟨y0, y1, y2, y3, y4, r1, r2⟩ := hW; go_simp⟩) HS0.out ?_
        simp only [List.getElem_toArray, List.getElem_cons_succ, List.getElem_cons_zero, Act.put, List.setIfInBounds_toArray, List.set_cons_zero, List.set_cons_succ]
        refine wpAnyH_take (i := 9) (v := .pointer (some ⟨(w.heap.size + 1 + 1), 1, none⟩)) rfl (by kernel_rfl) (by kernel_rfl) (by kernel_rfl) (fun _ _ _ h => h) (Or.inl ⟨by rfl, fun W hW => by obtain ⟨y0, y1, y2, y3, y4, r1, r2⟩ := hW; go_simp⟩) HS0.out ?_
        simp only [List.getElem_toArray, List.getElem_cons_succ, List.getElem_cons_zero, Act.put, List.setIfInBounds_toArray, List.set_cons_zero, List.set_cons_succ]
        refine wpAnyH_take (i := 10) (v := .int .i64 (L.length : Int)) rfl (by kernel_rfl) (by kernel_rfl) (by kernel_rfl) (fun _ _ _ h => h) (Or.inl ⟨by rfl, fun W hW => by obtain ⟨y0, y1, y2, y3, y4, r1, r2⟩ := hW; go_simp⟩) HS0.out ?_
        simp only [List.getElem_toArray, List.getElem_cons_succ, List.getElem_cons_zero, Act.put, List.setIfInBounds_toArray, List.set_cons_zero, List.set_cons_succ]
        refine wpAnyH_take (i := 11) (v := .string (bs L)) rfl (by kernel_rfl) (by kernel_rfl) (by kernel_rfl) (fun _ _ _ h => h) (Or.inl ⟨by rfl, fun W hW => by obtain ⟨y0, y1, y2, y3, y4, r1, r2⟩ := hW; go_simp⟩) HS0.out ?_
        simp only [List.getElem_toArray, List.getElem_cons_succ, List.getElem_cons_zero, Act.put, List.setIfInBounds_toArray, List.set_cons_zero, List.set_cons_succ]
        refine wpAnyH_take (i := 12) (v := .int .i64 (L.length : Int)) rfl (by kernel_rfl) (by kernel_rfl) (by kernel_rfl) (fun _ _ _ h => h) (Or.inl ⟨by rfl, fun W hW => by obtain ⟨y0, y1, y2, y3, y4, r1, r2⟩ := hW; go_simp⟩) HS0.out ?_
        simp only [List.getElem_toArray, List.getElem_cons_succ, List.getElem_cons_zero, Act.put, List.setIfInBounds_toArray, List.set_cons_zero, List.set_cons_succ]
        refine wpAnyH_take (i := 13) (v := .bool true) rfl (by kernel_rfl) (by kernel_rfl) (by kernel_rfl) (fun _ _ _ h => h) (Or.inl ⟨by rfl, fun W hW => by obtain ⟨y0, y1, y2, y3, y4, r1, r2⟩ := hW; go_simp⟩) HS0.out ?_
        simp only [List.getElem_toArray, List.getElem_cons_succ, List.getElem_cons_zero, Act.put, List.setIfInBounds_toArray, List.set_cons_zero, List.set_cons_succ]
        refine wpAnyH_take (i := 14) (v := .bool true) rfl (by kernel_rfl) (by kernel_rfl) (by kernel_rfl) (fun _ _ _ h => h) (Or.inl ⟨by rfl, fun W hW => by obtain ⟨y0, y1, y2, y3, y4, r1, r2⟩ := hW; go_simp⟩) HS0.out ?_
        simp only [List.getElem_toArray, List.getElem_cons_succ, List.getElem_cons_zero, Act.put, List.setIfInBounds_toArray, List.set_cons_zero, List.set_cons_succ]
        refine wpAnyH_take (i := 15) (v := .bool true) rfl (by kernel_rfl) (by kernel_rfl) (by kernel_rfl) (fun _ _ _ h => h) (Or.inl ⟨by rfl, fun W hW => by obtain ⟨y0, y1, y2, y3, y4, r1, r2⟩ := hW; go_simp⟩) HS0.out ?_
        simp only [List.getElem_toArray, List.getElem_cons_succ, List.getElem_cons_zero, Act.put, List.setIfInBounds_toArray, List.set_cons_zero, List.set_cons_succ]
        refine wpAnyH_take (i := 16) (v := .pointer (some ⟨(w.heap.size + 1), 4, none⟩)) rfl (by kernel_rfl) (by kernel_rfl) (by kernel_rfl) (fun _ _ _ h => h) (Or.inl ⟨by rfl, fun W hW => by obtain ⟨y0, y1, y2, y3, y4, r1, r2⟩ := hW; go_simp⟩) HS0.out ?_
        simp only [List.getElem_toArray, List.getElem_cons_succ, List.getElem_cons_zero, Act.put, List.setIfInBounds_toArray, List.set_cons_zero, List.set_cons_succ]
        refine wpAnyH_take (i := 17) (v := .int .i32 F5) rfl (by kernel_rfl) (by kernel_rfl) (by kernel_rfl) (fun _ _ _ h => h) (Or.inl ⟨by rfl, fun W hW => by obtain ⟨y0, y1, y2, y3, y4, r1, r2⟩ := hW; go_simp⟩) HS0.out ?_
        simp only [List.getElem_toArray, List.getElem_cons_succ, List.getElem_cons_zero, Act.put, List.setIfInBounds_toArray, List.set_cons_zero, List.set_cons_succ]
        refine wpAnyH_take (i := 18) (v := .int .i64 F5) rfl (by kernel_rfl) (by kernel_rfl) (by kernel_rfl) (fun _ _ _ h => h) (Or.inl ⟨by rfl, fun W hW => by obtain ⟨y0, y1, y2, y3, y4, r1, r2⟩ := hW; go_simp⟩) HS0.out ?_
        simp only [List.getElem_toArray, List.getElem_cons_succ, List.getElem_cons_zero, Act.put, List.setIfInBounds_toArray, List.set_cons_zero, List.set_cons_succ]
        refine wpAnyH_take (i := 19) (v := .int .i64 n) rfl (by kernel_rfl) (by kernel_rfl) (by kernel_rfl) (fun _ _ _ h => h) (Or.inl ⟨by rfl, fun W hW => by obtain ⟨y0, y1, y2, y3, y4, r1, r2⟩ := hW; go_simp⟩) HS0.out ?_
        simp only [List.getElem_toArray, List.getElem_cons_succ, List.getElem_cons_zero, Act.put, List.setIfInBounds_toArray, List.set_cons_zero, List.set_cons_succ]
        refine wpAnyH_take (i := 20) (v := .bool false) rfl (by kernel_rfl) (by kernel_rfl) (by kernel_rfl) (fun _ _ _ h => h) (Or.inl ⟨by rfl, fun W hW => by obtain ⟨y0, y1, y2, y3, y4, r1, r2⟩ := hW; go_simp⟩) HS0.out ?_
        simp only [List.getElem_toArray, List.getElem_cons_succ, List.getElem_cons_zero, Act.put, List.setIfInBounds_toArray, List.set_cons_zero, List.set_cons_succ]
        refine wpAnyH_take (i := 21) (v := .bool false) rfl (by kernel_rfl) (by kernel_rfl) (by kernel_rfl) (fun _ _ _ h => h) (Or.inl ⟨by rfl, fun W hW => by obtain ⟨y0, y1, y2, y3, y4, r1, r2⟩ := hW; go_simp⟩) HS0.out ?_
        simp only [List.getElem_toArray, List.getElem_cons_succ, List.getElem_cons_zero, Act.put, List.setIfInBounds_toArray, List.set_cons_zero, List.set_cons_succ]
        have HC : Hid (∀ b j : Nat, b ≠ w.heap.size → (W.drew.setRow w.heap.size #[.int .i64 op, .int .i64 v1, .int .i64 v2, .int .i64 0, .int .i32 F5]).cell? ⟨b, j, none⟩ = W.cell? ⟨b, j, none⟩) := fun b j hb => World.cell?_of_block (setRow_other _ _ _ _ hb)
        have HS1 : Hid ((fun W => W.cell? ⟨(w.heap.size + 1), 0, none⟩ = some (.int .i64 op) ∧ W.cell? ⟨(w.heap.size + 1), 1, none⟩ = some (.int .i64 v1) ∧ W.cell? ⟨(w.heap.size + 1), 2, none⟩ = some (.int .i64 v2) ∧ W.cell? ⟨(w.heap.size + 1), 3, none⟩ = some (.int .i64 0) ∧ W.cell? ⟨(w.heap.size + 1), 4, none⟩ = some (.int .i32 F5) ∧ W.cell? ⟨(w.heap.size + 1 + 1), 1, none⟩ = some (.int .i64 (L.length : Int)) ∧ W.cell? ⟨(w.heap.size + 1 + 1), 2, none⟩ = some (.bool false)) (W.drew.setRow w.heap.size #[.int .i64 op, .int .i64 v1, .int .i64 v2, .int .i64 0, .int .i32 F5])) := ⟨(HC.out _ _ (by omega)).trans y0, (HC.out _ _ (by omega)).trans y1, (HC.out _ _ (by omega)).trans y2, (HC.out _ _ (by omega)).trans y3, (HC.out _ _ (by omega)).trans y4, (HC.out _ _ (by omega)).trans r1, (HC.out _ _ (by omega)).trans r2⟩
        refine held_store_r (i := 22) (by kernel_rfl) rfl rfl 23 (.tmp 6) (.tmp 137) rfl w.heap.size #[.int .i64 op, .int .i64 v1, .int .i64 v2, .int .i64 0, .int .i32 F5] (by simp [Act.eval]) (by simp [Act.eval]) 23 #[.int .i64 0, .int .i64 0, .int .i64 0, .int .i64 0, .int .i32 0] HU1.out iIn rfl (one5 _ _ _ _ _) ?_ ?_
        · exact HS1.out
        refine wpAnyH_take (i := 23) (v := .bool false) rfl (by kernel_rfl) (by kernel_rfl) (by kernel_rfl) (fun _ _ _ h => h) (Or.inl ⟨by rfl, fun W hW => by obtain ⟨y0, y1, y2, y3, y4, r1, r2⟩ := hW; go_simp⟩) HS1.out ?_
        simp only [List.getElem_toArray, List.getElem_cons_succ, List.getElem_cons_zero, Act.put, List.setIfInBounds_toArray, List.set_cons_zero, List.set_cons_succ]
        refine wpAnyH_done (by kernel_rfl) ?_ _
        go_wp2_with fail
        refine bodyPost_ret (v := .tuple #[.agg #[.int .i64 op, .int .i64 v1, .int .i64 v2, .int .i64 0, .int .i32 F5], .bool false]) (results_ct Tryd.results53 _ _ _ _ _ (0, 0) _ _ rfl rfl (setRow_heap _ _ _ _ _ (0, 0) HU1.out) Tryd.underlying23 rfl iIn) rfl ⟨_, _, _, _, _, false, rfl, gr_row HG.out.dr1 _, ⟨hw.1, hw.2.1⟩, ⟨fun h => (by cases h), fun h => absurd h.2 hfit⟩, fun h => by cases h⟩
set_option maxHeartbeats 8000000 in
set_option maxRecDepth 1000000 in
theorem read_k5 {op m v1 v2 n : Int} {L : List Nat} {o0 o1 o2 o3 o4 o5 : Option (List Nat)} (hl : L.length ≤ 140737488355328) (p1 : 16 ≤ op) (p2 : op ≤ 18) (m0 : 0 ≤ m) (m3 : m ≤ 3) (n0 : -10000000000 < n) (n1 : n < 10000000000) (ho : o0 = some L) (H1 : EatC (w.heap.size + 1 + 1) L 32 o0 o1) (H2 : RegC (w.heap.size + 1 + 1) L o1 v1 o2) (H3 : EatC (w.heap.size + 1 + 1) L 44 o2 o3) (H4 : NumC (w.heap.size + 1 + 1) L o3 n o4) (H5 : PlcC (w.heap.size + 1 + 1) L o4 v2 o5) :
    Calls Tryd.prog 53 #[.int .i64 op, .int .i32 m, .string (bs L)] w (RdE w o5 op 0 v2 v1 n) := by
  have I1 : Hid _ := H1
  have I2 : Hid _ := H2
  have I3 : Hid _ := H3
  have I4 : Hid _ := H4
  have I5 : Hid _ := H5
  have e58 : (op == 58) = false := by simp; omega
  have e59 : (op == 59) = false := by simp; omega
  have l3 : ¬ op ≤ 3 := by omega
  have e4 : (op == 4) = false := by simp; omega
  have g19 : ¬ 19 ≤ op := by omega
  have l27 : op ≤ 27 := by omega
  have e57 : (op == 57) = false := by simp; omega
  have l10 : ¬ op ≤ 10 := by omega
  have l15 : ¬ op ≤ 15 := by omega
  have l18 : op ≤ 18 := by omega
  have l45 : op ≤ 45 := by omega
  have e46 : (op == 46) = false := by simp; omega
  have l2 : ¬ op ≤ 2 := by omega
  have hz : ((bs L).size : Int) = (L.length : Int) := by rw [bs_size]
  have HX0 : Hid (∀ W : World, W.heap[w.heap.size + 1 + 1]? = some (.cells #[.string (bs L), .int .i64 0, .bool false] 157 (0, 0)) → Rx W (w.heap.size + 1 + 1) L o0) := fun W h => ⟨0, false, h, Nat.zero_le _, by rw [ho]; rfl⟩
  clear H1 H2 H3 H4 H5 ho p1 p2
  go_enter Tryd.func53, Tryd.ntmps53
  go_wp2_with fail
  have HW0 : Hid (Rw w L o0 op 0 0 0 0 (((w.alloc (.cells #[.int .i64 0, .int .i64 0, .int .i64 0, .int .i64 0, .int .i32 0] 23)).alloc (.cells #[.int .i64 op, .int .i64 0, .int .i64 0, .int .i64 0, .int .i32 0] 23)).alloc (.cells #[.string (bs L), .int .i64 0, .bool false] 157))) := by
    refine ⟨(((Gr.refl w).alloc _).alloc _).alloc _, ?_, ?_, HX0.out _ ?_⟩
    · rw [heap_alloc_old _ _ (by simp; omega), heap_alloc_old _ _ (by simp)]
      exact heap_alloc_new w _
    · rw [heap_alloc_old _ _ (by simp)]
      exact al2' _ _ _
    · have := heap_alloc_new ((w.alloc (.cells #[.int .i64 0, .int .i64 0, .int .i64 0, .int .i64 0, .int .i32 0] 23)).alloc (.cells #[.int .i64 op, .int .i64 0, .int .i64 0, .int .i64 0, .int .i32 0] 23)) (.cells #[.string (bs L), .int .i64 0, .bool false] 157)
      simpa using this
  refine (I1.out _ HW0.out.x).mono ?_
  rintro e W1 ⟨rfl, X1, k1⟩
  have HW1 : Hid (Rw w L o1 op 0 0 0 0 W1) := HW0.out.call X1 k1
  clear X1 k1
  have y0 := cr0 HW1.out.i
  have y1 := cr1 HW1.out.i
  have y2 := cr2 HW1.out.i
  have y3 := cr3 HW1.out.i
  have y4 := cr4 HW1.out.i
  have yf : ∀ j, W1.frozen? ⟨w.heap.size + 1, j, none⟩ = false := fun j => fzr HW1.out.i
  go_wp2_with fail
  refine (I2.out _ HW1.out.x).mono ?_
  rintro e W2 ⟨rfl, X2, k2⟩
  have HW2 : Hid (Rw w L o2 op 0 0 0 0 W2) := HW1.out.call X2 k2
  clear X2 k2
  have y0 := cr0 HW2.out.i
  have y1 := cr1 HW2.out.i
  have y2 := cr2 HW2.out.i
  have y3 := cr3 HW2.out.i
  have y4 := cr4 HW2.out.i
  have yf : ∀ j, W2.frozen? ⟨w.heap.size + 1, j, none⟩ = false := fun j => fzr HW2.out.i
  go_wp2_with fail
  refine (I3.out _ HW2.out.x).mono ?_
  rintro e W3 ⟨rfl, X3, k3⟩
  have HW3 : Hid (Rw w L o3 op 0 0 0 0 W3) := HW2.out.call X3 k3
  clear X3 k3
  have y0 := cr0 HW3.out.i
  have y1 := cr1 HW3.out.i
  have y2 := cr2 HW3.out.i
  have y3 := cr3 HW3.out.i
  have y4 := cr4 HW3.out.i
  have yf : ∀ j, W3.frozen? ⟨w.heap.size + 1, j, none⟩ = false := fun j => fzr HW3.out.i
  have HS33 : Hid _ := HW3.out.set 3 (.int .i64 v1) rfl
  go_wp2_with fail
  refine (I4.out _ HS33.out.x).mono ?_
  rintro e W4 ⟨rfl, X4, k4⟩
  have HW4 : Hid (Rw w L o4 op 0 0 v1 0 W4) := HS33.out.call X4 k4
  clear X4 k4
  have y0 := cr0 HW4.out.i
  have y1 := cr1 HW4.out.i
  have y2 := cr2 HW4.out.i
  have y3 := cr3 HW4.out.i
  have y4 := cr4 HW4.out.i
  have yf : ∀ j, W4.frozen? ⟨w.heap.size + 1, j, none⟩ = false := fun j => fzr HW4.out.i
  go_wp2_with fail
  refine (I5.out _ HW4.out.x).mono ?_
  rintro e W5 ⟨rfl, X5, k5⟩
  have HW5 : Hid (Rw w L o5 op 0 0 v1 0 W5) := HW4.out.call X5 k5
  clear X5 k5
  have y0 := cr0 HW5.out.i
  have y1 := cr1 HW5.out.i
  have y2 := cr2 HW5.out.i
  have y3 := cr3 HW5.out.i
  have y4 := cr4 HW5.out.i
  have yf : ∀ j, W5.frozen? ⟨w.heap.size + 1, j, none⟩ = false := fun j => fzr HW5.out.i
  have HS52 : Hid _ := HW5.out.set 2 (.int .i64 v2) rfl
  go_wp2_with fail
  refine atWz (fun W => Rw w L o5 op 0 v2 v1 (wrap32 n) W) (HS52.out.set 4 _ rfl) (fun W HWz => ?_)
  obtain ⟨q, bad, hx, hq, ho⟩ := HWz.x.ex
  have HZ : Hid (Rw w L o5 op 0 v2 v1 (wrap32 n) W) := HWz
  have HO : Hid (o5 = if bad = true then none else some (L.drop q)) := ho
  have r0 := cr0 hx
  have r1 := cr1 hx
  have r2 := cr2 hx
  have y0 := cr0 HWz.i
  have y1 := cr1 HWz.i
  have y2 := cr2 HWz.i
  have y3 := cr3 HWz.i
  have y4 := cr4 HWz.i
  have t0 := cr0 HWz.r
  have t1 := cr1 HWz.r
  have t2 := cr2 HWz.r
  have t3 := cr3 HWz.r
  have t4 := cr4 HWz.r
  have tf : ∀ j, W.frozen? ⟨w.heap.size, j, none⟩ = false := fun j => fzr HWz.r
  have hw := wrap_in32 n
  have HU1 : Hid (W.heap[w.heap.size]? = some (.cells #[.int .i64 0, .int .i64 0, .int .i64 0, .int .i64 0, .int .i32 0] 23 (0, 0))) := HWz.r
  have HG : Hid (Gr w W) := HWz.g
  clear hx ho HWz HZ HW0 HW1 HW2 HW3 HW4 HW5 t0 t1 t2 t3 t4 tf r0
  generalize wrap32 n = F5 at *
  cases bad with
  | true =>
    refine wp_region_held_drew (S := fun W => W.cell? ⟨(w.heap.size + 1), 0, none⟩ = some (.int .i64 op) ∧ W.cell? ⟨(w.heap.size + 1), 1, none⟩ = some (.int .i64 0) ∧ W.cell? ⟨(w.heap.size + 1), 2, none⟩ = some (.int .i64 v2) ∧ W.cell? ⟨(w.heap.size + 1), 3, none⟩ = some (.int .i64 v1) ∧ W.cell? ⟨(w.heap.size + 1), 4, none⟩ = some (.int .i32 F5) ∧ W.cell? ⟨(w.heap.size + 1 + 1), 1, none⟩ = some (.int .i64 (q : Int)) ∧ W.cell? ⟨(w.heap.size + 1 + 1), 2, none⟩ = some (.bool true)) (by kernel_rfl) ⟨y0, y1, y2, y3, y4, r1, r2⟩ (fun hHeld => ?_)
    have HS0 : Hid _ := hHeld
    clear hHeld
    refine wpAnyH_take (i := 0) (v := .agg #[.int .i64 op, .int .i64 0, .int .i64 v2, .int .i64 v1, .int .i32 F5]) rfl (by kernel_rfl) (by kernel_rfl) (by kernel_rfl) (fun _ _ _ h => h) (Or.inl ⟨by rfl, fun W hW => by obtain ⟨y0, y1, y2, y3, y4, r1, r2⟩ := hW; go_simp⟩) HS0.out ?_
    simp only [List.getElem_toArray, List.getElem_cons_succ, List.getElem_cons_zero, Act.put, List.setIfInBounds_toArray, List.set_cons_zero, List.set_cons_succ]
    refine wpAnyH_take (i := 1) (v := .pointer (some ⟨(w.heap.size + 1 + 1), 0, none⟩)) rfl (by kernel_rfl) (by kernel_rfl) (by kernel_rfl) (fun _ _ _ h => h) (Or.inl ⟨by rfl, fun W hW => by obtain ⟨y0, y1, y2, y3, y4, r1, r2⟩ := hW; go_simp⟩) HS0.out ?_
    simp only [List.getElem_toArray, List.getElem_cons_succ, List.getElem_cons_zero, Act.put, List.setIfInBounds_toArray, List.set_cons_zero, List.set_cons_succ]
    refine wpAnyH_take (i := 2) (v := .pointer (some ⟨(w.heap.size + 1 + 1), 0, none⟩)) rfl (by kernel_rfl) (by kernel_rfl) (by kernel_rfl) (fun _ _ _ h => h) (Or.inl ⟨by rfl, fun W hW => by obtain ⟨y0, y1, y2, y3, y4, r1, r2⟩ := hW; go_simp⟩) HS0.out ?_
    simp only [List.getElem_toArray, List.getElem_cons_succ, List.getElem_cons_zero, Act.put, List.setIfInBounds_toArray, List.set_cons_zero, List.set_cons_succ]
    refine wpAnyH_take (i := 3) (v := .pointer (some ⟨(w.heap.size + 1 + 1), 2, none⟩)) rfl (by kernel_rfl) (by kernel_rfl) (by kernel_rfl) (fun _ _ _ h => h) (Or.inl ⟨by rfl, fun W hW => by obtain ⟨y0, y1, y2, y3, y4, r1, r2⟩ := hW; go_simp⟩) HS0.out ?_
    simp only [List.getElem_toArray, List.getElem_cons_succ, List.getElem_cons_zero, Act.put, List.setIfInBounds_toArray, List.set_cons_zero, List.set_cons_succ]
    refine wpAnyH_take (i := 4) (v := .bool true) rfl (by kernel_rfl) (by kernel_rfl) (by kernel_rfl) (fun _ _ _ h => h) (Or.inl ⟨by rfl, fun W hW => by obtain ⟨y0, y1, y2, y3, y4, r1, r2⟩ := hW; go_simp⟩) HS0.out ?_
    simp only [List.getElem_toArray, List.getElem_cons_succ, List.getElem_cons_zero, Act.put, List.setIfInBounds_toArray, List.set_cons_zero, List.set_cons_succ]
    refine wpAnyH_take (i := 5) (v := .bool false) rfl (by kernel_rfl) (by kernel_rfl) (by kernel_rfl) (fun _ _ _ h => h) (Or.inl ⟨by rfl, fun W hW => by obtain ⟨y0, y1, y2, y3, y4, r1, r2⟩ := hW; go_simp⟩) HS0.out ?_
    simp only [List.getElem_toArray, List.getElem_cons_succ, List.getElem_cons_zero, Act.put, List.setIfInBounds_toArray, List.set_cons_zero, List.set_cons_succ]
    refine wpAnyH_take (i := 6) (v := .bool false) rfl (by kernel_rfl) (by kernel_rfl) (by kernel_rfl) (fun _ _ _ h => h) (Or.inl ⟨by rfl, fun W hW => by obtain ⟨y0, y1, y2, y3, y4, r1, r2⟩ := hW; go_simp⟩) HS0.out ?_
    simp only [List.getElem_toArray, List.getElem_cons_succ, List.getElem_cons_zero, Act.put, List.setIfInBounds_toArray, List.set_cons_zero, List.set_cons_succ]
    refine wpAnyH_take (i := 7) (v := undef) rfl (by kernel_rfl) (by kernel_rfl) (by kernel_rfl) (fun _ _ _ h => h) (Or.inr ⟨by rfl, rfl⟩) HS0.out ?_
    simp only [List.getElem_toArray, List.getElem_cons_succ, List.getElem_cons_zero, Act.put, List.setIfInBounds_toArray, List.set_cons_zero, List.set_cons_succ]
    refine wpAnyH_take (i := 8) (v := undef) rfl (by kernel_rfl) (by kernel_rfl) (by kernel_rfl) (fun _ _ _ h => h) (Or.inr ⟨by rfl, rfl⟩) HS0.out ?_
    simp only [List.getElem_toArray, List.getElem_cons_succ, List.getElem_cons_zero, Act.put, List.setIfInBounds_toArray, List.set_cons_zero, List.set_cons_succ]
    refine wpAnyH_take (i := 9) (v := undef) rfl (by kernel_rfl) (by kernel_rfl) (by kernel_rfl) (fun _ _ _ h => h) (Or.inr ⟨by rfl, rfl⟩) HS0.out ?_
    simp only [List.getElem_toArray, List.getElem_cons_succ, List.getElem_cons_zero, Act.put, List.setIfInBounds_toArray, List.set_cons_zero, List.set_cons_succ]
    refine wpAnyH_take (i := 10) (v := undef) rfl (by kernel_rfl) (by kernel_rfl) (by kernel_rfl) (fun _ _ _ h => h) (Or.inr ⟨by rfl, rfl⟩) HS0.out ?_
    simp only [List.getElem_toArray, List.getElem_cons_succ, List.getElem_cons_zero, Act.put, List.setIfInBounds_toArray, List.set_cons_zero, List.set_cons_succ]
    refine wpAnyH_take (i := 11) (v := undef) rfl (by kernel_rfl) (by kernel_rfl) (by kernel_rfl) (fun _ _ _ h => h) (Or.inr ⟨by rfl, rfl⟩) HS0.out ?_
    simp only [List.getElem_toArray, List.getElem_cons_succ, List.getElem_cons_zero, Act.put, List.setIfInBounds_toArray, List.set_cons_zero, List.set_cons_succ]
    refine wpAnyH_take (i := 12) (v := undef) rfl (by kernel_rfl) (by kernel_rfl) (by kernel_rfl) (fun _ _ _ h => h) (Or.inr ⟨by rfl, rfl⟩) HS0.out ?_
    simp only [List.getElem_toArray, List.getElem_cons_succ, List.getElem_cons_zero, Act.put, List.setIfInBounds_toArray, List.set_cons_zero, List.set_cons_succ]
    refine wpAnyH_take (i := 13) (v := undef) rfl (by kernel_rfl) (by kernel_rfl) (by kernel_rfl) (fun _ _ _ h => h) (Or.inr ⟨by rfl, rfl⟩) HS0.out ?_
    simp only [List.getElem_toArray, List.getElem_cons_succ, List.getElem_cons_zero, Act.put, List.setIfInBounds_toArray, List.set_cons_zero, List.set_cons_succ]
    refine wpAnyH_take (i := 14) (v := .bool false) rfl (by kernel_rfl) (by kernel_rfl) (by kernel_rfl) (fun _ _ _ h => h) (Or.inl ⟨by rfl, fun W hW => by obtain ⟨y0, y1, y2, y3, y4, r1, r2⟩ := hW; go_simp⟩) HS0.out ?_
    simp only [List.getElem_toArray, List.getElem_cons_succ, List.getElem_cons_zero, Act.put, List.setIfInBounds_toArray, List.set_cons_zero, List.set_cons_succ]
    refine wpAnyH_take (i := 15) (v := .bool false) rfl (by kernel_rfl) (by kernel_rfl) (by kernel_rfl) (fun _ _ _ h => h) (Or.inl ⟨by rfl, fun W hW => by obtain ⟨y0, y1, y2, y3, y4, r1, r2⟩ := hW; go_simp⟩) HS0.out ?_
    simp only [List.getElem_toArray, List.getElem_cons_succ, List.getElem_cons_zero, Act.put, List.setIfInBounds_toArray, List.set_cons_zero, List.set_cons_succ]
    refine wpAnyH_take (i := 16) (v := undef) rfl (by kernel_rfl) (by kernel_rfl) (by kernel_rfl) (fun _ _ _ h => h) (Or.inr ⟨by rfl, rfl⟩) HS0.out ?_
    simp only [List.getElem_toArray, List.getElem_cons_succ, List.getElem_cons_zero, Act.put, List.setIfInBounds_toArray, List.set_cons_zero, List.set_cons_succ]
    refine wpAnyH_take (i := 17) (v := undef) rfl (by kernel_rfl) (by kernel_rfl) (by kernel_rfl) (fun _ _ _ h => h) (Or.inr ⟨by rfl, rfl⟩) HS0.out ?_
    simp only [List.getElem_toArray, List.getElem_cons_succ, List.getElem_cons_zero, Act.put, List.setIfInBounds_toArray, List.set_cons_zero, List.set_cons_succ]
    refine wpAnyH_take (i := 18) (v := undef) rfl (by kernel_rfl) (by kernel_rfl) (by kernel_rfl) (fun _ _ _ h => h) (Or.inr ⟨by rfl, rfl⟩) HS0.out ?_
    simp only [List.getElem_toArray, List.getElem_cons_succ, List.getElem_cons_zero, Act.put, List.setIfInBounds_toArray, List.set_cons_zero, List.set_cons_succ]
    refine wpAnyH_take (i := 19) (v := undef) rfl (by kernel_rfl) (by kernel_rfl) (by kernel_rfl) (fun _ _ _ h => h) (Or.inr ⟨by rfl, rfl⟩) HS0.out ?_
    simp only [List.getElem_toArray, List.getElem_cons_succ, List.getElem_cons_zero, Act.put, List.setIfInBounds_toArray, List.set_cons_zero, List.set_cons_succ]
    refine wpAnyH_take (i := 20) (v := undef) rfl (by kernel_rfl) (by kernel_rfl) (by kernel_rfl) (fun _ _ _ h => h) (Or.inr ⟨by rfl, rfl⟩) HS0.out ?_
    simp only [List.getElem_toArray, List.getElem_cons_succ, List.getElem_cons_zero, Act.put, List.setIfInBounds_toArray, List.set_cons_zero, List.set_cons_succ]
    refine wpAnyH_take (i := 21) (v := .bool false) rfl (by kernel_rfl) (by kernel_rfl) (by kernel_rfl) (fun _ _ _ h => h) (Or.inl ⟨by rfl, fun W hW => by obtain ⟨y0, y1, y2, y3, y4, r1, r2⟩ := hW; go_simp⟩) HS0.out ?_
    simp only [List.getElem_toArray, List.getElem_cons_succ, List.getElem_cons_zero, Act.put, List.setIfInBounds_toArray, List.set_cons_zero, List.set_cons_succ]
    have HC : Hid (∀ b j : Nat, b ≠ w.heap.size → (W.drew.setRow w.heap.size #[.int .i64 op, .int .i64 0, .int .i64 v2, .int .i64 v1, .int .i32 F5]).cell? ⟨b, j, none⟩ = W.cell? ⟨b, j, none⟩) := fun b j hb => World.cell?_of_block (setRow_other _ _ _ _ hb)
    have HS1 : Hid ((fun W => W.cell? ⟨(w.heap.size + 1), 0, none⟩ = some (.int .i64 op) ∧ W.cell? ⟨(w.heap.size + 1), 1, none⟩ = some (.int .i64 0) ∧ W.cell? ⟨(w.heap.size + 1), 2, none⟩ = some (.int .i64 v2) ∧ W.cell? ⟨(w.heap.size + 1), 3, none⟩ = some (.int .i64 v1) ∧ W.cell? ⟨(w.heap.size + 1), 4, none⟩ = some (.int .i32 F5) ∧ W.cell? ⟨(w.heap.size + 1 + 1), 1, none⟩ = some (.int .i64 (q : Int)) ∧ W.cell? ⟨(w.heap.size + 1 + 1), 2, none⟩ = some (.bool true)) (W.drew.setRow w.heap.size #[.int .i64 op, .int .i64 0, .int .i64 v2, .int .i64 v1, .int .i32 F5])) := ⟨(HC.out _ _ (by omega)).trans y0, (HC.out _ _ (by omega)).trans y1, (HC.out _ _ (by omega)).trans y2, (HC.out _ _ (by omega)).trans y3, (HC.out _ _ (by omega)).trans y4, (HC.out _ _ (by omega)).trans r1, (HC.out _ _ (by omega)).trans r2⟩
    refine held_store_r (i := 22) (by kernel_rfl) rfl rfl 23 (.tmp 6) (.tmp 137) rfl w.heap.size #[.int .i64 op, .int .i64 0, .int .i64 v2, .int .i64 v1, .int .i32 F5] (by simp [Act.eval]) (by simp [Act.eval]) 23 #[.int .i64 0, .int .i64 0, .int .i64 0, .int .i64 0, .int .i32 0] HU1.out iIn rfl (one5 _ _ _ _ _) ?_ ?_
    · exact HS1.out
    refine wpAnyH_take (i := 23) (v := .bool false) rfl (by kernel_rfl) (by kernel_rfl) (by kernel_rfl) (fun _ _ _ h => h) (Or.inl ⟨by rfl, fun W hW => by obtain ⟨y0, y1, y2, y3, y4, r1, r2⟩ := hW; go_simp⟩) HS1.out ?_
    simp only [List.getElem_toArray, List.getElem_cons_succ, List.getElem_cons_zero, Act.put, List.setIfInBounds_toArray, List.set_cons_zero, List.set_cons_succ]
    refine wpAnyH_done (by kernel_rfl) ?_ _
    go_wp2_with fail
    refine bodyPost_ret (v := .tuple #[.agg #[.int .i64 op, .int .i64 0, .int .i64 v2, .int .i64 v1, .int .i32 F5], .bool false]) (results_ct Tryd.results53 _ _ _ _ _ (0, 0) _ _ rfl rfl (setRow_heap _ _ _ _ _ (0, 0) HU1.out) Tryd.underlying23 rfl iIn) rfl ⟨_, _, _, _, _, false, rfl, gr_row HG.out.dr1 _, ⟨hw.1, hw.2.1⟩, ⟨fun h => (by cases h), fun h => absurd ((show o5 = none from HO.out).symm.trans h.1) (by simp)⟩, fun h => by cases h⟩
  | false =>
    by_cases hqe : q < L.length
    · have fq : ((q : Int) == (L.length : Int)) = false := by simp; omega
      refine wp_region_held_drew (S := fun W => W.cell? ⟨(w.heap.size + 1), 0, none⟩ = some (.int .i64 op) ∧ W.cell? ⟨(w.heap.size + 1), 1, none⟩ = some (.int .i64 0) ∧ W.cell? ⟨(w.heap.size + 1), 2, none⟩ = some (.int .i64 v2) ∧ W.cell? ⟨(w.heap.size + 1), 3, none⟩ = some (.int .i64 v1) ∧ W.cell? ⟨(w.heap.size + 1), 4, none⟩ = some (.int .i32 F5) ∧ W.cell? ⟨(w.heap.size + 1 + 1), 1, none⟩ = some (.int .i64 (q : Int)) ∧ W.cell? ⟨(w.heap.size + 1 + 1), 2, none⟩ = some (.bool false)) (by kernel_rfl) ⟨y0, y1, y2, y3, y4, r1, r2⟩ (fun hHeld => ?_)
      have HS0 : Hid _ := hHeld
      clear hHeld
      refine wpAnyH_take (i := 0) (v := .agg #[.int .i64 op, .int .i64 0, .int .i64 v2, .int .i64 v1, .int .i32 F5]) rfl (by kernel_rfl) (by kernel_rfl) (by kernel_rfl) (fun _ _ _ h => h) (Or.inl ⟨by rfl, fun W hW => by obtain ⟨y0, y1, y2, y3, y4, r1, r2⟩ := hW; go_simp⟩) HS0.out ?_
      simp only [List.getElem_toArray, List.getElem_cons_succ, List.getElem_cons_zero, Act.put, List.setIfInBounds_toArray, List.set_cons_zero, List.set_cons_succ]
      refine wpAnyH_take (i := 1) (v := .pointer (some ⟨(w.heap.size + 1 + 1), 0, none⟩)) rfl (by kernel_rfl) (by kernel_rfl) (by kernel_rfl) (fun _ _ _ h => h) (Or.inl ⟨by rfl, fun W hW => by obtain ⟨y0, y1, y2, y3, y4, r1, r2⟩ := hW; go_simp⟩) HS0.out ?_
      simp only [List.getElem_toArray, List.getElem_cons_succ, List.getElem_cons_zero, Act.put, List.setIfInBounds_toArray, List.set_cons_zero, List.set_cons_succ]
      refine wpAnyH_take (i := 2) (v := .pointer (some ⟨(w.heap.size + 1 + 1), 0, none⟩)) rfl (by kernel_rfl) (by kernel_rfl) (by kernel_rfl) (fun _ _ _ h => h) (Or.inl ⟨by rfl, fun W hW => by obtain ⟨y0, y1, y2, y3, y4, r1, r2⟩ := hW; go_simp⟩) HS0.out ?_
      simp only [List.getElem_toArray, List.getElem_cons_succ, List.getElem_cons_zero, Act.put, List.setIfInBounds_toArray, List.set_cons_zero, List.set_cons_succ]
      refine wpAnyH_take (i := 3) (v := .pointer (some ⟨(w.heap.size + 1 + 1), 2, none⟩)) rfl (by kernel_rfl) (by kernel_rfl) (by kernel_rfl) (fun _ _ _ h => h) (Or.inl ⟨by rfl, fun W hW => by obtain ⟨y0, y1, y2, y3, y4, r1, r2⟩ := hW; go_simp⟩) HS0.out ?_
      simp only [List.getElem_toArray, List.getElem_cons_succ, List.getElem_cons_zero, Act.put, List.setIfInBounds_toArray, List.set_cons_zero, List.set_cons_succ]
      refine wpAnyH_take (i := 4) (v := .bool false) rfl (by kernel_rfl) (by kernel_rfl) (by kernel_rfl) (fun _ _ _ h => h) (Or.inl ⟨by rfl, fun W hW => by obtain ⟨y0, y1, y2, y3, y4, r1, r2⟩ := hW; go_simp⟩) HS0.out ?_
      simp only [List.getElem_toArray, List.getElem_cons_succ, List.getElem_cons_zero, Act.put, List.setIfInBounds_toArray, List.set_cons_zero, List.set_cons_succ]
      refine wpAnyH_take (i := 5) (v := .bool true) rfl (by kernel_rfl) (by kernel_rfl) (by kernel_rfl) (fun _ _ _ h => h) (Or.inl ⟨by rfl, fun W hW => by obtain ⟨y0, y1, y2, y3, y4, r1, r2⟩ := hW; go_simp⟩) HS0.out ?_
      simp only [List.getElem_toArray, List.getElem_cons_succ, List.getElem_cons_zero, Act.put, List.setIfInBounds_toArray, List.set_cons_zero, List.set_cons_succ]
      refine wpAnyH_take (i := 6) (v := .bool true) rfl (by kernel_rfl) (by kernel_rfl) (by kernel_rfl) (fun _ _ _ h => h) (Or.inl ⟨by rfl, fun W hW => by obtain ⟨y0, y1, y2, y3, y4, r1, r2⟩ := hW; go_simp⟩) HS0.out ?_
      simp only [List.getElem_toArray, List.getElem_cons_succ, List.getElem_cons_zero, Act.put, List.setIfInBounds_toArray, List.set_cons_zero, List.set_cons_succ]
      refine wpAnyH_take (i := 7) (v := .pointer (some ⟨(w.heap.size + 1 + 1), 0, none⟩)) rfl (by kernel_rfl) (by kernel_rfl) (by kernel_rfl) (fun _ _ _ h => h) (Or.inl ⟨by rfl, fun W hW => by obtain ⟨y0, y1, y2, y3, y4, r1, r2⟩ := hW; go_simp⟩) HS0.out ?_
      simp only [List.getElem_toArray, List.getElem_cons_succ, List.getElem_cons_zero, Act.put, List.setIfInBounds_toArray, List.set_cons_zero, List.set_cons_succ]
      refine wpAnyH_take (i := 8) (v := .pointer (some ⟨(w.heap.size + 1 + 1), 0, none⟩)) rfl (by kernel_rfl) (by kernel_rfl) (by kernel_rfl) (fun _ _ _ h => h) (Or.inl ⟨by rfl, fun W hW => by obtain ⟨y0, y1, y2, y3, y4, r1, r2⟩ := hW; go_simp⟩) HS0.out ?_
      simp only [List.getElem_toArray, List.getElem_cons_succ, List.getElem_cons_zero, Act.put, List.setIfInBounds_toArray, List.set_cons_zero, List.set_cons_succ]
      refine wpAnyH_take (i := 9) (v := .pointer (some ⟨(w.heap.size + 1 + 1), 1, none⟩)) rfl (by kernel_rfl) (by kernel_rfl) (by kernel_rfl) (fun _ _ _ h => h) (Or.inl ⟨by rfl, fun W hW => by obtain ⟨y0, y1, y2, y3, y4, r1, r2⟩ := hW; go_simp⟩) HS0.out ?_
      simp only [List.getElem_toArray, List.getElem_cons_succ, List.getElem_cons_zero, Act.put, List.setIfInBounds_toArray, List.set_cons_zero, List.set_cons_succ]
      refine wpAnyH_take (i := 10) (v := .int .i64 (q : Int)) rfl (by kernel_rfl) (by kernel_rfl) (by kernel_rfl) (fun _ _ _ h => h) (Or.inl ⟨by rfl, fun W hW => by obtain ⟨y0, y1, y2, y3, y4, r1, r2⟩ := hW; go_simp⟩) HS0.out ?_
      simp only [List.getElem_toArray, List.getElem_cons_succ, List.getElem_cons_zero, Act.put, List.setIfInBounds_toArray, List.set_cons_zero, List.set_cons_succ]
      refine wpAnyH_take (i := 11) (v := .string (bs L)) rfl (by kernel_rfl) (by kernel_rfl) (by kernel_rfl) (fun _ _ _ h => h) (Or.inl ⟨by rfl, fun W hW => by obtain ⟨y0, y1, y2, y3, y4, r1, r2⟩ := hW; go_simp⟩) HS0.out ?_
      simp only [List.getElem_toArray, List.getElem_cons_succ, List.getElem_cons_zero, Act.put, List.setIfInBounds_toArray, List.set_cons_zero, List.set_cons_succ]
      refine wpAnyH_take (i := 12) (v := .int .i64 (L.length : Int)) rfl (by kernel_rfl) (by kernel_rfl) (by kernel_rfl) (fun _ _ _ h => h) (Or.inl ⟨by rfl, fun W hW => by obtain ⟨y0, y1, y2, y3, y4, r1, r2⟩ := hW; go_simp⟩) HS0.out ?_
      simp only [List.getElem_toArray, List.getElem_cons_succ, List.getElem_cons_zero, Act.put, List.setIfInBounds_toArray, List.set_cons_zero, List.set_cons_succ]
      refine wpAnyH_take (i := 13) (v := .bool false) rfl (by kernel_rfl) (by kernel_rfl) (by kernel_rfl) (fun _ _ _ h => h) (Or.inl ⟨by rfl, fun W hW => by obtain ⟨y0, y1, y2, y3, y4, r1, r2⟩ := hW; go_simp⟩) HS0.out ?_
      simp only [List.getElem_toArray, List.getElem_cons_succ, List.getElem_cons_zero, Act.put, List.setIfInBounds_toArray, List.set_cons_zero, List.set_cons_succ]
      refine wpAnyH_take (i := 14) (v := .bool false) rfl (by kernel_rfl) (by kernel_rfl) (by kernel_rfl) (fun _ _ _ h => h) (Or.inl ⟨by rfl, fun W hW => by obtain ⟨y0, y1, y2, y3, y4, r1, r2⟩ := hW; go_simp⟩) HS0.out ?_
      simp only [List.getElem_toArray, List.getElem_cons_succ, List.getElem_cons_zero, Act.put, List.setIfInBounds_toArray, List.set_cons_zero, List.set_cons_succ]
      refine wpAnyH_take (i := 15) (v := .bool false) rfl (by kernel_rfl) (by kernel_rfl) (by kernel_rfl) (fun _ _ _ h => h) (Or.inl ⟨by rfl, fun W hW => by obtain ⟨y0, y1, y2, y3, y4, r1, r2⟩ := hW; go_simp⟩) HS0.out ?_
      simp only [List.getElem_toArray, List.getElem_cons_succ, List.getElem_cons_zero, Act.put, List.setIfInBounds_toArray, List.set_cons_zero, List.set_cons_succ]
      refine wpAnyH_take (i := 16) (v := undef) rfl (by kernel_rfl) (by kernel_rfl) (by kernel_rfl) (fun _ _ _ h => h) (Or.inr ⟨by rfl, rfl⟩) HS0.out ?_
      simp only [List.getElem_toArray, List.getElem_cons_succ, List.getElem_cons_zero, Act.put, List.setIfInBounds_toArray, List.set_cons_zero, List.set_cons_succ]
      refine wpAnyH_take (i := 17) (v := undef) rfl (by kernel_rfl) (by kernel_rfl) (by kernel_rfl) (fun _ _ _ h => h) (Or.inr ⟨by rfl, rfl⟩) HS0.out ?_
      simp only [List.getElem_toArray, List.getElem_cons_succ, List.getElem_cons_zero, Act.put, List.setIfInBounds_toArray, List.set_cons_zero, List.set_cons_succ]
      refine wpAnyH_take (i := 18) (v := undef) rfl (by kernel_rfl) (by kernel_rfl) (by kernel_rfl) (fun _ _ _ h => h) (Or.inr ⟨by rfl, rfl⟩) HS0.out ?_
      simp only [List.getElem_toArray, List.getElem_cons_succ, List.getElem_cons_zero, Act.put, List.setIfInBounds_toArray, List.set_cons_zero, List.set_cons_succ]
      refine wpAnyH_take (i := 19) (v := undef) rfl (by kernel_rfl) (by kernel_rfl) (by kernel_rfl) (fun _ _ _ h => h) (Or.inr ⟨by rfl, rfl⟩) HS0.out ?_
      simp only [List.getElem_toArray, List.getElem_cons_succ, List.getElem_cons_zero, Act.put, List.setIfInBounds_toArray, List.set_cons_zero, List.set_cons_succ]
      refine wpAnyH_take (i := 20) (v := undef) rfl (by kernel_rfl) (by kernel_rfl) (by kernel_rfl) (fun _ _ _ h => h) (Or.inr ⟨by rfl, rfl⟩) HS0.out ?_
      simp only [List.getElem_toArray, List.getElem_cons_succ, List.getElem_cons_zero, Act.put, List.setIfInBounds_toArray, List.set_cons_zero, List.set_cons_succ]
      refine wpAnyH_take (i := 21) (v := .bool false) rfl (by kernel_rfl) (by kernel_rfl) (by kernel_rfl) (fun _ _ _ h => h) (Or.inl ⟨by rfl, fun W hW => by obtain ⟨y0, y1, y2, y3, y4, r1, r2⟩ := hW; go_simp⟩) HS0.out ?_
      simp only [List.getElem_toArray, List.getElem_cons_succ, List.getElem_cons_zero, Act.put, List.setIfInBounds_toArray, List.set_cons_zero, List.set_cons_succ]
      have HC : Hid (∀ b j : Nat, b ≠ w.heap.size → (W.drew.setRow w.heap.size #[.int .i64 op, .int .i64 0, .int .i64 v2, .int .i64 v1, .int .i32 F5]).cell? ⟨b, j, none⟩ = W.cell? ⟨b, j, none⟩) := fun b j hb => World.cell?_of_block (setRow_other _ _ _ _ hb)
      have HS1 : Hid ((fun W => W.cell? ⟨(w.heap.size + 1), 0, none⟩ = some (.int .i64 op) ∧ W.cell? ⟨(w.heap.size + 1), 1, none⟩ = some (.int .i64 0) ∧ W.cell? ⟨(w.heap.size + 1), 2, none⟩ = some (.int .i64 v2) ∧ W.cell? ⟨(w.heap.size + 1), 3, none⟩ = some (.int .i64 v1) ∧ W.cell? ⟨(w.heap.size + 1), 4, none⟩ = some (.int .i32 F5) ∧ W.cell? ⟨(w.heap.size + 1 + 1), 1, none⟩ = some (.int .i64 (q : Int)) ∧ W.cell? ⟨(w.heap.size + 1 + 1), 2, none⟩ = some (.bool false)) (W.drew.setRow w.heap.size #[.int .i64 op, .int .i64 0, .int .i64 v2, .int .i64 v1, .int .i32 F5])) := ⟨(HC.out _ _ (by omega)).trans y0, (HC.out _ _ (by omega)).trans y1, (HC.out _ _ (by omega)).trans y2, (HC.out _ _ (by omega)).trans y3, (HC.out _ _ (by omega)).trans y4, (HC.out _ _ (by omega)).trans r1, (HC.out _ _ (by omega)).trans r2⟩
      refine held_store_r (i := 22) (by kernel_rfl) rfl rfl 23 (.tmp 6) (.tmp 137) rfl w.heap.size #[.int .i64 op, .int .i64 0, .int .i64 v2, .int .i64 v1, .int .i32 F5] (by simp [Act.eval]) (by simp [Act.eval]) 23 #[.int .i64 0, .int .i64 0, .int .i64 0, .int .i64 0, .int .i32 0] HU1.out iIn rfl (one5 _ _ _ _ _) ?_ ?_
      · exact HS1.out
      refine wpAnyH_take (i := 23) (v := .bool false) rfl (by kernel_rfl) (by kernel_rfl) (by kernel_rfl) (fun _ _ _ h => h) (Or.inl ⟨by rfl, fun W hW => by obtain ⟨y0, y1, y2, y3, y4, r1, r2⟩ := hW; go_simp⟩) HS1.out ?_
      simp only [List.getElem_toArray, List.getElem_cons_succ, List.getElem_cons_zero, Act.put, List.setIfInBounds_toArray, List.set_cons_zero, List.set_cons_succ]
      refine wpAnyH_done (by kernel_rfl) ?_ _
      go_wp2_with fail
      refine bodyPost_ret (v := .tuple #[.agg #[.int .i64 op, .int .i64 0, .int .i64 v2, .int .i64 v1, .int .i32 F5], .bool false]) (results_ct Tryd.results53 _ _ _ _ _ (0, 0) _ _ rfl rfl (setRow_heap _ _ _ _ _ (0, 0) HU1.out) Tryd.underlying23 rfl iIn) rfl ⟨_, _, _, _, _, false, rfl, gr_row HG.out.dr1 _, ⟨hw.1, hw.2.1⟩, ⟨fun h => (by cases h), fun h => absurd (Option.some.inj ((show o5 = some (L.drop q) from HO.out).symm.trans h.1)) (drop_ne hqe)⟩, fun h => by cases h⟩
    · have hqe' : q = L.length := by omega
      subst hqe'
      by_cases hfit : -2147483648 ≤ n ∧ n < 2147483648
      · have ff : n = F5 := (hw.2.2 hfit.1 hfit.2).symm
        subst ff
        have b0 : IntKind.i64.wrap n = n := by rw [IntKind.wrap_i64]; omega
        refine wp_region_held_drew (S := fun W => W.cell? ⟨(w.heap.size + 1), 0, none⟩ = some (.int .i64 op) ∧ W.cell? ⟨(w.heap.size + 1), 1, none⟩ = some (.int .i64 0) ∧ W.cell? ⟨(w.heap.size + 1), 2, none⟩ = some (.int .i64 v2) ∧ W.cell? ⟨(w.heap.size + 1), 3, none⟩ = some (.int .i64 v1) ∧ W.cell? ⟨(w.heap.size + 1), 4, none⟩ = some (.int .i32 n) ∧ W.cell? ⟨(w.heap.size + 1 + 1), 1, none⟩ = some (.int .i64 (L.length : Int)) ∧ W.cell? ⟨(w.heap.size + 1 + 1), 2, none⟩ = some (.bool false)) (by kernel_rfl) ⟨y0, y1, y2, y3, y4, r1, r2⟩ (fun hHeld => ?_)
        have HS0 : Hid _ := hHeld
        clear hHeld
        refine wpAnyH_take (i := 0) (v := .agg #[.int .i64 op, .int .i64 0, .int .i64 v2, .int .i64 v1, .int .i32 n]) rfl (by kernel_rfl) (by kernel_rfl) (by kernel_rfl) (fun _ _ _ h => h) (Or.inl ⟨by rfl, fun W hW => by obtain ⟨y0, y1, y2, y3, y4, r1, r2⟩ := hW; go_simp⟩) HS0.out ?_
        simp only [List.getElem_toArray, List.getElem_cons_succ, List.getElem_cons_zero, Act.put, List.setIfInBounds_toArray, List.set_cons_zero, List.set_cons_succ]
        refine wpAnyH_take (i := 1) (v := .pointer (some ⟨(w.heap.size + 1 + 1), 0, none⟩)) rfl (by kernel_rfl) (by kernel_rfl) (by kernel_rfl) (fun _ _ _ h => h) (Or.inl ⟨by rfl, fun W hW => by obtain ⟨y0, y1, y2, y3, y4, r1, r2⟩ := hW; go_simp⟩) HS0.out ?_
        simp only [List.getElem_toArray, List.getElem_cons_succ, List.getElem_cons_zero, Act.put, List.setIfInBounds_toArray, List.set_cons_zero, List.set_cons_succ]
        refine wpAnyH_take (i := 2) (v := .pointer (some ⟨(w.heap.size + 1 + 1), 0, none⟩)) rfl (by kernel_rfl) (by kernel_rfl) (by kernel_rfl) (fun _ _ _ h => h) (Or.inl ⟨by rfl, fun W hW => by obtain ⟨y0, y1, y2, y3, y4, r1, r2⟩ := hW; go_simp⟩) HS0.out ?_
        simp only [List.getElem_toArray, List.getElem_cons_succ, List.getElem_cons_zero, Act.put, List.setIfInBounds_toArray, List.set_cons_zero, List.set_cons_succ]
        refine wpAnyH_take (i := 3) (v := .pointer (some ⟨(w.heap.size + 1 + 1), 2, none⟩)) rfl (by kernel_rfl) (by kernel_rfl) (by kernel_rfl) (fun _ _ _ h => h) (Or.inl ⟨by rfl, fun W hW => by obtain ⟨y0, y1, y2, y3, y4, r1, r2⟩ := hW; go_simp⟩) HS0.out ?_
        simp only [List.getElem_toArray, List.getElem_cons_succ, List.getElem_cons_zero, Act.put, List.setIfInBounds_toArray, List.set_cons_zero, List.set_cons_succ]
        refine wpAnyH_take (i := 4) (v := .bool false) rfl (by kernel_rfl) (by kernel_rfl) (by kernel_rfl) (fun _ _ _ h => h) (Or.inl ⟨by rfl, fun W hW => by obtain ⟨y0, y1, y2, y3, y4, r1, r2⟩ := hW; go_simp⟩) HS0.out ?_
        simp only [List.getElem_toArray, List.getElem_cons_succ, List.getElem_cons_zero, Act.put, List.setIfInBounds_toArray, List.set_cons_zero, List.set_cons_succ]
        refine wpAnyH_take (i := 5) (v := .bool true) rfl (by kernel_rfl) (by kernel_rfl) (by kernel_rfl) (fun _ _ _ h => h) (Or.inl ⟨by rfl, fun W hW => by obtain ⟨y0, y1, y2, y3, y4, r1, r2⟩ := hW; go_simp⟩) HS0.out ?_
        simp only [List.getElem_toArray, List.getElem_cons_succ, List.getElem_cons_zero, Act.put, List.setIfInBounds_toArray, List.set_cons_zero, List.set_cons_succ]
        refine wpAnyH_take (i := 6) (v := .bool true) rfl (by kernel_rfl) (by kernel_rfl) (by kernel_rfl) (fun _ _ _ h => h) (Or.inl ⟨by rfl, fun W hW => by obtain ⟨y0, y1, y2, y3, y4, r1, r2⟩ := hW; go_simp⟩) HS0.out ?_
        simp only [List.getElem_toArray, List.getElem_cons_succ, List.getElem_cons_zero, Act.put, List.setIfInBounds_toArray, List.set_cons_zero, List.set_cons_succ]
        refine wpAnyH_take (i := 7) (v := .pointer (some ⟨(w.heap.size + 1 + 1), 0, none⟩)) rfl (by kernel_rfl) (by kernel_rfl) (by kernel_rfl) (fun _ _ _ h => h) (Or.inl ⟨by rfl, fun W hW => by obtain ⟨y0, y1, y2, y3, y4, r1, r2⟩ := hW; go_simp⟩) HS0.out ?_
        simp only [List.getElem_toArray, List.getElem_cons_succ, List.getElem_cons_zero, Act.put, List.setIfInBounds_toArray, List.set_cons_zero, List.set_cons_succ]
        refine wpAnyH_take (i := 8) (v := .pointer (some ⟨(w.heap.size + 1 + 1), 0, none⟩)) rfl (by kernel_rfl) (by kernel_rfl) (by kernel_rfl) (fun _ _ _ h => h) (Or.inl ⟨by rfl, fun W hW => by obtain ⟨y0, y1, y2, y3, y4, r1, r2⟩ := hW; go_simp⟩) HS0.out ?_
        simp only [List.getElem_toArray, List.getElem_cons_succ, List.getElem_cons_zero, Act.put, List.setIfInBounds_toArray, List.set_cons_zero, List.set_cons_succ]
        refine wpAnyH_take (i := 9) (v := .pointer (some ⟨(w.heap.size + 1 + 1), 1, none⟩)) rfl (by kernel_rfl) (by kernel_rfl) (by kernel_rfl) (fun _ _ _ h => h) (Or.inl ⟨by rfl, fun W hW => by obtain ⟨y0, y1, y2, y3, y4, r1, r2⟩ := hW; go_simp⟩) HS0.out ?_
        simp only [List.getElem_toArray, List.getElem_cons_succ, List.getElem_cons_zero, Act.put, List.setIfInBounds_toArray, List.set_cons_zero, List.set_cons_succ]
        refine wpAnyH_take (i := 10) (v := .int .i64 (L.length : Int)) rfl (by kernel_rfl) (by kernel_rfl) (by kernel_rfl) (fun _ _ _ h => h) (Or.inl ⟨by rfl, fun W hW => by obtain ⟨y0, y1, y2, y3, y4, r1, r2⟩ := hW; go_simp⟩) HS0.out ?_
        simp only [List.getElem_toArray, List.getElem_cons_succ, List.getElem_cons_zero, Act.put, List.setIfInBounds_toArray, List.set_cons_zero, List.set_cons_succ]
        refine wpAnyH_take (i := 11) (v := .string (bs L)) rfl (by kernel_rfl) (by kernel_rfl) (by kernel_rfl) (fun _ _ _ h => h) (Or.inl ⟨by rfl, fun W hW => by obtain ⟨y0, y1, y2, y3, y4, r1, r2⟩ := hW; go_simp⟩) HS0.out ?_
        simp only [List.getElem_toArray, List.getElem_cons_succ, List.getElem_cons_zero, Act.put, List.setIfInBounds_toArray, List.set_cons_zero, List.set_cons_succ]
        refine wpAnyH_take (i := 12) (v := .int .i64 (L.length : Int)) rfl (by kernel_rfl) (by kernel_rfl) (by kernel_rfl) (fun _ _ _ h => h) (Or.inl ⟨by rfl, fun W hW => by obtain ⟨y0, y1, y2, y3, y4, r1, r2⟩ := hW; go_simp⟩) HS0.out ?_
        simp only [List.getElem_toArray, List.getElem_cons_succ, List.getElem_cons_zero, Act.put, List.setIfInBounds_toArray, List.set_cons_zero, List.set_cons_succ]
        refine wpAnyH_take (i := 13) (v := .bool true) rfl (by kernel_rfl) (by kernel_rfl) (by kernel_rfl) (fun _ _ _ h => h) (Or.inl ⟨by rfl, fun W hW => by obtain ⟨y0, y1, y2, y3, y4, r1, r2⟩ := hW; go_simp⟩) HS0.out ?_
        simp only [List.getElem_toArray, List.getElem_cons_succ, List.getElem_cons_zero, Act.put, List.setIfInBounds_toArray, List.set_cons_zero, List.set_cons_succ]
        refine wpAnyH_take (i := 14) (v := .bool true) rfl (by kernel_rfl) (by kernel_rfl) (by kernel_rfl) (fun _ _ _ h => h) (Or.inl ⟨by rfl, fun W hW => by obtain ⟨y0, y1, y2, y3, y4, r1, r2⟩ := hW; go_simp⟩) HS0.out ?_
        simp only [List.getElem_toArray, List.getElem_cons_succ, List.getElem_cons_zero, Act.put, List.setIfInBounds_toArray, List.set_cons_zero, List.set_cons_succ]
        refine wpAnyH_take (i := 15) (v := .bool true) rfl (by kernel_rfl) (by kernel_rfl) (by kernel_rfl) (fun _ _ _ h => h) (Or.inl ⟨by rfl, fun W hW => by obtain ⟨y0, y1, y2, y3, y4, r1, r2⟩ := hW; go_simp⟩) HS0.out ?_
        simp only [List.getElem_toArray, List.getElem_cons_succ, List.getElem_cons_zero, Act.put, List.setIfInBounds_toArray, List.set_cons_zero, List.set_cons_succ]
        refine wpAnyH_take (i := 16) (v := .pointer (some ⟨(w.heap.size + 1), 4, none⟩)) rfl (by kernel_rfl) (by kernel_rfl) (by kernel_rfl) (fun _ _ _ h => h) (Or.inl ⟨by rfl, fun W hW => by obtain ⟨y0, y1, y2, y3, y4, r1, r2⟩ := hW; go_simp⟩) HS0.out ?_
        simp only [List.getElem_toArray, List.getElem_cons_succ, List.getElem_cons_zero, Act.put, List.setIfInBounds_toArray, List.set_cons_zero, List.set_cons_succ]
        refine wpAnyH_take (i := 17) (v := .int .i32 n) rfl (by kernel_rfl) (by kernel_rfl) (by kernel_rfl) (fun _ _ _ h => h) (Or.inl ⟨by rfl, fun W hW => by obtain ⟨y0, y1, y2, y3, y4, r1, r2⟩ := hW; go_simp⟩) HS0.out ?_
        simp only [List.getElem_toArray, List.getElem_cons_succ, List.getElem_cons_zero, Act.put, List.setIfInBounds_toArray, List.set_cons_zero, List.set_cons_succ]
        refine wpAnyH_take (i := 18) (v := .int .i64 n) rfl (by kernel_rfl) (by kernel_rfl) (by kernel_rfl) (fun _ _ _ h => h) (Or.inl ⟨by rfl, fun W hW => by obtain ⟨y0, y1, y2, y3, y4, r1, r2⟩ := hW; go_simp⟩) HS0.out ?_
        simp only [List.getElem_toArray, List.getElem_cons_succ, List.getElem_cons_zero, Act.put, List.setIfInBounds_toArray, List.set_cons_zero, List.set_cons_succ]
        refine wpAnyH_take (i := 19) (v := .int .i64 n) rfl (by kernel_rfl) (by kernel_rfl) (by kernel_rfl) (fun _ _ _ h => h) (Or.inl ⟨by rfl, fun W hW => by obtain ⟨y0, y1, y2, y3, y4, r1, r2⟩ := hW; go_simp⟩) HS0.out ?_
        simp only [List.getElem_toArray, List.getElem_cons_succ, List.getElem_cons_zero, Act.put, List.setIfInBounds_toArray, List.set_cons_zero, List.set_cons_succ]
        refine wpAnyH_take (i := 20) (v := .bool true) rfl (by kernel_rfl) (by kernel_rfl) (by kernel_rfl) (fun _ _ _ h => h) (Or.inl ⟨by rfl, fun W hW => by obtain ⟨y0, y1, y2, y3, y4, r1, r2⟩ := hW; go_simp⟩) HS0.out ?_
        simp only [List.getElem_toArray, List.getElem_cons_succ, List.getElem_cons_zero, Act.put, List.setIfInBounds_toArray, List.set_cons_zero, List.set_cons_succ]
        refine wpAnyH_take (i := 21) (v := .bool true) rfl (by kernel_rfl) (by kernel_rfl) (by kernel_rfl) (fun _ _ _ h => h) (Or.inl ⟨by rfl, fun W hW => by obtain ⟨y0, y1, y2, y3, y4, r1, r2⟩ := hW; go_simp⟩) HS0.out ?_
        simp only [List.getElem_toArray, List.getElem_cons_succ, List.getElem_cons_zero, Act.put, List.setIfInBounds_toArray, List.set_cons_zero, List.set_cons_succ]
        have HC : Hid (∀ b j : Nat, b ≠ w.heap.size → (W.drew.setRow w.heap.size #[.int .i64 op, .int .i64 0, .int .i64 v2, .int .i64 v1, .int .i32 n]).cell? ⟨b, j, none⟩ = W.cell? ⟨b, j, none⟩) := fun b j hb => World.cell?_of_block (setRow_other _ _ _ _ hb)
        have HS1 : Hid ((fun W => W.cell? ⟨(w.heap.size + 1), 0, none⟩ = some (.int .i64 op) ∧ W.cell? ⟨(w.heap.size + 1), 1, none⟩ = some (.int .i64 0) ∧ W.cell? ⟨(w.heap.size + 1), 2, none⟩ = some (.int .i64 v2) ∧ W.cell? ⟨(w.heap.size + 1), 3, none⟩ = some (.int .i64 v1) ∧ W.cell? ⟨(w.heap.size + 1), 4, none⟩ = some (.int .i32 n) ∧ W.cell? ⟨(w.heap.size + 1 + 1), 1, none⟩ = some (.int .i64 (L.length : Int)) ∧ W.cell? ⟨(w.heap.size + 1 + 1), 2, none⟩ = some (.bool false)) (W.drew.setRow w.heap.size #[.int .i64 op, .int .i64 0, .int .i64 v2, .int .i64 v1, .int .i32 n])) := ⟨(HC.out _ _ (by omega)).trans y0, (HC.out _ _ (by omega)).trans y1, (HC.out _ _ (by omega)).trans y2, (HC.out _ _ (by omega)).trans y3, (HC.out _ _ (by omega)).trans y4, (HC.out _ _ (by omega)).trans r1, (HC.out _ _ (by omega)).trans r2⟩
        refine held_store_r (i := 22) (by kernel_rfl) rfl rfl 23 (.tmp 6) (.tmp 137) rfl w.heap.size #[.int .i64 op, .int .i64 0, .int .i64 v2, .int .i64 v1, .int .i32 n] (by simp [Act.eval]) (by simp [Act.eval]) 23 #[.int .i64 0, .int .i64 0, .int .i64 0, .int .i64 0, .int .i32 0] HU1.out iIn rfl (one5 _ _ _ _ _) ?_ ?_
        · exact HS1.out
        refine wpAnyH_take (i := 23) (v := .bool true) rfl (by kernel_rfl) (by kernel_rfl) (by kernel_rfl) (fun _ _ _ h => h) (Or.inl ⟨by rfl, fun W hW => by obtain ⟨y0, y1, y2, y3, y4, r1, r2⟩ := hW; go_simp⟩) HS1.out ?_
        simp only [List.getElem_toArray, List.getElem_cons_succ, List.getElem_cons_zero, Act.put, List.setIfInBounds_toArray, List.set_cons_zero, List.set_cons_succ]
        refine wpAnyH_done (by kernel_rfl) ?_ _
        go_wp2_with fail
        refine bodyPost_ret (v := .tuple #[.agg #[.int .i64 op, .int .i64 0, .int .i64 v2, .int .i64 v1, .int .i32 n], .bool true]) (results_ct Tryd.results53 _ _ _ _ _ (0, 0) _ _ rfl rfl (setRow_heap _ _ _ _ _ (0, 0) HU1.out) Tryd.underlying23 rfl iIn) rfl ⟨_, _, _, _, _, true, rfl, gr_row HG.out.dr1 _, hfit, ⟨fun _ => ⟨(show o5 = some (L.drop L.length) from HO.out).trans (by rw [List.drop_length]), hfit.1, hfit.2⟩, fun _ => rfl⟩, fun _ => rfl⟩
      · have ff : ((F5 : Int) == n) = false := by simp; omega
        have b0 : IntKind.i64.wrap F5 = F5 := by rw [IntKind.wrap_i64]; omega
        refine wp_region_held_drew (S := fun W => W.cell? ⟨(w.heap.size + 1), 0, none⟩ = some (.int .i64 op) ∧ W.cell? ⟨(w.heap.size + 1), 1, none⟩ = some (.int .i64 0) ∧ W.cell? ⟨(w.heap.size + 1), 2, none⟩ = some (.int .i64 v2) ∧ W.cell? ⟨(w.heap.size + 1), 3, none⟩ = some (.int .i64 v1) ∧ W.cell? ⟨(w.heap.size + 1), 4, none⟩ = some (.int .i32 F5) ∧ W.cell? ⟨(w.heap.size + 1 + 1), 1, none⟩ = some (.int .i64 (L.length : Int)) ∧ W.cell? ⟨(w.heap.size + 1 + 1), 2, none⟩ = some (.bool false)) (by kernel_rfl) ⟨y0, y1, y2, y3, y4, r1, r2⟩ (fun hHeld => ?_)
        have HS0 : Hid _ := hHeld
        clear hHeld
        refine wpAnyH_take (i := 0) (v := .agg #[.int .i64 op, .int .i64 0, .int .i64 v2, .int .i64 v1, .int .i32 F5]) rfl (by kernel_rfl) (by kernel_rfl) (by kernel_rfl) (fun _ _ _ h => h) (Or.inl ⟨by rfl, fun W hW => by obtain ⟨y0, y1, y2, y3, y4, r1, r2⟩ := hW; go_simp⟩) HS0.out ?_
        simp only [List.getElem_toArray, List.getElem_cons_succ, List.getElem_cons_zero, Act.put, List.setIfInBounds_toArray, List.set_cons_zero, List.set_cons_succ]
        refine wpAnyH_take (i := 1) (v := .pointer (some ⟨(w.heap.size + 1 + 1), 0, none⟩)) rfl (by kernel_rfl) (by kernel_rfl) (by kernel_rfl) (fun _ _ _ h => h) (Or.inl ⟨by rfl, fun W hW => by obtain ⟨y0, y1, y2, y3, y4, r1, r2⟩ := hW; go_simp⟩) HS0.out ?_
        simp only [List.getElem_toArray, List.getElem_cons_succ, List.getElem_cons_zero, Act.put, List.setIfInBounds_toArray, List.set_cons_zero, List.set_cons_succ]
        refine wpAnyH_take (i := 2) (v := .pointer (some ⟨(w.heap.size + 1 + 1), 0, none⟩)) rfl (by kernel_rfl) (by kernel_rfl) (by kernel_rfl) (fun _ _ _ h => h) (Or.inl ⟨by rfl, fun W hW => by obtain ⟨y0, y1, y2, y3, y4, r1, r2⟩ := hW; go_simp⟩) HS0.out ?_
        simp only [List.getElem_toArray, List.getElem_cons_succ, List.getElem_cons_zero, Act.put, List.setIfInBounds_toArray, List.set_cons_zero, List.set_cons_succ]
        refine wpAnyH_take (i := 3) (v := .pointer (some ⟨(w.heap.size + 1 + 1), 2, none⟩)) rfl (by kernel_rfl) (by kernel_rfl) (by kernel_rfl) (fun _ _ _ h => h) (Or.inl ⟨by rfl, fun W hW => by obtain ⟨y0, y1, y2, y3, y4, r1, r2⟩ := hW; go_simp⟩) HS0.out ?_
        simp only [List.getElem_toArray, List.getElem_cons_succ, List.getElem_cons_zero, Act.put, List.setIfInBounds_toArray, List.set_cons_zero, List.set_cons_succ]
        refine wpAnyH_take (i := 4) (v := .bool false) rfl (by kernel_rfl) (by kernel_rfl) (by kernel_rfl) (fun _ _ _ h => h) (Or.inl ⟨by rfl, fun W hW => by obtain ⟨y0, y1, y2, y3, y4, r1, r2⟩ := hW; go_simp⟩) HS0.out ?_
        simp only [List.getElem_toArray, List.getElem_cons_succ, List.getElem_cons_zero, Act.put, List.setIfInBounds_toArray, List.set_cons_zero, List.set_cons_succ]
        refine wpAnyH_take (i := 5) (v := .bool true) rfl (by kernel_rfl) (by kernel_rfl) (by kernel_rfl) (fun _ _ _ h => h) (Or.inl ⟨by rfl, fun W hW => by obtain ⟨y0, y1, y2, y3, y4, r1, r2⟩ := hW; go_simp⟩) HS0.out ?_
        simp only [List.getElem_toArray, List.getElem_cons_succ, List.getElem_cons_zero, Act.put, List.setIfInBounds_toArray, List.set_cons_zero, List.set_cons_succ]
        refine wpAnyH_take (i := 6) (v := .bool true) rfl (by kernel_rfl) (by kernel_rfl) (by kernel_rfl) (fun _ _ _ h => h) (Or.inl ⟨by rfl, fun W hW => by obtain ⟨y0, y1, y2, y3, y4, r1, r2⟩ := hW; go_simp⟩) HS0.out ?_
        simp only [List.getElem_toArray, List.getElem_cons_succ, List.getElem_cons_zero, Act.put, List.setIfInBounds_toArray, List.set_cons_zero, List.set_cons_succ]
        refine wpAnyH_take (i := 7) (v := .pointer (some ⟨(w.heap.size + 1 + 1), 0, none⟩)) rfl (by kernel_rfl) (by kernel_rfl) (by kernel_rfl) (fun _ _ _ h => h) (Or.inl ⟨by rfl, fun W hW => by obtain ⟨y0, y1, y2, y3, y4, r1, r2⟩ := hW; go_simp⟩) HS0.out ?_
        simp only [List.getElem_toArray, List.getElem_cons_succ, List.getElem_cons_zero, Act.put, List.setIfInBounds_toArray, List.set_cons_zero, List.set_cons_succ]
        refine wpAnyH_take (i := 8) (v := .pointer (some ⟨(w.heap.size + 1 + 1), 0, none⟩)) rfl (by kernel_rfl) (by kernel_rfl) (by kernel_rfl) (fun _ _ _ h => h) (Or.inl ⟨by rfl, fun W hW => by obtain ⟨y0, y1, y2, y3, y4, r1, r2⟩ := hW; go_simp⟩) HS0.out ?_
        simp only [List.getElem_toArray, List.getElem_cons_succ, List.getElem_cons_zero, Act.put, List.setIfInBounds_toArray, List.set_cons_zero, List.set_cons_succ]
        refine wpAnyH_take (i := 9) (v := .pointer (some ⟨(w.heap.size + 1 + 1), 1, none⟩)) rfl (by kernel_rfl) (by kernel_rfl) (by kernel_rfl) (fun _ _ _ h => h) (Or.inl ⟨by rfl, fun W hW => by obtain ⟨y0, y1, y2, y3, y4, r1, r2⟩ := hW; go_simp⟩) HS0.out ?_
        simp only [List.getElem_toArray, List.getElem_cons_succ, List.getElem_cons_zero, Act.put, List.setIfInBounds_toArray, List.set_cons_zero, List.set_cons_succ]
        refine wpAnyH_take (i := 10) (v := .int .i64 (L.length : Int)) rfl (by kernel_rfl) (by kernel_rfl) (by kernel_rfl) (fun _ _ _ h => h) (Or.inl ⟨by rfl, fun W hW => by obtain ⟨y0, y1, y2, y3, y4, r1, r2⟩ := hW; go_simp⟩) HS0.out ?_
        simp only [List.getElem_toArray, List.getElem_cons_succ, List.getElem_cons_zero, Act.put, List.setIfInBounds_toArray, List.set_cons_zero, List.set_cons_succ]
        refine wpAnyH_take (i := 11) (v := .string (bs L)) rfl (by kernel_rfl) (by kernel_rfl) (by kernel_rfl) (fun _ _ _ h => h) (Or.inl ⟨by rfl, fun W hW => by obtain ⟨y0, y1, y2, y3, y4, r1, r2⟩ := hW; go_simp⟩) HS0.out ?_
        simp only [List.getElem_toArray, List.getElem_cons_succ, List.getElem_cons_zero, Act.put, List.setIfInBounds_toArray, List.set_cons_zero, List.set_cons_succ]
        refine wpAnyH_take (i := 12) (v := .int .i64 (L.length : Int)) rfl (by kernel_rfl) (by kernel_rfl) (by kernel_rfl) (fun _ _ _ h => h) (Or.inl ⟨by rfl, fun W hW => by obtain ⟨y0, y1, y2, y3, y4, r1, r2⟩ := hW; go_simp⟩) HS0.out ?_
        simp only [List.getElem_toArray, List.getElem_cons_succ, List.getElem_cons_zero, Act.put, List.setIfInBounds_toArray, List.set_cons_zero, List.set_cons_succ]
        refine wpAnyH_take (i := 13) (v := .bool true) rfl (by kernel_rfl) (by kernel_rfl) (by kernel_rfl) (fun _ _ _ h => h) (Or.inl ⟨by rfl, fun W hW => by obtain ⟨y0, y1, y2, y3, y4, r1, r2⟩ := hW; go_simp⟩) HS0.out ?_
        simp only [List.getElem_toArray, List.getElem_cons_succ, List.getElem_cons_zero, Act.put, List.setIfInBounds_toArray, List.set_cons_zero, List.set_cons_succ]
        refine wpAnyH_take (i := 14) (v := .bool true) rfl (by kernel_rfl) (by kernel_rfl) (by kernel_rfl) (fun _ _ _ h => h) (Or.inl ⟨by rfl, fun W hW => by obtain ⟨y0, y1, y2, y3, y4, r1, r2⟩ := hW; go_simp⟩) HS0.out ?_
        simp only [List.getElem_toArray, List.getElem_cons_succ, List.getElem_cons_zero, Act.put, List.setIfInBounds_toArray, List.set_cons_zero, List.set_cons_succ]
        refine wpAnyH_take (i := 15) (v := .bool true) rfl (by kernel_rfl) (by kernel_rfl) (by kernel_rfl) (fun _ _ _ h => h) (Or.inl ⟨by rfl, fun W hW => by obtain ⟨y0, y1, y2, y3, y4, r1, r2⟩ := hW; go_simp⟩) HS0.out ?_
        simp only [List.getElem_toArray, List.getElem_cons_succ, List.getElem_cons_zero, Act.put, List.setIfInBounds_toArray, List.set_cons_zero, List.set_cons_succ]
        refine wpAnyH_take (i := 16) (v := .pointer (some ⟨(w.heap.size + 1), 4, none⟩)) rfl (by kernel_rfl) (by kernel_rfl) (by kernel_rfl) (fun _ _ _ h => h) (Or.inl ⟨by rfl, fun W hW => by obtain ⟨y0, y1, y2, y3, y4, r1, r2⟩ := hW; go_simp⟩) HS0.out ?_
        simp only [List.getElem_toArray, List.getElem_cons_succ, List.getElem_cons_zero, Act.put, List.setIfInBounds_toArray, List.set_cons_zero, List.set_cons_succ]
        refine wpAnyH_take (i := 17) (v := .int .i32 F5) rfl (by kernel_rfl) (by kernel_rfl) (by kernel_rfl) (fun _ _ _ h => h) (Or.inl ⟨by rfl, fun W hW => by obtain ⟨y0, y1, y2, y3, y4, r1, r2⟩ := hW; go_simp⟩) HS0.out ?_
        simp only [List.getElem_toArray, List.getElem_cons_succ, List.getElem_cons_zero, Act.put, List.setIfInBounds_toArray, List.set_cons_zero, List.set_cons_succ]
        refine wpAnyH_take (i := 18) (v := .int .i64 F5) rfl (by kernel_rfl) (by kernel_rfl) (by kernel_rfl) (fun _ _ _ h => h) (Or.inl ⟨by rfl, fun W hW => by obtain ⟨y0, y1, y2, y3, y4, r1, r2⟩ := hW; go_simp⟩) HS0.out ?_
        simp only [List.getElem_toArray, List.getElem_cons_succ, List.getElem_cons_zero, Act.put, List.setIfInBounds_toArray, List.set_cons_zero, List.set_cons_succ]
        refine wpAnyH_take (i := 19) (v := .int .i64 n) rfl (by kernel_rfl) (by kernel_rfl) (by kernel_rfl) (fun _ _ _ h => h) (Or.inl ⟨by rfl, fun W hW => by obtain ⟨y0, y1, y2, y3, y4, r1, r2⟩ := hW; go_simp⟩) HS0.out ?_
        simp only [List.getElem_toArray, List.getElem_cons_succ, List.getElem_cons_zero, Act.put, List.setIfInBounds_toArray, List.set_cons_zero, List.set_cons_succ]
        refine wpAnyH_take (i := 20) (v := .bool false) rfl (by kernel_rfl) (by kernel_rfl) (by kernel_rfl) (fun _ _ _ h => h) (Or.inl ⟨by rfl, fun W hW => by obtain ⟨y0, y1, y2, y3, y4, r1, r2⟩ := hW; go_simp⟩) HS0.out ?_
        simp only [List.getElem_toArray, List.getElem_cons_succ, List.getElem_cons_zero, Act.put, List.setIfInBounds_toArray, List.set_cons_zero, List.set_cons_succ]
        refine wpAnyH_take (i := 21) (v := .bool false) rfl (by kernel_rfl) (by kernel_rfl) (by kernel_rfl) (fun _ _ _ h => h) (Or.inl ⟨by rfl, fun W hW => by obtain ⟨y0, y1, y2, y3, y4, r1, r2⟩ := hW; go_simp⟩) HS0.out ?_
        simp only [List.getElem_toArray, List.getElem_cons_succ, List.getElem_cons_zero, Act.put, List.setIfInBounds_toArray, List.set_cons_zero, List.set_cons_succ]
        have HC : Hid (∀ b j : Nat, b ≠ w.heap.size → (W.drew.setRow w.heap.size #[.int .i64 op, .int .i64 0, .int .i64 v2, .int .i64 v1, .int .i32 F5]).cell? ⟨b, j, none⟩ = W.cell? ⟨b, j, none⟩) := fun b j hb => World.cell?_of_block (setRow_other _ _ _ _ hb)
        have HS1 : Hid ((fun W => W.cell? ⟨(w.heap.size + 1), 0, none⟩ = some (.int .i64 op) ∧ W.cell? ⟨(w.heap.size + 1), 1, none⟩ = some (.int .i64 0) ∧ W.cell? ⟨(w.heap.size + 1), 2, none⟩ = some (.int .i64 v2) ∧ W.cell? ⟨(w.heap.size + 1), 3, none⟩ = some (.int .i64 v1) ∧ W.cell? ⟨(w.heap.size + 1), 4, none⟩ = some (.int .i32 F5) ∧ W.cell? ⟨(w.heap.size + 1 + 1), 1, none⟩ = some (.int .i64 (L.length : Int)) ∧ W.cell? ⟨(w.heap.size + 1 + 1), 2, none⟩ = some (.bool false)) (W.drew.setRow w.heap.size #[.int .i64 op, .int .i64 0, .int .i64 v2, .int .i64 v1, .int .i32 F5])) := ⟨(HC.out _ _ (by omega)).trans y0, (HC.out _ _ (by omega)).trans y1, (HC.out _ _ (by omega)).trans y2, (HC.out _ _ (by omega)).trans y3, (HC.out _ _ (by omega)).trans y4, (HC.out _ _ (by omega)).trans r1, (HC.out _ _ (by omega)).trans r2⟩
        refine held_store_r (i := 22) (by kernel_rfl) rfl rfl 23 (.tmp 6) (.tmp 137) rfl w.heap.size #[.int .i64 op, .int .i64 0, .int .i64 v2, .int .i64 v1, .int .i32 F5] (by simp [Act.eval]) (by simp [Act.eval]) 23 #[.int .i64 0, .int .i64 0, .int .i64 0, .int .i64 0, .int .i32 0] HU1.out iIn rfl (one5 _ _ _ _ _) ?_ ?_
        · exact HS1.out
        refine wpAnyH_take (i := 23) (v := .bool false) rfl (by kernel_rfl) (by kernel_rfl) (by kernel_rfl) (fun _ _ _ h => h) (Or.inl ⟨by rfl, fun W hW => by obtain ⟨y0, y1, y2, y3, y4, r1, r2⟩ := hW; go_simp⟩) HS1.out ?_
        simp only [List.getElem_toArray, List.getElem_cons_succ, List.getElem_cons_zero, Act.put, List.setIfInBounds_toArray, List.set_cons_zero, List.set_cons_succ]
        refine wpAnyH_done (by kernel_rfl) ?_ _
        go_wp2_with fail
        refine bodyPost_ret (v := .tuple #[.agg #[.int .i64 op, .int .i64 0, .int .i64 v2, .int .i64 v1, .int .i32 F5], .bool false]) (results_ct Tryd.results53 _ _ _ _ _ (0, 0) _ _ rfl rfl (setRow_heap _ _ _ _ _ (0, 0) HU1.out) Tryd.underlying23 rfl iIn) rfl ⟨_, _, _, _, _, false, rfl, gr_row HG.out.dr1 _, ⟨hw.1, hw.2.1⟩, ⟨fun h => (by cases h), fun h => absurd h.2 hfit⟩, fun h => by cases h⟩
end Go.Proofs.YtkdghgiajifbdaaDoor.As
