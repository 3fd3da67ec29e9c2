/-
  The walks of the laws AsmBack and AsmAgain.
-/
import Derived.Test.YtkdghgiajifbdaaDoorAa5
namespace Go.Proofs.YtkdghgiajifbdaaDoor.As
open Go.ChangeShapes Go.WideShapes Go.ChangeAt Go.RowKit Mm
set_option linter.unusedVariables false

variable {w w' : World}
theorem text_len {op rd a b n : Int} (h : Re.IsP op rd a b n) (n0 : -2147483648 ≤ n) (n1 : n < 2147483648) : (textB op rd a b n).length ≤ 300 := by
  have h1 := name_len h.1.1 h.1.2.1 n
  have h2 := flat_len (Rgs.of h n0 n1) (shp op)
  have h3 := shp_len op
  unfold textB
  rw [body_shp h.1.1 h.1.2.1, List.length_append]
  unfold wrB
  split
  · simp; omega
  · simp only [List.length_cons]; omega
theorem text_ne {op rd a b n : Int} (h : Re.IsP op rd a b n) : textB op rd a b n ≠ [] := fun e => by
  have : ∀ (o : Fin 59) (m : Fin 4), (nameB ((o.val : Int) + 1) (m.val : Int)).isEmpty = false := by decide +kernel
  unfold textB at e
  have e := (List.append_eq_nil_iff.1 e).1
  by_cases ha : 46 ≤ op ∧ op ≤ 56
  · have hm := isP_at h ha.1 ha.2
    have := this ⟨(op - 1).toNat, by have := h.1.1; have := h.1.2.1; omega⟩ ⟨n.toNat, by omega⟩
    simp only at this
    rw [show (((op - 1).toNat : Nat) : Int) + 1 = op by have := h.1.1; omega, show ((n.toNat : Nat) : Int) = n by omega, e] at this
    simp at this
  · rw [name_same ha 0] at e
    have := this ⟨(op - 1).toNat, by have := h.1.1; have := h.1.2.1; omega⟩ 0
    simp only at this
    rw [show (((op - 1).toNat : Nat) : Int) + 1 = op by have := h.1.1; omega] at this
    simp [e] at this
theorem pr_text {op rd a b n : Int} (h : Re.IsP op rd a b n) (n0 : -2147483648 ≤ n) (n1 : n < 2147483648) : prV (textB op rd a b n) = .tuple #[.agg #[.int .i64 op, .int .i64 rd, .int .i64 a, .int .i64 b, .int .i32 n], .int .i64 0] := by
  unfold prV
  rw [parse_iff.2 ⟨⟨⟨n0, n1⟩, h⟩, rfl⟩]
theorem pr_nil : prV [] = .tuple #[.agg #[.int .i64 0, .int .i64 0, .int .i64 0, .int .i64 0, .int .i32 0], .int .i64 2] := by
  have : parseB [] = none := by
    unfold parseB
    rw [show findB (hdB []) = none by decide +kernel]
    rfl
  unfold prV
  rw [this]
theorem ecall_is : prV [101, 99, 97, 108, 108] = .tuple #[.agg #[.int .i64 58, .int .i64 0, .int .i64 0, .int .i64 0, .int .i32 0], .int .i64 0] := by
  have h : Re.IsP 58 0 0 0 0 := ⟨by omega, by omega⟩
  have := pr_text h (by omega) (by omega)
  rwa [show textB 58 0 0 0 0 = [101, 99, 97, 108, 108] by decide +kernel] at this
set_option maxHeartbeats 1000000 in
set_option maxRecDepth 100000 in
theorem back_no {op rd a b n : Int} (n0 : -2147483648 ≤ n) (n1 : n < 2147483648) (hn : ¬ Re.IsP op rd a b n) (T : Tas w) (E : Ers w) :
    Calls Tryd.prog 9 #[.agg #[.int .i64 op, .int .i64 rd, .int .i64 a, .int .i64 b, .int .i32 n]] w fun e w' => e = .returned (.bool true) ∧ Gr w w' := by
  have H0 : Hid (∀ W : World, Tas W → Calls Tryd.prog 22 #[.agg #[.int .i64 op, .int .i64 rd, .int .i64 a, .int .i64 b, .int .i32 n]] W fun e w' => e = .returned (.tuple #[.string ⟨#[]⟩, .int .i64 2]) ∧ Gr W w') := fun W T => Print_no n0 n1 hn T
  have H1 : Hid (∀ W : World, Tas W → Ers W → Calls Tryd.prog 24 #[.string ⟨#[]⟩] W fun e w' => e = .returned (.tuple #[.agg #[.int .i64 0, .int .i64 0, .int .i64 0, .int .i64 0, .int .i32 0], .int .i64 2]) ∧ Gr W w') := fun W T E => by
    have := Parse_any (w := W) (L := []) (by simp) (by simp) T E
    rwa [pr_nil] at this
  have HT : Hid (Tas w) := T
  have HE : Hid (Ers w) := E
  clear hn T E
  go_enter Tryd.func9, Tryd.ntmps9
  go_wp2_with fail
  refine (H0.out _ (HT.out.of ((Gr.refl _).alloc _))).mono ?_
  rintro e w1 ⟨rfl, G1⟩
  have HG1 : Hid (Gr w w1) := ((Gr.refl _).alloc _).trans G1
  clear G1
  go_wp2_with fail
  refine (H1.out _ (HT.out.of HG1.out) (HE.out.of HG1.out)).mono ?_
  rintro e w2 ⟨rfl, G2⟩
  have HG2 : Hid (Gr w w2) := HG1.out.trans G2
  clear G2
  go_wp2_with fail
  go_ret
  exact ⟨rfl, HG2.out.alloc _⟩
set_option maxHeartbeats 1000000 in
set_option maxRecDepth 100000 in
theorem back_yes {op rd a b n : Int} (n0 : -2147483648 ≤ n) (n1 : n < 2147483648) (hy : Re.IsP op rd a b n) (T : Tas w) (E : Ers w) :
    Calls Tryd.prog 9 #[.agg #[.int .i64 op, .int .i64 rd, .int .i64 a, .int .i64 b, .int .i32 n]] w fun e w' => e = .returned (.bool true) ∧ Gr w w' := by
  have H0 : Hid (∀ W : World, Tas W → Calls Tryd.prog 22 #[.agg #[.int .i64 op, .int .i64 rd, .int .i64 a, .int .i64 b, .int .i32 n]] W fun e w' => e = .returned (.tuple #[.string (bs (textB op rd a b n)), .int .i64 0]) ∧ Gr W w') := fun W T => Print_yes n0 n1 hy T
  have H1 : Hid (∀ W : World, Tas W → Ers W → Calls Tryd.prog 24 #[.string (bs (textB op rd a b n))] W fun e w' => e = .returned (.tuple #[.agg #[.int .i64 op, .int .i64 rd, .int .i64 a, .int .i64 b, .int .i32 n], .int .i64 0]) ∧ Gr W w') := fun W T E => by
    have := Parse_any (w := W) (text_lt hy) (by have := text_len hy n0 n1; omega) T E
    rwa [pr_text hy n0 n1] at this
  have h1 : (!(bs (textB op rd a b n)).toList.isEmpty) = true := by
    rw [ByteArray.toList_eq, bs_list]
    simpa using text_ne hy
  have HT : Hid (Tas w) := T
  have HE : Hid (Ers w) := E
  clear hy T E
  generalize bs (textB op rd a b n) = s at *
  go_enter Tryd.func9, Tryd.ntmps9
  go_wp2_with fail
  refine (H0.out _ (HT.out.of ((Gr.refl _).alloc _))).mono ?_
  rintro e w1 ⟨rfl, G1⟩
  have HB1 : Hid (w1.heap[w.heap.size]? = some (.cells #[.int .i64 op, .int .i64 rd, .int .i64 a, .int .i64 b, .int .i32 n] 23 (0, 0))) := upA G1 (heap_alloc_new w _)
  have HG1 : Hid (Gr w w1) := ((Gr.refl _).alloc _).trans G1
  clear G1
  go_wp2_with fail
  refine (H1.out _ (HT.out.of HG1.out) (HE.out.of HG1.out)).mono ?_
  rintro e w2 ⟨rfl, G2⟩
  have HB2 : Hid (w2.heap[w.heap.size]? = some (.cells #[.int .i64 op, .int .i64 rd, .int .i64 a, .int .i64 b, .int .i32 n] 23 (0, 0))) := upA G2 HB1.out
  have HG2 : Hid (Gr w w2) := HG1.out.trans G2
  have hlt : w.heap.size < w2.heap.size := (gs HB2.out).1
  clear G2 HB1 HG1
  have z0 := cr0 HB2.out
  have z1 := cr1 HB2.out
  have z2 := cr2 HB2.out
  have z3 := cr3 HB2.out
  have z4 := cr4 HB2.out
  go_wp2_with fail
  go_ret
  exact ⟨rfl, HG2.out.alloc _⟩
set_option maxHeartbeats 1000000 in
set_option maxRecDepth 100000 in
theorem again_any {L : List Nat} (hl : ∀ c ∈ L, c < 256) (hs : L.length ≤ 140737488355328) (T : Tas w) (E : Ers w) :
    Calls Tryd.prog 10 #[.string (bs L)] w fun e w' => e = .returned (.bool true) ∧ Gr w w' := by
  have H0 : Hid (∀ W : World, Tas W → Ers W → Calls Tryd.prog 24 #[.string ⟨#[101, 99, 97, 108, 108]⟩] W fun e w' => e = .returned (.tuple #[.agg #[.int .i64 58, .int .i64 0, .int .i64 0, .int .i64 0, .int .i32 0], .int .i64 0]) ∧ Gr W w') := fun W T E => by
    have := Parse_any (w := W) (L := [101, 99, 97, 108, 108]) (by decide) (by simp) T E
    rwa [ecall_is] at this
  have H1 : Hid (∀ W : World, Tas W → Ers W → Calls Tryd.prog 24 #[.string (bs L)] W fun e w' => e = .returned (prV L) ∧ Gr W w') := fun W T E => Parse_any hl hs T E
  have HT : Hid (Tas w) := T
  have HE : Hid (Ers w) := E
  have hsp : (∃ op rd a b n, ((-2147483648 ≤ n ∧ n < 2147483648) ∧ Re.IsP op rd a b n) ∧ textB op rd a b n = L ∧ prV L = .tuple #[.agg #[.int .i64 op, .int .i64 rd, .int .i64 a, .int .i64 b, .int .i32 n], .int .i64 0]) ∨ prV L = .tuple #[.agg #[.int .i64 0, .int .i64 0, .int .i64 0, .int .i64 0, .int .i32 0], .int .i64 2] := by
    unfold prV
    match e : parseB L with
    | none => exact .inr rfl
    | some (op, rd, a, b, n) =>
      obtain ⟨h1, h2⟩ := parse_iff.1 e
      exact .inl ⟨op, rd, a, b, n, h1, h2, rfl⟩
  clear hl hs T E
  rcases hsp with ⟨op, rd, a, b, n, ⟨⟨n0, n1⟩, hy⟩, ht, hv⟩ | hv
  · rw [hv] at H1
    have H2 : Hid (∀ W : World, Tas W → Calls Tryd.prog 22 #[.agg #[.int .i64 op, .int .i64 rd, .int .i64 a, .int .i64 b, .int .i32 n]] W fun e w' => e = .returned (.tuple #[.string (bs L), .int .i64 0]) ∧ Gr W w') := fun W T => by
      have := Print_yes (w := W) n0 n1 hy T
      rwa [ht] at this
    clear hy ht hv
    generalize bs L = s at *
    go_enter Tryd.func10, Tryd.ntmps10
    go_wp2_with fail
    refine (H0.out _ HT.out HE.out).mono ?_
    rintro e w1 ⟨rfl, G1⟩
    have HG1 : Hid (Gr w w1) := G1
    clear G1
    go_wp2_with fail
    refine (H1.out _ (HT.out.of (HG1.out.alloc _)) (HE.out.of (HG1.out.alloc _))).mono ?_
    rintro e w2 ⟨rfl, G2⟩
    have HG2 : Hid (Gr w w2) := (HG1.out.alloc _).trans G2
    clear G2 HG1
    go_wp2_with fail
    refine (H2.out _ (HT.out.of (HG2.out.alloc _))).mono ?_
    rintro e w3 ⟨rfl, G3⟩
    have HG3 : Hid (Gr w w3) := (HG2.out.alloc _).trans G3
    clear G3 HG2
    go_wp2_with fail
    go_ret
    exact ⟨rfl, HG3.out⟩
  · rw [hv] at H1
    clear hv
    generalize bs L = s at *
    go_enter Tryd.func10, Tryd.ntmps10
    go_wp2_with fail
    refine (H0.out _ HT.out HE.out).mono ?_
    rintro e w1 ⟨rfl, G1⟩
    have HG1 : Hid (Gr w w1) := G1
    clear G1
    go_wp2_with fail
    refine (H1.out _ (HT.out.of (HG1.out.alloc _)) (HE.out.of (HG1.out.alloc _))).mono ?_
    rintro e w2 ⟨rfl, G2⟩
    have HG2 : Hid (Gr w w2) := (HG1.out.alloc _).trans G2
    clear G2 HG1
    go_wp2_with fail
    go_ret
    exact ⟨rfl, HG2.out.alloc _⟩
end Go.Proofs.YtkdghgiajifbdaaDoor.As
