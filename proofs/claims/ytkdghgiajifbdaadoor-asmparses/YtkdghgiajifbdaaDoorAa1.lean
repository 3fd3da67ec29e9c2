/-
  What the functions name and Print of package asm answer: an instruction's name ('nameB'), its text ('textB').
-/
import Derived.Test.YtkdghgiajifbdaaDoorAz
import Derived.Test.YtkdghgiajifbdaaDoorWalks6
import Derived.Test.YtkdghgiajifbdaaDoorDec3
import Derived.Deep.RegionHeld3
import Derived.Deep.RegionLaw
namespace Go.Proofs.YtkdghgiajifbdaaDoor.As
open Go.ChangeShapes Go.WideShapes Go.ChangeAt Go.RowKit Mm
set_option linter.unusedVariables false

variable {w w' : World}
set_option maxHeartbeats 1000000 in
theorem atomic_is {op : Int} {t : Bool} (h : decide (46 ≤ op ∧ op ≤ 56) = t) (w : World) : Calls Tryd.prog 83 #[.int .i64 op] w fun e w' => e = .returned (.bool t) ∧ w = w' := by
  have H : Hid (∀ w : World, Calls Tryd.prog 104 #[.int .i64 op, .int .i64 46, .int .i64 56] w fun e w' => e = .returned (.bool t) ∧ w = w') := fun w => by
    cases t with
    | true => have := of_decide_eq_true h; exact within_yes this.1 this.2 w
    | false => have := of_decide_eq_false h; exact within_no (by omega) w
  clear h
  go_enter Tryd.func83, Tryd.ntmps83
  go_wp2_with fail
  refine (H.out _).mono ?_
  rintro e _ ⟨rfl, rfl⟩
  go_wp2_with fail
  go_ret
  exact ⟨rfl, rfl⟩
set_option maxHeartbeats 1000000 in
set_option maxRecDepth 100000 in
theorem aname_lo {k : Nat} (h1 : 1 ≤ k) (h2 : k ≤ 59) (hk : ¬ (46 ≤ (k : Int) ∧ (k : Int) ≤ 56)) (rd a b n : Int) (T : Tas w) :
    Calls Tryd.prog 45 #[.agg #[.int .i64 (k : Int), .int .i64 rd, .int .i64 a, .int .i64 b, .int .i32 n]] w fun e w' => e = .returned (str (names.getD (k - 1) [])) ∧ Gr w w' := by
  have HA : Hid (∀ w : World, Calls Tryd.prog 83 #[.int .i64 (k : Int)] w fun e w' => e = .returned (.bool false) ∧ w = w') := atomic_is (by simpa using hk)
  have c0 : (0 : Int) ≤ (k : Int) := by omega
  have c1 : (k : Int) < 60 := by omega
  have q : ∀ o, (w.alloc o).cell? ⟨2, k, none⟩ = some (str (names.getD (k - 1) [])) := fun o => by
    have := (T.of ((Gr.refl w).alloc o)).nm (k - 1) (by omega)
    rwa [show k - 1 + 1 = k by omega] at this
  clear T hk h1 h2
  generalize str (names.getD (k - 1) []) = V at *
  go_enter Tryd.func45, Tryd.ntmps45
  go_wp2_with fail
  refine (HA.out _).mono ?_
  rintro e _ ⟨rfl, rfl⟩
  go_wp2_with fail
  go_ret
  exact ⟨rfl, (Gr.refl _).alloc _⟩
theorem add_is {A B : List Nat} (hl : A.length + B.length ≤ 1000000) (w : World) : (binOp .add 9 (str A) (str B)).run Tryd.prog w = .ok (str (A ++ B)) w := by
  have e : (Op.stringOp .add ⟨(A.map UInt8.ofNat).toArray⟩ ⟨(B.map UInt8.ofNat).toArray⟩).run Tryd.prog w = .ok (str (A ++ B)) w := by
    rw [← str_app]
    exact run_string_add_sum _ _ _ (by show (A.map UInt8.ofNat).toArray.size + (B.map UInt8.ofNat).toArray.size ≤ 9223372036854775807; simp; omega)
  unfold str at e ⊢
  rw [binOp_string_add]
  exact e
set_option maxHeartbeats 2000000 in
set_option maxRecDepth 100000 in
theorem aname_hi {k m : Nat} (h1 : 46 ≤ (k : Int)) (h2 : (k : Int) ≤ 56) (hm : m < 4) (rd a b : Int) (T : Tas w) :
    Calls Tryd.prog 45 #[.agg #[.int .i64 (k : Int), .int .i64 rd, .int .i64 a, .int .i64 b, .int .i32 (m : Int)]] w fun e w' => e = .returned (str (names.getD (k - 1) [] ++ [46, 119] ++ sfx (m : Int))) ∧ Gr w w' := by
  have HA : Hid (∀ w : World, Calls Tryd.prog 83 #[.int .i64 (k : Int)] w fun e w' => e = .returned (.bool true) ∧ w = w') := atomic_is (by simp; omega)
  have c0 : (0 : Int) ≤ (k : Int) := by omega
  have c1 : (k : Int) < 60 := by omega
  have c2 : (0 : Int) ≤ (m : Int) := by omega
  have c3 : (m : Int) < 4 := by omega
  have q : ∀ o, (w.alloc o).cell? ⟨2, k, none⟩ = some (str (names.getD (k - 1) [])) := fun o => by
    have := (T.of ((Gr.refl w).alloc o)).nm (k - 1) (by omega)
    rwa [show k - 1 + 1 = k by omega] at this
  have r : ∀ o, (w.alloc o).cell? ⟨3, m, none⟩ = some (str (sfx (m : Int))) := fun o => (T.of ((Gr.refl w).alloc o)).ad m hm
  have HL : Hid ((names.getD (k - 1) []).length ≤ 10) := by
    have : ∀ k : Fin 59, (names.getD k.val []).length ≤ 10 := by decide
    exact this ⟨k - 1, by omega⟩
  have HM : Hid ((sfx (m : Int)).length ≤ 10) := by
    unfold Hid sfx
    repeat' split
    all_goals simp
  clear T h1 h2
  generalize names.getD (k - 1) [] = A at *
  generalize sfx (m : Int) = M at *
  have q0 := q (.cells #[.int .i64 (k : Int), .int .i64 rd, .int .i64 a, .int .i64 b, .int .i32 (m : Int)] 23)
  have r0 := r (.cells #[.int .i64 (k : Int), .int .i64 rd, .int .i64 a, .int .i64 b, .int .i32 (m : Int)] 23)
  clear q r
  have ha1 : ∀ w : World, (binOp .add 9 (str A) (.string ⟨#[46, 119]⟩)).run Tryd.prog w = .ok (str (A ++ [46, 119])) w := fun w => add_is (B := [46, 119]) (by have := HL.out; simp; omega) w
  have ha2 : ∀ w : World, (binOp .add 9 (str (A ++ [46, 119])) (str M)).run Tryd.prog w = .ok (str (A ++ [46, 119] ++ M)) w := fun w => add_is (by have := HL.out; have := HM.out; simp; omega) w
  generalize str (A ++ [46, 119] ++ M) = V at *
  generalize str (A ++ [46, 119]) = V1 at *
  go_enter Tryd.func45, Tryd.ntmps45
  go_wp2_with fail
  refine (HA.out _).mono ?_
  rintro e _ ⟨rfl, rfl⟩
  go_wp2_with fail
  go_quiet (fail)
  go_wp2_with fail
  go_ret
  exact ⟨rfl, ((Gr.refl _).alloc _).drewN _⟩
/-- The name of an instruction. -/
theorem aname_any {op n : Int} (h1 : 1 ≤ op) (h2 : op ≤ 59) (hn : 46 ≤ op → op ≤ 56 → 0 ≤ n ∧ n ≤ 3) (rd a b : Int) (T : Tas w) :
    Calls Tryd.prog 45 #[.agg #[.int .i64 op, .int .i64 rd, .int .i64 a, .int .i64 b, .int .i32 n]] w fun e w' => e = .returned (str (nameB op n)) ∧ Gr w w' := by
  obtain ⟨k, rfl⟩ : ∃ k : Nat, op = (k : Int) := ⟨op.toNat, by omega⟩
  unfold nameB
  rw [show ((k : Int) - 1).toNat = k - 1 by omega]
  by_cases h : 46 ≤ (k : Int) ∧ (k : Int) ≤ 56
  · rw [if_pos h]
    obtain ⟨n0, n1⟩ := hn h.1 h.2
    obtain ⟨m, rfl⟩ : ∃ m : Nat, n = (m : Int) := ⟨n.toNat, by omega⟩
    exact aname_hi h.1 h.2 (by omega) rd a b T
  · rw [if_neg h]; exact aname_lo (by omega) (by omega) h rd a b n T

/-! ### Print -/
theorem isP_at {op rd a b n : Int} (h : Re.IsP op rd a b n) : 46 ≤ op → op ≤ 56 → 0 ≤ n ∧ n ≤ 3 := fun h1 h2 => by
  rcases h.2 with h | h | h | h | h | h | h | h | h | h | h | h <;> omega
set_option maxHeartbeats 1000000 in
set_option maxRecDepth 100000 in
/-- What has no text. -/
theorem Print_no {op rd a b n : Int} (n0 : -2147483648 ≤ n) (n1 : n < 2147483648) (hn : ¬ Re.IsP op rd a b n) (T : Tas w) :
    Calls Tryd.prog 22 #[.agg #[.int .i64 op, .int .i64 rd, .int .i64 a, .int .i64 b, .int .i32 n]] w fun e w' => e = .returned (.tuple #[.string ⟨#[]⟩, .int .i64 2]) ∧ Gr w w' := by
  have hv := Dw.Wv_bd op rd a b n
  have H0 : Hid (∀ w : World, Dw.Tab w → Calls Tryd.prog 11 #[.agg #[.int .i64 op, .int .i64 rd, .int .i64 a, .int .i64 b, .int .i32 n]] w fun e w' => e = .returned (.tuple #[.int .u32 0, .int .i64 2]) ∧ Gr w w') := fun w T => (Dw.Encode_no op rd a b n w T n0 n1 (fun h => hn (Dw.is_of_same hv.1 hv.2 h))).mono fun e w' ⟨he, g⟩ => ⟨he, g.1⟩
  have HT : Hid (Tas w) := T
  clear hn hv T
  go_enter Tryd.func22, Tryd.ntmps22
  go_wp2_with fail
  refine (H0.out _ (HT.out.of ((Gr.refl _).alloc _)).tb).mono ?_
  rintro e w1 ⟨rfl, G1⟩
  go_wp2_with fail
  go_ret2
  exact ⟨rfl, ((Gr.refl _).alloc _).trans G1⟩
set_option maxHeartbeats 2000000 in
set_option maxRecDepth 100000 in
/-- An instruction's text. -/
theorem Print_yes {op rd a b n : Int} (n0 : -2147483648 ≤ n) (n1 : n < 2147483648) (hy : Re.IsP op rd a b n) (T : Tas w) :
    Calls Tryd.prog 22 #[.agg #[.int .i64 op, .int .i64 rd, .int .i64 a, .int .i64 b, .int .i32 n]] w fun e w' => e = .returned (.tuple #[str (textB op rd a b n), .int .i64 0]) ∧ Gr w w' := by
  have H0 : Hid (∀ w : World, Dw.Tab w → Calls Tryd.prog 11 #[.agg #[.int .i64 op, .int .i64 rd, .int .i64 a, .int .i64 b, .int .i32 n]] w fun e w' => e = .returned (.tuple #[.int .u32 (Dw.Wv op rd a b n), .int .i64 0]) ∧ Gr w w') := fun w T => (Dw.Encode_yes op rd a b n w T n0 n1 (Dw.same_of_is hy n0 n1)).mono fun e w' ⟨he, g⟩ => ⟨he, g.1⟩
  have H1 : Hid (∀ w : World, Tas w → Calls Tryd.prog 45 #[.agg #[.int .i64 op, .int .i64 rd, .int .i64 a, .int .i64 b, .int .i32 n]] w fun e w' => e = .returned (str (nameB op n)) ∧ Gr w w') := fun w T => aname_any hy.1.1 hy.1.2.1 (isP_at hy) rd a b T
  have H2 : Hid (∀ w : World, Tas w → Calls Tryd.prog 46 #[.agg #[.int .i64 op, .int .i64 rd, .int .i64 a, .int .i64 b, .int .i32 n]] w fun e w' => e = .returned (str (wrB op rd a b n)) ∧ Gr w w') := fun w T => written_any (Rgs.of hy n0 n1) T
  have HT : Hid (Tas w) := T
  have HL : Hid ((nameB op n).length ≤ 20) := name_len hy.1.1 hy.1.2.1 n
  have HM : Hid ((wrB op rd a b n).length ≤ 210) := by
    have := flat_len (Rgs.of hy n0 n1) (shp op)
    have := shp_len op
    unfold Hid wrB; omega
  have HE : Hid (textB op rd a b n = nameB op n ++ if wrB op rd a b n = [] then [] else 32 :: wrB op rd a b n) := by
    unfold Hid textB; rw [body_shp hy.1.1 hy.1.2.1]
  rw [HE.out]
  clear hy T HE
  generalize Dw.Wv op rd a b n = v at *
  generalize nameB op n = A at *
  generalize wrB op rd a b n = M at *
  go_enter Tryd.func22, Tryd.ntmps22
  go_wp2_with fail
  refine (H0.out _ (HT.out.of ((Gr.refl _).alloc _)).tb).mono ?_
  rintro e w1 ⟨rfl, G1⟩
  have HB1 : Hid (w1.heap[w.heap.size]? = some (.cells #[.int .i64 op, .int .i64 rd, .int .i64 a, .int .i64 b, .int .i32 n] 23 (0, 0))) := upA G1 (heap_alloc_new w _)
  have HG1 : Hid (Gr w w1) := ((Gr.refl _).alloc _).trans G1
  have z0 := cr0 HB1.out
  have z1 := cr1 HB1.out
  have z2 := cr2 HB1.out
  have z3 := cr3 HB1.out
  have z4 := cr4 HB1.out
  clear G1
  go_wp2_with fail
  refine (H1.out _ (HT.out.of HG1.out)).mono ?_
  rintro e w2 ⟨rfl, G2⟩
  have HB2 : Hid (w2.heap[w.heap.size]? = some (.cells #[.int .i64 op, .int .i64 rd, .int .i64 a, .int .i64 b, .int .i32 n] 23 (0, 0))) := upA G2 HB1.out
  have HG2 : Hid (Gr w w2) := HG1.out.trans G2
  have z0 := cr0 HB2.out
  have z1 := cr1 HB2.out
  have z2 := cr2 HB2.out
  have z3 := cr3 HB2.out
  have z4 := cr4 HB2.out
  clear G2 HB1 HG1
  go_wp2_with fail
  refine (H2.out _ (HT.out.of HG2.out)).mono ?_
  rintro e w3 ⟨rfl, G3⟩
  have HG3 : Hid (Gr w w3) := HG2.out.trans G3
  clear G3 HB2 HG2
  by_cases hM : M = []
  · subst hM
    rw [show str [] = .string ⟨#[]⟩ from rfl]
    go_wp2_with fail
    go_ret2
    exact ⟨by simp, HG3.out⟩
  · have h1 : (!(bs M).toList.isEmpty) = true := by
      rw [ByteArray.toList_eq, bs_list]
      simpa using hM
    rw [show str M = .string (bs M) from rfl]
    go_wp2_with (first
      | (refine wpList_cat rfl _ _ _ _ rfl [32] M rfl rfl (by have := HM.out; simp; omega) ?_)
      | (refine wpList_cat rfl _ _ _ _ rfl A (32 :: M) rfl rfl (by have := HL.out; have := HM.out; simp; omega) ?_))
    go_ret2
    exact ⟨by first | rfl | (simp [hM]; rfl), HG3.out⟩
end Go.Proofs.YtkdghgiajifbdaaDoor.As
