/-
  Gm, Pa: texts of ours that lie in one file.
-/
import Derived.Test.YtchllaeembmioaaGreatDoorR28
import Derived.Test.YtchllaeembmioaaGreatDoorR08
set_option linter.unusedVariables false
set_option linter.unusedSimpArgs false
set_option maxHeartbeats 8000000
set_option maxRecDepth 100000
namespace Go.Proofs.YtchllaeembmioaaGreatDoor.Gc
open Go.ChangeShapes Go.WideShapes Go.ChangeAt Go.RowKit Mm Hh Hc

variable {ty : Nat} {rs : List Value}
theorem trap_any {w : World} {base g : Nat} {h : Hv} {l : List UInt8} {os : List Int} {ss : List (Int × Int)} (I : In ty rs w base g h l os ss) (c : Int) :
    Calls Tryz.prog 67 #[.pointer (some ⟨g, 0, none⟩), .int .i64 c] w fun e w' => e = .returned (.tuple #[]) ∧ In ty rs w' base g (h.trap c) l os ss ∧ Ch g w w' := by
  obtain ⟨c0, rfl, I⟩ := I
  have k1 : w.cell? ⟨g, 35, none⟩ = some (.int .i64 c0.h.state) := (I.hcell (by omega)).trans (hL_fld I.ok 3)
  have k2 : w.cell? ⟨g, 36, none⟩ = some (.int .i64 c0.h.cause) := (I.hcell (by omega)).trans (hL_fld I.ok 4)
  have fz := I.fz
  have o1 : Hv.Ok { c0.h with state := 2 } := ⟨I.ok.len, I.ok.reg, I.ok.pc0, I.ok.pc1, I.ok.at0, I.ok.at1⟩
  have J : Hid (Inv ty rs ((w.setCell ⟨g, 35, none⟩ (.int .i64 2)).setCell ⟨g, 36, none⟩ (.int .i64 c)) base g { c0 with h := c0.h.trap c } l os ss) :=
    (I.set (by omega) (set_state I.ok 2) o1).set (c := { c0 with h := { c0.h with state := 2 } }) (by omega) (set_cause o1 c) (I.ok.trap c)
  generalize c0.h.state = x1 at k1
  generalize c0.h.cause = x2 at k2
  clear I o1
  go_enter Tryz.func67, Tryz.ntmps67
  go_wp2
  go_end0
  exact ⟨rfl, ⟨_, rfl, J.out⟩, ((Ch.refl g w).setCell _ _).setCell _ _⟩
theorem set_any {w : World} {base g : Nat} {h : Hv} {l : List UInt8} {os : List Int} {ss : List (Int × Int)} (I : In ty rs w base g h l os ss) (r x : Int) (h0 : 0 ≤ r) (h1 : r < 32) (hx0 : 0 ≤ x) (hx1 : x < 4294967296) :
    Calls Tryz.prog 89 #[.pointer (some ⟨g, 0, none⟩), .int .i64 r, .int .u32 x] w fun e w' => e = .returned (.tuple #[]) ∧ In ty rs w' base g (h.set r.toNat x) l os ss ∧ Ch g w w' := by
  obtain ⟨c0, rfl, I⟩ := I
  obtain ⟨r, rfl⟩ := Int.eq_ofNat_of_zero_le h0
  simp only [Int.toNat_natCast]
  by_cases hr : r = 0
  · subst hr
    have J : Hid (Inv ty rs w base g c0 l os ss) := I
    clear I
    go_enter Tryz.func89, Tryz.ntmps89
    go_wp2
    go_end0
    exact ⟨rfl, ⟨c0, rfl, J.out⟩, Ch.refl g w⟩
  · have hr2 : r < 32 := by omega
    have k1 := I.reg hr2
    have fz := I.fz
    have e : c0.h.set r x = { c0.h with regs := c0.h.regs.set r x } := if_neg hr
    have ok := I.ok.set r hx0 hx1
    rw [e] at ok ⊢
    have J : Hid (Inv ty rs (w.setCell ⟨g, r, none⟩ (.int .u32 x)) base g { c0 with h := { c0.h with regs := c0.h.regs.set r x } } l os ss) := I.set (by omega) (set_reg I.ok hr2 x) ok
    have hr' : ¬ (r : Int) = 0 := by omega
    generalize rg c0.h r = y at k1
    clear I e ok
    go_enter Tryz.func89, Tryz.ntmps89
    go_wp2
    go_end0
    exact ⟨rfl, ⟨_, rfl, J.out⟩, (Ch.refl g w).setCell _ _⟩
theorem Load_any {w : World} {base g : Nat} {h : Hv} {l : List UInt8} {os : List Int} {ss : List (Int × Int)} (I : In ty rs w base g h l os ss) (hl : l.length ≤ 140737488351232) (op a : Int) (h0 : 0 ≤ a) (h1 : a < 4294967296) :
    Calls Tryz.prog 110 #[.pointer (some ⟨g, 0, none⟩), .int .i64 op, .int .u32 a] w fun e w' => e = .returned (.tuple #[.int .u32 (ldV l op a), .bool (ldOk l op a)]) ∧ In ty rs w' base g (if ldOk l op a = true then h else h.trap 3) l os ss ∧ Ch g w w' := by
  have T : Hid (∀ c, Calls Tryz.prog 67 #[.pointer (some ⟨g, 0, none⟩), .int .i64 c] w fun e w' => e = .returned (.tuple #[]) ∧ In ty rs w' base g (h.trap c) l os ss ∧ Ch g w w') := fun c => trap_any I c
  have HI : Hid (In ty rs w base g h l os ss) := I
  obtain ⟨c0, rfl, I⟩ := I
  obtain ⟨ao, cap, hm, M⟩ := I.mem.mem
  have k1 : w.cell? ⟨g, 37, none⟩ = some (.slice ao l.length cap) := (I.fcell 0).trans (by rw [hm]; rfl)
  have L : Hid (Calls Tryz.prog 85 #[.slice ao l.length cap, .int .i64 op, .int .u32 a] w fun e w' => e = .returned (.tuple #[.int .u32 (ldV l op a), .bool (ldOk l op a)]) ∧ w' = w) := Mm.Load_any cap op a M hl h0 h1
  generalize ldV l op a = X at *
  generalize ldOk l op a = B at *
  clear I M hm
  generalize l.length = n at *
  cases B
  · go_enter Tryz.func110, Tryz.ntmps110
    go_wp2_with fail
    refine L.out.mono ?_
    rintro e w' ⟨rfl, rfl⟩
    clear L
    go_wp2_with fail
    refine (T.out 3).mono ?_
    rintro e w2 ⟨rfl, I2, C2⟩
    have HI2 : Hid (In ty rs w2 base g (c0.h.trap 3) l os ss) := I2
    clear T I2 k1
    go_wp2
    go_ret2
    exact ⟨rfl, HI2.out, C2⟩
  · go_enter Tryz.func110, Tryz.ntmps110
    go_wp2_with fail
    refine L.out.mono ?_
    rintro e w' ⟨rfl, rfl⟩
    clear L T k1
    go_wp2
    go_ret2
    exact ⟨rfl, HI.out, Ch.refl _ _⟩
theorem Store_no {w : World} {base g : Nat} {h : Hv} {l : List UInt8} {os : List Int} {ss : List (Int × Int)} (I : In ty rs w base g h l os ss) (hl : l.length ≤ 140737488351232) (op a x : Int) (h0 : 0 ≤ a) (h1 : a < 4294967296) (hx0 : 0 ≤ x) (hx1 : x < 4294967296) (ok : stOk l op a = false) :
    Calls Tryz.prog 111 #[.pointer (some ⟨g, 0, none⟩), .int .i64 op, .int .u32 a, .int .u32 x] w fun e w' => e = .returned (.tuple #[]) ∧ In ty rs w' base g (h.trap 4) l os ss ∧ Ch g w w' := by
  have T : Hid (∀ W, In ty rs W base g h l os ss → ∀ c, Calls Tryz.prog 67 #[.pointer (some ⟨g, 0, none⟩), .int .i64 c] W fun e w' => e = .returned (.tuple #[]) ∧ In ty rs w' base g (h.trap c) l os ss ∧ Ch g W w') := fun W I c => trap_any I c
  have HI : Hid (In ty rs w base g h l os ss) := I
  obtain ⟨c0, rfl, I⟩ := I
  obtain ⟨ao, cap, hm, M⟩ := I.mem.mem
  have k1 : w.cell? ⟨g, 37, none⟩ = some (.slice ao l.length cap) := (I.fcell 0).trans (by rw [hm]; rfl)
  have L : Hid (Calls Tryz.prog 130 #[.slice ao l.length cap, .int .i64 op, .int .u32 a, .int .u32 x] w fun e w' => ∃ ao' n' cap', e = .returned (.tuple #[.slice ao' n' cap', .bool false]) ∧ Gr w w') := by
    have := Mm.Store_any cap op a x M hl h0 h1 hx0 hx1
    rw [ok] at this
    exact this.mono fun e w' ⟨a1, n1, c1, e1, _, e3⟩ => ⟨a1, n1, c1, e1, e3⟩
  clear I M hm ok
  generalize l.length = n at *
  go_enter Tryz.func111, Tryz.ntmps111
  go_wp2_with fail
  refine L.out.mono ?_
  rintro e w1 ⟨a1, n1, c1, rfl, G1⟩
  have HI1 : Hid (In ty rs w1 base g c0.h l os ss) := HI.out.of G1
  have HC1 : Hid (Ch g w w1) := (Ch.refl g w).gr G1
  clear L k1 G1
  go_wp2_with fail
  refine (T.out _ HI1.out 4).mono ?_
  rintro e w2 ⟨rfl, I2, C2⟩
  have HI2 : Hid (In ty rs w2 base g (c0.h.trap 4) l os ss) := I2
  have HC2 : Hid (Ch g w w2) := HC1.out.trans C2
  clear T I2 C2
  go_wp2
  refine bodyPost_ret (results_none Tryz.results111 _ _ _) rfl ?_
  exact ⟨rfl, HI2.out, HC2.out⟩
theorem Store_yes {w : World} {base g : Nat} {h : Hv} {l : List UInt8} {os : List Int} {ss : List (Int × Int)} (I : In ty rs w base g h l os ss) (T : Ts w base) (hl : l.length ≤ 140737488351232) (hss : ss.length ≤ 1000000) (op a x : Int) (h0 : 0 ≤ a) (h1 : a < 4294967296) (hx0 : 0 ≤ x) (hx1 : x < 4294967296) (ok : stOk l op a = true) :
    Calls Tryz.prog 111 #[.pointer (some ⟨g, 0, none⟩), .int .i64 op, .int .u32 a, .int .u32 x] w fun e w' => e = .returned (.tuple #[]) ∧ In ty rs w' base g h (stL l op a x) os (ss ++ [(a, ((ssz op : Nat) : Int))]) ∧ Fr ty base w w' := by
  obtain ⟨c0, rfl, I⟩ := I
  obtain ⟨ao, cap, hm, M⟩ := I.mem.mem
  have k1 : w.cell? ⟨g, 37, none⟩ = some (.slice ao l.length cap) := (I.fcell 0).trans (by rw [hm]; rfl)
  have L : Hid (Calls Tryz.prog 130 #[.slice ao l.length cap, .int .i64 op, .int .u32 a, .int .u32 x] w fun e w' => e = .returned (.tuple #[.slice (some ⟨w.heap.size, 0, none⟩) l.length l.length, .bool true]) ∧ Row w' w.heap.size (stL l op a x) ∧ Gr w w') := mem_store cap op a x M hl h0 h1 hx0 hx1 ok
  have hk := Hc.stL_len (x := x) ok
  have hop := stOk_op ok
  obtain ⟨i0, hi, hz0, hz1, hz2⟩ := info_parts infoR
  generalize stL l op a x = k at *
  have HI : Hid (Inv ty rs w base g c0 l os ss) := I
  have HT : Hid (Ts w base) := T
  clear I M hm ok T
  rcases hop with rfl | rfl | rfl
  · rw [show ((ssz 16 : Nat) : Int) = 1 from rfl]
    go_enter Tryz.func111, Tryz.ntmps111
    go_wp2_with fail
    refine L.out.mono ?_
    rintro e w1 ⟨rfl, R1, G1⟩
    have J := HI.out.stored G1 R1 hk
    have q1 : w1.cell? ⟨g, 37, none⟩ = some (.slice ao l.length cap) := (Gr.cell G1 _ (by exact HI.out.lt)).trans k1
    have q2 : w1.frozen? ⟨g, 37, none⟩ = false := (HI.out.of G1).fz 37
    have B : Fr ty base w (w1.setCell ⟨g, 37, none⟩ (.slice (some ⟨w.heap.size, 0, none⟩) l.length l.length)) := HI.out.inn.below (((Ch.refl g w).gr G1).setCell _ _)
    clear L k1 R1 G1
    go_wp2_with fail
    generalize w1.setCell ⟨g, 37, none⟩ (.slice (some ⟨w.heap.size, 0, none⟩) l.length l.length) = w2 at *
    have k39 : w2.cell? ⟨g, 39, none⟩ = some c0.sto := J.fcell 2
    have fz := J.fz
    have hg := J.lt
    have ks : w2.cell? ⟨4, 16, none⟩ = some (.int .u32 1) := (ts_of HT.out B.below).sizes 16 1 rfl
    have HJ : Hid (Inv ty rs w2 base g _ k os ss) := J
    have HB : Hid (Fr ty base w w2) := B
    clear J B q1 q2
    go_region_law (refine step_append_own rfl (.tmp 33) (.tmp 41) 82 rfl base 109 i0 _ 2 8 Tryz.underlying82 hi hz0 hz1 hz2 rfl (by decide) c0.sto ss.length (rgs ss) (by simp [Act.eval, Act.put]) (owns_gr HJ.out.sto (by repeat (first | exact Gr.refl _ | refine Gr.drew ?_ | refine Gr.alloc ?_ _))) ⟨w2.heap.size, 0, none⟩ 1 1 [.int .u32 a, .int .u32 (IntKind.u32.wrap (a + 1))] (by simp [Act.eval, Act.put]) rfl (two_cells (by simp) (by simp)) (two_one _ _) (by unfold maxLen; omega) (by omega) (by have := HJ.out.base_le; simp; omega) ?_; intro v' w' hown hgrow; obtain ⟨g', cp, rfl⟩ := own_form hown (by omega); obtain ⟨c39, f39, F⟩ := HJ.out.sto_grown (n := ss.length + 1) (by repeat (first | exact Gr.refl _ | refine Gr.drew ?_ | refine Gr.alloc ?_ _)) hgrow (ss' := ss ++ [(a, 1)]) (by simp) (by rw [rgs_snoc]; exact hown); have HF : Hid _ := F; clear F hown hgrow)
    all_goals
      go_end0
      exact ⟨rfl, HF.out.1.inn, HB.out.trans HF.out.2⟩
  · rw [show ((ssz 17 : Nat) : Int) = 2 from rfl]
    go_enter Tryz.func111, Tryz.ntmps111
    go_wp2_with fail
    refine L.out.mono ?_
    rintro e w1 ⟨rfl, R1, G1⟩
    have J := HI.out.stored G1 R1 hk
    have q1 : w1.cell? ⟨g, 37, none⟩ = some (.slice ao l.length cap) := (Gr.cell G1 _ (by exact HI.out.lt)).trans k1
    have q2 : w1.frozen? ⟨g, 37, none⟩ = false := (HI.out.of G1).fz 37
    have B : Fr ty base w (w1.setCell ⟨g, 37, none⟩ (.slice (some ⟨w.heap.size, 0, none⟩) l.length l.length)) := HI.out.inn.below (((Ch.refl g w).gr G1).setCell _ _)
    clear L k1 R1 G1
    go_wp2_with fail
    generalize w1.setCell ⟨g, 37, none⟩ (.slice (some ⟨w.heap.size, 0, none⟩) l.length l.length) = w2 at *
    have k39 : w2.cell? ⟨g, 39, none⟩ = some c0.sto := J.fcell 2
    have fz := J.fz
    have hg := J.lt
    have ks : w2.cell? ⟨4, 17, none⟩ = some (.int .u32 2) := (ts_of HT.out B.below).sizes 17 2 rfl
    have HJ : Hid (Inv ty rs w2 base g _ k os ss) := J
    have HB : Hid (Fr ty base w w2) := B
    clear J B q1 q2
    go_region_law (refine step_append_own rfl (.tmp 33) (.tmp 41) 82 rfl base 109 i0 _ 2 8 Tryz.underlying82 hi hz0 hz1 hz2 rfl (by decide) c0.sto ss.length (rgs ss) (by simp [Act.eval, Act.put]) (owns_gr HJ.out.sto (by repeat (first | exact Gr.refl _ | refine Gr.drew ?_ | refine Gr.alloc ?_ _))) ⟨w2.heap.size, 0, none⟩ 1 1 [.int .u32 a, .int .u32 (IntKind.u32.wrap (a + 2))] (by simp [Act.eval, Act.put]) rfl (two_cells (by simp) (by simp)) (two_one _ _) (by unfold maxLen; omega) (by omega) (by have := HJ.out.base_le; simp; omega) ?_; intro v' w' hown hgrow; obtain ⟨g', cp, rfl⟩ := own_form hown (by omega); obtain ⟨c39, f39, F⟩ := HJ.out.sto_grown (n := ss.length + 1) (by repeat (first | exact Gr.refl _ | refine Gr.drew ?_ | refine Gr.alloc ?_ _)) hgrow (ss' := ss ++ [(a, 2)]) (by simp) (by rw [rgs_snoc]; exact hown); have HF : Hid _ := F; clear F hown hgrow)
    all_goals
      go_end0
      exact ⟨rfl, HF.out.1.inn, HB.out.trans HF.out.2⟩
  · rw [show ((ssz 18 : Nat) : Int) = 4 from rfl]
    go_enter Tryz.func111, Tryz.ntmps111
    go_wp2_with fail
    refine L.out.mono ?_
    rintro e w1 ⟨rfl, R1, G1⟩
    have J := HI.out.stored G1 R1 hk
    have q1 : w1.cell? ⟨g, 37, none⟩ = some (.slice ao l.length cap) := (Gr.cell G1 _ (by exact HI.out.lt)).trans k1
    have q2 : w1.frozen? ⟨g, 37, none⟩ = false := (HI.out.of G1).fz 37
    have B : Fr ty base w (w1.setCell ⟨g, 37, none⟩ (.slice (some ⟨w.heap.size, 0, none⟩) l.length l.length)) := HI.out.inn.below (((Ch.refl g w).gr G1).setCell _ _)
    clear L k1 R1 G1
    go_wp2_with fail
    generalize w1.setCell ⟨g, 37, none⟩ (.slice (some ⟨w.heap.size, 0, none⟩) l.length l.length) = w2 at *
    have k39 : w2.cell? ⟨g, 39, none⟩ = some c0.sto := J.fcell 2
    have fz := J.fz
    have hg := J.lt
    have ks : w2.cell? ⟨4, 18, none⟩ = some (.int .u32 4) := (ts_of HT.out B.below).sizes 18 4 rfl
    have HJ : Hid (Inv ty rs w2 base g _ k os ss) := J
    have HB : Hid (Fr ty base w w2) := B
    clear J B q1 q2
    go_region_law (refine step_append_own rfl (.tmp 33) (.tmp 41) 82 rfl base 109 i0 _ 2 8 Tryz.underlying82 hi hz0 hz1 hz2 rfl (by decide) c0.sto ss.length (rgs ss) (by simp [Act.eval, Act.put]) (owns_gr HJ.out.sto (by repeat (first | exact Gr.refl _ | refine Gr.drew ?_ | refine Gr.alloc ?_ _))) ⟨w2.heap.size, 0, none⟩ 1 1 [.int .u32 a, .int .u32 (IntKind.u32.wrap (a + 4))] (by simp [Act.eval, Act.put]) rfl (two_cells (by simp) (by simp)) (two_one _ _) (by unfold maxLen; omega) (by omega) (by have := HJ.out.base_le; simp; omega) ?_; intro v' w' hown hgrow; obtain ⟨g', cp, rfl⟩ := own_form hown (by omega); obtain ⟨c39, f39, F⟩ := HJ.out.sto_grown (n := ss.length + 1) (by repeat (first | exact Gr.refl _ | refine Gr.drew ?_ | refine Gr.alloc ?_ _)) hgrow (ss' := ss ++ [(a, 4)]) (by simp) (by rw [rgs_snoc]; exact hown); have HF : Hid _ := F; clear F hown hgrow)
    all_goals
      go_end0
      exact ⟨rfl, HF.out.1.inn, HB.out.trans HF.out.2⟩
theorem Store_any {w : World} {base g : Nat} {h : Hv} {l : List UInt8} {os : List Int} {ss : List (Int × Int)} (I : In ty rs w base g h l os ss) (T : Ts w base) (hl : l.length ≤ 140737488351232) (hss : ss.length ≤ 1000000) (op a x : Int) (h0 : 0 ≤ a) (h1 : a < 4294967296) (hx0 : 0 ≤ x) (hx1 : x < 4294967296) :
    Calls Tryz.prog 111 #[.pointer (some ⟨g, 0, none⟩), .int .i64 op, .int .u32 a, .int .u32 x] w fun e w' => e = .returned (.tuple #[]) ∧ In ty rs w' base g (efStore h l op a x).h (efStore h l op a x).m os (ss ++ (efStore h l op a x).sto) ∧ Fr ty base w w' := by
  unfold efStore
  cases ok : stOk l op a with
  | false =>
    refine (Store_no I hl op a x h0 h1 hx0 hx1 ok).mono ?_
    rintro e w' ⟨rfl, J, C⟩
    exact ⟨rfl, by simpa using J, I.below C⟩
  | true => exact Store_yes I T hl hss op a x h0 h1 hx0 hx1 ok
theorem Call_out {w : World} {base g : Nat} {h : Hv} {l : List UInt8} {os : List Int} {ss : List (Int × Int)} (I : In ty rs w base g h l os ss) (hos : os.length ≤ 1000000) (h17 : rg h 17 = 1) :
    Calls Tryz.prog 114 #[.pointer (some ⟨g, 0, none⟩)] w fun e w' => e = .returned (.tuple #[]) ∧ In ty rs w' base g h l (os ++ [rg h 10]) ss ∧ Fr ty base w w' := by
  obtain ⟨c0, rfl, I⟩ := I
  have k17 : w.cell? ⟨g, 17, none⟩ = some (.int .u32 1) := by rw [← h17]; exact I.reg (by omega)
  have k10 : w.cell? ⟨g, 10, none⟩ = some (.int .u32 (rg c0.h 10)) := I.reg (by omega)
  have k38 : w.cell? ⟨g, 38, none⟩ = some c0.out := I.fcell 1
  have fz := I.fz
  have hg := I.lt
  have HJ : Hid (Inv ty rs w base g c0 l os ss) := I
  obtain ⟨i0, hi, hz0, hz1, hz2⟩ := info_parts infoU
  generalize rg c0.h 10 = x at *
  clear I h17
  go_enter Tryz.func114, Tryz.ntmps114
  go_wp2_with fail
  go_region_law (refine step_append_own rfl (.tmp 22) (.tmp 29) 30 rfl base 42 i0 _ 1 4 Tryz.underlying30 hi hz0 hz1 hz2 rfl (by decide) c0.out os.length (os.map (Value.int .u32)) (by simp [Act.eval, Act.put]) (owns_gr HJ.out.out (by repeat (first | exact Gr.refl _ | refine Gr.drew ?_ | refine Gr.alloc ?_ _))) ⟨w.heap.size, 0, none⟩ 1 1 [.int .u32 x] (by simp [Act.eval, Act.put]) rfl (one_cell (by simp)) (one_one _) (by unfold maxLen; omega) (by omega) (by have := HJ.out.base_le; simp; omega) ?_; intro v' w' hown hgrow; obtain ⟨g', cp, rfl⟩ := own_form hown (by omega); obtain ⟨c38, f38, F⟩ := HJ.out.out_grown (n := os.length + 1) (by repeat (first | exact Gr.refl _ | refine Gr.drew ?_ | refine Gr.alloc ?_ _)) hgrow (os' := os ++ [x]) (by simp) (by rw [List.map_append]; exact hown); have HF : Hid _ := F; clear F hown hgrow)
  all_goals
    go_end0
    exact ⟨rfl, HF.out.1.inn, HF.out.2⟩
theorem Call_not {w : World} {base g : Nat} {h : Hv} {l : List UInt8} {os : List Int} {ss : List (Int × Int)} (I : In ty rs w base g h l os ss) (h17 : ¬ rg h 17 = 1) :
    Calls Tryz.prog 114 #[.pointer (some ⟨g, 0, none⟩)] w fun e w' => e = .returned (.tuple #[]) ∧ In ty rs w' base g (if rg h 17 = 0 then h.halt else h.trap 5) l os ss ∧ Fr ty base w w' := by
  have T : Hid (∀ c, Calls Tryz.prog 67 #[.pointer (some ⟨g, 0, none⟩), .int .i64 c] w fun e w' => e = .returned (.tuple #[]) ∧ In ty rs w' base g (h.trap c) l os ss ∧ Ch g w w') := fun c => trap_any I c
  have HI : Hid (In ty rs w base g h l os ss) := I
  obtain ⟨c0, rfl, I⟩ := I
  have k17 : w.cell? ⟨g, 17, none⟩ = some (.int .u32 (rg c0.h 17)) := I.reg (by omega)
  have k35 : w.cell? ⟨g, 35, none⟩ = some (.int .i64 c0.h.state) := (I.hcell (by omega)).trans (hL_fld I.ok 3)
  have fz := I.fz
  have o1 : c0.h.halt.Ok := I.ok.halt
  have HJ : Hid (Inv ty rs (w.setCell ⟨g, 35, none⟩ (.int .i64 1)) base g { c0 with h := c0.h.halt } l os ss) := I.set (by omega) (set_state I.ok 1) o1
  clear I o1
  generalize c0.h.state = y at *
  generalize hx : rg c0.h 17 = x at *
  clear hx
  by_cases h0 : x = 0
  · subst h0
    rw [if_pos rfl]
    clear T
    go_enter Tryz.func114, Tryz.ntmps114
    go_wp2_with fail
    go_end0
    exact ⟨rfl, HJ.out.inn, HI.out.below ((Ch.refl g w).setCell _ _)⟩
  · rw [if_neg h0]
    have b0 : (x == 0) = false := by simp [h0]
    have b1 : (x == 1) = false := by simp [h17]
    clear h0 h17
    go_enter Tryz.func114, Tryz.ntmps114
    go_wp2_with fail
    refine (T.out 5).mono ?_
    rintro e w' ⟨rfl, I2, C2⟩
    have HI2 : Hid (In ty rs w' base g (c0.h.trap 5) l os ss) := I2
    have HC2 : Hid (Ch g w w') := C2
    clear I2 C2 T k17 k35 fz HJ
    go_wp2_with fail
    go_end0
    exact ⟨rfl, HI2.out, HI.out.below HC2.out⟩
theorem Call_any {w : World} {base g : Nat} {h : Hv} {l : List UInt8} {os : List Int} {ss : List (Int × Int)} (I : In ty rs w base g h l os ss) (hos : os.length ≤ 1000000) :
    Calls Tryz.prog 114 #[.pointer (some ⟨g, 0, none⟩)] w fun e w' => e = .returned (.tuple #[]) ∧ In ty rs w' base g (efCall h l).h l (os ++ (efCall h l).out) ss ∧ Fr ty base w w' := by
  unfold efCall
  by_cases h1 : rg h 17 = 1
  · rw [if_neg (by omega), if_pos h1]
    exact Call_out I hos h1
  · refine (Call_not I h1).mono ?_
    rintro e w' ⟨rfl, J, B⟩
    refine ⟨rfl, ?_, B⟩
    by_cases h0 : rg h 17 = 0
    · rw [if_pos h0] at J ⊢; simpa using J
    · rw [if_neg h0] at J; rw [if_neg h0, if_neg h1]; simpa using J
theorem reserve_any {w : World} {base g : Nat} {h : Hv} {l : List UInt8} {os : List Int} {ss : List (Int × Int)} (I : In ty rs w base g h l os ss) (hl : l.length ≤ 140737488351232) (a : Int) (h0 : 0 ≤ a) (h1 : a < 4294967296) :
    Calls Tryz.prog 138 #[.pointer (some ⟨g, 0, none⟩), .int .u32 a] w fun e w' => e = .returned (ret2 (efLr h l a).res) ∧ In ty rs w' base g (efLr h l a).h l os ss ∧ Fr ty base w w' := by
  have L := Load_any I hl 13 a h0 h1
  unfold efLr
  have HI : Hid (In ty rs w base g h l os ss) := I
  clear I
  cases hB : ldOk l 13 a with
  | false =>
    have hX : ldV l 13 a = 0 := by unfold ldV; rw [hB]; rfl
    rw [hB, hX] at L
    have HL : Hid (Calls Tryz.prog 110 #[.pointer (some ⟨g, 0, none⟩), .int .i64 13, .int .u32 a] w fun e w' => e = .returned (.tuple #[.int .u32 0, .bool false]) ∧ In ty rs w' base g (h.trap 3) l os ss ∧ Ch g w w') := L
    clear L hX hB
    go_enter Tryz.func138, Tryz.ntmps138
    go_wp2_with fail
    refine HL.out.mono ?_
    rintro e w' ⟨rfl, I2, C2⟩
    have HI2 : Hid (In ty rs w' base g (h.trap 3) l os ss) := I2
    have HC2 : Hid (Ch g w w') := C2
    clear I2 C2 HL
    go_wp2_with fail
    go_ret2
    exact ⟨rfl, HI2.out, HI.out.below HC2.out⟩
  | true =>
    rw [hB] at L
    have HL : Hid (Calls Tryz.prog 110 #[.pointer (some ⟨g, 0, none⟩), .int .i64 13, .int .u32 a] w fun e w' => e = .returned (.tuple #[.int .u32 (ldV l 13 a), .bool true]) ∧ In ty rs w' base g h l os ss ∧ Ch g w w') := L
    clear L hB
    generalize ldV l 13 a = X at *
    go_enter Tryz.func138, Tryz.ntmps138
    go_wp2_with fail
    refine HL.out.mono ?_
    rintro e w' ⟨rfl, I2, C2⟩
    have HC2 : Hid (Ch g w w') := C2
    obtain ⟨c0, rfl, I⟩ := I2
    have k1 : w'.cell? ⟨g, 33, none⟩ = some (.bool c0.h.held) := (I.hcell (by omega)).trans (hL_fld I.ok 1)
    have k2 : w'.cell? ⟨g, 34, none⟩ = some (.int .u32 c0.h.heldAt) := (I.hcell (by omega)).trans (hL_fld I.ok 2)
    have fz := I.fz
    have o1 : Hv.Ok { c0.h with held := true } := ⟨I.ok.len, I.ok.reg, I.ok.pc0, I.ok.pc1, I.ok.at0, I.ok.at1⟩
    have HJ : Hid (Inv ty rs ((w'.setCell ⟨g, 33, none⟩ (.bool true)).setCell ⟨g, 34, none⟩ (.int .u32 a)) base g { c0 with h := c0.h.hold true a } l os ss) :=
      (I.set (by omega) (set_held I.ok true) o1).set (c := { c0 with h := { c0.h with held := true } }) (by omega) (set_heldAt o1 a) (I.ok.hold true h0 h1)
    generalize c0.h.held = x1 at *
    generalize c0.h.heldAt = x2 at *
    clear I o1 HL C2
    go_wp2_with fail
    go_ret2
    exact ⟨rfl, HJ.out.inn, HI.out.below ((HC2.out.setCell _ _).setCell _ _)⟩
theorem storeHeld_any {w : World} {base g : Nat} {h : Hv} {l : List UInt8} {os : List Int} {ss : List (Int × Int)} (I : In ty rs w base g h l os ss) (T : Ts w base) (hl : l.length ≤ 140737488351232) (hss : ss.length ≤ 1000000) (a b : Int) (h0 : 0 ≤ a) (h1 : a < 4294967296) (hx0 : 0 ≤ b) (hx1 : b < 4294967296) (ok : ldOk l 13 a = true) :
    Calls Tryz.prog 139 #[.pointer (some ⟨g, 0, none⟩), .int .u32 a, .int .u32 b] w fun e w' => e = .returned (.int .u32 ((efSc h l a b).res.getD 0)) ∧ In ty rs w' base g (efSc h l a b).h (efSc h l a b).m os (ss ++ (efSc h l a b).sto) ∧ Fr ty base w w' := by
  unfold efSc
  rw [if_pos ok]
  have HI : Hid (In ty rs w base g h l os ss) := I
  obtain ⟨c0, rfl, I⟩ := I
  have k1 : w.cell? ⟨g, 33, none⟩ = some (.bool c0.h.held) := (I.hcell (by omega)).trans (hL_fld I.ok 1)
  have k2 : w.cell? ⟨g, 34, none⟩ = some (.int .u32 c0.h.heldAt) := (I.hcell (by omega)).trans (hL_fld I.ok 2)
  have fz := I.fz
  have o1 : Hv.Ok { c0.h with held := false } := ⟨I.ok.len, I.ok.reg, I.ok.pc0, I.ok.pc1, I.ok.at0, I.ok.at1⟩
  have J : Inv ty rs ((w.setCell ⟨g, 33, none⟩ (.bool false)).setCell ⟨g, 34, none⟩ (.int .u32 0)) base g { c0 with h := c0.h.hold false 0 } l os ss :=
    (I.set (by omega) (set_held I.ok false) o1).set (c := { c0 with h := { c0.h with held := false } }) (by omega) (set_heldAt o1 0) (I.ok.hold false (x := 0) (by omega) (by omega))
  have B : Fr ty base w ((w.setCell ⟨g, 33, none⟩ (.bool false)).setCell ⟨g, 34, none⟩ (.int .u32 0)) := HI.out.below (((Ch.refl g w).setCell _ _).setCell _ _)
  have S := Store_any J.inn (ts_of T B.below) hl hss 18 a b h0 h1 hx0 hx1
  have e1 : efStore (c0.h.hold false 0) l 18 a b = ⟨c0.h.hold false 0, stL l 18 a b, [], [(a, 4)], none⟩ := by unfold efStore; rw [if_pos (st_of_ld ok)]; rfl
  have HS : Hid (Calls Tryz.prog 111 #[.pointer (some ⟨g, 0, none⟩), .int .i64 18, .int .u32 a, .int .u32 b] ((w.setCell ⟨g, 33, none⟩ (.bool false)).setCell ⟨g, 34, none⟩ (.int .u32 0)) fun e w' => e = .returned (.tuple #[]) ∧ In ty rs w' base g (c0.h.hold false 0) (stL l 18 a b) os (ss ++ [(a, 4)]) ∧ Fr ty base ((w.setCell ⟨g, 33, none⟩ (.bool false)).setCell ⟨g, 34, none⟩ (.int .u32 0)) w') := by
    have S1 : Calls Tryz.prog 111 #[.pointer (some ⟨g, 0, none⟩), .int .i64 18, .int .u32 a, .int .u32 b] ((w.setCell ⟨g, 33, none⟩ (.bool false)).setCell ⟨g, 34, none⟩ (.int .u32 0)) fun e w' => e = .returned (.tuple #[]) ∧ In ty rs w' base g (efStore (c0.h.hold false 0) l 18 a b).h (efStore (c0.h.hold false 0) l 18 a b).m os (ss ++ (efStore (c0.h.hold false 0) l 18 a b).sto) ∧ Fr ty base ((w.setCell ⟨g, 33, none⟩ (.bool false)).setCell ⟨g, 34, none⟩ (.int .u32 0)) w' := S
    rw [e1] at S1
    exact S1
  have HJ : Hid (In ty rs ((w.setCell ⟨g, 33, none⟩ (.bool false)).setCell ⟨g, 34, none⟩ (.int .u32 0)) base g (c0.h.hold false 0) l os ss) := J.inn
  have HB : Hid (Fr ty base w ((w.setCell ⟨g, 33, none⟩ (.bool false)).setCell ⟨g, 34, none⟩ (.int .u32 0))) := B
  clear S J B I o1 T e1
  generalize c0.h.held = x1 at *
  generalize c0.h.heldAt = x2 at *
  cases x1 with
  | false =>
    rw [if_neg (by simp)]
    clear HS
    go_enter Tryz.func139, Tryz.ntmps139
    go_wp2_with fail
    go_ret
    exact ⟨rfl, by simpa using HJ.out, HB.out⟩
  | true =>
    by_cases ha : x2 = a
    · rw [if_pos ⟨rfl, ha⟩]
      have ba : (x2 == a) = true := by simp [ha]
      clear ha
      go_enter Tryz.func139, Tryz.ntmps139
      go_wp2_with fail
      refine HS.out.mono ?_
      rintro e w' ⟨rfl, I2, B2⟩
      have HI2 : Hid (In ty rs w' base g (c0.h.hold false 0) (stL l 18 a b) os (ss ++ [(a, 4)])) := I2
      have HB2 : Hid (Fr ty base w w') := HB.out.trans B2
      clear I2 B2 HS HB HJ k1 k2 fz
      go_wp2_with fail
      go_ret
      exact ⟨rfl, HI2.out, HB2.out⟩
    · rw [if_neg (by simp [ha])]
      have ba : (x2 == a) = false := by simp [ha]
      clear ha HS
      go_enter Tryz.func139, Tryz.ntmps139
      go_wp2_with fail
      go_ret
      exact ⟨rfl, by simpa using HJ.out, HB.out⟩
theorem Atom_any {w : World} {base g : Nat} {h : Hv} {l : List UInt8} {os : List Int} {ss : List (Int × Int)} (I : In ty rs w base g h l os ss) (T : Ts w base) (hl : l.length ≤ 140737488351232) (hss : ss.length ≤ 1000000) (op a b : Int) (h0 : 0 ≤ a) (h1 : a < 4294967296) (hx0 : 0 ≤ b) (hx1 : b < 4294967296) :
    Calls Tryz.prog 113 #[.pointer (some ⟨g, 0, none⟩), .int .i64 op, .int .u32 a, .int .u32 b] w fun e w' => e = .returned (ret2 (efAtom h l op a b).res) ∧ In ty rs w' base g (efAtom h l op a b).h (efAtom h l op a b).m os (ss ++ (efAtom h l op a b).sto) ∧ Fr ty base w w' := by
  have R : Hid (Calls Tryz.prog 138 #[.pointer (some ⟨g, 0, none⟩), .int .u32 a] w fun e w' => e = .returned (ret2 (efLr h l a).res) ∧ In ty rs w' base g (efLr h l a).h l os ss ∧ Fr ty base w w') := reserve_any I hl a h0 h1
  have Tr : Hid (∀ c, Calls Tryz.prog 67 #[.pointer (some ⟨g, 0, none⟩), .int .i64 c] w fun e w' => e = .returned (.tuple #[]) ∧ In ty rs w' base g (h.trap c) l os ss ∧ Ch g w w') := fun c => trap_any I c
  have SH : Hid (ldOk l 13 a = true → Calls Tryz.prog 139 #[.pointer (some ⟨g, 0, none⟩), .int .u32 a, .int .u32 b] w fun e w' => e = .returned (.int .u32 ((efSc h l a b).res.getD 0)) ∧ In ty rs w' base g (efSc h l a b).h (efSc h l a b).m os (ss ++ (efSc h l a b).sto) ∧ Fr ty base w w') := fun ok => storeHeld_any I T hl hss a b h0 h1 hx0 hx1 ok
  have wv := W.ldV l 13 a
  have wa := W.amo (op := op) wv ⟨hx0, hx1⟩
  have St : Hid (Calls Tryz.prog 111 #[.pointer (some ⟨g, 0, none⟩), .int .i64 18, .int .u32 a, .int .u32 (Wd.amo op (ldV l 13 a) b)] w fun e w' => e = .returned (.tuple #[]) ∧ In ty rs w' base g (efStore h l 18 a (Wd.amo op (ldV l 13 a) b)).h (efStore h l 18 a (Wd.amo op (ldV l 13 a) b)).m os (ss ++ (efStore h l 18 a (Wd.amo op (ldV l 13 a) b)).sto) ∧ Fr ty base w w') := Store_any I T hl hss 18 a _ h0 h1 wa.1 wa.2
  have HI : Hid (In ty rs w base g h l os ss) := I
  obtain ⟨c0, rfl, I⟩ := I
  obtain ⟨ao, cap, hm, M⟩ := I.mem.mem
  have k1 : w.cell? ⟨g, 37, none⟩ = some (.slice ao l.length cap) := (I.fcell 0).trans (by rw [hm]; rfl)
  have L : Hid (Calls Tryz.prog 85 #[.slice ao l.length cap, .int .i64 13, .int .u32 a] w fun e w' => e = .returned (.tuple #[.int .u32 (ldV l 13 a), .bool (ldOk l 13 a)]) ∧ w' = w) := Mm.Load_any cap 13 a M hl h0 h1
  have Am : Hid (Calls Tryz.prog 140 #[.int .i64 op, .int .u32 (ldV l 13 a), .int .u32 b] w fun e w' => e = .returned (.int .u32 (Wd.amo op (ldV l 13 a) b)) ∧ w' = w) := Ww.amo_any op _ b w wv.1 wv.2 hx0 hx1
  clear I M hm T wv wa
  by_cases h46 : op = 46
  · have e : efAtom c0.h l op a b = efLr c0.h l a := if_pos h46
    have em : (efLr c0.h l a).m = l ∧ (efLr c0.h l a).sto = [] := by unfold efLr; split <;> exact ⟨rfl, rfl⟩
    rw [e, em.1, em.2, List.append_nil]
    have b46 : (op == 46) = true := by simp [h46]
    clear e em h46 L St SH Tr Am
    generalize efLr c0.h l a = E at *
    unfold ret2 at *
    go_enter Tryz.func113, Tryz.ntmps113
    go_wp2_with fail
    refine R.out.mono ?_
    rintro e w' ⟨rfl, I2, B2⟩
    have HI2 : Hid (In ty rs w' base g E.h l os ss) := I2
    have HB2 : Hid (Fr ty base w w') := B2
    clear I2 B2 R k1
    go_wp2_with fail
    go_ret2
    exact ⟨rfl, HI2.out, HB2.out⟩
  have b46 : (op == 46) = false := by simp [h46]
  clear R
  cases ok : ldOk l 13 a with
  | false =>
    have e : efAtom c0.h l op a b = ⟨c0.h.trap 4, l, [], [], none⟩ := by
      unfold efAtom efSc efAmo
      rw [if_neg h46, ok]
      simp
    rw [e, List.append_nil]
    rw [ok] at L
    have L2 : Hid (Calls Tryz.prog 85 #[.slice ao l.length cap, .int .i64 13, .int .u32 a] w fun e w' => e = .returned (.tuple #[.int .u32 (ldV l 13 a), .bool false]) ∧ w' = w) := L
    clear L e ok St SH Am h46
    generalize ldV l 13 a = X at *
    generalize l.length = n at *
    go_enter Tryz.func113, Tryz.ntmps113
    go_wp2_with fail
    refine L2.out.mono ?_
    rintro e w' ⟨rfl, rfl⟩
    clear L2
    go_wp2_with fail
    refine (Tr.out 4).mono ?_
    rintro e w2 ⟨rfl, I2, C2⟩
    have HI2 : Hid (In ty rs w2 base g (c0.h.trap 4) l os ss) := I2
    have HC2 : Hid (Ch g w' w2) := C2
    clear I2 C2 Tr k1
    go_wp2_with fail
    go_ret2
    exact ⟨rfl, HI2.out, HI.out.below HC2.out⟩
  | true =>
    rw [ok] at L
    have L2 : Hid (Calls Tryz.prog 85 #[.slice ao l.length cap, .int .i64 13, .int .u32 a] w fun e w' => e = .returned (.tuple #[.int .u32 (ldV l 13 a), .bool true]) ∧ w' = w) := L
    clear L Tr
    by_cases h47 : op = 47
    · have e : efAtom c0.h l op a b = efSc c0.h l a b := by unfold efAtom; rw [if_neg h46, if_pos h47]
      have er : ret2 (efSc c0.h l a b).res = .tuple #[.int .u32 ((efSc c0.h l a b).res.getD 0), .bool true] := by
        unfold ret2 efSc
        rw [if_pos ok]
        split <;> rfl
      rw [e, er]
      have S2 : Hid (Calls Tryz.prog 139 #[.pointer (some ⟨g, 0, none⟩), .int .u32 a, .int .u32 b] w fun e w' => e = .returned (.int .u32 ((efSc c0.h l a b).res.getD 0)) ∧ In ty rs w' base g (efSc c0.h l a b).h (efSc c0.h l a b).m os (ss ++ (efSc c0.h l a b).sto) ∧ Fr ty base w w') := SH.out ok
      have b47 : (op == 47) = true := by simp [h47]
      clear e er h46 h47 ok SH St Am
      generalize efSc c0.h l a b = E at *
      generalize E.res.getD 0 = Y at *
      generalize ldV l 13 a = X at *
      generalize l.length = n at *
      go_enter Tryz.func113, Tryz.ntmps113
      go_wp2_with fail
      refine L2.out.mono ?_
      rintro e w' ⟨rfl, rfl⟩
      clear L2
      go_wp2_with fail
      refine S2.out.mono ?_
      rintro e w2 ⟨rfl, I2, B2⟩
      have HI2 : Hid (In ty rs w2 base g E.h E.m os (ss ++ E.sto)) := I2
      have HB2 : Hid (Fr ty base w' w2) := B2
      clear I2 B2 S2 k1
      go_wp2_with fail
      go_ret2
      exact ⟨rfl, HI2.out, HB2.out⟩
    · have e : efAtom c0.h l op a b = ⟨c0.h, stL l 18 a (Wd.amo op (ldV l 13 a) b), [], [(a, 4)], some (ldV l 13 a)⟩ := by unfold efAtom efAmo; rw [if_neg h46, if_neg h47, if_pos ok]
      have e2 : efStore c0.h l 18 a (Wd.amo op (ldV l 13 a) b) = ⟨c0.h, stL l 18 a (Wd.amo op (ldV l 13 a) b), [], [(a, 4)], none⟩ := by unfold efStore; rw [if_pos (st_of_ld ok)]; rfl
      rw [e]
      rw [e2] at St
      have St2 : Hid (Calls Tryz.prog 111 #[.pointer (some ⟨g, 0, none⟩), .int .i64 18, .int .u32 a, .int .u32 (Wd.amo op (ldV l 13 a) b)] w fun e w' => e = .returned (.tuple #[]) ∧ In ty rs w' base g c0.h (stL l 18 a (Wd.amo op (ldV l 13 a) b)) os (ss ++ [(a, 4)]) ∧ Fr ty base w w') := St
      have b47 : (op == 47) = false := by simp [h47]
      clear e e2 h46 h47 ok SH St
      unfold ret2
      generalize stL l 18 a (Wd.amo op (ldV l 13 a) b) = K at *
      generalize Wd.amo op (ldV l 13 a) b = Y at *
      generalize ldV l 13 a = X at *
      generalize l.length = n at *
      go_enter Tryz.func113, Tryz.ntmps113
      go_wp2_with fail
      refine L2.out.mono ?_
      rintro e w' ⟨rfl, rfl⟩
      clear L2
      go_wp2_with fail
      refine Am.out.mono ?_
      rintro e w' ⟨rfl, rfl⟩
      clear Am
      go_wp2_with fail
      refine St2.out.mono ?_
      rintro e w2 ⟨rfl, I2, B2⟩
      have HI2 : Hid (In ty rs w2 base g c0.h K os (ss ++ [(a, 4)])) := I2
      have HB2 : Hid (Fr ty base w' w2) := B2
      clear I2 B2 St2 k1
      go_wp2_with fail
      go_ret2
      exact ⟨rfl, HI2.out, HB2.out⟩
end Go.Proofs.YtchllaeembmioaaGreatDoor.Gc
namespace Go.Proofs.YtchllaeembmioaaGreatDoor.Mp
open Go.ChangeShapes Go.WideShapes Go.ChangeAt Go.RowKit Mm Hh Hc Mi

def rsR (r : Rn) (bf bt steps : Int) : List Value := r.tm.map (Value.int .u32) ++ [.int .u32 bf, .int .u32 bt, .int .i64 steps, .int .i64 r.n, .int .u32 r.here]
def Pr (w : World) (base g : Nat) (r : Rn) (bf bt steps : Int) : Prop := Gc.In 147 (rsR r bf bt steps) w base g r.h r.m r.out r.sto
theorem rsR_tm {r : Rn} (o : r.Ok) {bf bt steps : Int} {j : Nat} (hj : j < 4) : (rsR r bf bt steps)[j]? = some (.int .u32 (r.tm.getD j 0)) := by
  have := o.tl
  unfold rsR
  rw [List.getElem?_append_left (by simp; omega), List.getElem?_map, List.getElem?_eq_getElem (by omega)]
  simp [List.getD, List.getElem?_eq_getElem (show j < r.tm.length by omega)]
theorem rsR_fld {r : Rn} (o : r.Ok) {bf bt steps : Int} (j : Nat) : (rsR r bf bt steps)[4 + j]? = [Value.int .u32 bf, .int .u32 bt, .int .i64 steps, .int .i64 r.n, .int .u32 r.here][j]? := by
  unfold rsR
  rw [List.getElem?_append_right (by simp [o.tl])]
  simp [o.tl]
theorem rsR_setTm {r : Rn} (o : r.Ok) {bf bt steps : Int} {j : Nat} (hj : j < 4) (x : Int) : (rsR r bf bt steps).set j (.int .u32 x) = rsR { r with tm := r.tm.set j x } bf bt steps := by
  have := o.tl
  unfold rsR
  rw [List.set_append_left _ _ (by simp; omega), List.map_set]
theorem rsR_setF {r r' : Rn} (o : r.Ok) {bf bt steps : Int} {j : Nat} {v : Value} (et : r'.tm = r.tm) (e : [Value.int .u32 bf, .int .u32 bt, .int .i64 steps, .int .i64 r.n, .int .u32 r.here].set j v = [Value.int .u32 bf, .int .u32 bt, .int .i64 steps, .int .i64 r'.n, .int .u32 r'.here]) : (rsR r bf bt steps).set (4 + j) v = rsR r' bf bt steps := by
  unfold rsR
  rw [List.set_append_right _ _ (by simp [o.tl]), et]
  simp only [List.length_map, o.tl]
  rw [show 4 + j - 4 = j by omega, e]
theorem Pr.of {w w' : World} {base g : Nat} {r : Rn} {bf bt steps : Int} (I : Pr w base g r bf bt steps) (q : Gr w w') : Pr w' base g r bf bt steps := Gc.In.of I q
theorem Pr.temp {w : World} {base g : Nat} {r : Rn} {bf bt steps : Int} (I : Pr w base g r bf bt steps) (o : r.Ok) {j : Nat} (hj : j < 4) : w.cell? ⟨g, 40 + j, none⟩ = some (.int .u32 (r.tm.getD j 0)) := by
  obtain ⟨c, e, I⟩ := I
  exact (I.rest j).trans (rsR_tm o hj)
theorem Pr.fld {w : World} {base g : Nat} {r : Rn} {bf bt steps : Int} (I : Pr w base g r bf bt steps) (o : r.Ok) (j : Nat) : w.cell? ⟨g, 44 + j, none⟩ = [Value.int .u32 bf, .int .u32 bt, .int .i64 steps, .int .i64 r.n, .int .u32 r.here][j]? := by
  obtain ⟨c, e, I⟩ := I
  have := (I.rest (4 + j)).trans (rsR_fld o j)
  rwa [show 40 + (4 + j) = 44 + j by omega] at this
theorem Pr.reg {w : World} {base g : Nat} {r : Rn} {bf bt steps : Int} (I : Pr w base g r bf bt steps) {i : Nat} (hi : i < 32) : w.cell? ⟨g, i, none⟩ = some (.int .u32 (rg r.h i)) := by
  obtain ⟨c, e, I⟩ := I
  rw [← e]
  exact I.reg hi
theorem Pr.hart {w : World} {base g : Nat} {r : Rn} {bf bt steps : Int} (I : Pr w base g r bf bt steps) {j : Nat} (hj : j < 5) : w.cell? ⟨g, 32 + j, none⟩ = [Value.int .u32 r.h.pc, .bool r.h.held, .int .u32 r.h.heldAt, .int .i64 r.h.state, .int .i64 r.h.cause][j]? := by
  obtain ⟨c, e, I⟩ := I
  rw [← e]
  exact (I.hcell (by omega)).trans (hL_fld I.ok j)
theorem Pr.fz {w : World} {base g : Nat} {r : Rn} {bf bt steps : Int} (I : Pr w base g r bf bt steps) (j : Nat) : w.frozen? ⟨g, j, none⟩ = false := by
  obtain ⟨c, e, I⟩ := I
  exact I.fz j
theorem Pr.lt {w : World} {base g : Nat} {r : Rn} {bf bt steps : Int} (I : Pr w base g r bf bt steps) : g < w.heap.size := by
  obtain ⟨c, e, I⟩ := I
  exact I.lt
theorem Pr.base_le {w : World} {base g : Nat} {r : Rn} {bf bt steps : Int} (I : Pr w base g r bf bt steps) : base ≤ w.heap.size := by
  obtain ⟨c, e, I⟩ := I
  exact I.base_le
theorem Pr.setTm {w : World} {base g : Nat} {r : Rn} {bf bt steps : Int} (I : Pr w base g r bf bt steps) (o : r.Ok) {j : Nat} (hj : j < 4) (x : Int) : Pr (w.setCell ⟨g, 40 + j, none⟩ (.int .u32 x)) base g { r with tm := r.tm.set j x } bf bt steps := by
  obtain ⟨c, e, I⟩ := I
  have := I.setR j (.int .u32 x)
  rw [rsR_setTm o hj] at this
  exact ⟨c, e, this⟩
theorem Pr.setF {w : World} {base g : Nat} {r r' : Rn} {bf bt steps : Int} (I : Pr w base g r bf bt steps) (o : r.Ok) (j : Nat) {v : Value} (eh : r'.h = r.h) (em : r'.m = r.m) (eo : r'.out = r.out) (es : r'.sto = r.sto) (et : r'.tm = r.tm) (e : [Value.int .u32 bf, .int .u32 bt, .int .i64 steps, .int .i64 r.n, .int .u32 r.here].set j v = [Value.int .u32 bf, .int .u32 bt, .int .i64 steps, .int .i64 r'.n, .int .u32 r'.here]) : Pr (w.setCell ⟨g, 44 + j, none⟩ v) base g r' bf bt steps := by
  obtain ⟨c, e0, I⟩ := I
  have := I.setR (4 + j) v
  rw [rsR_setF o et e, show 40 + (4 + j) = 44 + j by omega] at this
  unfold Pr
  rw [eh, em, eo, es]
  exact ⟨c, e0, this⟩
theorem Pr.setPc {w : World} {base g : Nat} {r : Rn} {bf bt steps : Int} (I : Pr w base g r bf bt steps) {x : Int} (hx : Hh.W x) : Pr (w.setCell ⟨g, 32, none⟩ (.int .u32 x)) base g { r with h := r.h.go x } bf bt steps := by
  obtain ⟨c, e, I⟩ := I
  have := I.set (i := 32) (by omega) (set_pc I.ok x) (I.ok.go hx.1 hx.2)
  exact ⟨_, by rw [← e]; rfl, this⟩
theorem Pr.same {w : World} {base g : Nat} {r r' : Rn} {bf bt steps : Int} (I : Pr w base g r bf bt steps) (o : Bool) (v : Bool) : Pr w base g { r with own := o, over := v } bf bt steps := I

theorem value_any {w : World} {base g : Nat} {r : Rn} {bf bt steps : Int} (I : Pr w base g r bf bt steps) (o : r.Ok) (k : Int) (h0 : 0 ≤ k) (h1 : k < 36) :
    Calls Tryz.prog 145 #[.pointer (some ⟨g, 0, none⟩), .int .i64 k] w fun e w' => e = .returned (.int .u32 (r.get k)) ∧ w' = w := by
  obtain ⟨k, rfl⟩ := Int.eq_ofNat_of_zero_le h0
  by_cases h : k < 32
  · have q := I.reg h
    have e : r.get (k : Int) = rg r.h k := if_pos (by omega)
    rw [e]
    clear e I o
    generalize rg r.h k = x at *
    go_enter Tryz.func145, Tryz.ntmps145
    go_wp2
    go_ret
    exact ⟨rfl, rfl⟩
  · obtain ⟨j, rfl⟩ : ∃ j, k = 32 + j := ⟨k - 32, by omega⟩
    have q := I.temp o (j := j) (by omega)
    have e : r.get ((32 + j : Nat) : Int) = r.tm.getD j 0 := by
      unfold Rn.get
      rw [if_neg (by omega), show (((32 + j : Nat) : Int) - 32).toNat = j by omega]
    rw [e]
    clear e I o
    generalize r.tm.getD j 0 = x at *
    go_enter Tryz.func145, Tryz.ntmps145
    go_wp2
    go_ret
    exact ⟨rfl, rfl⟩
theorem become_any {w : World} {base g : Nat} {r : Rn} {bf bt steps : Int} (I : Pr w base g r bf bt steps) (o : r.Ok) (k x : Int) (h0 : 0 ≤ k) (h1 : k < 36) (hx : Hh.W x) :
    Calls Tryz.prog 147 #[.pointer (some ⟨g, 0, none⟩), .int .i64 k, .int .u32 x] w fun e w' => e = .returned (.tuple #[]) ∧ Pr w' base g (r.put k x) bf bt steps ∧ Ch g w w' := by
  obtain ⟨k, rfl⟩ := Int.eq_ofNat_of_zero_le h0
  by_cases h : k < 32
  · have S : Hid (Calls Tryz.prog 89 #[.pointer (some ⟨g, 0, none⟩), .int .i64 k, .int .u32 x] w fun e w' => e = .returned (.tuple #[]) ∧ Pr w' base g (r.put k x) bf bt steps ∧ Ch g w w') := by
      have e : r.put (k : Int) x = { r with h := r.h.set k x } := by
        unfold Rn.put
        rw [if_neg (by omega), Int.toNat_natCast]
      rw [e]
      have := Gc.set_any I k x h0 (by omega) hx.1 hx.2
      rw [Int.toNat_natCast] at this
      exact this
    clear I o
    go_enter Tryz.func147, Tryz.ntmps147
    go_wp2_with fail
    refine S.out.mono ?_
    rintro e w' ⟨rfl, I2, C2⟩
    have HI2 : Hid (Pr w' base g (r.put k x) bf bt steps) := I2
    clear I2 S
    go_wp2
    refine bodyPost_ret (results_none Tryz.results147 _ _ _) rfl ?_
    exact ⟨rfl, HI2.out, C2⟩
  · obtain ⟨j, rfl⟩ : ∃ j, k = 32 + j := ⟨k - 32, by omega⟩
    have q := I.temp o (j := j) (by omega)
    have f := I.fz (40 + j)
    have e : r.put ((32 + j : Nat) : Int) x = { r with tm := r.tm.set j x } := by
      unfold Rn.put
      rw [if_pos (by omega), show (((32 + j : Nat) : Int) - 32).toNat = j by omega]
    have HJ : Hid (Pr (w.setCell ⟨g, 40 + j, none⟩ (.int .u32 x)) base g (r.put ((32 + j : Nat) : Int) x) bf bt steps) := by
      rw [e]
      exact I.setTm o (by omega) x
    clear e I o
    generalize r.tm.getD j 0 = y at *
    go_enter Tryz.func147, Tryz.ntmps147
    go_wp2
    go_end0
    exact ⟨rfl, HJ.out, (Ch.refl g w).setCell _ _⟩
end Go.Proofs.YtchllaeembmioaaGreatDoor.Mp
