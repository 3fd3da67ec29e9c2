/-
  What the methods do and Step of package hart's core do, of every instruction and every word.
-/
import Derived.Test.YtdiofidmlgliiaaDoorHm4
import Derived.Test.YtdiofidmlgliiaaDoorWalks4
namespace Go.Proofs.YtdiofidmlgliiaaDoor.Hc
open Go.ChangeShapes Go.WideShapes Go.ChangeAt Go.RowKit Mm Hh
set_option linter.unusedVariables false
set_option linter.unusedSimpArgs false

set_option maxHeartbeats 1000000 in
theorem do_any {w : World} {base g : Nat} {h : Hv} {l : List UInt8} {os : List Int} {ss : List (Int × Int)} (I : In w base g h l os ss) (T : Tb w base) (hl : l.length ≤ 140737488351232) (hss : ss.length ≤ 1000000) (hos : os.length ≤ 1000000) (op rd r1 r2 im : Int) (d0 : 0 ≤ rd) (d1 : rd < 32) (s0 : 0 ≤ r1) (s1 : r1 < 32) (t0 : 0 ≤ r2) (t1 : r2 < 32) (i0 : -2147483648 ≤ im) (i1 : im ≤ 2147483647) :
    Calls Tryd.prog 105 #[.pointer (some ⟨g, 0, none⟩), .agg #[.int .i64 op, .int .i64 rd, .int .i64 r1, .int .i64 r2, .int .i32 im]] w fun e w' => e = .returned (.tuple #[]) ∧ In w' base g (ins h l op rd r1 r2 im).h (ins h l op rd r1 r2 im).m (os ++ (ins h l op rd r1 r2 im).out) (ss ++ (ins h l op rd r1 r2 im).sto) ∧ Fr base w w' := by
  obtain ⟨r1, rfl⟩ := Int.eq_ofNat_of_zero_le s0
  obtain ⟨r2, rfl⟩ := Int.eq_ofNat_of_zero_le t0
  have HI : Hid (In w base g h l os ss) := I
  have HT : Hid (Tb w base) := T
  obtain ⟨c0, rfl, J⟩ := I
  have hr1 : r1 < 32 := by omega
  have hr2 : r2 < 32 := by omega
  have k1 := J.reg hr1
  have k2 := J.reg hr2
  have hg := J.lt
  have hbl : base ≤ w.heap.size := J.base_le
  have wa := W.reg J.ok r1
  have wb := W.reg J.ok r2
  have wn : W (im % 4294967296) := W.lo im
  have HE : Hid (ins c0.h l op rd (r1 : Int) (r2 : Int) im = done (eff c0.h l op (rg c0.h r1) (rg c0.h r2) (im % 4294967296)) rd.toNat (nxt c0.h op (rg c0.h r1) (rg c0.h r2) (im % 4294967296))) := rfl
  have ok : Hid ((eff c0.h l op (rg c0.h r1) (rg c0.h r2) (im % 4294967296)).Ok l) := eff_ok J.ok l wa wb wn
  have hx : Hid (W (nxt c0.h op (rg c0.h r1) (rg c0.h r2) (im % 4294967296))) := .nxt
  have N : Hid (∀ W1, In W1 base g c0.h l os ss → Calls Tryd.prog 121 #[.pointer (some ⟨g, 0, none⟩), .int .i64 op, .int .u32 (rg c0.h r1), .int .u32 (rg c0.h r2), .int .u32 (im % 4294967296)] W1 fun e w' => e = .returned (.int .u32 (nxt c0.h op (rg c0.h r1) (rg c0.h r2) (im % 4294967296))) ∧ Gr W1 w') := fun W1 I1 => (next_any I1 op _ _ _ wa.1 wa.2 wb.1 wb.2 wn.1 wn.2).mono fun e w' h => ⟨h.1, by rw [h.2]; exact Gr.refl _⟩
  have E : Hid (∀ W1, In W1 base g c0.h l os ss → Tb W1 base → Calls Tryd.prog 122 #[.pointer (some ⟨g, 0, none⟩), .int .i64 op, .int .u32 (rg c0.h r1), .int .u32 (rg c0.h r2), .int .u32 (im % 4294967296)] W1 fun e w' => e = .returned (ret2 (eff c0.h l op (rg c0.h r1) (rg c0.h r2) (im % 4294967296)).res) ∧ In w' base g (eff c0.h l op (rg c0.h r1) (rg c0.h r2) (im % 4294967296)).h (eff c0.h l op (rg c0.h r1) (rg c0.h r2) (im % 4294967296)).m (os ++ (eff c0.h l op (rg c0.h r1) (rg c0.h r2) (im % 4294967296)).out) (ss ++ (eff c0.h l op (rg c0.h r1) (rg c0.h r2) (im % 4294967296)).sto) ∧ Fr base W1 w') := fun W1 I1 T1 => effect_any I1 T1 hl hss hos op _ _ _ wa wb wn
  rw [HE.out]
  generalize eff c0.h l op (rg c0.h r1) (rg c0.h r2) (im % 4294967296) = Z at *
  generalize nxt c0.h op (rg c0.h r1) (rg c0.h r2) (im % 4294967296) = X at *
  generalize rg c0.h r1 = xa at *
  generalize rg c0.h r2 = xb at *
  generalize c0.h = h0 at *
  clear J HE wa wb wn T
  unfold done ret2 at *
  simp only at *
  have hw0 : Hid (W (Z.res.getD 0)) := ok.out.res
  clear ok
  generalize Z.res = rr at *
  cases rr with
  | none =>
    have e0 : Z.h.put rd.toNat none = Z.h := rfl
    rw [e0]
    clear e0
    generalize Z.h = HH at *
    go_enter Tryd.func105, Tryd.ntmps105
    go_wp2_with fail
    go_quiet (fail)
    go_wp2_with fail
    refine (N.out _ (HI.out.of (((Gr.refl _).alloc _).drewN _))).mono ?_
    rintro e w1 ⟨rfl, G0⟩
    have G1 : Gr w w1 := (((Gr.refl _).alloc _).drewN _).trans G0
    have HB1 : Hid (w1.heap[w.heap.size]? = some (.cells #[.int .i64 op, .int .i64 rd, .int .i64 r1, .int .i64 r2, .int .i32 im] 23 (0, 0))) := (G0.block _ (by simp)).trans (heap_alloc_new w _)
    have HI1 : Hid (In w1 base g h0 l os ss) := HI.out.of G1
    have HF1 : Hid (Fr base w w1) := .ofGr G1 hbl
    have HT1 : Hid (Tb w1 base) := HT.out.of HF1.out
    have q0 : w1.cell? ⟨w.heap.size, 0, none⟩ = some (.int .i64 op) := cell_of_row _ _ _ _ _ _ HB1.out
    clear G0 G1 N k1 k2 hg
    go_wp2_with fail
    refine (E.out _ HI1.out HT1.out).mono ?_
    rintro e w2 ⟨rfl, I2, F2⟩
    have HB2 : Hid (w2.heap[w.heap.size]? = some (.cells #[.int .i64 op, .int .i64 rd, .int .i64 r1, .int .i64 r2, .int .i32 im] 23 (0, 0))) := (F2.keep _ _ _ _ HB1.out (by decide) (by decide) (by decide)).trans HB1.out
    have q1 : w2.cell? ⟨w.heap.size, 1, none⟩ = some (.int .i64 rd) := cell_of_row _ _ _ _ _ _ HB2.out
    have HI2 : Hid (In w2 base g HH Z.m (os ++ Z.out) (ss ++ Z.sto)) := I2
    have HF2 : Hid (Fr base w w2) := HF1.out.trans F2
    clear I2 F2 E HB1 HB2 HI1 HF1 HT1 HT HI q0
    generalize hw : w2 = w3 at *
    have HI3 : Hid (In w3 base g HH Z.m (os ++ Z.out) (ss ++ Z.sto)) := HI2
    have HF3 : Hid (Fr base w w3) := HF2
    clear hw HI2 HF2 q1
    obtain ⟨c1, hc1, J1⟩ := HI3.out
    have k35 : w3.cell? ⟨g, 35, none⟩ = some (.int .i64 HH.state) := (J1.hcell (by omega)).trans (by rw [← hc1]; exact hL_fld J1.ok 3)
    have k32 : w3.cell? ⟨g, 32, none⟩ = some (.int .u32 HH.pc) := (J1.hcell (by omega)).trans (by rw [← hc1]; exact hL_fld J1.ok 0)
    have fz := J1.fz
    have HP : Hid (In (w3.setCell ⟨g, 32, none⟩ (.int .u32 X)) base g (HH.go X) Z.m (os ++ Z.out) (ss ++ Z.sto)) := by
      have := (J1.set (by omega) (set_pc J1.ok X) (J1.ok.go hx.out.1 hx.out.2)).inn
      rw [← hc1]
      exact this
    have HQ : Hid (Fr base w (w3.setCell ⟨g, 32, none⟩ (.int .u32 X))) := HF3.out.trans (HI3.out.below ((Ch.refl g w3).setCell _ _))
    clear J1 hc1
    by_cases h0 : HH.state = 0
    · have e1 : Hid (HH.on X = HH.go X) := by unfold Hid Hv.on; rw [if_pos h0]
      rw [h0] at k35
      clear h0
      generalize HH.pc = pc at *
      go_wp2_with fail
      go_end0
      exact ⟨rfl, by rw [e1.out]; exact HP.out, HQ.out⟩
    · have e1 : Hid (HH.on X = HH) := by unfold Hid Hv.on; rw [if_neg h0]
      have b0 : (HH.state == 0) = false := by simp [h0]
      clear h0
      generalize HH.state = st at *
      generalize HH.pc = pc at *
      go_wp2_with fail
      go_end0
      exact ⟨rfl, by rw [e1.out]; exact HI3.out, HF3.out⟩
  | some x =>
    have e0 : Z.h.put rd.toNat (some x) = Z.h.set rd.toNat x := rfl
    rw [e0]
    clear e0
    have S : Hid (∀ w2, In w2 base g Z.h Z.m (os ++ Z.out) (ss ++ Z.sto) → Calls Tryd.prog 123 #[.pointer (some ⟨g, 0, none⟩), .int .i64 rd, .int .u32 x] w2 fun e w' => e = .returned (.tuple #[]) ∧ In w' base g (Z.h.set rd.toNat x) Z.m (os ++ Z.out) (ss ++ Z.sto) ∧ Ch g w2 w') := fun w2 I2 => set_any I2 rd x d0 d1 hw0.out.1 hw0.out.2
    generalize Z.h.set rd.toNat x = HH at *
    simp only [Option.getD_some, Option.isSome_some] at E
    go_enter Tryd.func105, Tryd.ntmps105
    go_wp2_with fail
    go_quiet (fail)
    go_wp2_with fail
    refine (N.out _ (HI.out.of (((Gr.refl _).alloc _).drewN _))).mono ?_
    rintro e w1 ⟨rfl, G0⟩
    have G1 : Gr w w1 := (((Gr.refl _).alloc _).drewN _).trans G0
    have HB1 : Hid (w1.heap[w.heap.size]? = some (.cells #[.int .i64 op, .int .i64 rd, .int .i64 r1, .int .i64 r2, .int .i32 im] 23 (0, 0))) := (G0.block _ (by simp)).trans (heap_alloc_new w _)
    have HI1 : Hid (In w1 base g h0 l os ss) := HI.out.of G1
    have HF1 : Hid (Fr base w w1) := .ofGr G1 hbl
    have HT1 : Hid (Tb w1 base) := HT.out.of HF1.out
    have q0 : w1.cell? ⟨w.heap.size, 0, none⟩ = some (.int .i64 op) := cell_of_row _ _ _ _ _ _ HB1.out
    clear G0 G1 N k1 k2 hg
    go_wp2_with fail
    refine (E.out _ HI1.out HT1.out).mono ?_
    rintro e w2 ⟨rfl, I2, F2⟩
    have HB2 : Hid (w2.heap[w.heap.size]? = some (.cells #[.int .i64 op, .int .i64 rd, .int .i64 r1, .int .i64 r2, .int .i32 im] 23 (0, 0))) := (F2.keep _ _ _ _ HB1.out (by decide) (by decide) (by decide)).trans HB1.out
    have q1 : w2.cell? ⟨w.heap.size, 1, none⟩ = some (.int .i64 rd) := cell_of_row _ _ _ _ _ _ HB2.out
    have HI2 : Hid (In w2 base g Z.h Z.m (os ++ Z.out) (ss ++ Z.sto)) := I2
    have HF2 : Hid (Fr base w w2) := HF1.out.trans F2
    clear I2 F2 E HB1 HB2 HI1 HF1 HT1 HT HI q0
    go_wp2_with fail
    refine (S.out _ HI2.out).mono ?_
    rintro e w3 ⟨rfl, I3, C3⟩
    have HI3 : Hid (In w3 base g HH Z.m (os ++ Z.out) (ss ++ Z.sto)) := I3
    have HF3 : Hid (Fr base w w3) := HF2.out.trans (HI2.out.below C3)
    clear I3 C3 S HI2 HF2 q1
    obtain ⟨c1, hc1, J1⟩ := HI3.out
    have k35 : w3.cell? ⟨g, 35, none⟩ = some (.int .i64 HH.state) := (J1.hcell (by omega)).trans (by rw [← hc1]; exact hL_fld J1.ok 3)
    have k32 : w3.cell? ⟨g, 32, none⟩ = some (.int .u32 HH.pc) := (J1.hcell (by omega)).trans (by rw [← hc1]; exact hL_fld J1.ok 0)
    have fz := J1.fz
    have HP : Hid (In (w3.setCell ⟨g, 32, none⟩ (.int .u32 X)) base g (HH.go X) Z.m (os ++ Z.out) (ss ++ Z.sto)) := by
      have := (J1.set (by omega) (set_pc J1.ok X) (J1.ok.go hx.out.1 hx.out.2)).inn
      rw [← hc1]
      exact this
    have HQ : Hid (Fr base w (w3.setCell ⟨g, 32, none⟩ (.int .u32 X))) := HF3.out.trans (HI3.out.below ((Ch.refl g w3).setCell _ _))
    clear J1 hc1
    by_cases h0 : HH.state = 0
    · have e1 : Hid (HH.on X = HH.go X) := by unfold Hid Hv.on; rw [if_pos h0]
      rw [h0] at k35
      clear h0
      generalize HH.pc = pc at *
      go_wp2_with fail
      go_end0
      exact ⟨rfl, by rw [e1.out]; exact HP.out, HQ.out⟩
    · have e1 : Hid (HH.on X = HH) := by unfold Hid Hv.on; rw [if_neg h0]
      have b0 : (HH.state == 0) = false := by simp [h0]
      clear h0
      generalize HH.state = st at *
      generalize HH.pc = pc at *
      go_wp2_with fail
      go_end0
      exact ⟨rfl, by rw [e1.out]; exact HI3.out, HF3.out⟩
end Go.Proofs.YtdiofidmlgliiaaDoor.Hc
