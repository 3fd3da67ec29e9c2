/-
  What the method Step of package hart's core does: one step ('stp'), of every hart and memory.
-/
import Derived.Test.YtjooaobmbndkfaaDoorHm5
namespace Go.Proofs.YtjooaobmbndkfaaDoor.Hc
open Go.ChangeShapes Go.WideShapes Go.ChangeAt Go.RowKit Mm Hh
set_option linter.unusedVariables false
set_option linter.unusedSimpArgs false

/-- All tables that a step reads hold what their initialisers lay. -/
structure TT (w : World) (base : Nat) : Prop where
  tab : Dw.Tab w
  tb : Tb w base
  b1 : 0 < base
  b2 : 1 < base
theorem TT.of {w w' : World} {base : Nat} (T : TT w base) (h : Fr base w w') : TT w' base :=
  ⟨⟨fun i n e => (Below.cell h.below (by exact T.b1)).trans (T.tab.shapes i n e), fun i n e => (Below.cell h.below (by exact T.b2)).trans (T.tab.uppers i n e)⟩, T.tb.of h, T.b1, T.b2⟩
theorem rd_bd (f x : Int) : 0 ≤ Dc.rdF f x ∧ Dc.rdF f x < 32 := by unfold Dc.rdF; split <;> omega
theorem r1_bd (f x : Int) : 0 ≤ Dc.rs1F f x ∧ Dc.rs1F f x < 32 := by unfold Dc.rs1F; split <;> omega
theorem r2_bd (f x : Int) : 0 ≤ Dc.rs2F f x ∧ Dc.rs2F f x < 32 := by unfold Dc.rs2F; split <;> omega
theorem imm_bd {v : Int} (f : Int) (h0 : 0 ≤ v) (h1 : v < 4294967296) : -2147483648 ≤ Dc.immF f v ∧ Dc.immF f v < 2147483648 := by
  unfold Dc.immF Wd.sg Dc.sgn
  repeat' split
  all_goals omega
theorem ret_eq {v v' : Value} (h : v = v') : Ending.returned v = .returned v' := by rw [h]

set_option maxHeartbeats 1000000 in
theorem Step_any {w : World} {base g : Nat} {h : Hv} {l : List UInt8} {os : List Int} {ss : List (Int × Int)} (I : In w base g h l os ss) (T : TT w base) (hl : l.length ≤ 140737488351232) (hss : ss.length ≤ 1000000) (hos : os.length ≤ 1000000) :
    Calls Tryd.prog 36 #[.pointer (some ⟨g, 0, none⟩)] w fun e w' => e = .returned (.tuple #[]) ∧ In w' base g (stp h l).h (stp h l).m (os ++ (stp h l).out) (ss ++ (stp h l).sto) ∧ Fr base w w' := by
  have Tr : Hid (∀ W, In W base g h l os ss → ∀ c, Calls Tryd.prog 60 #[.pointer (some ⟨g, 0, none⟩), .int .i64 c] W fun e w' => e = .returned (.tuple #[]) ∧ In w' base g (h.trap c) l os ss ∧ Ch g W w') := fun W I c => trap_any I c
  have HI : Hid (In w base g h l os ss) := I
  have HT : Hid (TT w base) := T
  obtain ⟨c0, rfl, J⟩ := I
  obtain ⟨ao, cap, hm, M⟩ := J.mem.mem
  have k37 : w.cell? ⟨g, 37, none⟩ = some (.slice ao l.length cap) := (J.fcell 0).trans (by rw [hm]; rfl)
  have k32 : w.cell? ⟨g, 32, none⟩ = some (.int .u32 c0.h.pc) := (J.hcell (by omega)).trans (hL_fld J.ok 0)
  have hbl : base ≤ w.heap.size := J.base_le
  have L : Hid (∀ W : World, Gr w W → Calls Tryd.prog 59 #[.slice ao l.length cap, .int .i64 13, .int .u32 c0.h.pc] W fun e w' => e = .returned (.tuple #[.int .u32 (ldV l 13 c0.h.pc), .bool (ldOk l 13 c0.h.pc)]) ∧ w' = W) := fun W G => Mm.Load_any cap 13 c0.h.pc (M.of G) hl J.ok.pc0 J.ok.pc1
  have wx := W.ldV l 13 c0.h.pc
  have D : Hid (∀ W : World, TT W base → Calls Tryd.prog 10 #[.int .u32 (ldV l 13 c0.h.pc)] W fun e w' => e = .returned (.tuple #[Dw.decV (ldV l 13 c0.h.pc), .bool (Dw.decOk (ldV l 13 c0.h.pc))]) ∧ Gr W w') := fun W T => (Dw.Decode_any _ W T.tab wx.1 wx.2).mono fun e w' h => ⟨h.1, h.2.1⟩
  have HW : Hid (W (ldV l 13 c0.h.pc)) := wx
  have HS : Hid (stp c0.h l = if ldOk l 13 c0.h.pc = true then insW c0.h l (ldV l 13 c0.h.pc) else ⟨c0.h.trap 1, l, [], []⟩) := rfl
  rw [HS.out]
  generalize ldV l 13 c0.h.pc = x at *
  generalize ldOk l 13 c0.h.pc = B at *
  generalize c0.h.pc = pc at *
  generalize c0.h = h at *
  clear HS J M hm T wx
  cases B with
  | false =>
    rw [if_neg (by simp), List.append_nil, List.append_nil]
    clear D HT
    go_enter Tryd.func36, Tryd.ntmps36
    go_wp2_with fail
    go_quiet ((go_at_call 59; exact Calls.quiet_of_same (L.out _ (by repeat (first | exact Gr.refl _ | refine Gr.drewN ?_ _)))))
    go_wp2_with fail
    refine (Tr.out _ (HI.out.of ((Gr.refl _).drewN _)) 1).mono ?_
    rintro e w1 ⟨rfl, I1, C1⟩
    have HI1 : Hid (In w1 base g (h.trap 1) l os ss) := I1
    have HF1 : Hid (Fr base w w1) := (Fr.ofGr ((Gr.refl _).drewN _) hbl).trans ((HI.out.of ((Gr.refl _).drewN _)).below C1)
    clear I1 C1 Tr L HI k37 k32
    go_wp2_with fail
    refine bodyPost_ret (results_none Tryd.results36 _ _ _) rfl ?_
    exact ⟨rfl, HI1.out, HF1.out⟩
  | true =>
    rw [if_pos rfl]
    by_cases hd : Dc.dop x = 0
    · have HS : Hid (insW h l x = ⟨h.trap 2, l, [], []⟩) := if_pos hd
      obtain ⟨d1, d2⟩ := Dw.dec_none hd
      rw [HS.out, List.append_nil, List.append_nil]
      rw [d1, d2] at D
      unfold Dw.insV at D
      have D2 : Hid (∀ W : World, TT W base → Calls Tryd.prog 10 #[.int .u32 x] W fun e w' => e = .returned (.tuple #[.agg #[.int .i64 0, .int .i64 0, .int .i64 0, .int .i64 0, .int .i32 0], .bool false]) ∧ Gr W w') := D
      clear D d1 d2 hd HS
      go_enter Tryd.func36, Tryd.ntmps36
      go_wp2_with fail
      go_quiet ((go_at_call 59; exact Calls.quiet_of_same (L.out _ (by repeat (first | exact Gr.refl _ | refine Gr.drewN ?_ _)))))
      go_wp2_with fail
      refine (D2.out _ (HT.out.of (Fr.ofGr ((Gr.refl _).drewN _) hbl))).mono ?_
      rintro e w1 ⟨rfl, G1⟩
      have G2 : Gr w w1 := ((Gr.refl _).drewN _).trans G1
      have HI1 : Hid (In w1 base g h l os ss) := HI.out.of G2
      have HF1 : Hid (Fr base w w1) := Fr.ofGr G2 hbl
      clear G1 G2 D2 L HI k37 k32 HT
      go_wp2_with fail
      refine (Tr.out _ (HI1.out.of ((Gr.refl _).alloc _)) 2).mono ?_
      rintro e w2 ⟨rfl, I2, C2⟩
      have HI2 : Hid (In w2 base g (h.trap 2) l os ss) := I2
      have HF2 : Hid (Fr base w w2) := (HF1.out.alloc hbl _).trans ((HI1.out.of ((Gr.refl _).alloc _)).below C2)
      clear I2 C2 Tr HI1 HF1
      go_wp2_with fail
      refine bodyPost_ret (results_none Tryd.results36 _ _ _) rfl ?_
      exact ⟨rfl, HI2.out, HF2.out⟩
    · have HS : Hid (insW h l x = ins h l (Dc.dop x) (Dc.rdF (Dc.frm (Dc.dop x)) x) (Dc.rs1F (Dc.frm (Dc.dop x)) x) (Dc.rs2F (Dc.frm (Dc.dop x)) x) (Dc.immF (Dc.frm (Dc.dop x)) x)) := if_neg hd
      have d2 : Dw.decOk x = true := by unfold Dw.decOk; simp [hd]
      have Do : Hid (∀ W, In W base g h l os ss → Tb W base → Calls Tryd.prog 61 #[.pointer (some ⟨g, 0, none⟩), .agg #[.int .i64 (Dc.dop x), .int .i64 (Dc.rdF (Dc.frm (Dc.dop x)) x), .int .i64 (Dc.rs1F (Dc.frm (Dc.dop x)) x), .int .i64 (Dc.rs2F (Dc.frm (Dc.dop x)) x), .int .i32 (Dc.immF (Dc.frm (Dc.dop x)) x)]] W fun e w' => e = .returned (.tuple #[]) ∧ In w' base g (insW h l x).h (insW h l x).m (os ++ (insW h l x).out) (ss ++ (insW h l x).sto) ∧ Fr base W w') := fun W I1 T1 => by
        rw [HS.out]
        have ib := imm_bd (Dc.frm (Dc.dop x)) HW.out.1 HW.out.2
        exact do_any I1 T1 hl hss hos _ _ _ _ _ (rd_bd _ _).1 (rd_bd _ _).2 (r1_bd _ _).1 (r1_bd _ _).2 (r2_bd _ _).1 (r2_bd _ _).2 ib.1 (by omega)
      rw [d2] at D
      unfold Dw.decV Dw.insV at D
      generalize insW h l x = Z at *
      generalize Dc.rdF (Dc.frm (Dc.dop x)) x = x1 at *
      generalize Dc.rs1F (Dc.frm (Dc.dop x)) x = x2 at *
      generalize Dc.rs2F (Dc.frm (Dc.dop x)) x = x3 at *
      generalize Dc.immF (Dc.frm (Dc.dop x)) x = x4 at *
      generalize Dc.dop x = x0 at *
      have D2 : Hid (∀ W : World, TT W base → Calls Tryd.prog 10 #[.int .u32 x] W fun e w' => e = .returned (.tuple #[.agg #[.int .i64 x0, .int .i64 x1, .int .i64 x2, .int .i64 x3, .int .i32 x4], .bool true]) ∧ Gr W w') := D
      clear D d2 hd HS
      go_enter Tryd.func36, Tryd.ntmps36
      go_wp2_with fail
      go_quiet ((go_at_call 59; exact Calls.quiet_of_same (L.out _ (by repeat (first | exact Gr.refl _ | refine Gr.drewN ?_ _)))))
      go_wp2_with fail
      refine (D2.out _ (HT.out.of (Fr.ofGr ((Gr.refl _).drewN _) hbl))).mono ?_
      rintro e w1 ⟨rfl, G1⟩
      have G2 : Gr w w1 := ((Gr.refl _).drewN _).trans G1
      have HI1 : Hid (In w1 base g h l os ss) := HI.out.of G2
      have HF1 : Hid (Fr base w w1) := Fr.ofGr G2 hbl
      have HT1 : Hid (TT w1 base) := HT.out.of HF1.out
      have hb1 : base ≤ w1.heap.size := Nat.le_trans hbl G2.size
      clear G1 G2 D2 L HI k37 k32 HT Tr
      go_wp2_with fail
      refine (Do.out _ (HI1.out.of ((Gr.refl _).alloc _)) (HT1.out.of (Fr.ofGr ((Gr.refl _).alloc _) hb1)).tb).mono ?_
      rintro e w2 ⟨rfl, I2, C2⟩
      have HI2 : Hid (In w2 base g Z.h Z.m (os ++ Z.out) (ss ++ Z.sto)) := I2
      have HF2 : Hid (Fr base w w2) := (HF1.out.alloc hbl _).trans C2
      clear I2 C2 Do HI1 HF1 HT1
      go_wp2_with fail
      go_end0
      exact ⟨rfl, HI2.out, HF2.out⟩
end Go.Proofs.YtjooaobmbndkfaaDoor.Hc
