/-
  Hm4, Hm5, Bk, Hf: texts of ours that lie in one file.
-/
import Derived.Test.YtchllaeembmioaaGreatDoorR15
import Derived.Test.YtchllaeembmioaaGreatDoorR12
import Derived.Test.YtchllaeembmioaaGreatDoorR08
import Derived.Test.YtchllaeembmioaaGreatDoorR03
set_option linter.unusedVariables false
set_option linter.unusedSimpArgs false
set_option maxHeartbeats 8000000
set_option maxRecDepth 100000
namespace Go.Proofs.YtchllaeembmioaaGreatDoor.Hc
open Go.ChangeShapes Go.WideShapes Go.ChangeAt Go.RowKit Mm Hh

theorem within_yes (n a b : Int) (w : World) (h : a ≤ n ∧ n ≤ b) : Calls Tryz.prog 90 #[.int .i64 n, .int .i64 a, .int .i64 b] w fun e w' => e = .returned (.bool true) ∧ w = w' := by
  have := within_any n a b w
  rw [show (decide (a ≤ n) && decide (n ≤ b)) = true by simp; omega] at this
  exact this.mono fun e w' h => ⟨h.1, h.2.symm⟩
theorem within_no (n a b : Int) (w : World) (h : ¬ (a ≤ n ∧ n ≤ b)) : Calls Tryz.prog 90 #[.int .i64 n, .int .i64 a, .int .i64 b] w fun e w' => e = .returned (.bool false) ∧ w = w' := by
  have := within_any n a b w
  rw [show (decide (a ≤ n) && decide (n ≤ b)) = false by simp; omega] at this
  exact this.mono fun e w' h => ⟨h.1, h.2.symm⟩
theorem oper_cell {w : World} {base : Nat} (T : Tb w base) (op : Int) (h0 : 19 ≤ op) (h1 : op ≤ 27) : w.cell? ⟨1, op.toNat, none⟩ = some (.int .i64 (opn op)) := by
  have h : op = 19 ∨ op = 20 ∨ op = 21 ∨ op = 22 ∨ op = 23 ∨ op = 24 ∨ op = 25 ∨ op = 26 ∨ op = 27 := by omega
  rcases h with rfl | rfl | rfl | rfl | rfl | rfl | rfl | rfl | rfl
  · exact T.opers 19 _ rfl
  · exact T.opers 20 _ rfl
  · exact T.opers 21 _ rfl
  · exact T.opers 22 _ rfl
  · exact T.opers 23 _ rfl
  · exact T.opers 24 _ rfl
  · exact T.opers 25 _ rfl
  · exact T.opers 26 _ rfl
  · exact T.opers 27 _ rfl
theorem eff_1 {w : World} {base g : Nat} {h : Hv} {l : List UInt8} {os : List Int} {ss : List (Int × Int)} (I : In w base g h l os ss) (T : Tb w base) (hl : l.length ≤ 140737488351232) (hss : ss.length ≤ 1000000) (hos : os.length ≤ 1000000) (op a b n : Int) (ha : W a) (hb : W b) (hn : W n) (ho : op = 1) :
    Calls Tryz.prog 88 #[.pointer (some ⟨g, 0, none⟩), .int .i64 op, .int .u32 a, .int .u32 b, .int .u32 n] w fun e w' => e = .returned (ret2 (⟨h, l, [], [], some n⟩ : Ev).res) ∧ In w' base g (⟨h, l, [], [], some n⟩ : Ev).h (⟨h, l, [], [], some n⟩ : Ev).m (os ++ (⟨h, l, [], [], some n⟩ : Ev).out) (ss ++ (⟨h, l, [], [], some n⟩ : Ev).sto) ∧ Fr base w w' := by
  have HI : Hid (In w base g h l (os ++ []) (ss ++ [])) := by unfold Hid; simpa using I
  subst ho
  clear I T
  go_enter Tryz.func88, Tryz.ntmps88
  go_wp2_with (go_at_call 90; first | (refine (within_yes _ _ _ _ (by omega)).mono ?_; rintro e w' ⟨rfl, rfl⟩) | (refine (within_no _ _ _ _ (by omega)).mono ?_; rintro e w' ⟨rfl, rfl⟩))
  unfold ret2
  go_ret2
  exact ⟨rfl, HI.out, Fr.refl _ _⟩

theorem eff_2 {w : World} {base g : Nat} {h : Hv} {l : List UInt8} {os : List Int} {ss : List (Int × Int)} (I : In w base g h l os ss) (T : Tb w base) (hl : l.length ≤ 140737488351232) (hss : ss.length ≤ 1000000) (hos : os.length ≤ 1000000) (op a b n : Int) (ha : W a) (hb : W b) (hn : W n) (ho : op = 2) :
    Calls Tryz.prog 88 #[.pointer (some ⟨g, 0, none⟩), .int .i64 op, .int .u32 a, .int .u32 b, .int .u32 n] w fun e w' => e = .returned (ret2 (⟨h, l, [], [], some (Wd.lo (h.pc + n))⟩ : Ev).res) ∧ In w' base g (⟨h, l, [], [], some (Wd.lo (h.pc + n))⟩ : Ev).h (⟨h, l, [], [], some (Wd.lo (h.pc + n))⟩ : Ev).m (os ++ (⟨h, l, [], [], some (Wd.lo (h.pc + n))⟩ : Ev).out) (ss ++ (⟨h, l, [], [], some (Wd.lo (h.pc + n))⟩ : Ev).sto) ∧ Fr base w w' := by
  have HI : Hid (In w base g h l (os ++ []) (ss ++ [])) := by unfold Hid; simpa using I
  have HI0 : Hid (In w base g h l os ss) := I
  obtain ⟨c0, rfl, J⟩ := HI0.out
  have k32 : w.cell? ⟨g, 32, none⟩ = some (.int .u32 c0.h.pc) := (J.hcell (by omega)).trans (hL_fld J.ok 0)
  have p0 := J.ok.pc0
  have p1 := J.ok.pc1
  clear HI0 J
  subst ho
  clear I T
  go_enter Tryz.func88, Tryz.ntmps88
  go_wp2_with (go_at_call 90; first | (refine (within_yes _ _ _ _ (by omega)).mono ?_; rintro e w' ⟨rfl, rfl⟩) | (refine (within_no _ _ _ _ (by omega)).mono ?_; rintro e w' ⟨rfl, rfl⟩))
  unfold ret2
  go_ret2
  exact ⟨rfl, HI.out, Fr.refl _ _⟩

theorem eff_3 {w : World} {base g : Nat} {h : Hv} {l : List UInt8} {os : List Int} {ss : List (Int × Int)} (I : In w base g h l os ss) (T : Tb w base) (hl : l.length ≤ 140737488351232) (hss : ss.length ≤ 1000000) (hos : os.length ≤ 1000000) (op a b n : Int) (ha : W a) (hb : W b) (hn : W n) (ho : op = 3) :
    Calls Tryz.prog 88 #[.pointer (some ⟨g, 0, none⟩), .int .i64 op, .int .u32 a, .int .u32 b, .int .u32 n] w fun e w' => e = .returned (ret2 (⟨h, l, [], [], some (Wd.lo (h.pc + 4))⟩ : Ev).res) ∧ In w' base g (⟨h, l, [], [], some (Wd.lo (h.pc + 4))⟩ : Ev).h (⟨h, l, [], [], some (Wd.lo (h.pc + 4))⟩ : Ev).m (os ++ (⟨h, l, [], [], some (Wd.lo (h.pc + 4))⟩ : Ev).out) (ss ++ (⟨h, l, [], [], some (Wd.lo (h.pc + 4))⟩ : Ev).sto) ∧ Fr base w w' := by
  have HI : Hid (In w base g h l (os ++ []) (ss ++ [])) := by unfold Hid; simpa using I
  have HI0 : Hid (In w base g h l os ss) := I
  obtain ⟨c0, rfl, J⟩ := HI0.out
  have k32 : w.cell? ⟨g, 32, none⟩ = some (.int .u32 c0.h.pc) := (J.hcell (by omega)).trans (hL_fld J.ok 0)
  have p0 := J.ok.pc0
  have p1 := J.ok.pc1
  clear HI0 J
  subst ho
  clear I T
  go_enter Tryz.func88, Tryz.ntmps88
  go_wp2_with (go_at_call 90; first | (refine (within_yes _ _ _ _ (by omega)).mono ?_; rintro e w' ⟨rfl, rfl⟩) | (refine (within_no _ _ _ _ (by omega)).mono ?_; rintro e w' ⟨rfl, rfl⟩))
  unfold ret2
  go_ret2
  exact ⟨rfl, HI.out, Fr.refl _ _⟩

theorem eff_4 {w : World} {base g : Nat} {h : Hv} {l : List UInt8} {os : List Int} {ss : List (Int × Int)} (I : In w base g h l os ss) (T : Tb w base) (hl : l.length ≤ 140737488351232) (hss : ss.length ≤ 1000000) (hos : os.length ≤ 1000000) (op a b n : Int) (ha : W a) (hb : W b) (hn : W n) (ho : op = 4) :
    Calls Tryz.prog 88 #[.pointer (some ⟨g, 0, none⟩), .int .i64 op, .int .u32 a, .int .u32 b, .int .u32 n] w fun e w' => e = .returned (ret2 (⟨h, l, [], [], some (Wd.lo (h.pc + 4))⟩ : Ev).res) ∧ In w' base g (⟨h, l, [], [], some (Wd.lo (h.pc + 4))⟩ : Ev).h (⟨h, l, [], [], some (Wd.lo (h.pc + 4))⟩ : Ev).m (os ++ (⟨h, l, [], [], some (Wd.lo (h.pc + 4))⟩ : Ev).out) (ss ++ (⟨h, l, [], [], some (Wd.lo (h.pc + 4))⟩ : Ev).sto) ∧ Fr base w w' := by
  have HI : Hid (In w base g h l (os ++ []) (ss ++ [])) := by unfold Hid; simpa using I
  have HI0 : Hid (In w base g h l os ss) := I
  obtain ⟨c0, rfl, J⟩ := HI0.out
  have k32 : w.cell? ⟨g, 32, none⟩ = some (.int .u32 c0.h.pc) := (J.hcell (by omega)).trans (hL_fld J.ok 0)
  have p0 := J.ok.pc0
  have p1 := J.ok.pc1
  clear HI0 J
  subst ho
  clear I T
  go_enter Tryz.func88, Tryz.ntmps88
  go_wp2_with (go_at_call 90; first | (refine (within_yes _ _ _ _ (by omega)).mono ?_; rintro e w' ⟨rfl, rfl⟩) | (refine (within_no _ _ _ _ (by omega)).mono ?_; rintro e w' ⟨rfl, rfl⟩))
  unfold ret2
  go_ret2
  exact ⟨rfl, HI.out, Fr.refl _ _⟩

theorem eff_none {w : World} {base g : Nat} {h : Hv} {l : List UInt8} {os : List Int} {ss : List (Int × Int)} (I : In w base g h l os ss) (T : Tb w base) (hl : l.length ≤ 140737488351232) (hss : ss.length ≤ 1000000) (hos : os.length ≤ 1000000) (op a b n : Int) (ha : W a) (hb : W b) (hn : W n) (ho : op ≤ 0 ∨ 5 ≤ op ∧ op ≤ 10 ∨ op = 57 ∨ 60 ≤ op) :
    Calls Tryz.prog 88 #[.pointer (some ⟨g, 0, none⟩), .int .i64 op, .int .u32 a, .int .u32 b, .int .u32 n] w fun e w' => e = .returned (ret2 (⟨h, l, [], [], none⟩ : Ev).res) ∧ In w' base g (⟨h, l, [], [], none⟩ : Ev).h (⟨h, l, [], [], none⟩ : Ev).m (os ++ (⟨h, l, [], [], none⟩ : Ev).out) (ss ++ (⟨h, l, [], [], none⟩ : Ev).sto) ∧ Fr base w w' := by
  have HI : Hid (In w base g h l (os ++ []) (ss ++ [])) := by unfold Hid; simpa using I
  have b1 : (op == 1) = false := by simp; omega
  have b2 : (op == 2) = false := by simp; omega
  have b3 : (op == 3) = false := by simp; omega
  have b4 : (op == 4) = false := by simp; omega
  have b58 : (op == 58) = false := by simp; omega
  have b59 : (op == 59) = false := by simp; omega
  clear I T
  go_enter Tryz.func88, Tryz.ntmps88
  go_wp2_with (go_at_call 90; first | (refine (within_yes _ _ _ _ (by omega)).mono ?_; rintro e w' ⟨rfl, rfl⟩) | (refine (within_no _ _ _ _ (by omega)).mono ?_; rintro e w' ⟨rfl, rfl⟩))
  unfold ret2
  go_ret2
  exact ⟨rfl, HI.out, Fr.refl _ _⟩

theorem eff_load {w : World} {base g : Nat} {h : Hv} {l : List UInt8} {os : List Int} {ss : List (Int × Int)} (I : In w base g h l os ss) (T : Tb w base) (hl : l.length ≤ 140737488351232) (hss : ss.length ≤ 1000000) (hos : os.length ≤ 1000000) (op a b n : Int) (ha : W a) (hb : W b) (hn : W n) (ho : 11 ≤ op ∧ op ≤ 15) :
    Calls Tryz.prog 88 #[.pointer (some ⟨g, 0, none⟩), .int .i64 op, .int .u32 a, .int .u32 b, .int .u32 n] w fun e w' => e = .returned (ret2 (efLoad h l op (Wd.lo (a + n))).res) ∧ In w' base g (efLoad h l op (Wd.lo (a + n))).h (efLoad h l op (Wd.lo (a + n))).m (os ++ (efLoad h l op (Wd.lo (a + n))).out) (ss ++ (efLoad h l op (Wd.lo (a + n))).sto) ∧ Fr base w w' := by
  have HI : Hid (In w base g h l os ss) := I
  have L := Load_any I hl op (Wd.lo (a + n)) (Wd.lo_bd _).1 (Wd.lo_bd _).2
  have e : (efLoad h l op (Wd.lo (a + n))).res.getD 0 = ldV l op (Wd.lo (a + n)) ∧ (efLoad h l op (Wd.lo (a + n))).res.isSome = ldOk l op (Wd.lo (a + n)) ∧ (efLoad h l op (Wd.lo (a + n))).h = (if ldOk l op (Wd.lo (a + n)) = true then h else h.trap 3) ∧ (efLoad h l op (Wd.lo (a + n))).m = l ∧ (efLoad h l op (Wd.lo (a + n))).out = [] ∧ (efLoad h l op (Wd.lo (a + n))).sto = [] := by
    unfold efLoad
    cases ok : ldOk l op (Wd.lo (a + n)) with
    | false => refine ⟨?_, by simp, by simp, by simp, by simp, by simp⟩; unfold ldV; simp [ok]
    | true => simp
  obtain ⟨e1, e2, e3, e4, e5, e6⟩ := e
  unfold ret2
  rw [e1, e2, e3, e4, e5, e6, List.append_nil, List.append_nil]
  generalize ldV l op (Wd.lo (a + n)) = X at *
  generalize ldOk l op (Wd.lo (a + n)) = B at *
  generalize (if B = true then h else h.trap 3) = h' at *
  have L2 : Hid (Calls Tryz.prog 110 #[.pointer (some ⟨g, 0, none⟩), .int .i64 op, .int .u32 ((a + n) % 4294967296)] w fun e w' => e = .returned (.tuple #[.int .u32 X, .bool B]) ∧ In w' base g h' l os ss ∧ Ch g w w') := L
  clear L e1 e2 e3 e4 e5 e6 I T
  unfold W at ha hb hn
  have b1 : (op == 1) = false := by simp; omega
  have b2 : (op == 2) = false := by simp; omega
  have b3 : (op == 3) = false := by simp; omega
  have b4 : (op == 4) = false := by simp; omega
  have b58 : (op == 58) = false := by simp; omega
  have b59 : (op == 59) = false := by simp; omega
  go_enter Tryz.func88, Tryz.ntmps88
  go_wp2_with (go_at_call 90; first | (refine (within_yes _ _ _ _ (by omega)).mono ?_; rintro e w' ⟨rfl, rfl⟩) | (refine (within_no _ _ _ _ (by omega)).mono ?_; rintro e w' ⟨rfl, rfl⟩))
  refine L2.out.mono ?_
  rintro e w' ⟨rfl, I2, C2⟩
  have HI2 : Hid (In w' base g h' l os ss) := I2
  have HC2 : Hid (Ch g w w') := C2
  clear I2 C2 L2
  go_wp2_with fail
  go_ret2
  exact ⟨rfl, HI2.out, HI.out.below HC2.out⟩

theorem eff_store {w : World} {base g : Nat} {h : Hv} {l : List UInt8} {os : List Int} {ss : List (Int × Int)} (I : In w base g h l os ss) (T : Tb w base) (hl : l.length ≤ 140737488351232) (hss : ss.length ≤ 1000000) (hos : os.length ≤ 1000000) (op a b n : Int) (ha : W a) (hb : W b) (hn : W n) (ho : 16 ≤ op ∧ op ≤ 18) :
    Calls Tryz.prog 88 #[.pointer (some ⟨g, 0, none⟩), .int .i64 op, .int .u32 a, .int .u32 b, .int .u32 n] w fun e w' => e = .returned (ret2 (efStore h l op (Wd.lo (a + n)) b).res) ∧ In w' base g (efStore h l op (Wd.lo (a + n)) b).h (efStore h l op (Wd.lo (a + n)) b).m (os ++ (efStore h l op (Wd.lo (a + n)) b).out) (ss ++ (efStore h l op (Wd.lo (a + n)) b).sto) ∧ Fr base w w' := by
  have L := Store_any I T hl hss op (Wd.lo (a + n)) b (Wd.lo_bd _).1 (Wd.lo_bd _).2 hb.1 hb.2
  have e : (efStore h l op (Wd.lo (a + n)) b).res = none ∧ (efStore h l op (Wd.lo (a + n)) b).out = [] := by unfold efStore; split <;> exact ⟨rfl, rfl⟩
  unfold ret2
  rw [e.1, e.2, List.append_nil]
  generalize efStore h l op (Wd.lo (a + n)) b = E at *
  have L2 : Hid (Calls Tryz.prog 111 #[.pointer (some ⟨g, 0, none⟩), .int .i64 op, .int .u32 ((a + n) % 4294967296), .int .u32 b] w fun e w' => e = .returned (.tuple #[]) ∧ In w' base g E.h E.m os (ss ++ E.sto) ∧ Fr base w w') := L
  clear L e I T
  unfold W at ha hb hn
  have b1 : (op == 1) = false := by simp; omega
  have b2 : (op == 2) = false := by simp; omega
  have b3 : (op == 3) = false := by simp; omega
  have b4 : (op == 4) = false := by simp; omega
  have b58 : (op == 58) = false := by simp; omega
  have b59 : (op == 59) = false := by simp; omega
  go_enter Tryz.func88, Tryz.ntmps88
  go_wp2_with (go_at_call 90; first | (refine (within_yes _ _ _ _ (by omega)).mono ?_; rintro e w' ⟨rfl, rfl⟩) | (refine (within_no _ _ _ _ (by omega)).mono ?_; rintro e w' ⟨rfl, rfl⟩))
  refine L2.out.mono ?_
  rintro e w' ⟨rfl, I2, B2⟩
  have HI2 : Hid (In w' base g E.h E.m os (ss ++ E.sto)) := I2
  have HB2 : Hid (Fr base w w') := B2
  clear I2 B2 L2
  go_wp2_with fail
  go_ret2
  exact ⟨rfl, HI2.out, HB2.out⟩

theorem eff_alun {w : World} {base g : Nat} {h : Hv} {l : List UInt8} {os : List Int} {ss : List (Int × Int)} (I : In w base g h l os ss) (T : Tb w base) (hl : l.length ≤ 140737488351232) (hss : ss.length ≤ 1000000) (hos : os.length ≤ 1000000) (op a b n : Int) (ha : W a) (hb : W b) (hn : W n) (ho : 19 ≤ op ∧ op ≤ 27) :
    Calls Tryz.prog 88 #[.pointer (some ⟨g, 0, none⟩), .int .i64 op, .int .u32 a, .int .u32 b, .int .u32 n] w fun e w' => e = .returned (ret2 (⟨h, l, [], [], some (Wd.alu (opn op) a n)⟩ : Ev).res) ∧ In w' base g (⟨h, l, [], [], some (Wd.alu (opn op) a n)⟩ : Ev).h (⟨h, l, [], [], some (Wd.alu (opn op) a n)⟩ : Ev).m (os ++ (⟨h, l, [], [], some (Wd.alu (opn op) a n)⟩ : Ev).out) (ss ++ (⟨h, l, [], [], some (Wd.alu (opn op) a n)⟩ : Ev).sto) ∧ Fr base w w' := by
  have HI : Hid (In w base g h l (os ++ []) (ss ++ [])) := by unfold Hid; simpa using I
  have kc := oper_cell T op ho.1 ho.2
  have A : Hid (Calls Tryz.prog 112 #[.int .i64 (opn op), .int .u32 a, .int .u32 n] w fun e w' => e = .returned (.int .u32 (Wd.alu (opn op) a n)) ∧ w' = w) := Ww.alu_any _ a n w ha.1 ha.2 hn.1 hn.2
  clear I T
  unfold W at ha hb hn
  have b1 : (op == 1) = false := by simp; omega
  have b2 : (op == 2) = false := by simp; omega
  have b3 : (op == 3) = false := by simp; omega
  have b4 : (op == 4) = false := by simp; omega
  have b58 : (op == 58) = false := by simp; omega
  have b59 : (op == 59) = false := by simp; omega
  unfold ret2
  generalize Wd.alu (opn op) a n = X at *
  go_enter Tryz.func88, Tryz.ntmps88
  go_wp2_with (go_at_call 90; first | (refine (within_yes _ _ _ _ (by omega)).mono ?_; rintro e w' ⟨rfl, rfl⟩) | (refine (within_no _ _ _ _ (by omega)).mono ?_; rintro e w' ⟨rfl, rfl⟩))
  refine A.out.mono ?_
  rintro e w9 ⟨rfl, hw9⟩
  obtain rfl := hw9.symm
  clear A
  go_wp2_with fail
  go_ret2
  exact ⟨rfl, HI.out, Fr.refl _ _⟩

theorem eff_alu {w : World} {base g : Nat} {h : Hv} {l : List UInt8} {os : List Int} {ss : List (Int × Int)} (I : In w base g h l os ss) (T : Tb w base) (hl : l.length ≤ 140737488351232) (hss : ss.length ≤ 1000000) (hos : os.length ≤ 1000000) (op a b n : Int) (ha : W a) (hb : W b) (hn : W n) (ho : 28 ≤ op ∧ op ≤ 45) :
    Calls Tryz.prog 88 #[.pointer (some ⟨g, 0, none⟩), .int .i64 op, .int .u32 a, .int .u32 b, .int .u32 n] w fun e w' => e = .returned (ret2 (⟨h, l, [], [], some (Wd.alu op a b)⟩ : Ev).res) ∧ In w' base g (⟨h, l, [], [], some (Wd.alu op a b)⟩ : Ev).h (⟨h, l, [], [], some (Wd.alu op a b)⟩ : Ev).m (os ++ (⟨h, l, [], [], some (Wd.alu op a b)⟩ : Ev).out) (ss ++ (⟨h, l, [], [], some (Wd.alu op a b)⟩ : Ev).sto) ∧ Fr base w w' := by
  have HI : Hid (In w base g h l (os ++ []) (ss ++ [])) := by unfold Hid; simpa using I
  have A : Hid (Calls Tryz.prog 112 #[.int .i64 op, .int .u32 a, .int .u32 b] w fun e w' => e = .returned (.int .u32 (Wd.alu op a b)) ∧ w' = w) := Ww.alu_any _ a b w ha.1 ha.2 hb.1 hb.2
  clear I T
  unfold W at ha hb hn
  have b1 : (op == 1) = false := by simp; omega
  have b2 : (op == 2) = false := by simp; omega
  have b3 : (op == 3) = false := by simp; omega
  have b4 : (op == 4) = false := by simp; omega
  have b58 : (op == 58) = false := by simp; omega
  have b59 : (op == 59) = false := by simp; omega
  unfold ret2
  generalize Wd.alu op a b = X at *
  go_enter Tryz.func88, Tryz.ntmps88
  go_wp2_with (go_at_call 90; first | (refine (within_yes _ _ _ _ (by omega)).mono ?_; rintro e w' ⟨rfl, rfl⟩) | (refine (within_no _ _ _ _ (by omega)).mono ?_; rintro e w' ⟨rfl, rfl⟩))
  refine A.out.mono ?_
  rintro e w9 ⟨rfl, hw9⟩
  obtain rfl := hw9.symm
  clear A
  go_wp2_with fail
  go_ret2
  exact ⟨rfl, HI.out, Fr.refl _ _⟩

theorem eff_atom {w : World} {base g : Nat} {h : Hv} {l : List UInt8} {os : List Int} {ss : List (Int × Int)} (I : In w base g h l os ss) (T : Tb w base) (hl : l.length ≤ 140737488351232) (hss : ss.length ≤ 1000000) (hos : os.length ≤ 1000000) (op a b n : Int) (ha : W a) (hb : W b) (hn : W n) (ho : 46 ≤ op ∧ op ≤ 56) :
    Calls Tryz.prog 88 #[.pointer (some ⟨g, 0, none⟩), .int .i64 op, .int .u32 a, .int .u32 b, .int .u32 n] w fun e w' => e = .returned (ret2 (efAtom h l op a b).res) ∧ In w' base g (efAtom h l op a b).h (efAtom h l op a b).m (os ++ (efAtom h l op a b).out) (ss ++ (efAtom h l op a b).sto) ∧ Fr base w w' := by
  have L := Atom_any I T hl hss op a b ha.1 ha.2 hb.1 hb.2
  have e : (efAtom h l op a b).out = [] := by unfold efAtom efLr efSc efAmo; repeat' split
                                              all_goals rfl
  rw [e, List.append_nil]
  unfold ret2 at L ⊢
  generalize efAtom h l op a b = E at *
  have L2 : Hid (Calls Tryz.prog 113 #[.pointer (some ⟨g, 0, none⟩), .int .i64 op, .int .u32 a, .int .u32 b] w fun e w' => e = .returned (.tuple #[.int .u32 (E.res.getD 0), .bool E.res.isSome]) ∧ In w' base g E.h E.m os (ss ++ E.sto) ∧ Fr base w w') := L
  generalize E.res.getD 0 = X at *
  generalize E.res.isSome = Y at *
  clear L e I T
  unfold W at ha hb hn
  have b1 : (op == 1) = false := by simp; omega
  have b2 : (op == 2) = false := by simp; omega
  have b3 : (op == 3) = false := by simp; omega
  have b4 : (op == 4) = false := by simp; omega
  have b58 : (op == 58) = false := by simp; omega
  have b59 : (op == 59) = false := by simp; omega
  go_enter Tryz.func88, Tryz.ntmps88
  go_wp2_with (go_at_call 90; first | (refine (within_yes _ _ _ _ (by omega)).mono ?_; rintro e w' ⟨rfl, rfl⟩) | (refine (within_no _ _ _ _ (by omega)).mono ?_; rintro e w' ⟨rfl, rfl⟩))
  refine L2.out.mono ?_
  rintro e w' ⟨rfl, I2, B2⟩
  have HI2 : Hid (In w' base g E.h E.m os (ss ++ E.sto)) := I2
  have HB2 : Hid (Fr base w w') := B2
  clear I2 B2 L2
  go_wp2_with fail
  go_ret2
  exact ⟨rfl, HI2.out, HB2.out⟩

theorem eff_call {w : World} {base g : Nat} {h : Hv} {l : List UInt8} {os : List Int} {ss : List (Int × Int)} (I : In w base g h l os ss) (T : Tb w base) (hl : l.length ≤ 140737488351232) (hss : ss.length ≤ 1000000) (hos : os.length ≤ 1000000) (op a b n : Int) (ha : W a) (hb : W b) (hn : W n) (ho : op = 58) :
    Calls Tryz.prog 88 #[.pointer (some ⟨g, 0, none⟩), .int .i64 op, .int .u32 a, .int .u32 b, .int .u32 n] w fun e w' => e = .returned (ret2 (efCall h l).res) ∧ In w' base g (efCall h l).h (efCall h l).m (os ++ (efCall h l).out) (ss ++ (efCall h l).sto) ∧ Fr base w w' := by
  have L := Call_any I hos
  have e : (efCall h l).res = none ∧ (efCall h l).sto = [] ∧ (efCall h l).m = l := by unfold efCall; repeat' split
                                                                                      all_goals exact ⟨rfl, rfl, rfl⟩
  unfold ret2
  rw [e.1, e.2.1, e.2.2, List.append_nil]
  generalize efCall h l = E at *
  have L2 : Hid (Calls Tryz.prog 114 #[.pointer (some ⟨g, 0, none⟩)] w fun e w' => e = .returned (.tuple #[]) ∧ In w' base g E.h l (os ++ E.out) ss ∧ Fr base w w') := L
  clear L e I T
  subst ho
  unfold W at ha hb hn
  go_enter Tryz.func88, Tryz.ntmps88
  go_wp2_with (go_at_call 90; first | (refine (within_yes _ _ _ _ (by omega)).mono ?_; rintro e w' ⟨rfl, rfl⟩) | (refine (within_no _ _ _ _ (by omega)).mono ?_; rintro e w' ⟨rfl, rfl⟩))
  refine L2.out.mono ?_
  rintro e w' ⟨rfl, I2, B2⟩
  have HI2 : Hid (In w' base g E.h l (os ++ E.out) ss) := I2
  have HB2 : Hid (Fr base w w') := B2
  clear I2 B2 L2
  go_wp2_with fail
  go_ret2
  exact ⟨rfl, HI2.out, HB2.out⟩

theorem eff_break {w : World} {base g : Nat} {h : Hv} {l : List UInt8} {os : List Int} {ss : List (Int × Int)} (I : In w base g h l os ss) (T : Tb w base) (hl : l.length ≤ 140737488351232) (hss : ss.length ≤ 1000000) (hos : os.length ≤ 1000000) (op a b n : Int) (ha : W a) (hb : W b) (hn : W n) (ho : op = 59) :
    Calls Tryz.prog 88 #[.pointer (some ⟨g, 0, none⟩), .int .i64 op, .int .u32 a, .int .u32 b, .int .u32 n] w fun e w' => e = .returned (ret2 (⟨h.trap 6, l, [], [], none⟩ : Ev).res) ∧ In w' base g (⟨h.trap 6, l, [], [], none⟩ : Ev).h (⟨h.trap 6, l, [], [], none⟩ : Ev).m (os ++ (⟨h.trap 6, l, [], [], none⟩ : Ev).out) (ss ++ (⟨h.trap 6, l, [], [], none⟩ : Ev).sto) ∧ Fr base w w' := by
  have HI : Hid (In w base g h l os ss) := I
  have L2 : Hid (Calls Tryz.prog 67 #[.pointer (some ⟨g, 0, none⟩), .int .i64 6] w fun e w' => e = .returned (.tuple #[]) ∧ In w' base g (h.trap 6) l os ss ∧ Ch g w w') := trap_any I 6
  unfold ret2
  rw [List.append_nil, List.append_nil]
  clear I T
  subst ho
  unfold W at ha hb hn
  go_enter Tryz.func88, Tryz.ntmps88
  go_wp2_with (go_at_call 90; first | (refine (within_yes _ _ _ _ (by omega)).mono ?_; rintro e w' ⟨rfl, rfl⟩) | (refine (within_no _ _ _ _ (by omega)).mono ?_; rintro e w' ⟨rfl, rfl⟩))
  refine L2.out.mono ?_
  rintro e w' ⟨rfl, I2, B2⟩
  have HI2 : Hid (In w' base g (h.trap 6) l os ss) := I2
  have HB2 : Hid (Ch g w w') := B2
  clear I2 B2 L2
  go_wp2_with fail
  go_ret2
  exact ⟨rfl, HI2.out, HI.out.below HB2.out⟩

theorem effect_any {w : World} {base g : Nat} {h : Hv} {l : List UInt8} {os : List Int} {ss : List (Int × Int)} (I : In w base g h l os ss) (T : Tb w base) (hl : l.length ≤ 140737488351232) (hss : ss.length ≤ 1000000) (hos : os.length ≤ 1000000) (op a b n : Int) (ha : W a) (hb : W b) (hn : W n) :
    Calls Tryz.prog 88 #[.pointer (some ⟨g, 0, none⟩), .int .i64 op, .int .u32 a, .int .u32 b, .int .u32 n] w fun e w' => e = .returned (ret2 (eff h l op a b n).res) ∧ In w' base g (eff h l op a b n).h (eff h l op a b n).m (os ++ (eff h l op a b n).out) (ss ++ (eff h l op a b n).sto) ∧ Fr base w w' := by
  unfold eff
  by_cases h1 : op = 1
  · rw [if_pos h1]; exact eff_1 I T hl hss hos op a b n ha hb hn h1
  rw [if_neg h1]
  by_cases h2 : op = 2
  · rw [if_pos h2]; exact eff_2 I T hl hss hos op a b n ha hb hn h2
  rw [if_neg h2]
  by_cases h3 : op = 3
  · rw [if_pos (.inl h3)]; exact eff_3 I T hl hss hos op a b n ha hb hn h3
  by_cases h4 : op = 4
  · rw [if_pos (.inr h4)]; exact eff_4 I T hl hss hos op a b n ha hb hn h4
  rw [if_neg (by omega)]
  by_cases h5 : 11 ≤ op ∧ op ≤ 15
  · rw [if_pos h5]; exact eff_load I T hl hss hos op a b n ha hb hn h5
  rw [if_neg h5]
  by_cases h6 : 16 ≤ op ∧ op ≤ 18
  · rw [if_pos h6]; exact eff_store I T hl hss hos op a b n ha hb hn h6
  rw [if_neg h6]
  by_cases h7 : 19 ≤ op ∧ op ≤ 27
  · rw [if_pos h7]; exact eff_alun I T hl hss hos op a b n ha hb hn h7
  rw [if_neg h7]
  by_cases h8 : 28 ≤ op ∧ op ≤ 45
  · rw [if_pos h8]; exact eff_alu I T hl hss hos op a b n ha hb hn h8
  rw [if_neg h8]
  by_cases h9 : 46 ≤ op ∧ op ≤ 56
  · rw [if_pos h9]; exact eff_atom I T hl hss hos op a b n ha hb hn h9
  rw [if_neg h9]
  by_cases h10 : op = 58
  · rw [if_pos h10]; exact eff_call I T hl hss hos op a b n ha hb hn h10
  rw [if_neg h10]
  by_cases h11 : op = 59
  · rw [if_pos h11]; exact eff_break I T hl hss hos op a b n ha hb hn h11
  rw [if_neg h11]
  exact eff_none I T hl hss hos op a b n ha hb hn (by omega)
end Go.Proofs.YtchllaeembmioaaGreatDoor.Hc
namespace Go.Proofs.YtchllaeembmioaaGreatDoor.Hc
open Go.ChangeShapes Go.WideShapes Go.ChangeAt Go.RowKit Mm Hh

theorem do_any {w : World} {base g : Nat} {h : Hv} {l : List UInt8} {os : List Int} {ss : List (Int × Int)} (I : In w base g h l os ss) (T : Tb w base) (hl : l.length ≤ 140737488351232) (hss : ss.length ≤ 1000000) (hos : os.length ≤ 1000000) (op rd r1 r2 im : Int) (d0 : 0 ≤ rd) (d1 : rd < 32) (s0 : 0 ≤ r1) (s1 : r1 < 32) (t0 : 0 ≤ r2) (t1 : r2 < 32) (i0 : -2147483648 ≤ im) (i1 : im ≤ 2147483647) :
    Calls Tryz.prog 68 #[.pointer (some ⟨g, 0, none⟩), .agg #[.int .i64 op, .int .i64 rd, .int .i64 r1, .int .i64 r2, .int .i32 im]] w fun e w' => e = .returned (.tuple #[]) ∧ In w' base g (ins h l op rd r1 r2 im).h (ins h l op rd r1 r2 im).m (os ++ (ins h l op rd r1 r2 im).out) (ss ++ (ins h l op rd r1 r2 im).sto) ∧ Fr base w w' := by
  obtain ⟨r1, rfl⟩ := Int.eq_ofNat_of_zero_le s0
  obtain ⟨r2, rfl⟩ := Int.eq_ofNat_of_zero_le t0
  have HI : Hid (In w base g h l os ss) := I
  have HT : Hid (Tb w base) := T
  obtain ⟨c0, rfl, J⟩ := I
  have hr1 : r1 < 32 := by omega
  have hr2 : r2 < 32 := by omega
  have k1 := J.reg hr1
  have k2 := J.reg hr2
  have hg := J.lt
  have hbl : base ≤ w.heap.size := J.base_le
  have wa := W.reg J.ok r1
  have wb := W.reg J.ok r2
  have wn : W (im % 4294967296) := W.lo im
  have HE : Hid (ins c0.h l op rd (r1 : Int) (r2 : Int) im = done (eff c0.h l op (rg c0.h r1) (rg c0.h r2) (im % 4294967296)) rd.toNat (nxt c0.h op (rg c0.h r1) (rg c0.h r2) (im % 4294967296))) := rfl
  have ok : Hid ((eff c0.h l op (rg c0.h r1) (rg c0.h r2) (im % 4294967296)).Ok l) := eff_ok J.ok l wa wb wn
  have hx : Hid (W (nxt c0.h op (rg c0.h r1) (rg c0.h r2) (im % 4294967296))) := .nxt
  have N : Hid (∀ W1, In W1 base g c0.h l os ss → Calls Tryz.prog 87 #[.pointer (some ⟨g, 0, none⟩), .int .i64 op, .int .u32 (rg c0.h r1), .int .u32 (rg c0.h r2), .int .u32 (im % 4294967296)] W1 fun e w' => e = .returned (.int .u32 (nxt c0.h op (rg c0.h r1) (rg c0.h r2) (im % 4294967296))) ∧ Gr W1 w') := fun W1 I1 => (next_any I1 op _ _ _ wa.1 wa.2 wb.1 wb.2 wn.1 wn.2).mono fun e w' h => ⟨h.1, by rw [h.2]; exact Gr.refl _⟩
  have E : Hid (∀ W1, In W1 base g c0.h l os ss → Tb W1 base → Calls Tryz.prog 88 #[.pointer (some ⟨g, 0, none⟩), .int .i64 op, .int .u32 (rg c0.h r1), .int .u32 (rg c0.h r2), .int .u32 (im % 4294967296)] W1 fun e w' => e = .returned (ret2 (eff c0.h l op (rg c0.h r1) (rg c0.h r2) (im % 4294967296)).res) ∧ In w' base g (eff c0.h l op (rg c0.h r1) (rg c0.h r2) (im % 4294967296)).h (eff c0.h l op (rg c0.h r1) (rg c0.h r2) (im % 4294967296)).m (os ++ (eff c0.h l op (rg c0.h r1) (rg c0.h r2) (im % 4294967296)).out) (ss ++ (eff c0.h l op (rg c0.h r1) (rg c0.h r2) (im % 4294967296)).sto) ∧ Fr base W1 w') := fun W1 I1 T1 => effect_any I1 T1 hl hss hos op _ _ _ wa wb wn
  rw [HE.out]
  generalize eff c0.h l op (rg c0.h r1) (rg c0.h r2) (im % 4294967296) = Z at *
  generalize nxt c0.h op (rg c0.h r1) (rg c0.h r2) (im % 4294967296) = X at *
  generalize rg c0.h r1 = xa at *
  generalize rg c0.h r2 = xb at *
  generalize c0.h = h0 at *
  clear J HE wa wb wn T
  unfold done ret2 at *
  simp only at *
  have hw0 : Hid (W (Z.res.getD 0)) := ok.out.res
  clear ok
  generalize Z.res = rr at *
  cases rr with
  | none =>
    have e0 : Z.h.put rd.toNat none = Z.h := rfl
    rw [e0]
    clear e0
    generalize Z.h = HH at *
    go_enter Tryz.func68, Tryz.ntmps68
    go_wp2_with fail
    go_quiet (fail)
    go_wp2_with fail
    refine (N.out _ (HI.out.of (((Gr.refl _).alloc _).drewN _))).mono ?_
    rintro e w1 ⟨rfl, G0⟩
    have G1 : Gr w w1 := (((Gr.refl _).alloc _).drewN _).trans G0
    have HB1 : Hid (w1.heap[w.heap.size]? = some (.cells #[.int .i64 op, .int .i64 rd, .int .i64 r1, .int .i64 r2, .int .i32 im] 77 (0, 0))) := (G0.block _ (by simp)).trans (heap_alloc_new w _)
    have HI1 : Hid (In w1 base g h0 l os ss) := HI.out.of G1
    have HF1 : Hid (Fr base w w1) := .ofGr G1 hbl
    have HT1 : Hid (Tb w1 base) := HT.out.of HF1.out
    have q0 : w1.cell? ⟨w.heap.size, 0, none⟩ = some (.int .i64 op) := cell_of_row _ _ _ _ _ _ HB1.out
    clear G0 G1 N k1 k2 hg
    go_wp2_with fail
    refine (E.out _ HI1.out HT1.out).mono ?_
    rintro e w2 ⟨rfl, I2, F2⟩
    have HB2 : Hid (w2.heap[w.heap.size]? = some (.cells #[.int .i64 op, .int .i64 rd, .int .i64 r1, .int .i64 r2, .int .i32 im] 77 (0, 0))) := (F2.keep _ _ _ _ HB1.out (by decide) (by decide) (by decide)).trans HB1.out
    have q1 : w2.cell? ⟨w.heap.size, 1, none⟩ = some (.int .i64 rd) := cell_of_row _ _ _ _ _ _ HB2.out
    have HI2 : Hid (In w2 base g HH Z.m (os ++ Z.out) (ss ++ Z.sto)) := I2
    have HF2 : Hid (Fr base w w2) := HF1.out.trans F2
    clear I2 F2 E HB1 HB2 HI1 HF1 HT1 HT HI q0
    generalize hw : w2 = w3 at *
    have HI3 : Hid (In w3 base g HH Z.m (os ++ Z.out) (ss ++ Z.sto)) := HI2
    have HF3 : Hid (Fr base w w3) := HF2
    clear hw HI2 HF2 q1
    obtain ⟨c1, hc1, J1⟩ := HI3.out
    have k35 : w3.cell? ⟨g, 35, none⟩ = some (.int .i64 HH.state) := (J1.hcell (by omega)).trans (by rw [← hc1]; exact hL_fld J1.ok 3)
    have k32 : w3.cell? ⟨g, 32, none⟩ = some (.int .u32 HH.pc) := (J1.hcell (by omega)).trans (by rw [← hc1]; exact hL_fld J1.ok 0)
    have fz := J1.fz
    have HP : Hid (In (w3.setCell ⟨g, 32, none⟩ (.int .u32 X)) base g (HH.go X) Z.m (os ++ Z.out) (ss ++ Z.sto)) := by
      have := (J1.set (by omega) (set_pc J1.ok X) (J1.ok.go hx.out.1 hx.out.2)).inn
      rw [← hc1]
      exact this
    have HQ : Hid (Fr base w (w3.setCell ⟨g, 32, none⟩ (.int .u32 X))) := HF3.out.trans (HI3.out.below ((Ch.refl g w3).setCell _ _))
    clear J1 hc1
    by_cases h0 : HH.state = 0
    · have e1 : Hid (HH.on X = HH.go X) := by unfold Hid Hv.on; rw [if_pos h0]
      rw [h0] at k35
      clear h0
      generalize HH.pc = pc at *
      go_wp2_with fail
      go_end0
      exact ⟨rfl, by rw [e1.out]; exact HP.out, HQ.out⟩
    · have e1 : Hid (HH.on X = HH) := by unfold Hid Hv.on; rw [if_neg h0]
      have b0 : (HH.state == 0) = false := by simp [h0]
      clear h0
      generalize HH.state = st at *
      generalize HH.pc = pc at *
      go_wp2_with fail
      go_end0
      exact ⟨rfl, by rw [e1.out]; exact HI3.out, HF3.out⟩
  | some x =>
    have e0 : Z.h.put rd.toNat (some x) = Z.h.set rd.toNat x := rfl
    rw [e0]
    clear e0
    have S : Hid (∀ w2, In w2 base g Z.h Z.m (os ++ Z.out) (ss ++ Z.sto) → Calls Tryz.prog 89 #[.pointer (some ⟨g, 0, none⟩), .int .i64 rd, .int .u32 x] w2 fun e w' => e = .returned (.tuple #[]) ∧ In w' base g (Z.h.set rd.toNat x) Z.m (os ++ Z.out) (ss ++ Z.sto) ∧ Ch g w2 w') := fun w2 I2 => set_any I2 rd x d0 d1 hw0.out.1 hw0.out.2
    generalize Z.h.set rd.toNat x = HH at *
    simp only [Option.getD_some, Option.isSome_some] at E
    go_enter Tryz.func68, Tryz.ntmps68
    go_wp2_with fail
    go_quiet (fail)
    go_wp2_with fail
    refine (N.out _ (HI.out.of (((Gr.refl _).alloc _).drewN _))).mono ?_
    rintro e w1 ⟨rfl, G0⟩
    have G1 : Gr w w1 := (((Gr.refl _).alloc _).drewN _).trans G0
    have HB1 : Hid (w1.heap[w.heap.size]? = some (.cells #[.int .i64 op, .int .i64 rd, .int .i64 r1, .int .i64 r2, .int .i32 im] 77 (0, 0))) := (G0.block _ (by simp)).trans (heap_alloc_new w _)
    have HI1 : Hid (In w1 base g h0 l os ss) := HI.out.of G1
    have HF1 : Hid (Fr base w w1) := .ofGr G1 hbl
    have HT1 : Hid (Tb w1 base) := HT.out.of HF1.out
    have q0 : w1.cell? ⟨w.heap.size, 0, none⟩ = some (.int .i64 op) := cell_of_row _ _ _ _ _ _ HB1.out
    clear G0 G1 N k1 k2 hg
    go_wp2_with fail
    refine (E.out _ HI1.out HT1.out).mono ?_
    rintro e w2 ⟨rfl, I2, F2⟩
    have HB2 : Hid (w2.heap[w.heap.size]? = some (.cells #[.int .i64 op, .int .i64 rd, .int .i64 r1, .int .i64 r2, .int .i32 im] 77 (0, 0))) := (F2.keep _ _ _ _ HB1.out (by decide) (by decide) (by decide)).trans HB1.out
    have q1 : w2.cell? ⟨w.heap.size, 1, none⟩ = some (.int .i64 rd) := cell_of_row _ _ _ _ _ _ HB2.out
    have HI2 : Hid (In w2 base g Z.h Z.m (os ++ Z.out) (ss ++ Z.sto)) := I2
    have HF2 : Hid (Fr base w w2) := HF1.out.trans F2
    clear I2 F2 E HB1 HB2 HI1 HF1 HT1 HT HI q0
    go_wp2_with fail
    refine (S.out _ HI2.out).mono ?_
    rintro e w3 ⟨rfl, I3, C3⟩
    have HI3 : Hid (In w3 base g HH Z.m (os ++ Z.out) (ss ++ Z.sto)) := I3
    have HF3 : Hid (Fr base w w3) := HF2.out.trans (HI2.out.below C3)
    clear I3 C3 S HI2 HF2 q1
    obtain ⟨c1, hc1, J1⟩ := HI3.out
    have k35 : w3.cell? ⟨g, 35, none⟩ = some (.int .i64 HH.state) := (J1.hcell (by omega)).trans (by rw [← hc1]; exact hL_fld J1.ok 3)
    have k32 : w3.cell? ⟨g, 32, none⟩ = some (.int .u32 HH.pc) := (J1.hcell (by omega)).trans (by rw [← hc1]; exact hL_fld J1.ok 0)
    have fz := J1.fz
    have HP : Hid (In (w3.setCell ⟨g, 32, none⟩ (.int .u32 X)) base g (HH.go X) Z.m (os ++ Z.out) (ss ++ Z.sto)) := by
      have := (J1.set (by omega) (set_pc J1.ok X) (J1.ok.go hx.out.1 hx.out.2)).inn
      rw [← hc1]
      exact this
    have HQ : Hid (Fr base w (w3.setCell ⟨g, 32, none⟩ (.int .u32 X))) := HF3.out.trans (HI3.out.below ((Ch.refl g w3).setCell _ _))
    clear J1 hc1
    by_cases h0 : HH.state = 0
    · have e1 : Hid (HH.on X = HH.go X) := by unfold Hid Hv.on; rw [if_pos h0]
      rw [h0] at k35
      clear h0
      generalize HH.pc = pc at *
      go_wp2_with fail
      go_end0
      exact ⟨rfl, by rw [e1.out]; exact HP.out, HQ.out⟩
    · have e1 : Hid (HH.on X = HH) := by unfold Hid Hv.on; rw [if_neg h0]
      have b0 : (HH.state == 0) = false := by simp [h0]
      clear h0
      generalize HH.state = st at *
      generalize HH.pc = pc at *
      go_wp2_with fail
      go_end0
      exact ⟨rfl, by rw [e1.out]; exact HI3.out, HF3.out⟩
end Go.Proofs.YtchllaeembmioaaGreatDoor.Hc
namespace Go.Proofs.YtchllaeembmioaaGreatDoor.Bk
open Go.ChangeShapes Go.WideShapes Go.ChangeAt Go.RowKit Mm Hh

def insC (x : Int) : List Value := [.int .i64 (Dc.dop x), .int .i64 (Dc.rdF (Dc.frm (Dc.dop x)) x), .int .i64 (Dc.rs1F (Dc.frm (Dc.dop x)) x), .int .i64 (Dc.rs2F (Dc.frm (Dc.dop x)) x), .int .i32 (Dc.immF (Dc.frm (Dc.dop x)) x)]
def blC (xs : List Int) : List Value := xs.flatMap insC
theorem blC_snoc (xs : List Int) (x : Int) : blC (xs ++ [x]) = blC xs ++ insC x := by simp [blC]
theorem blC_get : ∀ (xs : List Int) (i j : Nat) (x : Int), xs[i]? = some x → j < 5 → (blC xs)[i * 5 + j]? = (insC x)[j]?
  | [], i, j, x, h, _ => by simp at h
  | p :: r, 0, j, x, h, hj => by
    simp at h; subst h
    show (insC p ++ blC r)[0 * 5 + j]? = _
    rw [Nat.zero_mul, Nat.zero_add, List.getElem?_append_left (by simpa [insC] using hj)]
  | p :: r, i + 1, j, x, h, hj => by
    have ih := blC_get r i j x (by simpa using h) hj
    show (insC p ++ blC r)[(i + 1) * 5 + j]? = _
    rw [List.getElem?_append_right (by simp [insC]; omega)]
    rw [show (i + 1) * 5 + j - (insC p).length = i * 5 + j by simp [insC]; omega]
    exact ih
end Go.Proofs.YtchllaeembmioaaGreatDoor.Bk
namespace Go.Proofs.YtchllaeembmioaaGreatDoor.Hf
open Go.ChangeShapes Go.WideShapes Go.ChangeAt Go.RowKit Mm Hh

theorem five_set {W : World} {g t : Nat} {z0 z1 z2 z3 z4 : Value} (h : W.heap[g]? = some (.cells #[z0, z1, z2, z3, z4] t (0, 0))) (a b c d e : Value) (o : Obj) :
    ((((((W.setCell ⟨g, 0, none⟩ a).setCell ⟨g, 1, none⟩ b).setCell ⟨g, 2, none⟩ c).setCell ⟨g, 3, none⟩ d).setCell ⟨g, 4, none⟩ e).alloc o).heap[g]? = some (.cells #[a, b, c, d, e] t (0, 0)) := by
  have h0 := heap_setCell_same W g 0 _ _ a h
  have h1 := heap_setCell_same _ g 1 _ _ b h0
  have h2 := heap_setCell_same _ g 2 _ _ c h1
  have h3 := heap_setCell_same _ g 3 _ _ d h2
  have h4 := heap_setCell_same _ g 4 _ _ e h3
  exact (((Gr.refl _).alloc o).block _ (Array.getElem?_eq_some_iff.1 h4).1).trans h4
theorem ins_one (x0 x1 x2 x3 x4 : Int) : (#[.int .i64 x0, .int .i64 x1, .int .i64 x2, .int .i64 x3, .int .i32 x4] : Array Value).all (·.oneCell') = true := by
  refine all_oneCell_toArray (cs := [.int .i64 x0, .int .i64 x1, .int .i64 x2, .int .i64 x3, .int .i32 x4]) ?_
  intro u hu
  simp only [List.mem_cons, List.not_mem_nil, or_false] at hu
  rcases hu with rfl | rfl | rfl | rfl | rfl <;> rfl
theorem iI : (Tryz.prog.info? 77).map (·.size) = some 5 := by kernel_rfl
theorem results_cell_tmp1 {P : Program} {fn : Func} {p t : Tmp} {ty : TypeId} (h : fn.results = #[.cell p ty, .tmp t]) (tmps : Array Value) (w : World) (g : Nat) (tt : TypeId) (cs : Array Value) (fr : Nat × Nat) (d : TypeDesc)
    (v : Value) (hp : tmps.getD p undef = .pointer (some ⟨g, 0, none⟩)) (hv : tmps.getD t undef = v) (hg : w.heap[g]? = some (.cells cs tt fr))
    (hu : P.underlying ty = some d) (hd : (match d with | .struct _ | .array _ _ => true | _ => false) = true) (hi : (P.info? ty).map (·.size) = some cs.size) :
    (results fn tmps).run P w = .ok (.tuple #[.agg cs, v]) w := by
  subst hv
  have hp' : tmps[p]?.getD undef = .pointer (some ⟨g, 0, none⟩) := by simpa using hp
  simp [results, h, hp', asAddr, run_loadVar_row w g tt ty cs fr d hg hu hd hi]
theorem Fetch_any {w : World} {ao : Option Addr} {n : Nat} (cap : Nat) {l : List UInt8} (pc : Int) (M : Mem w ao n l) (T : Dw.Tab w) (hn : n ≤ 140737488351232) (h0 : 0 ≤ pc) (h1 : pc < 4294967296) :
    Calls Tryz.prog 66 #[.slice ao n cap, .int .u32 pc] w fun e w' => e = .returned (.tuple #[Dw.decV (ldV l 13 pc), .int .i64 (Bk.ftC l pc)]) ∧ Gr w w' := by
  have L : Hid (∀ W : World, Gr w W → Calls Tryz.prog 85 #[.slice ao n cap, .int .i64 13, .int .u32 pc] W fun e w' => e = .returned (.tuple #[.int .u32 (ldV l 13 pc), .bool (ldOk l 13 pc)]) ∧ w' = W) := fun W G => Mm.Load_any cap 13 pc (M.of G) hn h0 h1
  have wx := W.ldV l 13 pc
  have HT : Hid (∀ W : World, Gr w W → Dw.Tab W) := fun W G => ⟨fun i v e => (G.cell _ (by exact Dw.lt_of_cell (T.shapes i v e))).trans (T.shapes i v e), fun i v e => (G.cell _ (by exact Dw.lt_of_cell (T.uppers i v e))).trans (T.uppers i v e)⟩
  have D : Hid (∀ W : World, Gr w W → Calls Tryz.prog 86 #[.int .u32 (ldV l 13 pc)] W fun e w' => e = .returned (.tuple #[Dw.decV (ldV l 13 pc), .bool (Dw.decOk (ldV l 13 pc))]) ∧ Gr W w') := fun W G => (Dw.Decode_any _ W (HT.out W G) wx.1 wx.2).mono fun e w' h => ⟨h.1, h.2.1⟩
  have E1 : Hid (ldOk l 13 pc = false → ldV l 13 pc = 0) := Bk.ldV_no
  have E2 : Hid (Bk.ftC l pc = if ldOk l 13 pc = true then (if Dc.dop (ldV l 13 pc) = 0 then 2 else 0) else 1) := rfl
  generalize ldV l 13 pc = x at *
  generalize ldOk l 13 pc = B at *
  generalize Bk.ftC l pc = c at *
  clear M T HT wx
  cases B with
  | false =>
    have e1 := E1.out rfl
    have e2 : c = 1 := E2.out
    subst e1 e2
    have e3 := (Dw.dec_none Bk.dop0).1
    rw [e3]
    clear E1 E2 D e3
    unfold Dw.insV
    go_enter Tryz.func66, Tryz.ntmps66
    go_wp2_with fail
    refine (L.out _ ((Gr.refl _).alloc _)).mono ?_
    rintro e w1 ⟨rfl, rfl⟩
    clear L
    go_wp2_with (refine wpList_store_row rfl 77 _ _ rfl w.heap.size #[.int .i64 0, .int .i64 0, .int .i64 0, .int .i64 0, .int .i32 0] rfl rfl 77 _ (heap_alloc_new w _) iI rfl rfl ?_)
    refine bodyPost_ret (v := .tuple #[.agg #[.int .i64 0, .int .i64 0, .int .i64 0, .int .i64 0, .int .i32 0], .int .i64 1]) (results_cell_tmp1 Tryz.results66 _ _ _ _ _ (0, 0) _ _ rfl rfl (heap_alloc_new w _) Tryz.underlying77 rfl iI) rfl ⟨rfl, ?_⟩
    exact (Gr.refl _).alloc _
  | true =>
    by_cases hd : Dc.dop x = 0
    · have e2 : c = 2 := by rw [E2.out, if_pos rfl, if_pos hd]
      obtain ⟨d1, d2⟩ := Dw.dec_none hd
      rw [d1, d2] at D
      rw [d1]
      unfold Dw.insV at D ⊢
      subst e2
      clear E1 E2 d1 d2 hd
      go_enter Tryz.func66, Tryz.ntmps66
      go_wp2_with fail
      refine (L.out _ ((Gr.refl _).alloc _)).mono ?_
      rintro e w1 ⟨rfl, rfl⟩
      clear L
      go_wp2_with fail
      refine (D.out _ ((Gr.refl _).alloc _)).mono ?_
      rintro e w1 ⟨rfl, G1⟩
      have HB : Hid (w1.heap[w.heap.size]? = some (.cells #[.int .i64 0, .int .i64 0, .int .i64 0, .int .i64 0, .int .i32 0] 77 (0, 0))) := (G1.block _ (by simp)).trans (heap_alloc_new w _)
      have HG1 : Hid (Gr w w1) := ((Gr.refl _).alloc _).trans G1
      have hlt : w.heap.size < w1.heap.size := (Array.getElem?_eq_some_iff.1 HB.out).1
      have r0 : w1.cell? ⟨w.heap.size, 0, none⟩ = some (.int .i64 0) := cell_of_row _ _ _ _ _ _ HB.out
      have r1 : w1.cell? ⟨w.heap.size, 1, none⟩ = some (.int .i64 0) := cell_of_row _ _ _ _ _ _ HB.out
      have r2 : w1.cell? ⟨w.heap.size, 2, none⟩ = some (.int .i64 0) := cell_of_row _ _ _ _ _ _ HB.out
      have r3 : w1.cell? ⟨w.heap.size, 3, none⟩ = some (.int .i64 0) := cell_of_row _ _ _ _ _ _ HB.out
      have r4 : w1.cell? ⟨w.heap.size, 4, none⟩ = some (.int .i32 0) := cell_of_row _ _ _ _ _ _ HB.out
      have f3 : ∀ j, w1.frozen? ⟨w.heap.size, j, none⟩ = false := fun j => frozen_of_row _ _ _ _ _ HB.out
      clear G1 D
      go_wp2_with fail
      refine bodyPost_ret (v := .tuple #[.agg #[.int .i64 0, .int .i64 0, .int .i64 0, .int .i64 0, .int .i32 0], .int .i64 2]) (results_cell_tmp1 Tryz.results66 _ _ _ _ _ (0, 0) _ _ rfl rfl (five_set HB.out _ _ _ _ _ _) Tryz.underlying77 rfl iI) rfl ⟨rfl, ?_⟩
      exact (((((HG1.out.setCell (by simp) _).setCell (by simp) _).setCell (by simp) _).setCell (by simp) _).setCell (by simp) _).alloc _
    · have e2 : c = 0 := by rw [E2.out, if_pos rfl, if_neg hd]
      have d2 : Dw.decOk x = true := by unfold Dw.decOk; simp [hd]
      rw [d2] at D
      unfold Dw.decV Dw.insV at D ⊢
      subst e2
      clear E1 E2 d2 hd
      generalize Dc.rdF (Dc.frm (Dc.dop x)) x = x1 at *
      generalize Dc.rs1F (Dc.frm (Dc.dop x)) x = x2 at *
      generalize Dc.rs2F (Dc.frm (Dc.dop x)) x = x3 at *
      generalize Dc.immF (Dc.frm (Dc.dop x)) x = x4 at *
      generalize Dc.dop x = x0 at *
      go_enter Tryz.func66, Tryz.ntmps66
      go_wp2_with fail
      refine (L.out _ ((Gr.refl _).alloc _)).mono ?_
      rintro e w1 ⟨rfl, rfl⟩
      clear L
      go_wp2_with fail
      refine (D.out _ ((Gr.refl _).alloc _)).mono ?_
      rintro e w1 ⟨rfl, G1⟩
      have HB : Hid (w1.heap[w.heap.size]? = some (.cells #[.int .i64 0, .int .i64 0, .int .i64 0, .int .i64 0, .int .i32 0] 77 (0, 0))) := (G1.block _ (by simp)).trans (heap_alloc_new w _)
      have HG1 : Hid (Gr w w1) := ((Gr.refl _).alloc _).trans G1
      have hlt : w.heap.size < w1.heap.size := (Array.getElem?_eq_some_iff.1 HB.out).1
      have r0 : w1.cell? ⟨w.heap.size, 0, none⟩ = some (.int .i64 0) := cell_of_row _ _ _ _ _ _ HB.out
      have r1 : w1.cell? ⟨w.heap.size, 1, none⟩ = some (.int .i64 0) := cell_of_row _ _ _ _ _ _ HB.out
      have r2 : w1.cell? ⟨w.heap.size, 2, none⟩ = some (.int .i64 0) := cell_of_row _ _ _ _ _ _ HB.out
      have r3 : w1.cell? ⟨w.heap.size, 3, none⟩ = some (.int .i64 0) := cell_of_row _ _ _ _ _ _ HB.out
      have r4 : w1.cell? ⟨w.heap.size, 4, none⟩ = some (.int .i32 0) := cell_of_row _ _ _ _ _ _ HB.out
      have f3 : ∀ j, w1.frozen? ⟨w.heap.size, j, none⟩ = false := fun j => frozen_of_row _ _ _ _ _ HB.out
      clear G1 D
      go_wp2_with fail
      refine bodyPost_ret (v := .tuple #[.agg #[.int .i64 x0, .int .i64 x1, .int .i64 x2, .int .i64 x3, .int .i32 x4], .int .i64 0]) (results_cell_tmp1 Tryz.results66 _ _ _ _ _ (0, 0) _ _ rfl rfl (five_set HB.out _ _ _ _ _ _) Tryz.underlying77 rfl iI) rfl ⟨rfl, ?_⟩
      exact (((((HG1.out.setCell (by simp) _).setCell (by simp) _).setCell (by simp) _).setCell (by simp) _).setCell (by simp) _).alloc _
end Go.Proofs.YtchllaeembmioaaGreatDoor.Hf
