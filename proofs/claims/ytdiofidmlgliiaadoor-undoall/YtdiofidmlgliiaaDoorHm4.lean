/-
  What the method effect of package hart's core does, of every instruction.
-/
import Derived.Test.YtdiofidmlgliiaaDoorHm3
namespace Go.Proofs.YtdiofidmlgliiaaDoor.Hc
open Go.ChangeShapes Go.WideShapes Go.ChangeAt Go.RowKit Mm Hh
set_option linter.unusedVariables false
set_option linter.unusedSimpArgs false

variable {w : World} {base g : Nat} {h : Hv} {l : List UInt8} {os : List Int} {ss : List (Int × Int)}
theorem within_yes (n a b : Int) (w : World) (h : a ≤ n ∧ n ≤ b) : Calls Tryd.prog 101 #[.int .i64 n, .int .i64 a, .int .i64 b] w fun e w' => e = .returned (.bool true) ∧ w = w' := by
  have := within_any n a b w
  rw [show (decide (a ≤ n) && decide (n ≤ b)) = true by simp; omega] at this
  exact this.mono fun e w' h => ⟨h.1, h.2.symm⟩
theorem within_no (n a b : Int) (w : World) (h : ¬ (a ≤ n ∧ n ≤ b)) : Calls Tryd.prog 101 #[.int .i64 n, .int .i64 a, .int .i64 b] w fun e w' => e = .returned (.bool false) ∧ w = w' := by
  have := within_any n a b w
  rw [show (decide (a ≤ n) && decide (n ≤ b)) = false by simp; omega] at this
  exact this.mono fun e w' h => ⟨h.1, h.2.symm⟩
def opers : List Int := [0, 0, 0, 0, 0, 0, 0, 0, 0, 0, 0, 0, 0, 0, 0, 0, 0, 0, 0, 28, 31, 32, 33, 36, 37, 30, 34, 35]
theorem oper_cell (T : Tb w base) (op : Int) (h0 : 19 ≤ op) (h1 : op ≤ 27) : w.cell? ⟨5, op.toNat, none⟩ = some (.int .i64 (opn op)) := by
  have h : op = 19 ∨ op = 20 ∨ op = 21 ∨ op = 22 ∨ op = 23 ∨ op = 24 ∨ op = 25 ∨ op = 26 ∨ op = 27 := by omega
  rcases h with rfl | rfl | rfl | rfl | rfl | rfl | rfl | rfl | rfl
  · exact T.opers 19 _ rfl
  · exact T.opers 20 _ rfl
  · exact T.opers 21 _ rfl
  · exact T.opers 22 _ rfl
  · exact T.opers 23 _ rfl
  · exact T.opers 24 _ rfl
  · exact T.opers 25 _ rfl
  · exact T.opers 26 _ rfl
  · exact T.opers 27 _ rfl
set_option maxHeartbeats 1000000 in
theorem eff_1 (I : In w base g h l os ss) (T : Tb w base) (hl : l.length ≤ 140737488351232) (hss : ss.length ≤ 1000000) (hos : os.length ≤ 1000000) (op a b n : Int) (ha : W a) (hb : W b) (hn : W n) (ho : op = 1) :
    Calls Tryd.prog 122 #[.pointer (some ⟨g, 0, none⟩), .int .i64 op, .int .u32 a, .int .u32 b, .int .u32 n] w fun e w' => e = .returned (ret2 (⟨h, l, [], [], some n⟩ : Ev).res) ∧ In w' base g (⟨h, l, [], [], some n⟩ : Ev).h (⟨h, l, [], [], some n⟩ : Ev).m (os ++ (⟨h, l, [], [], some n⟩ : Ev).out) (ss ++ (⟨h, l, [], [], some n⟩ : Ev).sto) ∧ Fr base w w' := by
  have HI : Hid (In w base g h l (os ++ []) (ss ++ [])) := by unfold Hid; simpa using I
  subst ho
  clear I T
  go_enter Tryd.func122, Tryd.ntmps122
  go_wp2_with (go_at_call 101; first | (refine (within_yes _ _ _ _ (by omega)).mono ?_; rintro e w' ⟨rfl, rfl⟩) | (refine (within_no _ _ _ _ (by omega)).mono ?_; rintro e w' ⟨rfl, rfl⟩))
  unfold ret2
  go_ret2
  exact ⟨rfl, HI.out, Fr.refl _ _⟩

set_option maxHeartbeats 1000000 in
theorem eff_2 (I : In w base g h l os ss) (T : Tb w base) (hl : l.length ≤ 140737488351232) (hss : ss.length ≤ 1000000) (hos : os.length ≤ 1000000) (op a b n : Int) (ha : W a) (hb : W b) (hn : W n) (ho : op = 2) :
    Calls Tryd.prog 122 #[.pointer (some ⟨g, 0, none⟩), .int .i64 op, .int .u32 a, .int .u32 b, .int .u32 n] w fun e w' => e = .returned (ret2 (⟨h, l, [], [], some (Wd.lo (h.pc + n))⟩ : Ev).res) ∧ In w' base g (⟨h, l, [], [], some (Wd.lo (h.pc + n))⟩ : Ev).h (⟨h, l, [], [], some (Wd.lo (h.pc + n))⟩ : Ev).m (os ++ (⟨h, l, [], [], some (Wd.lo (h.pc + n))⟩ : Ev).out) (ss ++ (⟨h, l, [], [], some (Wd.lo (h.pc + n))⟩ : Ev).sto) ∧ Fr base w w' := by
  have HI : Hid (In w base g h l (os ++ []) (ss ++ [])) := by unfold Hid; simpa using I
  have HI0 : Hid _ := I
  obtain ⟨c0, rfl, J⟩ := HI0.out
  have k32 : w.cell? ⟨g, 32, none⟩ = some (.int .u32 c0.h.pc) := (J.hcell (by omega)).trans (hL_fld J.ok 0)
  have p0 := J.ok.pc0
  have p1 := J.ok.pc1
  clear HI0 J
  subst ho
  clear I T
  go_enter Tryd.func122, Tryd.ntmps122
  go_wp2_with (go_at_call 101; first | (refine (within_yes _ _ _ _ (by omega)).mono ?_; rintro e w' ⟨rfl, rfl⟩) | (refine (within_no _ _ _ _ (by omega)).mono ?_; rintro e w' ⟨rfl, rfl⟩))
  unfold ret2
  go_ret2
  exact ⟨rfl, HI.out, Fr.refl _ _⟩

set_option maxHeartbeats 1000000 in
theorem eff_3 (I : In w base g h l os ss) (T : Tb w base) (hl : l.length ≤ 140737488351232) (hss : ss.length ≤ 1000000) (hos : os.length ≤ 1000000) (op a b n : Int) (ha : W a) (hb : W b) (hn : W n) (ho : op = 3) :
    Calls Tryd.prog 122 #[.pointer (some ⟨g, 0, none⟩), .int .i64 op, .int .u32 a, .int .u32 b, .int .u32 n] w fun e w' => e = .returned (ret2 (⟨h, l, [], [], some (Wd.lo (h.pc + 4))⟩ : Ev).res) ∧ In w' base g (⟨h, l, [], [], some (Wd.lo (h.pc + 4))⟩ : Ev).h (⟨h, l, [], [], some (Wd.lo (h.pc + 4))⟩ : Ev).m (os ++ (⟨h, l, [], [], some (Wd.lo (h.pc + 4))⟩ : Ev).out) (ss ++ (⟨h, l, [], [], some (Wd.lo (h.pc + 4))⟩ : Ev).sto) ∧ Fr base w w' := by
  have HI : Hid (In w base g h l (os ++ []) (ss ++ [])) := by unfold Hid; simpa using I
  have HI0 : Hid _ := I
  obtain ⟨c0, rfl, J⟩ := HI0.out
  have k32 : w.cell? ⟨g, 32, none⟩ = some (.int .u32 c0.h.pc) := (J.hcell (by omega)).trans (hL_fld J.ok 0)
  have p0 := J.ok.pc0
  have p1 := J.ok.pc1
  clear HI0 J
  subst ho
  clear I T
  go_enter Tryd.func122, Tryd.ntmps122
  go_wp2_with (go_at_call 101; first | (refine (within_yes _ _ _ _ (by omega)).mono ?_; rintro e w' ⟨rfl, rfl⟩) | (refine (within_no _ _ _ _ (by omega)).mono ?_; rintro e w' ⟨rfl, rfl⟩))
  unfold ret2
  go_ret2
  exact ⟨rfl, HI.out, Fr.refl _ _⟩

set_option maxHeartbeats 1000000 in
theorem eff_4 (I : In w base g h l os ss) (T : Tb w base) (hl : l.length ≤ 140737488351232) (hss : ss.length ≤ 1000000) (hos : os.length ≤ 1000000) (op a b n : Int) (ha : W a) (hb : W b) (hn : W n) (ho : op = 4) :
    Calls Tryd.prog 122 #[.pointer (some ⟨g, 0, none⟩), .int .i64 op, .int .u32 a, .int .u32 b, .int .u32 n] w fun e w' => e = .returned (ret2 (⟨h, l, [], [], some (Wd.lo (h.pc + 4))⟩ : Ev).res) ∧ In w' base g (⟨h, l, [], [], some (Wd.lo (h.pc + 4))⟩ : Ev).h (⟨h, l, [], [], some (Wd.lo (h.pc + 4))⟩ : Ev).m (os ++ (⟨h, l, [], [], some (Wd.lo (h.pc + 4))⟩ : Ev).out) (ss ++ (⟨h, l, [], [], some (Wd.lo (h.pc + 4))⟩ : Ev).sto) ∧ Fr base w w' := by
  have HI : Hid (In w base g h l (os ++ []) (ss ++ [])) := by unfold Hid; simpa using I
  have HI0 : Hid _ := I
  obtain ⟨c0, rfl, J⟩ := HI0.out
  have k32 : w.cell? ⟨g, 32, none⟩ = some (.int .u32 c0.h.pc) := (J.hcell (by omega)).trans (hL_fld J.ok 0)
  have p0 := J.ok.pc0
  have p1 := J.ok.pc1
  clear HI0 J
  subst ho
  clear I T
  go_enter Tryd.func122, Tryd.ntmps122
  go_wp2_with (go_at_call 101; first | (refine (within_yes _ _ _ _ (by omega)).mono ?_; rintro e w' ⟨rfl, rfl⟩) | (refine (within_no _ _ _ _ (by omega)).mono ?_; rintro e w' ⟨rfl, rfl⟩))
  unfold ret2
  go_ret2
  exact ⟨rfl, HI.out, Fr.refl _ _⟩

set_option maxHeartbeats 1000000 in
theorem eff_none (I : In w base g h l os ss) (T : Tb w base) (hl : l.length ≤ 140737488351232) (hss : ss.length ≤ 1000000) (hos : os.length ≤ 1000000) (op a b n : Int) (ha : W a) (hb : W b) (hn : W n) (ho : op ≤ 0 ∨ 5 ≤ op ∧ op ≤ 10 ∨ op = 57 ∨ 60 ≤ op) :
    Calls Tryd.prog 122 #[.pointer (some ⟨g, 0, none⟩), .int .i64 op, .int .u32 a, .int .u32 b, .int .u32 n] w fun e w' => e = .returned (ret2 (⟨h, l, [], [], none⟩ : Ev).res) ∧ In w' base g (⟨h, l, [], [], none⟩ : Ev).h (⟨h, l, [], [], none⟩ : Ev).m (os ++ (⟨h, l, [], [], none⟩ : Ev).out) (ss ++ (⟨h, l, [], [], none⟩ : Ev).sto) ∧ Fr base w w' := by
  have HI : Hid (In w base g h l (os ++ []) (ss ++ [])) := by unfold Hid; simpa using I
  have b1 : (op == 1) = false := by simp; omega
  have b2 : (op == 2) = false := by simp; omega
  have b3 : (op == 3) = false := by simp; omega
  have b4 : (op == 4) = false := by simp; omega
  have b58 : (op == 58) = false := by simp; omega
  have b59 : (op == 59) = false := by simp; omega
  clear I T
  go_enter Tryd.func122, Tryd.ntmps122
  go_wp2_with (go_at_call 101; first | (refine (within_yes _ _ _ _ (by omega)).mono ?_; rintro e w' ⟨rfl, rfl⟩) | (refine (within_no _ _ _ _ (by omega)).mono ?_; rintro e w' ⟨rfl, rfl⟩))
  unfold ret2
  go_ret2
  exact ⟨rfl, HI.out, Fr.refl _ _⟩

set_option maxHeartbeats 1000000 in
theorem eff_load {w : World} {base g : Nat} {h : Hv} {l : List UInt8} {os : List Int} {ss : List (Int × Int)} (I : In w base g h l os ss) (T : Tb w base) (hl : l.length ≤ 140737488351232) (hss : ss.length ≤ 1000000) (hos : os.length ≤ 1000000) (op a b n : Int) (ha : W a) (hb : W b) (hn : W n) (ho : 11 ≤ op ∧ op ≤ 15) :
    Calls Tryd.prog 122 #[.pointer (some ⟨g, 0, none⟩), .int .i64 op, .int .u32 a, .int .u32 b, .int .u32 n] w fun e w' => e = .returned (ret2 (efLoad h l op (Wd.lo (a + n))).res) ∧ In w' base g (efLoad h l op (Wd.lo (a + n))).h (efLoad h l op (Wd.lo (a + n))).m (os ++ (efLoad h l op (Wd.lo (a + n))).out) (ss ++ (efLoad h l op (Wd.lo (a + n))).sto) ∧ Fr base w w' := by
  have HI : Hid (In w base g h l os ss) := I
  have L := Load_any I hl op (Wd.lo (a + n)) (Wd.lo_bd _).1 (Wd.lo_bd _).2
  have e : (efLoad h l op (Wd.lo (a + n))).res.getD 0 = ldV l op (Wd.lo (a + n)) ∧ (efLoad h l op (Wd.lo (a + n))).res.isSome = ldOk l op (Wd.lo (a + n)) ∧ (efLoad h l op (Wd.lo (a + n))).h = (if ldOk l op (Wd.lo (a + n)) = true then h else h.trap 3) ∧ (efLoad h l op (Wd.lo (a + n))).m = l ∧ (efLoad h l op (Wd.lo (a + n))).out = [] ∧ (efLoad h l op (Wd.lo (a + n))).sto = [] := by
    unfold efLoad
    cases ok : ldOk l op (Wd.lo (a + n)) with
    | false => refine ⟨?_, by simp, by simp, by simp, by simp, by simp⟩; unfold ldV; simp [ok]
    | true => simp
  obtain ⟨e1, e2, e3, e4, e5, e6⟩ := e
  unfold ret2
  rw [e1, e2, e3, e4, e5, e6, List.append_nil, List.append_nil]
  generalize ldV l op (Wd.lo (a + n)) = X at *
  generalize ldOk l op (Wd.lo (a + n)) = B at *
  generalize (if B = true then h else h.trap 3) = h' at *
  have L2 : Hid (Calls Tryd.prog 137 #[.pointer (some ⟨g, 0, none⟩), .int .i64 op, .int .u32 ((a + n) % 4294967296)] w fun e w' => e = .returned (.tuple #[.int .u32 X, .bool B]) ∧ In w' base g h' l os ss ∧ Ch g w w') := L
  clear L e1 e2 e3 e4 e5 e6 I T
  unfold W at ha hb hn
  have b1 : (op == 1) = false := by simp; omega
  have b2 : (op == 2) = false := by simp; omega
  have b3 : (op == 3) = false := by simp; omega
  have b4 : (op == 4) = false := by simp; omega
  have b58 : (op == 58) = false := by simp; omega
  have b59 : (op == 59) = false := by simp; omega
  go_enter Tryd.func122, Tryd.ntmps122
  go_wp2_with (go_at_call 101; first | (refine (within_yes _ _ _ _ (by omega)).mono ?_; rintro e w' ⟨rfl, rfl⟩) | (refine (within_no _ _ _ _ (by omega)).mono ?_; rintro e w' ⟨rfl, rfl⟩))
  refine L2.out.mono ?_
  rintro e w' ⟨rfl, I2, C2⟩
  have HI2 : Hid (In w' base g h' l os ss) := I2
  have HC2 : Hid (Ch g w w') := C2
  clear I2 C2 L2
  go_wp2_with fail
  go_ret2
  exact ⟨rfl, HI2.out, HI.out.below HC2.out⟩

set_option maxHeartbeats 1000000 in
theorem eff_store {w : World} {base g : Nat} {h : Hv} {l : List UInt8} {os : List Int} {ss : List (Int × Int)} (I : In w base g h l os ss) (T : Tb w base) (hl : l.length ≤ 140737488351232) (hss : ss.length ≤ 1000000) (hos : os.length ≤ 1000000) (op a b n : Int) (ha : W a) (hb : W b) (hn : W n) (ho : 16 ≤ op ∧ op ≤ 18) :
    Calls Tryd.prog 122 #[.pointer (some ⟨g, 0, none⟩), .int .i64 op, .int .u32 a, .int .u32 b, .int .u32 n] w fun e w' => e = .returned (ret2 (efStore h l op (Wd.lo (a + n)) b).res) ∧ In w' base g (efStore h l op (Wd.lo (a + n)) b).h (efStore h l op (Wd.lo (a + n)) b).m (os ++ (efStore h l op (Wd.lo (a + n)) b).out) (ss ++ (efStore h l op (Wd.lo (a + n)) b).sto) ∧ Fr base w w' := by
  have L := Store_any I T hl hss op (Wd.lo (a + n)) b (Wd.lo_bd _).1 (Wd.lo_bd _).2 hb.1 hb.2
  have e : (efStore h l op (Wd.lo (a + n)) b).res = none ∧ (efStore h l op (Wd.lo (a + n)) b).out = [] := by unfold efStore; split <;> exact ⟨rfl, rfl⟩
  unfold ret2
  rw [e.1, e.2, List.append_nil]
  generalize efStore h l op (Wd.lo (a + n)) b = E at *
  have L2 : Hid (Calls Tryd.prog 138 #[.pointer (some ⟨g, 0, none⟩), .int .i64 op, .int .u32 ((a + n) % 4294967296), .int .u32 b] w fun e w' => e = .returned (.tuple #[]) ∧ In w' base g E.h E.m os (ss ++ E.sto) ∧ Fr base w w') := L
  clear L e I T
  unfold W at ha hb hn
  have b1 : (op == 1) = false := by simp; omega
  have b2 : (op == 2) = false := by simp; omega
  have b3 : (op == 3) = false := by simp; omega
  have b4 : (op == 4) = false := by simp; omega
  have b58 : (op == 58) = false := by simp; omega
  have b59 : (op == 59) = false := by simp; omega
  go_enter Tryd.func122, Tryd.ntmps122
  go_wp2_with (go_at_call 101; first | (refine (within_yes _ _ _ _ (by omega)).mono ?_; rintro e w' ⟨rfl, rfl⟩) | (refine (within_no _ _ _ _ (by omega)).mono ?_; rintro e w' ⟨rfl, rfl⟩))
  refine L2.out.mono ?_
  rintro e w' ⟨rfl, I2, B2⟩
  have HI2 : Hid (In w' base g E.h E.m os (ss ++ E.sto)) := I2
  have HB2 : Hid (Fr base w w') := B2
  clear I2 B2 L2
  go_wp2_with fail
  go_ret2
  exact ⟨rfl, HI2.out, HB2.out⟩

set_option maxHeartbeats 1000000 in
theorem eff_alun (I : In w base g h l os ss) (T : Tb w base) (hl : l.length ≤ 140737488351232) (hss : ss.length ≤ 1000000) (hos : os.length ≤ 1000000) (op a b n : Int) (ha : W a) (hb : W b) (hn : W n) (ho : 19 ≤ op ∧ op ≤ 27) :
    Calls Tryd.prog 122 #[.pointer (some ⟨g, 0, none⟩), .int .i64 op, .int .u32 a, .int .u32 b, .int .u32 n] w fun e w' => e = .returned (ret2 (⟨h, l, [], [], some (Wd.alu (opn op) a n)⟩ : Ev).res) ∧ In w' base g (⟨h, l, [], [], some (Wd.alu (opn op) a n)⟩ : Ev).h (⟨h, l, [], [], some (Wd.alu (opn op) a n)⟩ : Ev).m (os ++ (⟨h, l, [], [], some (Wd.alu (opn op) a n)⟩ : Ev).out) (ss ++ (⟨h, l, [], [], some (Wd.alu (opn op) a n)⟩ : Ev).sto) ∧ Fr base w w' := by
  have HI : Hid (In w base g h l (os ++ []) (ss ++ [])) := by unfold Hid; simpa using I
  have kc := oper_cell T op ho.1 ho.2
  have A : Hid (Calls Tryd.prog 139 #[.int .i64 (opn op), .int .u32 a, .int .u32 n] w fun e w' => e = .returned (.int .u32 (Wd.alu (opn op) a n)) ∧ w' = w) := Ww.alu_any _ a n w ha.1 ha.2 hn.1 hn.2
  clear I T
  unfold W at ha hb hn
  have b1 : (op == 1) = false := by simp; omega
  have b2 : (op == 2) = false := by simp; omega
  have b3 : (op == 3) = false := by simp; omega
  have b4 : (op == 4) = false := by simp; omega
  have b58 : (op == 58) = false := by simp; omega
  have b59 : (op == 59) = false := by simp; omega
  unfold ret2
  generalize Wd.alu (opn op) a n = X at *
  go_enter Tryd.func122, Tryd.ntmps122
  go_wp2_with (go_at_call 101; first | (refine (within_yes _ _ _ _ (by omega)).mono ?_; rintro e w' ⟨rfl, rfl⟩) | (refine (within_no _ _ _ _ (by omega)).mono ?_; rintro e w' ⟨rfl, rfl⟩))
  refine A.out.mono ?_
  rintro e w9 ⟨rfl, hw9⟩
  obtain rfl := hw9.symm
  clear A
  go_wp2_with fail
  go_ret2
  exact ⟨rfl, HI.out, Fr.refl _ _⟩

set_option maxHeartbeats 1000000 in
theorem eff_alu (I : In w base g h l os ss) (T : Tb w base) (hl : l.length ≤ 140737488351232) (hss : ss.length ≤ 1000000) (hos : os.length ≤ 1000000) (op a b n : Int) (ha : W a) (hb : W b) (hn : W n) (ho : 28 ≤ op ∧ op ≤ 45) :
    Calls Tryd.prog 122 #[.pointer (some ⟨g, 0, none⟩), .int .i64 op, .int .u32 a, .int .u32 b, .int .u32 n] w fun e w' => e = .returned (ret2 (⟨h, l, [], [], some (Wd.alu op a b)⟩ : Ev).res) ∧ In w' base g (⟨h, l, [], [], some (Wd.alu op a b)⟩ : Ev).h (⟨h, l, [], [], some (Wd.alu op a b)⟩ : Ev).m (os ++ (⟨h, l, [], [], some (Wd.alu op a b)⟩ : Ev).out) (ss ++ (⟨h, l, [], [], some (Wd.alu op a b)⟩ : Ev).sto) ∧ Fr base w w' := by
  have HI : Hid (In w base g h l (os ++ []) (ss ++ [])) := by unfold Hid; simpa using I
  have A : Hid (Calls Tryd.prog 139 #[.int .i64 op, .int .u32 a, .int .u32 b] w fun e w' => e = .returned (.int .u32 (Wd.alu op a b)) ∧ w' = w) := Ww.alu_any _ a b w ha.1 ha.2 hb.1 hb.2
  clear I T
  unfold W at ha hb hn
  have b1 : (op == 1) = false := by simp; omega
  have b2 : (op == 2) = false := by simp; omega
  have b3 : (op == 3) = false := by simp; omega
  have b4 : (op == 4) = false := by simp; omega
  have b58 : (op == 58) = false := by simp; omega
  have b59 : (op == 59) = false := by simp; omega
  unfold ret2
  generalize Wd.alu op a b = X at *
  go_enter Tryd.func122, Tryd.ntmps122
  go_wp2_with (go_at_call 101; first | (refine (within_yes _ _ _ _ (by omega)).mono ?_; rintro e w' ⟨rfl, rfl⟩) | (refine (within_no _ _ _ _ (by omega)).mono ?_; rintro e w' ⟨rfl, rfl⟩))
  refine A.out.mono ?_
  rintro e w9 ⟨rfl, hw9⟩
  obtain rfl := hw9.symm
  clear A
  go_wp2_with fail
  go_ret2
  exact ⟨rfl, HI.out, Fr.refl _ _⟩

set_option maxHeartbeats 1000000 in
theorem eff_atom {w : World} {base g : Nat} {h : Hv} {l : List UInt8} {os : List Int} {ss : List (Int × Int)} (I : In w base g h l os ss) (T : Tb w base) (hl : l.length ≤ 140737488351232) (hss : ss.length ≤ 1000000) (hos : os.length ≤ 1000000) (op a b n : Int) (ha : W a) (hb : W b) (hn : W n) (ho : 46 ≤ op ∧ op ≤ 56) :
    Calls Tryd.prog 122 #[.pointer (some ⟨g, 0, none⟩), .int .i64 op, .int .u32 a, .int .u32 b, .int .u32 n] w fun e w' => e = .returned (ret2 (efAtom h l op a b).res) ∧ In w' base g (efAtom h l op a b).h (efAtom h l op a b).m (os ++ (efAtom h l op a b).out) (ss ++ (efAtom h l op a b).sto) ∧ Fr base w w' := by
  have L := Atom_any I T hl hss op a b ha.1 ha.2 hb.1 hb.2
  have e : (efAtom h l op a b).out = [] := by unfold efAtom efLr efSc efAmo; repeat' split
                                              all_goals rfl
  rw [e, List.append_nil]
  unfold ret2 at L ⊢
  generalize efAtom h l op a b = E at *
  have L2 : Hid (Calls Tryd.prog 140 #[.pointer (some ⟨g, 0, none⟩), .int .i64 op, .int .u32 a, .int .u32 b] w fun e w' => e = .returned (.tuple #[.int .u32 (E.res.getD 0), .bool E.res.isSome]) ∧ In w' base g E.h E.m os (ss ++ E.sto) ∧ Fr base w w') := L
  generalize E.res.getD 0 = X at *
  generalize E.res.isSome = Y at *
  clear L e I T
  unfold W at ha hb hn
  have b1 : (op == 1) = false := by simp; omega
  have b2 : (op == 2) = false := by simp; omega
  have b3 : (op == 3) = false := by simp; omega
  have b4 : (op == 4) = false := by simp; omega
  have b58 : (op == 58) = false := by simp; omega
  have b59 : (op == 59) = false := by simp; omega
  go_enter Tryd.func122, Tryd.ntmps122
  go_wp2_with (go_at_call 101; first | (refine (within_yes _ _ _ _ (by omega)).mono ?_; rintro e w' ⟨rfl, rfl⟩) | (refine (within_no _ _ _ _ (by omega)).mono ?_; rintro e w' ⟨rfl, rfl⟩))
  refine L2.out.mono ?_
  rintro e w' ⟨rfl, I2, B2⟩
  have HI2 : Hid (In w' base g E.h E.m os (ss ++ E.sto)) := I2
  have HB2 : Hid (Fr base w w') := B2
  clear I2 B2 L2
  go_wp2_with fail
  go_ret2
  exact ⟨rfl, HI2.out, HB2.out⟩

set_option maxHeartbeats 1000000 in
theorem eff_call {w : World} {base g : Nat} {h : Hv} {l : List UInt8} {os : List Int} {ss : List (Int × Int)} (I : In w base g h l os ss) (T : Tb w base) (hl : l.length ≤ 140737488351232) (hss : ss.length ≤ 1000000) (hos : os.length ≤ 1000000) (op a b n : Int) (ha : W a) (hb : W b) (hn : W n) (ho : op = 58) :
    Calls Tryd.prog 122 #[.pointer (some ⟨g, 0, none⟩), .int .i64 op, .int .u32 a, .int .u32 b, .int .u32 n] w fun e w' => e = .returned (ret2 (efCall h l).res) ∧ In w' base g (efCall h l).h (efCall h l).m (os ++ (efCall h l).out) (ss ++ (efCall h l).sto) ∧ Fr base w w' := by
  have L := Call_any I hos
  have e : (efCall h l).res = none ∧ (efCall h l).sto = [] ∧ (efCall h l).m = l := by unfold efCall; repeat' split
                                                                                      all_goals exact ⟨rfl, rfl, rfl⟩
  unfold ret2
  rw [e.1, e.2.1, e.2.2, List.append_nil]
  generalize efCall h l = E at *
  have L2 : Hid (Calls Tryd.prog 141 #[.pointer (some ⟨g, 0, none⟩)] w fun e w' => e = .returned (.tuple #[]) ∧ In w' base g E.h l (os ++ E.out) ss ∧ Fr base w w') := L
  clear L e I T
  subst ho
  unfold W at ha hb hn
  go_enter Tryd.func122, Tryd.ntmps122
  go_wp2_with (go_at_call 101; first | (refine (within_yes _ _ _ _ (by omega)).mono ?_; rintro e w' ⟨rfl, rfl⟩) | (refine (within_no _ _ _ _ (by omega)).mono ?_; rintro e w' ⟨rfl, rfl⟩))
  refine L2.out.mono ?_
  rintro e w' ⟨rfl, I2, B2⟩
  have HI2 : Hid (In w' base g E.h l (os ++ E.out) ss) := I2
  have HB2 : Hid (Fr base w w') := B2
  clear I2 B2 L2
  go_wp2_with fail
  go_ret2
  exact ⟨rfl, HI2.out, HB2.out⟩

set_option maxHeartbeats 1000000 in
theorem eff_break {w : World} {base g : Nat} {h : Hv} {l : List UInt8} {os : List Int} {ss : List (Int × Int)} (I : In w base g h l os ss) (T : Tb w base) (hl : l.length ≤ 140737488351232) (hss : ss.length ≤ 1000000) (hos : os.length ≤ 1000000) (op a b n : Int) (ha : W a) (hb : W b) (hn : W n) (ho : op = 59) :
    Calls Tryd.prog 122 #[.pointer (some ⟨g, 0, none⟩), .int .i64 op, .int .u32 a, .int .u32 b, .int .u32 n] w fun e w' => e = .returned (ret2 (⟨h.trap 6, l, [], [], none⟩ : Ev).res) ∧ In w' base g (⟨h.trap 6, l, [], [], none⟩ : Ev).h (⟨h.trap 6, l, [], [], none⟩ : Ev).m (os ++ (⟨h.trap 6, l, [], [], none⟩ : Ev).out) (ss ++ (⟨h.trap 6, l, [], [], none⟩ : Ev).sto) ∧ Fr base w w' := by
  have HI : Hid (In w base g h l os ss) := I
  have L2 : Hid (Calls Tryd.prog 104 #[.pointer (some ⟨g, 0, none⟩), .int .i64 6] w fun e w' => e = .returned (.tuple #[]) ∧ In w' base g (h.trap 6) l os ss ∧ Ch g w w') := trap_any I 6
  unfold ret2
  rw [List.append_nil, List.append_nil]
  clear I T
  subst ho
  unfold W at ha hb hn
  go_enter Tryd.func122, Tryd.ntmps122
  go_wp2_with (go_at_call 101; first | (refine (within_yes _ _ _ _ (by omega)).mono ?_; rintro e w' ⟨rfl, rfl⟩) | (refine (within_no _ _ _ _ (by omega)).mono ?_; rintro e w' ⟨rfl, rfl⟩))
  refine L2.out.mono ?_
  rintro e w' ⟨rfl, I2, B2⟩
  have HI2 : Hid (In w' base g (h.trap 6) l os ss) := I2
  have HB2 : Hid (Ch g w w') := B2
  clear I2 B2 L2
  go_wp2_with fail
  go_ret2
  exact ⟨rfl, HI2.out, HI.out.below HB2.out⟩

theorem effect_any (I : In w base g h l os ss) (T : Tb w base) (hl : l.length ≤ 140737488351232) (hss : ss.length ≤ 1000000) (hos : os.length ≤ 1000000) (op a b n : Int) (ha : W a) (hb : W b) (hn : W n) :
    Calls Tryd.prog 122 #[.pointer (some ⟨g, 0, none⟩), .int .i64 op, .int .u32 a, .int .u32 b, .int .u32 n] w fun e w' => e = .returned (ret2 (eff h l op a b n).res) ∧ In w' base g (eff h l op a b n).h (eff h l op a b n).m (os ++ (eff h l op a b n).out) (ss ++ (eff h l op a b n).sto) ∧ Fr base w w' := by
  unfold eff
  by_cases h1 : op = 1
  · rw [if_pos h1]; exact eff_1 I T hl hss hos op a b n ha hb hn h1
  rw [if_neg h1]
  by_cases h2 : op = 2
  · rw [if_pos h2]; exact eff_2 I T hl hss hos op a b n ha hb hn h2
  rw [if_neg h2]
  by_cases h3 : op = 3
  · rw [if_pos (.inl h3)]; exact eff_3 I T hl hss hos op a b n ha hb hn h3
  by_cases h4 : op = 4
  · rw [if_pos (.inr h4)]; exact eff_4 I T hl hss hos op a b n ha hb hn h4
  rw [if_neg (by omega)]
  by_cases h5 : 11 ≤ op ∧ op ≤ 15
  · rw [if_pos h5]; exact eff_load I T hl hss hos op a b n ha hb hn h5
  rw [if_neg h5]
  by_cases h6 : 16 ≤ op ∧ op ≤ 18
  · rw [if_pos h6]; exact eff_store I T hl hss hos op a b n ha hb hn h6
  rw [if_neg h6]
  by_cases h7 : 19 ≤ op ∧ op ≤ 27
  · rw [if_pos h7]; exact eff_alun I T hl hss hos op a b n ha hb hn h7
  rw [if_neg h7]
  by_cases h8 : 28 ≤ op ∧ op ≤ 45
  · rw [if_pos h8]; exact eff_alu I T hl hss hos op a b n ha hb hn h8
  rw [if_neg h8]
  by_cases h9 : 46 ≤ op ∧ op ≤ 56
  · rw [if_pos h9]; exact eff_atom I T hl hss hos op a b n ha hb hn h9
  rw [if_neg h9]
  by_cases h10 : op = 58
  · rw [if_pos h10]; exact eff_call I T hl hss hos op a b n ha hb hn h10
  rw [if_neg h10]
  by_cases h11 : op = 59
  · rw [if_pos h11]; exact eff_break I T hl hss hos op a b n ha hb hn h11
  rw [if_neg h11]
  exact eff_none I T hl hss hos op a b n ha hb hn (by omega)
end Go.Proofs.YtdiofidmlgliiaaDoor.Hc
