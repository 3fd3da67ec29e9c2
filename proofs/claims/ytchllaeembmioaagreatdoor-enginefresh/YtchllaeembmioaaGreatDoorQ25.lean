/-
  Tf, Walks5: texts of ours that lie in one file.
-/
import Derived.Test.YtchllaeembmioaaGreatDoorQ24
import Derived.Deep.RegionHeld3
import Derived.Test.YtchllaeembmioaaGreatDoorQ12
set_option linter.unusedVariables false
set_option linter.unusedSimpArgs false
set_option maxHeartbeats 8000000
set_option maxRecDepth 100000
namespace Go.Proofs.YtchllaeembmioaaGreatDoor.Ts
open Go.ChangeShapes Go.WideShapes Go.ChangeAt Go.RowKit Mm Hc Mi Bk
open Hh hiding Rn

def opersL : List Int := [0, 0, 0, 0, 0, 0, 0, 0, 0, 0, 0, 0, 0, 0, 0, 0, 0, 0, 0, 528, 531, 532, 533, 536, 537, 530, 534, 535]
def Tq (w : World) : Prop := ∀ k n, opersL[k]? = some n → w.cell? ⟨2, k, none⟩ = some (.int .i64 n)
theorem Tq.of {w w' : World} (h : Tq w) (g : Gr w w') : Tq w' := fun k n e => (g.cell _ (by exact Dw.lt_of_cell (h k n e))).trans (h k n e)
def Mades (op rd r1 r2 im a : Int) (n : Nat) (cs : List Value) : Prop := ∀ w : World, Tq w → Calls Tryz.prog 96 #[.agg #[.int .i64 op, .int .i64 rd, .int .i64 r1, .int .i64 r2, .int .i32 im], .int .u32 a] w fun e w' => ∃ v, e = .returned v ∧ Sr w' v n 5 cs ∧ Gr w w'
theorem lo_two (a im : Int) : Wd.lo (a + Wd.lo im) = (a + im) % 4294967296 := by unfold Wd.lo; omega
section
variable {op rd r1 r2 im a : Int}
theorem made_1 : Mades 1 rd r1 r2 im a 1 [.int .i64 2, .int .i64 rd, .int .i64 0, .int .i64 0, .int .u32 (Wd.lo im)] := fun w T => by
 clear T
 go_enter Tryz.func96, Tryz.ntmps96
 go_wp2_with fail
 refine (qset_any _ _ _).mono ?_
 rintro e w8 ⟨rfl, G1⟩
 go_wp2_with fail
 refine (qrow_any _ _).mono ?_
 rintro e w9 ⟨rfl, rfl⟩
 go_wp2_with fail
 go_ret
 refine ⟨_, rfl, ?_, ?_⟩
 ·exact Sr.at_ (by simp) _ _ _ _ rfl
 ·exact Gr.alloc (((Gr.refl _).alloc _).trans G1) _
theorem made_2 : Mades 2 rd r1 r2 im a 1 [.int .i64 2, .int .i64 rd, .int .i64 0, .int .i64 0, .int .u32 (Wd.lo (a + Wd.lo im))] := fun w T => by
 clear T
 go_enter Tryz.func96, Tryz.ntmps96
 go_wp2_with fail
 refine (qset_any _ _ _).mono ?_
 rintro e w8 ⟨rfl, G1⟩
 go_wp2_with fail
 refine (qrow_any _ _).mono ?_
 rintro e w9 ⟨rfl, rfl⟩
 go_wp2_with fail
 go_ret
 refine ⟨_, rfl, ?_, ?_⟩
 ·rw [lo_two]; exact Sr.at_ (by simp) _ _ _ _ rfl
 ·exact Gr.alloc (((Gr.refl _).alloc _).trans G1) _
theorem made_3 : Mades 3 rd r1 r2 im a 2 [.int .i64 2, .int .i64 rd, .int .i64 0, .int .i64 0, .int .u32 (Wd.lo (a + 4)), .int .i64 3, .int .i64 0, .int .i64 0, .int .i64 0, .int .u32 (Wd.lo (a + Wd.lo im))] := fun w T => by
 clear T
 go_enter Tryz.func96, Tryz.ntmps96
 go_wp2_with fail
 refine (qset_any _ _ _).mono ?_
 rintro e w8 ⟨rfl, G1⟩
 go_wp2_with fail
 refine (qrow_any _ _).mono ?_
 rintro e w9 ⟨rfl, rfl⟩
 go_wp2_with fail
 go_ret
 refine ⟨_, rfl, ?_, ?_⟩
 ·rw [lo_two]; exact Sr.at_ (by simp) _ _ _ _ rfl
 ·exact Gr.alloc (((Gr.refl _).alloc _).trans G1) _
theorem made_4 : Mades 4 rd r1 r2 im a 3 [.int .i64 528, .int .i64 32, .int .i64 r1, .int .i64 0, .int .u32 (Wd.lo im), .int .i64 2, .int .i64 rd, .int .i64 0, .int .i64 0, .int .u32 (Wd.lo (a + 4)), .int .i64 4, .int .i64 0, .int .i64 32, .int .i64 0, .int .u32 0] := fun w T => by
 clear T
 go_enter Tryz.func96, Tryz.ntmps96
 go_wp2_with fail
 refine (jump_any _ _ _ _ _ _ _).mono ?_
 rintro e w8 ⟨v, rfl, S1, G1⟩
 go_wp2_with fail
 go_ret
 exact ⟨_, rfl, S1, ((Gr.refl _).alloc _).trans G1⟩
theorem made_5 (ho : 5 ≤ op ∧ op ≤ 10) : Mades op rd r1 r2 im a 1 [.int .i64 (100 + op), .int .i64 0, .int .i64 r1, .int .i64 r2, .int .u32 (Wd.lo (a + Wd.lo im))] := fun w T => by
 have b1 : (op == 1) = false := by simp; omega
 have b2 : (op == 2) = false := by simp; omega
 have b3 : (op == 3) = false := by simp; omega
 have b4 : (op == 4) = false := by simp; omega
 have b19 : (op == 19) = false := by simp; omega
 clear T
 go_enter Tryz.func96, Tryz.ntmps96
 go_wp2_with fail
 refine (qwithin_yes (by omega) _).mono ?_
 rintro e w0 ⟨rfl, rfl⟩
 go_wp2_with fail
 refine (qrow_any _ _).mono ?_
 rintro e w9 ⟨rfl, rfl⟩
 go_wp2_with fail
 go_ret
 refine ⟨_, rfl, ?_, ?_⟩
 ·rw [lo_two]; exact Sr.at_ (by simp) _ _ _ _ rfl
 ·exact Gr.alloc ((Gr.refl _).alloc _) _
theorem made_11 (ho : 11 ≤ op ∧ op ≤ 15) : Mades op rd r1 r2 im a 1 [.int .i64 (200 + op), .int .i64 rd, .int .i64 r1, .int .i64 0, .int .u32 (Wd.lo im)] := fun w T => by
 have b1 : (op == 1) = false := by simp; omega
 have b2 : (op == 2) = false := by simp; omega
 have b3 : (op == 3) = false := by simp; omega
 have b4 : (op == 4) = false := by simp; omega
 have b19 : (op == 19) = false := by simp; omega
 clear T
 go_enter Tryz.func96, Tryz.ntmps96
 go_wp2_with fail
 refine (qwithin_no (by omega) _).mono ?_
 rintro e w0 ⟨rfl, rfl⟩
 go_wp2_with fail
 refine (qwithin_yes (by omega) _).mono ?_
 rintro e w1 ⟨rfl, rfl⟩
 go_wp2_with fail
 refine (qrow_any _ _).mono ?_
 rintro e w9 ⟨rfl, rfl⟩
 go_wp2_with fail
 go_ret
 refine ⟨_, rfl, ?_, ?_⟩
 ·exact Sr.at_ (by simp) _ _ _ _ rfl
 ·exact Gr.alloc ((Gr.refl _).alloc _) _
theorem made_16 (ho : 16 ≤ op ∧ op ≤ 18) : Mades op rd r1 r2 im a 1 [.int .i64 (300 + op), .int .i64 0, .int .i64 r1, .int .i64 r2, .int .u32 (Wd.lo im)] := fun w T => by
 have b1 : (op == 1) = false := by simp; omega
 have b2 : (op == 2) = false := by simp; omega
 have b3 : (op == 3) = false := by simp; omega
 have b4 : (op == 4) = false := by simp; omega
 have b19 : (op == 19) = false := by simp; omega
 clear T
 go_enter Tryz.func96, Tryz.ntmps96
 go_wp2_with fail
 refine (qwithin_no (by omega) _).mono ?_
 rintro e w0 ⟨rfl, rfl⟩
 go_wp2_with fail
 refine (qwithin_no (by omega) _).mono ?_
 rintro e w1 ⟨rfl, rfl⟩
 go_wp2_with fail
 refine (qwithin_yes (by omega) _).mono ?_
 rintro e w2 ⟨rfl, rfl⟩
 go_wp2_with fail
 refine (qrow_any _ _).mono ?_
 rintro e w9 ⟨rfl, rfl⟩
 go_wp2_with fail
 go_ret
 refine ⟨_, rfl, ?_, ?_⟩
 ·exact Sr.at_ (by simp) _ _ _ _ rfl
 ·exact Gr.alloc ((Gr.refl _).alloc _) _
theorem made_28 (ho : 28 ≤ op ∧ op ≤ 45) : Mades op rd r1 r2 im a 1 [.int .i64 (400 + op), .int .i64 rd, .int .i64 r1, .int .i64 r2, .int .u32 0] := fun w T => by
 have b1 : (op == 1) = false := by simp; omega
 have b2 : (op == 2) = false := by simp; omega
 have b3 : (op == 3) = false := by simp; omega
 have b4 : (op == 4) = false := by simp; omega
 have b19 : (op == 19) = false := by simp; omega
 clear T
 go_enter Tryz.func96, Tryz.ntmps96
 go_wp2_with fail
 refine (qwithin_no (by omega) _).mono ?_
 rintro e w0 ⟨rfl, rfl⟩
 go_wp2_with fail
 refine (qwithin_no (by omega) _).mono ?_
 rintro e w1 ⟨rfl, rfl⟩
 go_wp2_with fail
 refine (qwithin_no (by omega) _).mono ?_
 rintro e w2 ⟨rfl, rfl⟩
 go_wp2_with fail
 refine (qwithin_no (by omega) _).mono ?_
 rintro e w3 ⟨rfl, rfl⟩
 go_wp2_with fail
 refine (qwithin_yes (by omega) _).mono ?_
 rintro e w4 ⟨rfl, rfl⟩
 go_wp2_with fail
 refine (qrow_any _ _).mono ?_
 rintro e w9 ⟨rfl, rfl⟩
 go_wp2_with fail
 go_ret
 refine ⟨_, rfl, ?_, ?_⟩
 ·exact Sr.at_ (by simp) _ _ _ _ rfl
 ·exact Gr.alloc ((Gr.refl _).alloc _) _
theorem made_46 (ho : 46 ≤ op ∧ op ≤ 56) : Mades op rd r1 r2 im a 1 [.int .i64 (600 + op), .int .i64 rd, .int .i64 r1, .int .i64 r2, .int .u32 0] := fun w T => by
 have b1 : (op == 1) = false := by simp; omega
 have b2 : (op == 2) = false := by simp; omega
 have b3 : (op == 3) = false := by simp; omega
 have b4 : (op == 4) = false := by simp; omega
 have b19 : (op == 19) = false := by simp; omega
 clear T
 go_enter Tryz.func96, Tryz.ntmps96
 go_wp2_with fail
 refine (qwithin_no (by omega) _).mono ?_
 rintro e w0 ⟨rfl, rfl⟩
 go_wp2_with fail
 refine (qwithin_no (by omega) _).mono ?_
 rintro e w1 ⟨rfl, rfl⟩
 go_wp2_with fail
 refine (qwithin_no (by omega) _).mono ?_
 rintro e w2 ⟨rfl, rfl⟩
 go_wp2_with fail
 refine (qwithin_no (by omega) _).mono ?_
 rintro e w3 ⟨rfl, rfl⟩
 go_wp2_with fail
 refine (qwithin_no (by omega) _).mono ?_
 rintro e w4 ⟨rfl, rfl⟩
 go_wp2_with fail
 refine (qwithin_yes (by omega) _).mono ?_
 rintro e w5 ⟨rfl, rfl⟩
 go_wp2_with fail
 refine (qrow_any _ _).mono ?_
 rintro e w9 ⟨rfl, rfl⟩
 go_wp2_with fail
 go_ret
 refine ⟨_, rfl, ?_, ?_⟩
 ·exact Sr.at_ (by simp) _ _ _ _ rfl
 ·exact Gr.alloc ((Gr.refl _).alloc _) _
theorem made_19a : Mades 19 rd 0 r2 im a 1 [.int .i64 2, .int .i64 rd, .int .i64 0, .int .i64 0, .int .u32 (Wd.lo im)] := fun w T => by
 clear T
 go_enter Tryz.func96, Tryz.ntmps96
 go_wp2_with fail
 refine (qwithin_no (by omega) _).mono ?_
 rintro e w0 ⟨rfl, rfl⟩
 go_wp2_with fail
 refine (qwithin_no (by omega) _).mono ?_
 rintro e w1 ⟨rfl, rfl⟩
 go_wp2_with fail
 refine (qwithin_no (by omega) _).mono ?_
 rintro e w2 ⟨rfl, rfl⟩
 go_wp2_with fail
 refine (qset_any _ _ _).mono ?_
 rintro e w8 ⟨rfl, G1⟩
 go_wp2_with fail
 refine (qrow_any _ _).mono ?_
 rintro e w9 ⟨rfl, rfl⟩
 go_wp2_with fail
 go_ret
 refine ⟨_, rfl, ?_, ?_⟩
 ·exact Sr.at_ (by simp) _ _ _ _ rfl
 ·exact Gr.alloc (((Gr.refl _).alloc _).trans G1) _
theorem made_19b (hz : (r1 == 0) = false) : Mades 19 0 r1 r2 im a 1 [.int .i64 2, .int .i64 0, .int .i64 0, .int .i64 0, .int .u32 (Wd.lo im)] := fun w T => by
 clear T
 go_enter Tryz.func96, Tryz.ntmps96
 go_wp2_with fail
 refine (qwithin_no (by omega) _).mono ?_
 rintro e w0 ⟨rfl, rfl⟩
 go_wp2_with fail
 refine (qwithin_no (by omega) _).mono ?_
 rintro e w1 ⟨rfl, rfl⟩
 go_wp2_with fail
 refine (qwithin_no (by omega) _).mono ?_
 rintro e w2 ⟨rfl, rfl⟩
 go_wp2_with fail
 refine (qset_any _ _ _).mono ?_
 rintro e w8 ⟨rfl, G1⟩
 go_wp2_with fail
 refine (qrow_any _ _).mono ?_
 rintro e w9 ⟨rfl, rfl⟩
 go_wp2_with fail
 go_ret
 refine ⟨_, rfl, ?_, ?_⟩
 ·exact Sr.at_ (by simp) _ _ _ _ rfl
 ·exact Gr.alloc (((Gr.refl _).alloc _).trans G1) _
theorem made_n19 (hz : (r1 == 0) = false) (hy : (rd == 0) = false) : Mades 19 rd r1 r2 im a 1 [.int .i64 528, .int .i64 rd, .int .i64 r1, .int .i64 0, .int .u32 (Wd.lo im)] := fun w T => by
 have HT : Hid (∀ W : World, Gr w W → W.cell? ⟨2, 19, none⟩ = some (.int .i64 528)) := fun W G => (T.of G) 19 _ rfl
 have hq : (w.alloc (.cells #[.int .i64 19, .int .i64 rd, .int .i64 r1, .int .i64 r2, .int .i32 im] 77)).cell? ⟨2, 19, none⟩ = some (.int .i64 528) := HT.out _ ((Gr.refl _).alloc _)
 clear T
 go_enter Tryz.func96, Tryz.ntmps96
 go_wp2_with fail
 refine (qwithin_no (by omega) _).mono ?_
 rintro e w0 ⟨rfl, rfl⟩
 go_wp2_with fail
 refine (qwithin_no (by omega) _).mono ?_
 rintro e w1 ⟨rfl, rfl⟩
 go_wp2_with fail
 refine (qwithin_no (by omega) _).mono ?_
 rintro e w2 ⟨rfl, rfl⟩
 go_wp2_with fail
 refine (qwithin_yes (by omega) _).mono ?_
 rintro e w3 ⟨rfl, rfl⟩
 go_wp2_with fail
 go_region_held3 (fun W => W.cell? ⟨w.heap.size, 0, none⟩ = some (.int .i64 19) ∧ W.cell? ⟨w.heap.size, 1, none⟩ = some (.int .i64 rd) ∧ W.cell? ⟨w.heap.size, 2, none⟩ = some (.int .i64 r1) ∧ W.cell? ⟨2, 19, none⟩ = some (.int .i64 528)) (first | (go_keep; done) | (refine ⟨?_, ?_, ?_, ?_⟩ <;> first | assumption | (simp; done))) ((go_at_call 117; refine (qrow_any _ _).mono ?_; rintro e w9 ⟨rfl, rfl⟩))
 go_wp2_with fail
 go_ret
 refine ⟨_, rfl, ?_, ?_⟩
 ·repeat (refine Sr.drew ?_)
  exact Sr.at_ (by simp) _ _ _ _ rfl
 ·repeat (first | exact Gr.refl _ | refine Gr.drewN ?_ _ | refine Gr.drew ?_ | refine Gr.alloc ?_ _)
theorem made_n20 : Mades 20 rd r1 r2 im a 1 [.int .i64 531, .int .i64 rd, .int .i64 r1, .int .i64 0, .int .u32 (Wd.lo im)] := fun w T => by
 have HT : Hid (∀ W : World, Gr w W → W.cell? ⟨2, 20, none⟩ = some (.int .i64 531)) := fun W G => (T.of G) 20 _ rfl
 have hq : (w.alloc (.cells #[.int .i64 20, .int .i64 rd, .int .i64 r1, .int .i64 r2, .int .i32 im] 77)).cell? ⟨2, 20, none⟩ = some (.int .i64 531) := HT.out _ ((Gr.refl _).alloc _)
 clear T
 go_enter Tryz.func96, Tryz.ntmps96
 go_wp2_with fail
 refine (qwithin_no (by omega) _).mono ?_
 rintro e w0 ⟨rfl, rfl⟩
 go_wp2_with fail
 refine (qwithin_no (by omega) _).mono ?_
 rintro e w1 ⟨rfl, rfl⟩
 go_wp2_with fail
 refine (qwithin_no (by omega) _).mono ?_
 rintro e w2 ⟨rfl, rfl⟩
 go_wp2_with fail
 refine (qwithin_yes (by omega) _).mono ?_
 rintro e w3 ⟨rfl, rfl⟩
 go_wp2_with fail
 go_region_held3 (fun W => W.cell? ⟨w.heap.size, 0, none⟩ = some (.int .i64 20) ∧ W.cell? ⟨w.heap.size, 1, none⟩ = some (.int .i64 rd) ∧ W.cell? ⟨w.heap.size, 2, none⟩ = some (.int .i64 r1) ∧ W.cell? ⟨2, 20, none⟩ = some (.int .i64 531)) (first | (go_keep; done) | (refine ⟨?_, ?_, ?_, ?_⟩ <;> first | assumption | (simp; done))) ((go_at_call 117; refine (qrow_any _ _).mono ?_; rintro e w9 ⟨rfl, rfl⟩))
 go_wp2_with fail
 go_ret
 refine ⟨_, rfl, ?_, ?_⟩
 ·repeat (refine Sr.drew ?_)
  exact Sr.at_ (by simp) _ _ _ _ rfl
 ·repeat (first | exact Gr.refl _ | refine Gr.drewN ?_ _ | refine Gr.drew ?_ | refine Gr.alloc ?_ _)
theorem made_n21 : Mades 21 rd r1 r2 im a 1 [.int .i64 532, .int .i64 rd, .int .i64 r1, .int .i64 0, .int .u32 (Wd.lo im)] := fun w T => by
 have HT : Hid (∀ W : World, Gr w W → W.cell? ⟨2, 21, none⟩ = some (.int .i64 532)) := fun W G => (T.of G) 21 _ rfl
 have hq : (w.alloc (.cells #[.int .i64 21, .int .i64 rd, .int .i64 r1, .int .i64 r2, .int .i32 im] 77)).cell? ⟨2, 21, none⟩ = some (.int .i64 532) := HT.out _ ((Gr.refl _).alloc _)
 clear T
 go_enter Tryz.func96, Tryz.ntmps96
 go_wp2_with fail
 refine (qwithin_no (by omega) _).mono ?_
 rintro e w0 ⟨rfl, rfl⟩
 go_wp2_with fail
 refine (qwithin_no (by omega) _).mono ?_
 rintro e w1 ⟨rfl, rfl⟩
 go_wp2_with fail
 refine (qwithin_no (by omega) _).mono ?_
 rintro e w2 ⟨rfl, rfl⟩
 go_wp2_with fail
 refine (qwithin_yes (by omega) _).mono ?_
 rintro e w3 ⟨rfl, rfl⟩
 go_wp2_with fail
 go_region_held3 (fun W => W.cell? ⟨w.heap.size, 0, none⟩ = some (.int .i64 21) ∧ W.cell? ⟨w.heap.size, 1, none⟩ = some (.int .i64 rd) ∧ W.cell? ⟨w.heap.size, 2, none⟩ = some (.int .i64 r1) ∧ W.cell? ⟨2, 21, none⟩ = some (.int .i64 532)) (first | (go_keep; done) | (refine ⟨?_, ?_, ?_, ?_⟩ <;> first | assumption | (simp; done))) ((go_at_call 117; refine (qrow_any _ _).mono ?_; rintro e w9 ⟨rfl, rfl⟩))
 go_wp2_with fail
 go_ret
 refine ⟨_, rfl, ?_, ?_⟩
 ·repeat (refine Sr.drew ?_)
  exact Sr.at_ (by simp) _ _ _ _ rfl
 ·repeat (first | exact Gr.refl _ | refine Gr.drewN ?_ _ | refine Gr.drew ?_ | refine Gr.alloc ?_ _)
theorem made_n22 : Mades 22 rd r1 r2 im a 1 [.int .i64 533, .int .i64 rd, .int .i64 r1, .int .i64 0, .int .u32 (Wd.lo im)] := fun w T => by
 have HT : Hid (∀ W : World, Gr w W → W.cell? ⟨2, 22, none⟩ = some (.int .i64 533)) := fun W G => (T.of G) 22 _ rfl
 have hq : (w.alloc (.cells #[.int .i64 22, .int .i64 rd, .int .i64 r1, .int .i64 r2, .int .i32 im] 77)).cell? ⟨2, 22, none⟩ = some (.int .i64 533) := HT.out _ ((Gr.refl _).alloc _)
 clear T
 go_enter Tryz.func96, Tryz.ntmps96
 go_wp2_with fail
 refine (qwithin_no (by omega) _).mono ?_
 rintro e w0 ⟨rfl, rfl⟩
 go_wp2_with fail
 refine (qwithin_no (by omega) _).mono ?_
 rintro e w1 ⟨rfl, rfl⟩
 go_wp2_with fail
 refine (qwithin_no (by omega) _).mono ?_
 rintro e w2 ⟨rfl, rfl⟩
 go_wp2_with fail
 refine (qwithin_yes (by omega) _).mono ?_
 rintro e w3 ⟨rfl, rfl⟩
 go_wp2_with fail
 go_region_held3 (fun W => W.cell? ⟨w.heap.size, 0, none⟩ = some (.int .i64 22) ∧ W.cell? ⟨w.heap.size, 1, none⟩ = some (.int .i64 rd) ∧ W.cell? ⟨w.heap.size, 2, none⟩ = some (.int .i64 r1) ∧ W.cell? ⟨2, 22, none⟩ = some (.int .i64 533)) (first | (go_keep; done) | (refine ⟨?_, ?_, ?_, ?_⟩ <;> first | assumption | (simp; done))) ((go_at_call 117; refine (qrow_any _ _).mono ?_; rintro e w9 ⟨rfl, rfl⟩))
 go_wp2_with fail
 go_ret
 refine ⟨_, rfl, ?_, ?_⟩
 ·repeat (refine Sr.drew ?_)
  exact Sr.at_ (by simp) _ _ _ _ rfl
 ·repeat (first | exact Gr.refl _ | refine Gr.drewN ?_ _ | refine Gr.drew ?_ | refine Gr.alloc ?_ _)
theorem made_n23 : Mades 23 rd r1 r2 im a 1 [.int .i64 536, .int .i64 rd, .int .i64 r1, .int .i64 0, .int .u32 (Wd.lo im)] := fun w T => by
 have HT : Hid (∀ W : World, Gr w W → W.cell? ⟨2, 23, none⟩ = some (.int .i64 536)) := fun W G => (T.of G) 23 _ rfl
 have hq : (w.alloc (.cells #[.int .i64 23, .int .i64 rd, .int .i64 r1, .int .i64 r2, .int .i32 im] 77)).cell? ⟨2, 23, none⟩ = some (.int .i64 536) := HT.out _ ((Gr.refl _).alloc _)
 clear T
 go_enter Tryz.func96, Tryz.ntmps96
 go_wp2_with fail
 refine (qwithin_no (by omega) _).mono ?_
 rintro e w0 ⟨rfl, rfl⟩
 go_wp2_with fail
 refine (qwithin_no (by omega) _).mono ?_
 rintro e w1 ⟨rfl, rfl⟩
 go_wp2_with fail
 refine (qwithin_no (by omega) _).mono ?_
 rintro e w2 ⟨rfl, rfl⟩
 go_wp2_with fail
 refine (qwithin_yes (by omega) _).mono ?_
 rintro e w3 ⟨rfl, rfl⟩
 go_wp2_with fail
 go_region_held3 (fun W => W.cell? ⟨w.heap.size, 0, none⟩ = some (.int .i64 23) ∧ W.cell? ⟨w.heap.size, 1, none⟩ = some (.int .i64 rd) ∧ W.cell? ⟨w.heap.size, 2, none⟩ = some (.int .i64 r1) ∧ W.cell? ⟨2, 23, none⟩ = some (.int .i64 536)) (first | (go_keep; done) | (refine ⟨?_, ?_, ?_, ?_⟩ <;> first | assumption | (simp; done))) ((go_at_call 117; refine (qrow_any _ _).mono ?_; rintro e w9 ⟨rfl, rfl⟩))
 go_wp2_with fail
 go_ret
 refine ⟨_, rfl, ?_, ?_⟩
 ·repeat (refine Sr.drew ?_)
  exact Sr.at_ (by simp) _ _ _ _ rfl
 ·repeat (first | exact Gr.refl _ | refine Gr.drewN ?_ _ | refine Gr.drew ?_ | refine Gr.alloc ?_ _)
theorem made_n24 : Mades 24 rd r1 r2 im a 1 [.int .i64 537, .int .i64 rd, .int .i64 r1, .int .i64 0, .int .u32 (Wd.lo im)] := fun w T => by
 have HT : Hid (∀ W : World, Gr w W → W.cell? ⟨2, 24, none⟩ = some (.int .i64 537)) := fun W G => (T.of G) 24 _ rfl
 have hq : (w.alloc (.cells #[.int .i64 24, .int .i64 rd, .int .i64 r1, .int .i64 r2, .int .i32 im] 77)).cell? ⟨2, 24, none⟩ = some (.int .i64 537) := HT.out _ ((Gr.refl _).alloc _)
 clear T
 go_enter Tryz.func96, Tryz.ntmps96
 go_wp2_with fail
 refine (qwithin_no (by omega) _).mono ?_
 rintro e w0 ⟨rfl, rfl⟩
 go_wp2_with fail
 refine (qwithin_no (by omega) _).mono ?_
 rintro e w1 ⟨rfl, rfl⟩
 go_wp2_with fail
 refine (qwithin_no (by omega) _).mono ?_
 rintro e w2 ⟨rfl, rfl⟩
 go_wp2_with fail
 refine (qwithin_yes (by omega) _).mono ?_
 rintro e w3 ⟨rfl, rfl⟩
 go_wp2_with fail
 go_region_held3 (fun W => W.cell? ⟨w.heap.size, 0, none⟩ = some (.int .i64 24) ∧ W.cell? ⟨w.heap.size, 1, none⟩ = some (.int .i64 rd) ∧ W.cell? ⟨w.heap.size, 2, none⟩ = some (.int .i64 r1) ∧ W.cell? ⟨2, 24, none⟩ = some (.int .i64 537)) (first | (go_keep; done) | (refine ⟨?_, ?_, ?_, ?_⟩ <;> first | assumption | (simp; done))) ((go_at_call 117; refine (qrow_any _ _).mono ?_; rintro e w9 ⟨rfl, rfl⟩))
 go_wp2_with fail
 go_ret
 refine ⟨_, rfl, ?_, ?_⟩
 ·repeat (refine Sr.drew ?_)
  exact Sr.at_ (by simp) _ _ _ _ rfl
 ·repeat (first | exact Gr.refl _ | refine Gr.drewN ?_ _ | refine Gr.drew ?_ | refine Gr.alloc ?_ _)
theorem made_n25 : Mades 25 rd r1 r2 im a 1 [.int .i64 530, .int .i64 rd, .int .i64 r1, .int .i64 0, .int .u32 (Wd.lo im)] := fun w T => by
 have HT : Hid (∀ W : World, Gr w W → W.cell? ⟨2, 25, none⟩ = some (.int .i64 530)) := fun W G => (T.of G) 25 _ rfl
 have hq : (w.alloc (.cells #[.int .i64 25, .int .i64 rd, .int .i64 r1, .int .i64 r2, .int .i32 im] 77)).cell? ⟨2, 25, none⟩ = some (.int .i64 530) := HT.out _ ((Gr.refl _).alloc _)
 clear T
 go_enter Tryz.func96, Tryz.ntmps96
 go_wp2_with fail
 refine (qwithin_no (by omega) _).mono ?_
 rintro e w0 ⟨rfl, rfl⟩
 go_wp2_with fail
 refine (qwithin_no (by omega) _).mono ?_
 rintro e w1 ⟨rfl, rfl⟩
 go_wp2_with fail
 refine (qwithin_no (by omega) _).mono ?_
 rintro e w2 ⟨rfl, rfl⟩
 go_wp2_with fail
 refine (qwithin_yes (by omega) _).mono ?_
 rintro e w3 ⟨rfl, rfl⟩
 go_wp2_with fail
 go_region_held3 (fun W => W.cell? ⟨w.heap.size, 0, none⟩ = some (.int .i64 25) ∧ W.cell? ⟨w.heap.size, 1, none⟩ = some (.int .i64 rd) ∧ W.cell? ⟨w.heap.size, 2, none⟩ = some (.int .i64 r1) ∧ W.cell? ⟨2, 25, none⟩ = some (.int .i64 530)) (first | (go_keep; done) | (refine ⟨?_, ?_, ?_, ?_⟩ <;> first | assumption | (simp; done))) ((go_at_call 117; refine (qrow_any _ _).mono ?_; rintro e w9 ⟨rfl, rfl⟩))
 go_wp2_with fail
 go_ret
 refine ⟨_, rfl, ?_, ?_⟩
 ·repeat (refine Sr.drew ?_)
  exact Sr.at_ (by simp) _ _ _ _ rfl
 ·repeat (first | exact Gr.refl _ | refine Gr.drewN ?_ _ | refine Gr.drew ?_ | refine Gr.alloc ?_ _)
theorem made_n26 : Mades 26 rd r1 r2 im a 1 [.int .i64 534, .int .i64 rd, .int .i64 r1, .int .i64 0, .int .u32 (Wd.lo im)] := fun w T => by
 have HT : Hid (∀ W : World, Gr w W → W.cell? ⟨2, 26, none⟩ = some (.int .i64 534)) := fun W G => (T.of G) 26 _ rfl
 have hq : (w.alloc (.cells #[.int .i64 26, .int .i64 rd, .int .i64 r1, .int .i64 r2, .int .i32 im] 77)).cell? ⟨2, 26, none⟩ = some (.int .i64 534) := HT.out _ ((Gr.refl _).alloc _)
 clear T
 go_enter Tryz.func96, Tryz.ntmps96
 go_wp2_with fail
 refine (qwithin_no (by omega) _).mono ?_
 rintro e w0 ⟨rfl, rfl⟩
 go_wp2_with fail
 refine (qwithin_no (by omega) _).mono ?_
 rintro e w1 ⟨rfl, rfl⟩
 go_wp2_with fail
 refine (qwithin_no (by omega) _).mono ?_
 rintro e w2 ⟨rfl, rfl⟩
 go_wp2_with fail
 refine (qwithin_yes (by omega) _).mono ?_
 rintro e w3 ⟨rfl, rfl⟩
 go_wp2_with fail
 go_region_held3 (fun W => W.cell? ⟨w.heap.size, 0, none⟩ = some (.int .i64 26) ∧ W.cell? ⟨w.heap.size, 1, none⟩ = some (.int .i64 rd) ∧ W.cell? ⟨w.heap.size, 2, none⟩ = some (.int .i64 r1) ∧ W.cell? ⟨2, 26, none⟩ = some (.int .i64 534)) (first | (go_keep; done) | (refine ⟨?_, ?_, ?_, ?_⟩ <;> first | assumption | (simp; done))) ((go_at_call 117; refine (qrow_any _ _).mono ?_; rintro e w9 ⟨rfl, rfl⟩))
 go_wp2_with fail
 go_ret
 refine ⟨_, rfl, ?_, ?_⟩
 ·repeat (refine Sr.drew ?_)
  exact Sr.at_ (by simp) _ _ _ _ rfl
 ·repeat (first | exact Gr.refl _ | refine Gr.drewN ?_ _ | refine Gr.drew ?_ | refine Gr.alloc ?_ _)
theorem made_n27 : Mades 27 rd r1 r2 im a 1 [.int .i64 535, .int .i64 rd, .int .i64 r1, .int .i64 0, .int .u32 (Wd.lo im)] := fun w T => by
 have HT : Hid (∀ W : World, Gr w W → W.cell? ⟨2, 27, none⟩ = some (.int .i64 535)) := fun W G => (T.of G) 27 _ rfl
 have hq : (w.alloc (.cells #[.int .i64 27, .int .i64 rd, .int .i64 r1, .int .i64 r2, .int .i32 im] 77)).cell? ⟨2, 27, none⟩ = some (.int .i64 535) := HT.out _ ((Gr.refl _).alloc _)
 clear T
 go_enter Tryz.func96, Tryz.ntmps96
 go_wp2_with fail
 refine (qwithin_no (by omega) _).mono ?_
 rintro e w0 ⟨rfl, rfl⟩
 go_wp2_with fail
 refine (qwithin_no (by omega) _).mono ?_
 rintro e w1 ⟨rfl, rfl⟩
 go_wp2_with fail
 refine (qwithin_no (by omega) _).mono ?_
 rintro e w2 ⟨rfl, rfl⟩
 go_wp2_with fail
 refine (qwithin_yes (by omega) _).mono ?_
 rintro e w3 ⟨rfl, rfl⟩
 go_wp2_with fail
 go_region_held3 (fun W => W.cell? ⟨w.heap.size, 0, none⟩ = some (.int .i64 27) ∧ W.cell? ⟨w.heap.size, 1, none⟩ = some (.int .i64 rd) ∧ W.cell? ⟨w.heap.size, 2, none⟩ = some (.int .i64 r1) ∧ W.cell? ⟨2, 27, none⟩ = some (.int .i64 535)) (first | (go_keep; done) | (refine ⟨?_, ?_, ?_, ?_⟩ <;> first | assumption | (simp; done))) ((go_at_call 117; refine (qrow_any _ _).mono ?_; rintro e w9 ⟨rfl, rfl⟩))
 go_wp2_with fail
 go_ret
 refine ⟨_, rfl, ?_, ?_⟩
 ·repeat (refine Sr.drew ?_)
  exact Sr.at_ (by simp) _ _ _ _ rfl
 ·repeat (first | exact Gr.refl _ | refine Gr.drewN ?_ _ | refine Gr.drew ?_ | refine Gr.alloc ?_ _)
theorem made_58 : Mades 58 rd r1 r2 im a 1 [.int .i64 5, .int .i64 0, .int .i64 0, .int .i64 0, .int .u32 0] := fun w T => by
 clear T
 go_enter Tryz.func96, Tryz.ntmps96
 go_wp2_with fail
 refine (qwithin_no (by omega) _).mono ?_
 rintro e w0 ⟨rfl, rfl⟩
 go_wp2_with fail
 refine (qwithin_no (by omega) _).mono ?_
 rintro e w1 ⟨rfl, rfl⟩
 go_wp2_with fail
 refine (qwithin_no (by omega) _).mono ?_
 rintro e w2 ⟨rfl, rfl⟩
 go_wp2_with fail
 refine (qwithin_no (by omega) _).mono ?_
 rintro e w3 ⟨rfl, rfl⟩
 go_wp2_with fail
 refine (qwithin_no (by omega) _).mono ?_
 rintro e w4 ⟨rfl, rfl⟩
 go_wp2_with fail
 refine (qwithin_no (by omega) _).mono ?_
 rintro e w5 ⟨rfl, rfl⟩
 go_wp2_with fail
 refine (qrow_any _ _).mono ?_
 rintro e w9 ⟨rfl, rfl⟩
 go_wp2_with fail
 go_ret
 refine ⟨_, rfl, ?_, ?_⟩
 ·exact Sr.at_ (by simp) _ _ _ _ rfl
 ·exact Gr.alloc ((Gr.refl _).alloc _) _
theorem made_59 : Mades 59 rd r1 r2 im a 1 [.int .i64 6, .int .i64 0, .int .i64 0, .int .i64 0, .int .u32 0] := fun w T => by
 clear T
 go_enter Tryz.func96, Tryz.ntmps96
 go_wp2_with fail
 refine (qwithin_no (by omega) _).mono ?_
 rintro e w0 ⟨rfl, rfl⟩
 go_wp2_with fail
 refine (qwithin_no (by omega) _).mono ?_
 rintro e w1 ⟨rfl, rfl⟩
 go_wp2_with fail
 refine (qwithin_no (by omega) _).mono ?_
 rintro e w2 ⟨rfl, rfl⟩
 go_wp2_with fail
 refine (qwithin_no (by omega) _).mono ?_
 rintro e w3 ⟨rfl, rfl⟩
 go_wp2_with fail
 refine (qwithin_no (by omega) _).mono ?_
 rintro e w4 ⟨rfl, rfl⟩
 go_wp2_with fail
 refine (qwithin_no (by omega) _).mono ?_
 rintro e w5 ⟨rfl, rfl⟩
 go_wp2_with fail
 refine (qrow_any _ _).mono ?_
 rintro e w9 ⟨rfl, rfl⟩
 go_wp2_with fail
 go_ret
 refine ⟨_, rfl, ?_, ?_⟩
 ·exact Sr.at_ (by simp) _ _ _ _ rfl
 ·exact Gr.alloc ((Gr.refl _).alloc _) _
theorem made_57 : Mades 57 rd r1 r2 im a 0 [] := fun w T => by
 clear T
 go_enter Tryz.func96, Tryz.ntmps96
 go_wp2_with fail
 refine (qwithin_no (by omega) _).mono ?_
 rintro e w0 ⟨rfl, rfl⟩
 go_wp2_with fail
 refine (qwithin_no (by omega) _).mono ?_
 rintro e w1 ⟨rfl, rfl⟩
 go_wp2_with fail
 refine (qwithin_no (by omega) _).mono ?_
 rintro e w2 ⟨rfl, rfl⟩
 go_wp2_with fail
 refine (qwithin_no (by omega) _).mono ?_
 rintro e w3 ⟨rfl, rfl⟩
 go_wp2_with fail
 refine (qwithin_no (by omega) _).mono ?_
 rintro e w4 ⟨rfl, rfl⟩
 go_wp2_with fail
 refine (qwithin_no (by omega) _).mono ?_
 rintro e w5 ⟨rfl, rfl⟩
 go_wp2_with fail
 go_ret
 exact ⟨_, rfl, .inl ⟨rfl, rfl, rfl⟩, (Gr.refl _).alloc _⟩
end
theorem made_any {a : Int} {i : Iv} (h : i.In) : Mades i.op i.rd i.r1 i.r2 i.im a (mdV a i).length (mvC (mdV a i)) := by
 obtain ⟨op, rd, r1, r2, im⟩ := i
 obtain ⟨o1, o2, d0, d1, a0, a1, b0, b1⟩ := h
 simp only at o1 o2 d0 d1 a0 a1 b0 b1
 unfold mdV
 simp only
 by_cases h0 : op = 1
 ·rw [if_pos h0]
  subst h0; exact made_1
 rw [if_neg h0]
 by_cases h1 : op = 2
 ·rw [if_pos h1]
  subst h1; exact made_2
 rw [if_neg h1]
 by_cases h2 : op = 3
 ·rw [if_pos h2]
  subst h2; exact made_3
 rw [if_neg h2]
 by_cases h3 : op = 4
 ·rw [if_pos h3]
  subst h3; exact made_4
 rw [if_neg h3]
 by_cases h4 : 5 ≤ op ∧ op ≤ 10
 ·rw [if_pos h4]
  exact made_5 h4
 rw [if_neg h4]
 by_cases h5 : 11 ≤ op ∧ op ≤ 15
 ·rw [if_pos h5]
  exact made_11 h5
 rw [if_neg h5]
 by_cases h6 : 16 ≤ op ∧ op ≤ 18
 ·rw [if_pos h6]
  exact made_16 h6
 rw [if_neg h6]
 by_cases h7 : op = 19 ∧ (r1 = 0 ∨ rd = 0)
 ·rw [if_pos h7]
  obtain ⟨rfl, hh⟩ := h7
  by_cases hr : r1 = 0
  ·subst hr; exact made_19a
  ·have : rd = 0 := by rcases hh with hh | hh; exact absurd hh hr; exact hh
   subst this
   exact made_19b (by simpa using hr)
 rw [if_neg h7]
 by_cases h8 : 19 ≤ op ∧ op ≤ 27
 ·rw [if_pos h8]
  have hc : op = 19 ∨ op = 20 ∨ op = 21 ∨ op = 22 ∨ op = 23 ∨ op = 24 ∨ op = 25 ∨ op = 26 ∨ op = 27 := by omega
  rcases hc with rfl | rfl | rfl | rfl | rfl | rfl | rfl | rfl | rfl
  ·have hz : ¬ (r1 = 0 ∨ rd = 0) := fun hq => h7 ⟨rfl, hq⟩
   exact made_n19 (by simp; exact fun q => hz (.inl q)) (by simp; exact fun q => hz (.inr q))
  ·exact made_n20
  ·exact made_n21
  ·exact made_n22
  ·exact made_n23
  ·exact made_n24
  ·exact made_n25
  ·exact made_n26
  ·exact made_n27
 rw [if_neg h8]
 by_cases h9 : 28 ≤ op ∧ op ≤ 45
 ·rw [if_pos h9]
  exact made_28 h9
 rw [if_neg h9]
 by_cases h10 : 46 ≤ op ∧ op ≤ 56
 ·rw [if_pos h10]
  exact made_46 h10
 rw [if_neg h10]
 by_cases h11 : op = 58
 ·rw [if_pos h11]
  subst h11; exact made_58
 rw [if_neg h11]
 by_cases h12 : op = 59
 ·rw [if_pos h12]
  subst h12; exact made_59
 rw [if_neg h12]
 obtain rfl : op = 57 := by omega
 exact made_57
end Go.Proofs.YtchllaeembmioaaGreatDoor.Ts
namespace Go.Proofs.YtchllaeembmioaaGreatDoor.Dw
open Go.ChangeShapes Go.WideShapes Go.ChangeAt Go.RowKit

def wI (f u : Int) : Int :=
 if f = 1 then u / 4096 % 1048576 * 4096 else if f = 2 then u / 1048576 % 2 * 2147483648 + u / 4096 % 256 * 4096 + u / 2048 % 2 * 1048576 + u / 2 % 1024 * 2097152 else if f = 3 then u % 4096 * 1048576 else if f = 4 then u % 32 * 1048576 else if f = 5 then u / 4096 % 2 * 2147483648 + u / 2048 % 2 * 128 + u / 32 % 64 * 33554432 + u / 2 % 16 * 256 else if f = 6 then u / 32 % 128 * 33554432 + u % 32 * 128 else if f = 8 then u % 4 * 33554432 else 0
def WrittenImm (f : Int) : Prop := ∀ (n : Int) (w : World), Tab w → -2147483648 ≤ n → n < 2147483648 → Calls Tryz.prog 149 #[.int .i64 f, .int .i32 n] w fun e w' => e = .returned (.int .u32 (wI f (n % 4294967296))) ∧ Gr w w'

def pW (k j : Nat) : Int × Int × Int := (pcs k (3 * j + 1), pcs k (3 * j + 2), pcs k (3 * j))
theorem wi_gen {k : Nat} (hk : k < 10) (n : Int) (w : World) (T : Tab w) (h0 : -2147483648 ≤ n) (h1 : n < 2147483648) :
  Calls Tryz.prog 149 #[.int .i64 k, .int .i32 n] w fun e w' => e = .returned (.int .u32 (orP (n % 4294967296) (pW k) 4)) ∧ Gr w w' := by
 have u0 : 0 ≤ n % 4294967296 := by omega
 have u1 : n % 4294967296 < 4294967296 := by omega
 have HX : Hid (∀ j, j < 4 → ∀ w : World, (Instr.index 182 (.agg (twelve (pcs k))) (.int .i64 (j : Nat))).run Tryz.prog w = .ok (.agg #[.int .i64 (pcs k (3 * j)), .int .i64 (pcs k (3 * j + 1)), .int .i64 (pcs k (3 * j + 2))]) w) := fun j h w => idx12 (pcs k) w j h
 have HR := range12 hk T
 have hsz : (Tryz.prog.info? 182).map (·.size) = some (twelve (pcs k)).toList.length := by kernel_rfl
 have hb := pcs_bd k hk
 have HP : Hid (∀ j, orP (n % 4294967296) (pW k) (j + 1) = bits .or .u32 (orP (n % 4294967296) (pW k) j) ((n % 4294967296) / 2 ^ (pcs k (3 * j + 1)).toNat % 2 ^ (pcs k (3 * j + 2)).toNat * 2 ^ (pcs k (3 * j)).toNat % 4294967296)) := fun j => rfl
 clear T
 go_enter Tryz.func149, Tryz.ntmps149
 go_wp2_with (refine wpList_load_mid rfl 182 _ rfl 0 (k * 17 + 4) rfl (twelve (pcs k)).toList _ HR Tryz.underlying182 rfl hsz ?_)
 go_loopw [5, 12] (fun s i wr => Gr w wr ∧ ∃ j : Nat, j ≤ 4 ∧ i = .int .i64 j ∧ s = .int .u32 (orP (n % 4294967296) (pW k) j)) (fun _ i _ => 4 - (intOf i).toNat)
 case atStart => exact ⟨Gr.refl _, 0, Nat.zero_le _, rfl, rfl⟩
 case round =>
  obtain ⟨g, j, hj, rfl, rfl⟩ := hrel
  by_cases hlt : j < 4
  ·have x := HX.out j hlt
   obtain ⟨b0, b1⟩ := hb (3 * j)
   obtain ⟨d0, d1⟩ := hb (3 * j + 1)
   obtain ⟨e0, e1⟩ := hb (3 * j + 2)
   have HO : Hid (orP (n % 4294967296) (pW k) (j + 1) = bits .or .u32 (orP (n % 4294967296) (pW k) j) ((n % 4294967296) / 2 ^ (pcs k (3 * j + 1)).toNat % 2 ^ (pcs k (3 * j + 2)).toNat * 2 ^ (pcs k (3 * j)).toNat % 4294967296)) := HP.out j
   generalize orP (n % 4294967296) (pW k) j = s at *
   generalize pcs k (3 * j) = qa at *
   generalize pcs k (3 * j + 1) = qb at *
   generalize pcs k (3 * j + 2) = qc at *
   obtain ⟨y, hy⟩ : ∃ y, (n % 4294967296) / 2 ^ qb.toNat % 2 ^ qc.toNat = y := ⟨_, rfl⟩
   rw [hy] at HO
   have HY : Hid ((n % 4294967296) / 2 ^ qb.toNat % 2 ^ qc.toNat = y) := hy
   clear hy
   go_wp2
   refine wp_region_quiet_lit (by kernel_rfl) (by kernel_rfl) ?_
   iterate 7 go_big_quiet_step (fail)
   go_big_quiet_step (exact Calls.quiet_of (taken_as (n % 4294967296) qb qc y _ u0 u1 d0 d1 e0 e1 HY.out))
   iterate 5 go_big_quiet_step (fail)
   refine wpQuiet_nil ?_; intro _ h; obtain ⟨nq, h2⟩ := h; subst h2
   go_wp2
   go_roundw
   case rel => exact ⟨(g.alloc _ _).drewN _, j + 1, by omega, by go_num, by rw [HO.out]⟩
   case measure => simp [intOf]; omega
  ·have ej : j = 4 := by omega
   subst ej
   go_wp2
   go_ret
   exact ⟨rfl, g⟩
theorem writtenImm_0 : WrittenImm 0 := by
 intro n w T h0 h1
 refine (wi_gen (k := 0) (by omega) n w T h0 h1).mono fun e w' ⟨he, hg⟩ => ⟨he.trans (ret_int ?_), hg⟩
 have u0 : 0 ≤ n % 4294967296 := by omega
 have u1 : n % 4294967296 < 4294967296 := by omega
 generalize n % 4294967296 = u at *
 have e0 : orP u (pW 0) 0 = 0 := rfl
 have e1 := orP_zero e0 ⟨by omega, by omega⟩ rfl
 have e2 := orP_zero e1 ⟨by omega, by omega⟩ rfl
 have e3 := orP_zero e2 ⟨by omega, by omega⟩ rfl
 have e4 := orP_zero e3 ⟨by omega, by omega⟩ rfl
 rw [e4]
 show _ = 0
 omega
theorem writtenImm_1 : WrittenImm 1 := by
 intro n w T h0 h1
 refine (wi_gen (k := 1) (by omega) n w T h0 h1).mono fun e w' ⟨he, hg⟩ => ⟨he.trans (ret_int ?_), hg⟩
 have u0 : 0 ≤ n % 4294967296 := by omega
 have u1 : n % 4294967296 < 4294967296 := by omega
 generalize n % 4294967296 = u at *
 have e0 : orP u (pW 1) 0 = 0 := rfl
 have e1 := orP_ins e0 12 20 12 rfl ⟨by omega, by omega⟩ (by omega) (by decide) (by decide) (by decide)
 have e2 := orP_zero e1 ⟨by omega, by omega⟩ rfl
 have e3 := orP_zero e2 ⟨by omega, by omega⟩ rfl
 have e4 := orP_zero e3 ⟨by omega, by omega⟩ rfl
 rw [e4]
 show _ = u / 4096 % 1048576 * 4096
 omega
theorem writtenImm_2 : WrittenImm 2 := by
 intro n w T h0 h1
 refine (wi_gen (k := 2) (by omega) n w T h0 h1).mono fun e w' ⟨he, hg⟩ => ⟨he.trans (ret_int ?_), hg⟩
 have u0 : 0 ≤ n % 4294967296 := by omega
 have u1 : n % 4294967296 < 4294967296 := by omega
 generalize n % 4294967296 = u at *
 have e0 : orP u (pW 2) 0 = 0 := rfl
 have e1 := orP_ins e0 20 1 31 rfl ⟨by omega, by omega⟩ (by omega) (by decide) (by decide) (by decide)
 have e2 := orP_ins e1 12 8 12 rfl ⟨by omega, by omega⟩ (by omega) (by decide) (by decide) (by decide)
 have e3 := orP_ins e2 11 1 20 rfl ⟨by omega, by omega⟩ (by omega) (by decide) (by decide) (by decide)
 have e4 := orP_ins e3 1 10 21 rfl ⟨by omega, by omega⟩ (by have := z_2 (u / 2 ^ 20 % 2 ^ 1) (u / 2 ^ 12 % 2 ^ 8) (u / 2 ^ 11 % 2 ^ 1) (by omega) (by omega) (by omega) (by omega) (by omega) (by omega); refine Eq.trans ?_ this; congr 2; omega) (by decide) (by decide) (by decide)
 rw [e4]
 show _ = u / 1048576 % 2 * 2147483648 + u / 4096 % 256 * 4096 + u / 2048 % 2 * 1048576 + u / 2 % 1024 * 2097152
 omega
theorem writtenImm_3 : WrittenImm 3 := by
 intro n w T h0 h1
 refine (wi_gen (k := 3) (by omega) n w T h0 h1).mono fun e w' ⟨he, hg⟩ => ⟨he.trans (ret_int ?_), hg⟩
 have u0 : 0 ≤ n % 4294967296 := by omega
 have u1 : n % 4294967296 < 4294967296 := by omega
 generalize n % 4294967296 = u at *
 have e0 : orP u (pW 3) 0 = 0 := rfl
 have e1 := orP_ins e0 0 12 20 rfl ⟨by omega, by omega⟩ (by omega) (by decide) (by decide) (by decide)
 have e2 := orP_zero e1 ⟨by omega, by omega⟩ rfl
 have e3 := orP_zero e2 ⟨by omega, by omega⟩ rfl
 have e4 := orP_zero e3 ⟨by omega, by omega⟩ rfl
 rw [e4]
 show _ = u % 4096 * 1048576
 omega
theorem writtenImm_4 : WrittenImm 4 := by
 intro n w T h0 h1
 refine (wi_gen (k := 4) (by omega) n w T h0 h1).mono fun e w' ⟨he, hg⟩ => ⟨he.trans (ret_int ?_), hg⟩
 have u0 : 0 ≤ n % 4294967296 := by omega
 have u1 : n % 4294967296 < 4294967296 := by omega
 generalize n % 4294967296 = u at *
 have e0 : orP u (pW 4) 0 = 0 := rfl
 have e1 := orP_ins e0 0 5 20 rfl ⟨by omega, by omega⟩ (by omega) (by decide) (by decide) (by decide)
 have e2 := orP_zero e1 ⟨by omega, by omega⟩ rfl
 have e3 := orP_zero e2 ⟨by omega, by omega⟩ rfl
 have e4 := orP_zero e3 ⟨by omega, by omega⟩ rfl
 rw [e4]
 show _ = u % 32 * 1048576
 omega
theorem writtenImm_5 : WrittenImm 5 := by
 intro n w T h0 h1
 refine (wi_gen (k := 5) (by omega) n w T h0 h1).mono fun e w' ⟨he, hg⟩ => ⟨he.trans (ret_int ?_), hg⟩
 have u0 : 0 ≤ n % 4294967296 := by omega
 have u1 : n % 4294967296 < 4294967296 := by omega
 generalize n % 4294967296 = u at *
 have e0 : orP u (pW 5) 0 = 0 := rfl
 have e1 := orP_ins e0 12 1 31 rfl ⟨by omega, by omega⟩ (by omega) (by decide) (by decide) (by decide)
 have e2 := orP_ins e1 11 1 7 rfl ⟨by omega, by omega⟩ (by omega) (by decide) (by decide) (by decide)
 have e3 := orP_ins e2 5 6 25 rfl ⟨by omega, by omega⟩ (by omega) (by decide) (by decide) (by decide)
 have e4 := orP_ins e3 1 4 8 rfl ⟨by omega, by omega⟩ (by have := z_5 (u / 2 ^ 12 % 2 ^ 1) (u / 2 ^ 11 % 2 ^ 1) (u / 2 ^ 5 % 2 ^ 6) (by omega) (by omega) (by omega) (by omega) (by omega) (by omega); refine Eq.trans ?_ this; congr 2; omega) (by decide) (by decide) (by decide)
 rw [e4]
 show _ = u / 4096 % 2 * 2147483648 + u / 2048 % 2 * 128 + u / 32 % 64 * 33554432 + u / 2 % 16 * 256
 omega
theorem writtenImm_6 : WrittenImm 6 := by
 intro n w T h0 h1
 refine (wi_gen (k := 6) (by omega) n w T h0 h1).mono fun e w' ⟨he, hg⟩ => ⟨he.trans (ret_int ?_), hg⟩
 have u0 : 0 ≤ n % 4294967296 := by omega
 have u1 : n % 4294967296 < 4294967296 := by omega
 generalize n % 4294967296 = u at *
 have e0 : orP u (pW 6) 0 = 0 := rfl
 have e1 := orP_ins e0 5 7 25 rfl ⟨by omega, by omega⟩ (by omega) (by decide) (by decide) (by decide)
 have e2 := orP_ins e1 0 5 7 rfl ⟨by omega, by omega⟩ (by omega) (by decide) (by decide) (by decide)
 have e3 := orP_zero e2 ⟨by omega, by omega⟩ rfl
 have e4 := orP_zero e3 ⟨by omega, by omega⟩ rfl
 rw [e4]
 show _ = u / 32 % 128 * 33554432 + u % 32 * 128
 omega
theorem writtenImm_7 : WrittenImm 7 := by
 intro n w T h0 h1
 refine (wi_gen (k := 7) (by omega) n w T h0 h1).mono fun e w' ⟨he, hg⟩ => ⟨he.trans (ret_int ?_), hg⟩
 have u0 : 0 ≤ n % 4294967296 := by omega
 have u1 : n % 4294967296 < 4294967296 := by omega
 generalize n % 4294967296 = u at *
 have e0 : orP u (pW 7) 0 = 0 := rfl
 have e1 := orP_zero e0 ⟨by omega, by omega⟩ rfl
 have e2 := orP_zero e1 ⟨by omega, by omega⟩ rfl
 have e3 := orP_zero e2 ⟨by omega, by omega⟩ rfl
 have e4 := orP_zero e3 ⟨by omega, by omega⟩ rfl
 rw [e4]
 show _ = 0
 omega
theorem writtenImm_8 : WrittenImm 8 := by
 intro n w T h0 h1
 refine (wi_gen (k := 8) (by omega) n w T h0 h1).mono fun e w' ⟨he, hg⟩ => ⟨he.trans (ret_int ?_), hg⟩
 have u0 : 0 ≤ n % 4294967296 := by omega
 have u1 : n % 4294967296 < 4294967296 := by omega
 generalize n % 4294967296 = u at *
 have e0 : orP u (pW 8) 0 = 0 := rfl
 have e1 := orP_ins e0 0 2 25 rfl ⟨by omega, by omega⟩ (by omega) (by decide) (by decide) (by decide)
 have e2 := orP_zero e1 ⟨by omega, by omega⟩ rfl
 have e3 := orP_zero e2 ⟨by omega, by omega⟩ rfl
 have e4 := orP_zero e3 ⟨by omega, by omega⟩ rfl
 rw [e4]
 show _ = u % 4 * 33554432
 omega
theorem writtenImm_9 : WrittenImm 9 := by
 intro n w T h0 h1
 refine (wi_gen (k := 9) (by omega) n w T h0 h1).mono fun e w' ⟨he, hg⟩ => ⟨he.trans (ret_int ?_), hg⟩
 have u0 : 0 ≤ n % 4294967296 := by omega
 have u1 : n % 4294967296 < 4294967296 := by omega
 generalize n % 4294967296 = u at *
 have e0 : orP u (pW 9) 0 = 0 := rfl
 have e1 := orP_zero e0 ⟨by omega, by omega⟩ rfl
 have e2 := orP_zero e1 ⟨by omega, by omega⟩ rfl
 have e3 := orP_zero e2 ⟨by omega, by omega⟩ rfl
 have e4 := orP_zero e3 ⟨by omega, by omega⟩ rfl
 rw [e4]
 show _ = 0
 omega
theorem writtenImm_any (f : Int) (h0 : 0 ≤ f) (h1 : f ≤ 9) : WrittenImm f := by
 have h : f = 0 ∨ f = 1 ∨ f = 2 ∨ f = 3 ∨ f = 4 ∨ f = 5 ∨ f = 6 ∨ f = 7 ∨ f = 8 ∨ f = 9 := by omega
 rcases h with rfl | rfl | rfl | rfl | rfl | rfl | rfl | rfl | rfl | rfl
 ·exact writtenImm_0
 ·exact writtenImm_1
 ·exact writtenImm_2
 ·exact writtenImm_3
 ·exact writtenImm_4
 ·exact writtenImm_5
 ·exact writtenImm_6
 ·exact writtenImm_7
 ·exact writtenImm_8
 ·exact writtenImm_9
end Go.Proofs.YtchllaeembmioaaGreatDoor.Dw
