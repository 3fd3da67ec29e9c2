/-
  Rm6, Rm9, Pj: texts of ours that lie in one file.
-/
import Derived.Test.YtkcgcflpmggjkabDoorK04
import Derived.Test.YtkcgcflpmggjkabDoorHm1
import Derived.Test.YtkcgcflpmggjkabDoorK08
import Derived.Test.YtkcgcflpmggjkabDoorK11
/-
  Whether small steps may be, by the document: May.
-/
namespace Go.Proofs.YtkcgcflpmggjkabDoor.Mi
open Go.ChangeShapes Go.WideShapes Go.ChangeAt Go.RowKit Mm Hh Hc
set_option linter.unusedVariables false
set_option linter.unusedSimpArgs false

set_option maxHeartbeats 4000000 in
set_option maxRecDepth 100000 in
theorem May_any {ao : Option Addr} {n : Nat} (cap : Nat) {code : List Mv} {w : World} (C : Cs w ao n code) (hn : n ≤ 140737488351232) :
    Calls Tryd.prog 12 #[.slice ao n cap] w fun e w' => e = .returned (.bool (mayC code)) ∧ Gr w w' := by
  have HL : Hid (code.length = n) := C.len
  have HM : Hid (mayC code = (decide (n ≤ 200) && code.all micOk)) := by unfold Hid mayC; rw [HL.out]
  by_cases c2 : 200 < n
  · have HE : Hid (mayC code = false) := by unfold Hid; rw [HM.out, decide_eq_false (by omega)]; rfl
    clear HM C
    go_enter Tryd.func12, Tryd.ntmps12
    go_wp2
    go_ret
    exact ⟨retB HE.out.symm, Gr.refl _⟩
  have HM2 : Hid (mayC code = code.all micOk) := by unfold Hid; rw [HM.out, decide_eq_true (by omega)]; rfl
  clear HM
  have HC : Hid (Cs w ao n code) := C
  clear C
  go_enter Tryd.func12, Tryd.ntmps12
  go_wp2
  go_loopw [3] (fun i wr => ∃ j : Nat, j ≤ n ∧ i = .int .i64 j ∧ (code.take j).all micOk = true ∧ Gr w wr) (fun i _ => n - (intOf i).toNat)
  case atStart => exact ⟨0, Nat.zero_le _, rfl, rfl, Gr.refl _⟩
  case round =>
    obtain ⟨j, hj, rfl, hall, G⟩ := hrel
    have HA : Hid ((code.take j).all micOk = true) := hall
    have HG : Hid (Gr w wr) := G
    clear hall G
    by_cases hlt : j < n
    · obtain ⟨c, hc⟩ : ∃ c, code[j]? = some c := ⟨_, List.getElem?_eq_getElem (by rw [HL.out]; exact hlt)⟩
      obtain ⟨b, o, rfl, hb, hcell⟩ := (HC.out.of HG.out).spot (by omega)
      obtain ⟨p0, p1, p2, p3, p4⟩ := hcell j c hc
      have hmem := List.mem_of_getElem? hc
      have HW : Hid (W c.n) := HC.out.wn c hmem
      have wo := HC.out.wo c hmem
      have Nm : Hid (∀ V : World, Calls Tryd.prog 28 #[.int .i64 c.op] V fun e w' => e = .returned (.int .i64 (named c.op)) ∧ w' = V) := fun V => named_any c.op V wo.1 wo.2
      have HNo : Hid (micOk c = false → mayC code = false) := fun h => by rw [HM2.out]; exact all_no hc h
      have HYes : Hid (micOk c = true → (code.take (j + 1)).all micOk = true) := fun h => by rw [all_take1 _ _ _ _ hc, HA.out, h]; rfl
      have N1 : Hid (named c.op < 0 → micOk c = false) := mic_no1
      have N2 : Hid (named c.op < 8 → ¬ c.n = 0 → micOk c = false) := mic_no2
      have R0 : Hid (regOk (decide (named c.op % 2 = 1)) c.d = false → micOk c = false) := mic_no3
      have R1 : Hid (regOk (decide (named c.op / 2 % 2 = 1)) c.a = false → micOk c = false) := mic_no4
      have R2 : Hid (regOk (decide (named c.op / 4 % 2 = 1)) c.b = false → micOk c = false) := mic_no5
      have Y : Hid (0 ≤ named c.op → (8 ≤ named c.op ∨ c.n = 0) → regOk (decide (named c.op % 2 = 1)) c.d = true → regOk (decide (named c.op / 2 % 2 = 1)) c.a = true → regOk (decide (named c.op / 4 % 2 = 1)) c.b = true → micOk c = true) := mic_yes
      clear hcell hc hmem wo HC HA
      have HK : Hid (0 ≤ named c.op → named c.op = 0 ∨ named c.op = 7 ∨ named c.op = 8 ∨ named c.op = 9 ∨ named c.op = 10 ∨ named c.op = 11 ∨ named c.op = 14) := named_vals
      obtain ⟨op, d, a, b2, nn⟩ := c
      simp only at *
      generalize micOk ⟨op, d, a, b2, nn⟩ = OKB at *
      generalize named op = K at *
      by_cases k0 : K < 0
      · go_wp2_with fail
        refine (Nm.out _).mono ?_
        rintro e w1 ⟨rfl, rfl⟩
        go_wp2
        go_ret
        exact ⟨retB (HNo.out (N1.out k0)).symm, HG.out.alloc _⟩
      have kv := HK.out (by omega)
      clear HK
      by_cases k8 : K < 8
      · by_cases hz : nn = 0
        · have YY : Hid (regOk (decide (K % 2 = 1)) d = true → regOk (decide (K / 2 % 2 = 1)) a = true → regOk (decide (K / 4 % 2 = 1)) b2 = true → OKB = true) := Y.out (by omega) (.inr hz)
          subst hz
          clear Y N1 N2
          go_wp2_with fail
          refine (Nm.out _).mono ?_
          rintro e w1 ⟨rfl, rfl⟩
          clear Nm p0 p1 p2 p3 p4
          go_wp2
          go_loopw [8, 7] (fun i bit wq => ∃ t : Nat, t ≤ 3 ∧ i = .int .i64 t ∧ bit = .int .i64 (pw t) ∧ (1 ≤ t → regOk (decide (K % 2 = 1)) d = true) ∧ (2 ≤ t → regOk (decide (K / 2 % 2 = 1)) a = true) ∧ (3 ≤ t → regOk (decide (K / 4 % 2 = 1)) b2 = true) ∧ wq.cell? ⟨wr.heap.size + 1, 0, none⟩ = some (.int .i64 d) ∧ wq.cell? ⟨wr.heap.size + 1, 1, none⟩ = some (.int .i64 a) ∧ wq.cell? ⟨wr.heap.size + 1, 2, none⟩ = some (.int .i64 b2) ∧ Gr w wq) (fun i _ _ => 3 - (intOf i).toNat)
          case atStart => exact ⟨0, by omega, rfl, rfl, by omega, by omega, by omega, by simp, by simp, by simp, (HG.out.alloc _).alloc _⟩
          case round =>
            obtain ⟨t, ht, rfl, rfl, g0, g1, g2, s0, s1, s2, Gq⟩ := hrel
            rename World => wq
            have HGr : Hid (Gr w wq) := Gq
            have G0 : Hid (1 ≤ t → regOk (decide (K % 2 = 1)) d = true) := g0
            have G1 : Hid (2 ≤ t → regOk (decide (K / 2 % 2 = 1)) a = true) := g1
            have G2 : Hid (3 ≤ t → regOk (decide (K / 4 % 2 = 1)) b2 = true) := g2
            clear g0 g1 g2 Gq
            have tv : t = 0 ∨ t = 1 ∨ t = 2 ∨ t = 3 := by omega
            rcases tv with rfl | rfl | rfl | rfl
            · rw [show pw 0 = (1 : Int) from rfl]
              by_cases hb1 : K % 2 = 1
              · have hd1 : decide (K % 2 = 1) = true := decide_eq_true hb1
                have f1 : K.tmod 2 = 1 := by rw [Int.tmod_eq_emod_of_nonneg (by omega)]; omega
                have f2 : (K.tdiv 1).tmod 2 = 1 := by rw [Int.tdiv_one]; exact f1
                by_cases x0 : d < 0
                · go_wp2
                  go_ret
                  exact ⟨retB (HNo.out (R0.out (reg_no (.inr (.inl x0))))).symm, HGr.out⟩
                by_cases x1 : 36 ≤ d
                · go_wp2
                  go_ret
                  exact ⟨retB (HNo.out (R0.out (reg_no (.inr (.inr x1))))).symm, HGr.out⟩
                go_wp2
                go_roundw
                case rel => exact ⟨1, by omega, by go_num, by go_num, (fun _ => reg_yes (.inl hd1) (by omega) (by omega)), (fun h => by omega), (fun h => by omega), s0, s1, s2, HGr.out⟩
                case measure => simp [intOf]
              · have hd1 : decide (K % 2 = 1) = false := decide_eq_false hb1
                have f1 : K.tmod 2 = 0 := by rw [Int.tmod_eq_emod_of_nonneg (by omega)]; omega
                have f2 : (K.tdiv 1).tmod 2 = 0 := by rw [Int.tdiv_one]; exact f1
                by_cases xz : d = 0
                · subst xz
                  go_wp2
                  go_roundw
                  case rel => exact ⟨1, by omega, by go_num, by go_num, (fun _ => reg_yes (.inr rfl) (by omega) (by omega)), (fun h => by omega), (fun h => by omega), s0, s1, s2, HGr.out⟩
                  case measure => simp [intOf]
                · have xb : (d == 0) = false := by simpa using xz
                  have xc : (d != 0) = true := by simpa using xz
                  go_wp2
                  go_ret
                  exact ⟨retB (HNo.out (R0.out (reg_no (.inl ⟨hd1, xz⟩)))).symm, HGr.out⟩
            · rw [show pw 1 = (2 : Int) from rfl]
              by_cases hb1 : K / 2 % 2 = 1
              · have hd1 : decide (K / 2 % 2 = 1) = true := decide_eq_true hb1
                have f1 : (K.tdiv 2).tmod 2 = 1 := by rw [Int.tdiv_eq_ediv_of_nonneg (by omega), Int.tmod_eq_emod_of_nonneg (by omega)]; omega
                by_cases x0 : a < 0
                · go_wp2
                  go_ret
                  exact ⟨retB (HNo.out (R1.out (reg_no (.inr (.inl x0))))).symm, HGr.out⟩
                by_cases x1 : 36 ≤ a
                · go_wp2
                  go_ret
                  exact ⟨retB (HNo.out (R1.out (reg_no (.inr (.inr x1))))).symm, HGr.out⟩
                go_wp2
                go_roundw
                case rel => exact ⟨2, by omega, by go_num, by go_num, (fun _ => G0.out (by omega)), (fun _ => reg_yes (.inl hd1) (by omega) (by omega)), (fun h => by omega), s0, s1, s2, HGr.out⟩
                case measure => simp [intOf]
              · have hd1 : decide (K / 2 % 2 = 1) = false := decide_eq_false hb1
                have f1 : (K.tdiv 2).tmod 2 = 0 := by rw [Int.tdiv_eq_ediv_of_nonneg (by omega), Int.tmod_eq_emod_of_nonneg (by omega)]; omega
                by_cases xz : a = 0
                · subst xz
                  go_wp2
                  go_roundw
                  case rel => exact ⟨2, by omega, by go_num, by go_num, (fun _ => G0.out (by omega)), (fun _ => reg_yes (.inr rfl) (by omega) (by omega)), (fun h => by omega), s0, s1, s2, HGr.out⟩
                  case measure => simp [intOf]
                · have xb : (a == 0) = false := by simpa using xz
                  have xc : (a != 0) = true := by simpa using xz
                  go_wp2
                  go_ret
                  exact ⟨retB (HNo.out (R1.out (reg_no (.inl ⟨hd1, xz⟩)))).symm, HGr.out⟩
            · rw [show pw 2 = (4 : Int) from rfl]
              by_cases hb1 : K / 4 % 2 = 1
              · have hd1 : decide (K / 4 % 2 = 1) = true := decide_eq_true hb1
                have f1 : (K.tdiv 4).tmod 2 = 1 := by rw [Int.tdiv_eq_ediv_of_nonneg (by omega), Int.tmod_eq_emod_of_nonneg (by omega)]; omega
                by_cases x0 : b2 < 0
                · go_wp2
                  go_ret
                  exact ⟨retB (HNo.out (R2.out (reg_no (.inr (.inl x0))))).symm, HGr.out⟩
                by_cases x1 : 36 ≤ b2
                · go_wp2
                  go_ret
                  exact ⟨retB (HNo.out (R2.out (reg_no (.inr (.inr x1))))).symm, HGr.out⟩
                go_wp2
                go_roundw
                case rel => exact ⟨3, by omega, by go_num, by go_num, (fun _ => G0.out (by omega)), (fun _ => G1.out (by omega)), (fun _ => reg_yes (.inl hd1) (by omega) (by omega)), s0, s1, s2, HGr.out⟩
                case measure => simp [intOf]
              · have hd1 : decide (K / 4 % 2 = 1) = false := decide_eq_false hb1
                have f1 : (K.tdiv 4).tmod 2 = 0 := by rw [Int.tdiv_eq_ediv_of_nonneg (by omega), Int.tmod_eq_emod_of_nonneg (by omega)]; omega
                by_cases xz : b2 = 0
                · subst xz
                  go_wp2
                  go_roundw
                  case rel => exact ⟨3, by omega, by go_num, by go_num, (fun _ => G0.out (by omega)), (fun _ => G1.out (by omega)), (fun _ => reg_yes (.inr rfl) (by omega) (by omega)), s0, s1, s2, HGr.out⟩
                  case measure => simp [intOf]
                · have xb : (b2 == 0) = false := by simpa using xz
                  have xc : (b2 != 0) = true := by simpa using xz
                  go_wp2
                  go_ret
                  exact ⟨retB (HNo.out (R2.out (reg_no (.inl ⟨hd1, xz⟩)))).symm, HGr.out⟩
            · go_wp2
              go_roundw
              case rel => exact ⟨j + 1, by omega, by go_num, HYes.out (YY.out (G0.out (by omega)) (G1.out (by omega)) (G2.out (by omega))), HGr.out⟩
              case measure => simp [intOf]; omega
        · have hzb : (nn == 0) = false := by simpa using hz
          have hzc : (nn != 0) = true := by simpa using hz
          go_wp2_with fail
          refine (Nm.out _).mono ?_
          rintro e w1 ⟨rfl, rfl⟩
          go_wp2
          go_ret
          exact ⟨retB (HNo.out (N2.out k8 hz)).symm, HG.out.alloc _⟩
      · have YY : Hid (regOk (decide (K % 2 = 1)) d = true → regOk (decide (K / 2 % 2 = 1)) a = true → regOk (decide (K / 4 % 2 = 1)) b2 = true → OKB = true) := Y.out (by omega) (.inl (by omega))
        clear Y N1 N2
        go_wp2_with fail
        refine (Nm.out _).mono ?_
        rintro e w1 ⟨rfl, rfl⟩
        clear Nm p0 p1 p2 p3 p4
        go_wp2
        go_loopw [8, 7] (fun i bit wq => ∃ t : Nat, t ≤ 3 ∧ i = .int .i64 t ∧ bit = .int .i64 (pw t) ∧ (1 ≤ t → regOk (decide (K % 2 = 1)) d = true) ∧ (2 ≤ t → regOk (decide (K / 2 % 2 = 1)) a = true) ∧ (3 ≤ t → regOk (decide (K / 4 % 2 = 1)) b2 = true) ∧ wq.cell? ⟨wr.heap.size + 1, 0, none⟩ = some (.int .i64 d) ∧ wq.cell? ⟨wr.heap.size + 1, 1, none⟩ = some (.int .i64 a) ∧ wq.cell? ⟨wr.heap.size + 1, 2, none⟩ = some (.int .i64 b2) ∧ Gr w wq) (fun i _ _ => 3 - (intOf i).toNat)
        case atStart => exact ⟨0, by omega, rfl, rfl, by omega, by omega, by omega, by simp, by simp, by simp, (HG.out.alloc _).alloc _⟩
        case round =>
          obtain ⟨t, ht, rfl, rfl, g0, g1, g2, s0, s1, s2, Gq⟩ := hrel
          rename World => wq
          have HGr : Hid (Gr w wq) := Gq
          have G0 : Hid (1 ≤ t → regOk (decide (K % 2 = 1)) d = true) := g0
          have G1 : Hid (2 ≤ t → regOk (decide (K / 2 % 2 = 1)) a = true) := g1
          have G2 : Hid (3 ≤ t → regOk (decide (K / 4 % 2 = 1)) b2 = true) := g2
          clear g0 g1 g2 Gq
          have tv : t = 0 ∨ t = 1 ∨ t = 2 ∨ t = 3 := by omega
          rcases tv with rfl | rfl | rfl | rfl
          · rw [show pw 0 = (1 : Int) from rfl]
            by_cases hb1 : K % 2 = 1
            · have hd1 : decide (K % 2 = 1) = true := decide_eq_true hb1
              have f1 : K.tmod 2 = 1 := by rw [Int.tmod_eq_emod_of_nonneg (by omega)]; omega
              have f2 : (K.tdiv 1).tmod 2 = 1 := by rw [Int.tdiv_one]; exact f1
              by_cases x0 : d < 0
              · go_wp2
                go_ret
                exact ⟨retB (HNo.out (R0.out (reg_no (.inr (.inl x0))))).symm, HGr.out⟩
              by_cases x1 : 36 ≤ d
              · go_wp2
                go_ret
                exact ⟨retB (HNo.out (R0.out (reg_no (.inr (.inr x1))))).symm, HGr.out⟩
              go_wp2
              go_roundw
              case rel => exact ⟨1, by omega, by go_num, by go_num, (fun _ => reg_yes (.inl hd1) (by omega) (by omega)), (fun h => by omega), (fun h => by omega), s0, s1, s2, HGr.out⟩
              case measure => simp [intOf]
            · have hd1 : decide (K % 2 = 1) = false := decide_eq_false hb1
              have f1 : K.tmod 2 = 0 := by rw [Int.tmod_eq_emod_of_nonneg (by omega)]; omega
              have f2 : (K.tdiv 1).tmod 2 = 0 := by rw [Int.tdiv_one]; exact f1
              by_cases xz : d = 0
              · subst xz
                go_wp2
                go_roundw
                case rel => exact ⟨1, by omega, by go_num, by go_num, (fun _ => reg_yes (.inr rfl) (by omega) (by omega)), (fun h => by omega), (fun h => by omega), s0, s1, s2, HGr.out⟩
                case measure => simp [intOf]
              · have xb : (d == 0) = false := by simpa using xz
                have xc : (d != 0) = true := by simpa using xz
                go_wp2
                go_ret
                exact ⟨retB (HNo.out (R0.out (reg_no (.inl ⟨hd1, xz⟩)))).symm, HGr.out⟩
          · rw [show pw 1 = (2 : Int) from rfl]
            by_cases hb1 : K / 2 % 2 = 1
            · have hd1 : decide (K / 2 % 2 = 1) = true := decide_eq_true hb1
              have f1 : (K.tdiv 2).tmod 2 = 1 := by rw [Int.tdiv_eq_ediv_of_nonneg (by omega), Int.tmod_eq_emod_of_nonneg (by omega)]; omega
              by_cases x0 : a < 0
              · go_wp2
                go_ret
                exact ⟨retB (HNo.out (R1.out (reg_no (.inr (.inl x0))))).symm, HGr.out⟩
              by_cases x1 : 36 ≤ a
              · go_wp2
                go_ret
                exact ⟨retB (HNo.out (R1.out (reg_no (.inr (.inr x1))))).symm, HGr.out⟩
              go_wp2
              go_roundw
              case rel => exact ⟨2, by omega, by go_num, by go_num, (fun _ => G0.out (by omega)), (fun _ => reg_yes (.inl hd1) (by omega) (by omega)), (fun h => by omega), s0, s1, s2, HGr.out⟩
              case measure => simp [intOf]
            · have hd1 : decide (K / 2 % 2 = 1) = false := decide_eq_false hb1
              have f1 : (K.tdiv 2).tmod 2 = 0 := by rw [Int.tdiv_eq_ediv_of_nonneg (by omega), Int.tmod_eq_emod_of_nonneg (by omega)]; omega
              by_cases xz : a = 0
              · subst xz
                go_wp2
                go_roundw
                case rel => exact ⟨2, by omega, by go_num, by go_num, (fun _ => G0.out (by omega)), (fun _ => reg_yes (.inr rfl) (by omega) (by omega)), (fun h => by omega), s0, s1, s2, HGr.out⟩
                case measure => simp [intOf]
              · have xb : (a == 0) = false := by simpa using xz
                have xc : (a != 0) = true := by simpa using xz
                go_wp2
                go_ret
                exact ⟨retB (HNo.out (R1.out (reg_no (.inl ⟨hd1, xz⟩)))).symm, HGr.out⟩
          · rw [show pw 2 = (4 : Int) from rfl]
            by_cases hb1 : K / 4 % 2 = 1
            · have hd1 : decide (K / 4 % 2 = 1) = true := decide_eq_true hb1
              have f1 : (K.tdiv 4).tmod 2 = 1 := by rw [Int.tdiv_eq_ediv_of_nonneg (by omega), Int.tmod_eq_emod_of_nonneg (by omega)]; omega
              by_cases x0 : b2 < 0
              · go_wp2
                go_ret
                exact ⟨retB (HNo.out (R2.out (reg_no (.inr (.inl x0))))).symm, HGr.out⟩
              by_cases x1 : 36 ≤ b2
              · go_wp2
                go_ret
                exact ⟨retB (HNo.out (R2.out (reg_no (.inr (.inr x1))))).symm, HGr.out⟩
              go_wp2
              go_roundw
              case rel => exact ⟨3, by omega, by go_num, by go_num, (fun _ => G0.out (by omega)), (fun _ => G1.out (by omega)), (fun _ => reg_yes (.inl hd1) (by omega) (by omega)), s0, s1, s2, HGr.out⟩
              case measure => simp [intOf]
            · have hd1 : decide (K / 4 % 2 = 1) = false := decide_eq_false hb1
              have f1 : (K.tdiv 4).tmod 2 = 0 := by rw [Int.tdiv_eq_ediv_of_nonneg (by omega), Int.tmod_eq_emod_of_nonneg (by omega)]; omega
              by_cases xz : b2 = 0
              · subst xz
                go_wp2
                go_roundw
                case rel => exact ⟨3, by omega, by go_num, by go_num, (fun _ => G0.out (by omega)), (fun _ => G1.out (by omega)), (fun _ => reg_yes (.inr rfl) (by omega) (by omega)), s0, s1, s2, HGr.out⟩
                case measure => simp [intOf]
              · have xb : (b2 == 0) = false := by simpa using xz
                have xc : (b2 != 0) = true := by simpa using xz
                go_wp2
                go_ret
                exact ⟨retB (HNo.out (R2.out (reg_no (.inl ⟨hd1, xz⟩)))).symm, HGr.out⟩
          · go_wp2
            go_roundw
            case rel => exact ⟨j + 1, by omega, by go_num, HYes.out (YY.out (G0.out (by omega)) (G1.out (by omega)) (G2.out (by omega))), HGr.out⟩
            case measure => simp [intOf]; omega
    · have HE : Hid (mayC code = true) := by
        have e : (code.take j).all micOk = true := HA.out
        rw [show j = n by omega, ← HL.out, List.take_length] at e
        unfold Hid; rw [HM2.out, e]
      go_wp2
      go_ret
      exact ⟨retB HE.out.symm, HG.out⟩
end Go.Proofs.YtkcgcflpmggjkabDoor.Mi
/-
  Whether something is wrong with what is asked, by the document: Wrong.
-/
namespace Go.Proofs.YtkcgcflpmggjkabDoor.Mi
open Go.ChangeShapes Go.WideShapes Go.ChangeAt Go.RowKit Mm Hh Hc
set_option linter.unusedVariables false
set_option linter.unusedSimpArgs false

/-- Something is wrong: the small steps, the hart, the memory or the steps. -/
def wrg (code : List Mv) (h : Hv) (mn : Nat) (steps : Int) : Bool := !(decide (mayC code = true ∧ may h = true ∧ h.state = 0 ∧ mn ≤ 4096 ∧ 0 ≤ steps ∧ steps ≤ 400))
set_option maxHeartbeats 2000000 in
set_option maxRecDepth 100000 in
theorem Wrong_any {w : World} {ao : Option Addr} {n : Nat} (cap : Nat) {code : List Mv} (C : Cs w ao n code) (hn : n ≤ 140737488351232) {h : Hv} (o : h.Ok) (mo : Option Addr) (mn mc : Nat) (hm : mn ≤ 140737488351232) (steps : Int) :
    Calls Tryd.prog 14 #[.slice ao n cap, .agg (hA h), .slice mo mn mc, .int .i64 steps] w fun e w' => e = .returned (.bool (wrg code h mn steps)) ∧ Gr w w' := by
  have M0 : Hid (∀ W : World, Gr w W → Calls Tryd.prog 12 #[.slice ao n cap] W fun e w' => e = .returned (.bool (mayC code)) ∧ Gr W w') := fun W G => May_any cap (C.of G) hn
  have M2 : Hid (∀ W : World, Calls Tryd.prog 32 #[.agg (hA h)] W fun e w' => e = .returned (.bool (may h)) ∧ Gr W w') := fun W => rmay_any o W
  have g35 : (hA h)[35]? = some (.int .i64 h.state) := (may_get h o).2.2.2.1
  have HS : Hid ((hA h).size = 37) := hA_size o
  have HE : Hid (wrg code h mn steps = !(decide (mayC code = true ∧ may h = true ∧ h.state = 0 ∧ mn ≤ 4096 ∧ 0 ≤ steps ∧ steps ≤ 400))) := rfl
  generalize wrg code h mn steps = R at *
  generalize hA h = H at *
  generalize may h = B at *
  generalize mayC code = A at *
  generalize h.state = st at *
  clear C o
  cases A
  · have HR : Hid (R = true) := by unfold Hid; rw [HE.out]; simp
    clear HE
    go_enter Tryd.func14, Tryd.ntmps14
    go_wp2_with fail
    refine (M0.out _ ((Gr.refl _).alloc _)).mono ?_
    rintro e w1 ⟨rfl, G1⟩
    have HG1 : Hid (Gr w w1) := ((Gr.refl _).alloc _).trans G1
    clear G1 M0 M2
    go_wp2_with fail
    go_ret
    exact ⟨retB HR.out.symm, HG1.out⟩
  cases B
  · have HR : Hid (R = true) := by unfold Hid; rw [HE.out]; simp
    clear HE
    go_enter Tryd.func14, Tryd.ntmps14
    go_wp2_with fail
    refine (M0.out _ ((Gr.refl _).alloc _)).mono ?_
    rintro e w1 ⟨rfl, G1⟩
    have HB1 : Hid (w1.heap[w.heap.size]? = some (.cells H 48 (0, 0))) := heap_up G1 (heap_alloc_new w _)
    have HG1 : Hid (Gr w w1) := ((Gr.refl _).alloc _).trans G1
    clear G1 M0
    go_wp2_with (refine wpList_gload_row (by rfl) 48 _ rfl w.heap.size rfl 48 H (0, 0) _ ?a2 Tryd.underlying48 rfl (by rw [HS.out]; exact iHa) ?_; (case a2 => exact HB1.out))
    refine (M2.out _).mono ?_
    rintro e w2 ⟨rfl, G2⟩
    have HG2 : Hid (Gr w w2) := HG1.out.trans G2
    clear G2 M2
    go_wp2_with fail
    go_ret
    exact ⟨retB HR.out.symm, HG2.out⟩
  have hc : ((st != 0) = true ∧ R = true) ∨ ((st != 0) = false ∧ 4096 < mn ∧ R = true) ∨ ((st != 0) = false ∧ mn ≤ 4096 ∧ steps < 0 ∧ R = true) ∨ ((st != 0) = false ∧ mn ≤ 4096 ∧ 0 ≤ steps ∧ 400 < steps ∧ R = true) ∨ ((st != 0) = false ∧ mn ≤ 4096 ∧ 0 ≤ steps ∧ steps ≤ 400 ∧ R = false) := by
    have e := HE.out
    by_cases h1 : st = 0
    · by_cases h2 : mn ≤ 4096
      · by_cases h3 : 0 ≤ steps
        · by_cases h4 : steps ≤ 400
          · exact .inr (.inr (.inr (.inr ⟨by simp [h1], h2, h3, h4, by rw [e]; simp [h1, h2, h3, h4]⟩)))
          · exact .inr (.inr (.inr (.inl ⟨by simp [h1], h2, h3, by omega, by rw [e]; simp [h4]⟩)))
        · exact .inr (.inr (.inl ⟨by simp [h1], h2, by omega, by rw [e]; simp [h3]⟩))
      · exact .inr (.inl ⟨by simp [h1], by omega, by rw [e]; simp [h2]⟩)
    · exact .inl ⟨by simp [h1], by rw [e]; simp [h1]⟩
  clear HE
  rcases hc with ⟨bs, hR⟩ | ⟨bs, h2, hR⟩ | ⟨bs, h2, h3, hR⟩ | ⟨bs, h2, h3, h4, hR⟩ | ⟨bs, h2, h3, h4, hR⟩
  all_goals
    have HR : Hid (R = _) := hR
    clear hR
    go_enter Tryd.func14, Tryd.ntmps14
    go_wp2_with fail
    refine (M0.out _ ((Gr.refl _).alloc _)).mono ?_
    rintro e w1 ⟨rfl, G1⟩
    have HB1 : Hid (w1.heap[w.heap.size]? = some (.cells H 48 (0, 0))) := heap_up G1 (heap_alloc_new w _)
    have HG1 : Hid (Gr w w1) := ((Gr.refl _).alloc _).trans G1
    clear G1 M0
    go_wp2_with (refine wpList_gload_row (by rfl) 48 _ rfl w.heap.size rfl 48 H (0, 0) _ ?a2 Tryd.underlying48 rfl (by rw [HS.out]; exact iHa) ?_; (case a2 => exact HB1.out))
    refine (M2.out _).mono ?_
    rintro e w2 ⟨rfl, G2⟩
    have HG2 : Hid (Gr w w2) := HG1.out.trans G2
    have k35 : w2.cell? ⟨w.heap.size, 35, none⟩ = some (.int .i64 st) := (cell_of_row _ _ _ _ _ _ (heap_up G2 HB1.out)).trans g35
    clear G2 M2 HB1
    go_wp2_with fail
    go_ret
    first | exact ⟨retB HR.out.symm, HG2.out⟩ | (refine ⟨retB ?_, HG2.out⟩; rw [HR.out]; simp; omega)
end Go.Proofs.YtkcgcflpmggjkabDoor.Mi
/-
  What the program's Run answers: what the small steps do ('mplay'), or nothing and false.
-/
namespace Go.Proofs.YtkcgcflpmggjkabDoor.Mp
open Go.ChangeShapes Go.WideShapes Go.ChangeAt Go.RowKit Mm Hh Hc Mi
set_option linter.unusedVariables false
set_option linter.unusedSimpArgs false

theorem built_none : Tryd.prog.built 54 [] = some (gA h0 nilS nilS 0 nilS) := by kernel_rfl
theorem one_gA (h : Hv) (M O S : Value) (n : Int) (h1 : M.oneCell' = true) (h2 : O.oneCell' = true) (h3 : S.oneCell' = true) : (gA h M O n S).all (·.oneCell') = true := by
  refine all_oneCell_toArray ?_
  intro v hv
  simp only [gL, hL, List.mem_append, List.mem_map, List.mem_cons, List.not_mem_nil, or_false] at hv
  rcases hv with (⟨n, _, rfl⟩ | rfl | rfl | rfl | rfl | rfl) | rfl | rfl | rfl | rfl <;> first | rfl | assumption
theorem Ts_gr {w w' : World} (T : Gc.Ts w w.heap.size) (G : Gr w w') : Gc.Ts w' w'.heap.size :=
  ⟨fun i n e => (G.cell _ (by exact T.b1)).trans (T.sizes i n e), Nat.lt_of_lt_of_le T.b1 G.size⟩
theorem mplay_ok {bf bt steps : Int} {h : Hv} {l : List UInt8} {code : List Mv} (o : h.Ok) (hs : h.state = 0) (hl : l.length ≤ 4096) (hn : ∀ i ∈ code, Hh.W i.n) : (mplay bf bt steps h l code).Ok := by
  have G := Gd.mrun (steps := steps) (Gd.start (bf := bf) (bt := bt) o hs hl) hn code.length
  rw [List.take_length] at G
  unfold mplay mend
  split
  · have := W.lo ((mrun bf bt steps (mstart h l) code).here + 4)
    exact G.ok.hart (G.ok.h.go this.1 this.2)
  · exact G.ok
set_option maxHeartbeats 2000000 in
set_option maxRecDepth 100000 in
theorem Run_no1 {w : World} {ao : Option Addr} {n : Nat} (cap : Nat) {code : List Mv} (C : Cs w ao n code) (T : Tr w) (hn : n ≤ 140737488351232) (H : Array Value) (mv : Value) (bf bt steps : Int) (hno : ¬ (mayC code = true ∧ 0 ≤ steps ∧ steps ≤ 400)) :
    Calls Tryd.prog 13 #[.slice ao n cap, .agg H, mv, .agg #[.int .u32 bf, .int .u32 bt], .int .i64 steps] w fun e w' => e = .returned (.tuple #[.agg (gA h0 nilS nilS 0 nilS), .bool false]) ∧ Gr w w' := by
  have M0 : Hid (∀ W : World, Gr w W → Calls Tryd.prog 11 #[.slice ao n cap] W fun e w' => e = .returned (.bool (mayC code)) ∧ Gr W w') := fun W G => PMay_any cap (C.of G) (T.of G) hn
  have Wi : Hid (∀ W : World, Calls Tryd.prog 29 #[.int .i64 steps, .int .i64 0, .int .i64 400] W fun e w' => e = .returned (.bool (decide (0 ≤ steps ∧ steps ≤ 400))) ∧ w' = W) := fun W => within_any steps 0 400 W
  have HB0 : Hid (Tryd.prog.built 54 [] = some (gA h0 nilS nilS 0 nilS)) := built_none
  have HZ : Hid ((gA h0 nilS nilS 0 nilS).size = 41) := gA_size h0_ok _ _ _ _
  have HO : Hid ((gA h0 nilS nilS 0 nilS).all (·.oneCell') = true) := one_gA _ _ _ _ _ rfl rfl rfl
  generalize gA h0 nilS nilS 0 nilS = D0 at *
  have hc : mayC code = false ∨ (mayC code = true ∧ ¬ (0 ≤ steps ∧ steps ≤ 400)) := by
    cases h : mayC code with
    | false => exact .inl rfl
    | true => exact .inr ⟨rfl, fun q => hno ⟨h, q⟩⟩
  generalize mayC code = A at *
  clear C T hno hn
  rcases hc with rfl | ⟨rfl, hs⟩
  · go_enter Tryd.func13, Tryd.ntmps13
    go_wp2_with fail
    refine (M0.out _ ((((Gr.refl _).alloc _).alloc _).alloc _)).mono ?_
    rintro e w1 ⟨rfl, G1⟩
    obtain ⟨_, _, b2⟩ := three_of G1
    have HG1 : Hid (Gr w w1) := ((((Gr.refl _).alloc _).alloc _).alloc _).trans G1
    have HBZ : Hid (∃ Z : Array Value, Z.size = 41 ∧ w1.heap[w.heap.size + 1 + 1]? = some (.cells Z 54 (0, 0))) := ⟨_, rfl, b2⟩
    clear G1 b2 M0
    obtain ⟨Z, hz, hZ⟩ := HBZ.out
    have HZ2 : Hid (w1.heap[w.heap.size + 1 + 1]? = some (.cells Z 54 (0, 0))) := hZ
    have HZs : Hid (Z.size = 41) := hz
    clear HBZ hz hZ
    go_wp2_with (first
      | (refine wpList_buildTo rfl 54 _ rfl _ rfl D0 (by have := HB0.out; simp [Act.eval, Act.put]; exact this) ?_)
      | (refine wpList_store_row rfl 54 _ _ rfl (w.heap.size + 1 + 1) D0 rfl rfl 54 Z ?sr1 (by rw [HZ.out]; exact iDidA) (by rw [HZ.out]; exact HZs.out) HO.out ?_; (case sr1 => exact HZ2.out)))
    refine bodyPost_ret (v := .tuple #[.agg D0, .bool false]) (Hr.results_cell_tmp' Tryd.results13 _ _ _ _ _ (0, 0) _ _ rfl rfl (setRow_heap _ _ _ _ _ (0, 0) HZ2.out) Tryd.underlying54 rfl (by rw [HZ.out]; exact iDidA)) rfl ⟨rfl, ?_⟩
    exact gr_setRow HG1.out (by omega) _
  · have Wi2 : Hid (∀ W : World, Calls Tryd.prog 29 #[.int .i64 steps, .int .i64 0, .int .i64 400] W fun e w' => e = .returned (.bool false) ∧ w' = W) := fun W => by
      have := Wi.out W
      rwa [decide_eq_false hs] at this
    clear Wi hs
    go_enter Tryd.func13, Tryd.ntmps13
    go_wp2_with fail
    refine (M0.out _ ((((Gr.refl _).alloc _).alloc _).alloc _)).mono ?_
    rintro e w1 ⟨rfl, G1⟩
    obtain ⟨_, _, b2⟩ := three_of G1
    have HG1 : Hid (Gr w w1) := ((((Gr.refl _).alloc _).alloc _).alloc _).trans G1
    have HBZ : Hid (∃ Z : Array Value, Z.size = 41 ∧ w1.heap[w.heap.size + 1 + 1]? = some (.cells Z 54 (0, 0))) := ⟨_, rfl, b2⟩
    clear G1 b2 M0
    obtain ⟨Z, hz, hZ⟩ := HBZ.out
    have HZ2 : Hid (w1.heap[w.heap.size + 1 + 1]? = some (.cells Z 54 (0, 0))) := hZ
    have HZs : Hid (Z.size = 41) := hz
    clear HBZ hz hZ
    go_wp2_with fail
    refine (Wi2.out _).mono ?_
    rintro e w' ⟨rfl, rfl⟩
    clear Wi2
    go_wp2_with (first
      | (refine wpList_buildTo rfl 54 _ rfl _ rfl D0 (by have := HB0.out; simp [Act.eval, Act.put]; exact this) ?_)
      | (refine wpList_store_row rfl 54 _ _ rfl (w.heap.size + 1 + 1) D0 rfl rfl 54 Z ?sr1 (by rw [HZ.out]; exact iDidA) (by rw [HZ.out]; exact HZs.out) HO.out ?_; (case sr1 => exact HZ2.out)))
    refine bodyPost_ret (v := .tuple #[.agg D0, .bool false]) (Hr.results_cell_tmp' Tryd.results13 _ _ _ _ _ (0, 0) _ _ rfl rfl (setRow_heap _ _ _ _ _ (0, 0) HZ2.out) Tryd.underlying54 rfl (by rw [HZ.out]; exact iDidA)) rfl ⟨rfl, ?_⟩
    exact gr_setRow HG1.out (by omega) _
end Go.Proofs.YtkcgcflpmggjkabDoor.Mp
