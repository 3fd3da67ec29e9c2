/-
  Whether small steps may be, by the document: May.
-/
import Derived.Test.YtkdghgiajifbdaaDoorRm5
namespace Go.Proofs.YtkdghgiajifbdaaDoor.Mi
open Go.ChangeShapes Go.WideShapes Go.ChangeAt Go.RowKit Mm Hh Hc
set_option linter.unusedVariables false
set_option linter.unusedSimpArgs false

set_option maxHeartbeats 4000000 in
set_option maxRecDepth 100000 in
theorem May_any {ao : Option Addr} {n : Nat} (cap : Nat) {code : List Mv} {w : World} (C : Cs w ao n code) (hn : n ≤ 140737488351232) :
    Calls Tryd.prog 16 #[.slice ao n cap] w fun e w' => e = .returned (.bool (mayC code)) ∧ Gr w w' := by
  have HL : Hid (code.length = n) := C.len
  have HM : Hid (mayC code = (decide (n ≤ 200) && code.all micOk)) := by unfold Hid mayC; rw [HL.out]
  by_cases c2 : 200 < n
  · have HE : Hid (mayC code = false) := by unfold Hid; rw [HM.out, decide_eq_false (by omega)]; rfl
    clear HM C
    go_enter Tryd.func16, Tryd.ntmps16
    go_wp2
    go_ret
    exact ⟨retB HE.out.symm, Gr.refl _⟩
  have HM2 : Hid (mayC code = code.all micOk) := by unfold Hid; rw [HM.out, decide_eq_true (by omega)]; rfl
  clear HM
  have HC : Hid (Cs w ao n code) := C
  clear C
  go_enter Tryd.func16, Tryd.ntmps16
  go_wp2
  go_loopw [3] (fun i wr => ∃ j : Nat, j ≤ n ∧ i = .int .i64 j ∧ (code.take j).all micOk = true ∧ Gr w wr) (fun i _ => n - (intOf i).toNat)
  case atStart => exact ⟨0, Nat.zero_le _, rfl, rfl, Gr.refl _⟩
  case round =>
    obtain ⟨j, hj, rfl, hall, G⟩ := hrel
    have HA : Hid ((code.take j).all micOk = true) := hall
    have HG : Hid (Gr w wr) := G
    clear hall G
    by_cases hlt : j < n
    · obtain ⟨c, hc⟩ : ∃ c, code[j]? = some c := ⟨_, List.getElem?_eq_getElem (by rw [HL.out]; exact hlt)⟩
      obtain ⟨b, o, rfl, hb, hcell⟩ := (HC.out.of HG.out).spot (by omega)
      obtain ⟨p0, p1, p2, p3, p4⟩ := hcell j c hc
      have hmem := List.mem_of_getElem? hc
      have HW : Hid (W c.n) := HC.out.wn c hmem
      have wo := HC.out.wo c hmem
      have Nm : Hid (∀ V : World, _) := fun V => named_any c.op V wo.1 wo.2
      have HNo : Hid (micOk c = false → mayC code = false) := fun h => by rw [HM2.out]; exact all_no hc h
      have HYes : Hid (micOk c = true → (code.take (j + 1)).all micOk = true) := fun h => by rw [all_take1 _ _ _ _ hc, HA.out, h]; rfl
      have N1 : Hid (named c.op < 0 → micOk c = false) := mic_no1
      have N2 : Hid (named c.op < 8 → ¬ c.n = 0 → micOk c = false) := mic_no2
      have R0 : Hid (regOk (decide (named c.op % 2 = 1)) c.d = false → micOk c = false) := mic_no3
      have R1 : Hid (regOk (decide (named c.op / 2 % 2 = 1)) c.a = false → micOk c = false) := mic_no4
      have R2 : Hid (regOk (decide (named c.op / 4 % 2 = 1)) c.b = false → micOk c = false) := mic_no5
      have Y : Hid (0 ≤ named c.op → (8 ≤ named c.op ∨ c.n = 0) → regOk (decide (named c.op % 2 = 1)) c.d = true → regOk (decide (named c.op / 2 % 2 = 1)) c.a = true → regOk (decide (named c.op / 4 % 2 = 1)) c.b = true → micOk c = true) := mic_yes
      clear hcell hc hmem wo HC HA
      have HK : Hid (0 ≤ named c.op → named c.op = 0 ∨ named c.op = 7 ∨ named c.op = 8 ∨ named c.op = 9 ∨ named c.op = 10 ∨ named c.op = 11 ∨ named c.op = 14) := named_vals
      obtain ⟨op, d, a, b2, nn⟩ := c
      simp only at *
      generalize micOk ⟨op, d, a, b2, nn⟩ = OKB at *
      generalize named op = K at *
      by_cases k0 : K < 0
      · go_wp2_with fail
        refine (Nm.out _).mono ?_
        rintro e w1 ⟨rfl, rfl⟩
        go_wp2
        go_ret
        exact ⟨retB (HNo.out (N1.out k0)).symm, HG.out.alloc _⟩
      have kv := HK.out (by omega)
      clear HK
      by_cases k8 : K < 8
      · by_cases hz : nn = 0
        · have YY : Hid (regOk (decide (K % 2 = 1)) d = true → regOk (decide (K / 2 % 2 = 1)) a = true → regOk (decide (K / 4 % 2 = 1)) b2 = true → OKB = true) := Y.out (by omega) (.inr hz)
          subst hz
          clear Y N1 N2
          go_wp2_with fail
          refine (Nm.out _).mono ?_
          rintro e w1 ⟨rfl, rfl⟩
          clear Nm p0 p1 p2 p3 p4
          go_wp2
          go_loopw [8, 7] (fun i bit wq => ∃ t : Nat, t ≤ 3 ∧ i = .int .i64 t ∧ bit = .int .i64 (pw t) ∧ (1 ≤ t → regOk (decide (K % 2 = 1)) d = true) ∧ (2 ≤ t → regOk (decide (K / 2 % 2 = 1)) a = true) ∧ (3 ≤ t → regOk (decide (K / 4 % 2 = 1)) b2 = true) ∧ wq.cell? ⟨wr.heap.size + 1, 0, none⟩ = some (.int .i64 d) ∧ wq.cell? ⟨wr.heap.size + 1, 1, none⟩ = some (.int .i64 a) ∧ wq.cell? ⟨wr.heap.size + 1, 2, none⟩ = some (.int .i64 b2) ∧ Gr w wq) (fun i _ _ => 3 - (intOf i).toNat)
          case atStart => exact ⟨0, by omega, rfl, rfl, by omega, by omega, by omega, by simp, by simp, by simp, (HG.out.alloc _).alloc _⟩
          case round =>
            obtain ⟨t, ht, rfl, rfl, g0, g1, g2, s0, s1, s2, Gq⟩ := hrel
            rename World => wq
            have HGr : Hid (Gr w wq) := Gq
            have G0 : Hid (1 ≤ t → regOk (decide (K % 2 = 1)) d = true) := g0
            have G1 : Hid (2 ≤ t → regOk (decide (K / 2 % 2 = 1)) a = true) := g1
            have G2 : Hid (3 ≤ t → regOk (decide (K / 4 % 2 = 1)) b2 = true) := g2
            clear g0 g1 g2 Gq
            have tv : t = 0 ∨ t = 1 ∨ t = 2 ∨ t = 3 := by omega
            rcases tv with rfl | rfl | rfl | rfl
            · rw [show pw 0 = (1 : Int) from rfl]
              by_cases hb1 : K % 2 = 1
              · have hd1 : decide (K % 2 = 1) = true := decide_eq_true hb1
                have f1 : K.tmod 2 = 1 := by rw [Int.tmod_eq_emod_of_nonneg (by omega)]; omega
                have f2 : (K.tdiv 1).tmod 2 = 1 := by rw [Int.tdiv_one]; exact f1
                by_cases x0 : d < 0
                · go_wp2
                  go_ret
                  exact ⟨retB (HNo.out (R0.out (reg_no (.inr (.inl x0))))).symm, HGr.out⟩
                by_cases x1 : 36 ≤ d
                · go_wp2
                  go_ret
                  exact ⟨retB (HNo.out (R0.out (reg_no (.inr (.inr x1))))).symm, HGr.out⟩
                go_wp2
                go_roundw
                case rel => exact ⟨1, by omega, by go_num, by go_num, (fun _ => reg_yes (.inl hd1) (by omega) (by omega)), (fun h => by omega), (fun h => by omega), s0, s1, s2, HGr.out⟩
                case measure => simp [intOf]
              · have hd1 : decide (K % 2 = 1) = false := decide_eq_false hb1
                have f1 : K.tmod 2 = 0 := by rw [Int.tmod_eq_emod_of_nonneg (by omega)]; omega
                have f2 : (K.tdiv 1).tmod 2 = 0 := by rw [Int.tdiv_one]; exact f1
                by_cases xz : d = 0
                · subst xz
                  go_wp2
                  go_roundw
                  case rel => exact ⟨1, by omega, by go_num, by go_num, (fun _ => reg_yes (.inr rfl) (by omega) (by omega)), (fun h => by omega), (fun h => by omega), s0, s1, s2, HGr.out⟩
                  case measure => simp [intOf]
                · have xb : (d == 0) = false := by simpa using xz
                  have xc : (d != 0) = true := by simpa using xz
                  go_wp2
                  go_ret
                  exact ⟨retB (HNo.out (R0.out (reg_no (.inl ⟨hd1, xz⟩)))).symm, HGr.out⟩
            · rw [show pw 1 = (2 : Int) from rfl]
              by_cases hb1 : K / 2 % 2 = 1
              · have hd1 : decide (K / 2 % 2 = 1) = true := decide_eq_true hb1
                have f1 : (K.tdiv 2).tmod 2 = 1 := by rw [Int.tdiv_eq_ediv_of_nonneg (by omega), Int.tmod_eq_emod_of_nonneg (by omega)]; omega
                by_cases x0 : a < 0
                · go_wp2
                  go_ret
                  exact ⟨retB (HNo.out (R1.out (reg_no (.inr (.inl x0))))).symm, HGr.out⟩
                by_cases x1 : 36 ≤ a
                · go_wp2
                  go_ret
                  exact ⟨retB (HNo.out (R1.out (reg_no (.inr (.inr x1))))).symm, HGr.out⟩
                go_wp2
                go_roundw
                case rel => exact ⟨2, by omega, by go_num, by go_num, (fun _ => G0.out (by omega)), (fun _ => reg_yes (.inl hd1) (by omega) (by omega)), (fun h => by omega), s0, s1, s2, HGr.out⟩
                case measure => simp [intOf]
              · have hd1 : decide (K / 2 % 2 = 1) = false := decide_eq_false hb1
                have f1 : (K.tdiv 2).tmod 2 = 0 := by rw [Int.tdiv_eq_ediv_of_nonneg (by omega), Int.tmod_eq_emod_of_nonneg (by omega)]; omega
                by_cases xz : a = 0
                · subst xz
                  go_wp2
                  go_roundw
                  case rel => exact ⟨2, by omega, by go_num, by go_num, (fun _ => G0.out (by omega)), (fun _ => reg_yes (.inr rfl) (by omega) (by omega)), (fun h => by omega), s0, s1, s2, HGr.out⟩
                  case measure => simp [intOf]
                · have xb : (a == 0) = false := by simpa using xz
                  have xc : (a != 0) = true := by simpa using xz
                  go_wp2
                  go_ret
                  exact ⟨retB (HNo.out (R1.out (reg_no (.inl ⟨hd1, xz⟩)))).symm, HGr.out⟩
            · rw [show pw 2 = (4 : Int) from rfl]
              by_cases hb1 : K / 4 % 2 = 1
              · have hd1 : decide (K / 4 % 2 = 1) = true := decide_eq_true hb1
                have f1 : (K.tdiv 4).tmod 2 = 1 := by rw [Int.tdiv_eq_ediv_of_nonneg (by omega), Int.tmod_eq_emod_of_nonneg (by omega)]; omega
                by_cases x0 : b2 < 0
                · go_wp2
                  go_ret
                  exact ⟨retB (HNo.out (R2.out (reg_no (.inr (.inl x0))))).symm, HGr.out⟩
                by_cases x1 : 36 ≤ b2
                · go_wp2
                  go_ret
                  exact ⟨retB (HNo.out (R2.out (reg_no (.inr (.inr x1))))).symm, HGr.out⟩
                go_wp2
                go_roundw
                case rel => exact ⟨3, by omega, by go_num, by go_num, (fun _ => G0.out (by omega)), (fun _ => G1.out (by omega)), (fun _ => reg_yes (.inl hd1) (by omega) (by omega)), s0, s1, s2, HGr.out⟩
                case measure => simp [intOf]
              · have hd1 : decide (K / 4 % 2 = 1) = false := decide_eq_false hb1
                have f1 : (K.tdiv 4).tmod 2 = 0 := by rw [Int.tdiv_eq_ediv_of_nonneg (by omega), Int.tmod_eq_emod_of_nonneg (by omega)]; omega
                by_cases xz : b2 = 0
                · subst xz
                  go_wp2
                  go_roundw
                  case rel => exact ⟨3, by omega, by go_num, by go_num, (fun _ => G0.out (by omega)), (fun _ => G1.out (by omega)), (fun _ => reg_yes (.inr rfl) (by omega) (by omega)), s0, s1, s2, HGr.out⟩
                  case measure => simp [intOf]
                · have xb : (b2 == 0) = false := by simpa using xz
                  have xc : (b2 != 0) = true := by simpa using xz
                  go_wp2
                  go_ret
                  exact ⟨retB (HNo.out (R2.out (reg_no (.inl ⟨hd1, xz⟩)))).symm, HGr.out⟩
            · go_wp2
              go_roundw
              case rel => exact ⟨j + 1, by omega, by go_num, HYes.out (YY.out (G0.out (by omega)) (G1.out (by omega)) (G2.out (by omega))), HGr.out⟩
              case measure => simp [intOf]; omega
        · have hzb : (nn == 0) = false := by simpa using hz
          have hzc : (nn != 0) = true := by simpa using hz
          go_wp2_with fail
          refine (Nm.out _).mono ?_
          rintro e w1 ⟨rfl, rfl⟩
          go_wp2
          go_ret
          exact ⟨retB (HNo.out (N2.out k8 hz)).symm, HG.out.alloc _⟩
      · have YY : Hid (regOk (decide (K % 2 = 1)) d = true → regOk (decide (K / 2 % 2 = 1)) a = true → regOk (decide (K / 4 % 2 = 1)) b2 = true → OKB = true) := Y.out (by omega) (.inl (by omega))
        clear Y N1 N2
        go_wp2_with fail
        refine (Nm.out _).mono ?_
        rintro e w1 ⟨rfl, rfl⟩
        clear Nm p0 p1 p2 p3 p4
        go_wp2
        go_loopw [8, 7] (fun i bit wq => ∃ t : Nat, t ≤ 3 ∧ i = .int .i64 t ∧ bit = .int .i64 (pw t) ∧ (1 ≤ t → regOk (decide (K % 2 = 1)) d = true) ∧ (2 ≤ t → regOk (decide (K / 2 % 2 = 1)) a = true) ∧ (3 ≤ t → regOk (decide (K / 4 % 2 = 1)) b2 = true) ∧ wq.cell? ⟨wr.heap.size + 1, 0, none⟩ = some (.int .i64 d) ∧ wq.cell? ⟨wr.heap.size + 1, 1, none⟩ = some (.int .i64 a) ∧ wq.cell? ⟨wr.heap.size + 1, 2, none⟩ = some (.int .i64 b2) ∧ Gr w wq) (fun i _ _ => 3 - (intOf i).toNat)
        case atStart => exact ⟨0, by omega, rfl, rfl, by omega, by omega, by omega, by simp, by simp, by simp, (HG.out.alloc _).alloc _⟩
        case round =>
          obtain ⟨t, ht, rfl, rfl, g0, g1, g2, s0, s1, s2, Gq⟩ := hrel
          rename World => wq
          have HGr : Hid (Gr w wq) := Gq
          have G0 : Hid (1 ≤ t → regOk (decide (K % 2 = 1)) d = true) := g0
          have G1 : Hid (2 ≤ t → regOk (decide (K / 2 % 2 = 1)) a = true) := g1
          have G2 : Hid (3 ≤ t → regOk (decide (K / 4 % 2 = 1)) b2 = true) := g2
          clear g0 g1 g2 Gq
          have tv : t = 0 ∨ t = 1 ∨ t = 2 ∨ t = 3 := by omega
          rcases tv with rfl | rfl | rfl | rfl
          · rw [show pw 0 = (1 : Int) from rfl]
            by_cases hb1 : K % 2 = 1
            · have hd1 : decide (K % 2 = 1) = true := decide_eq_true hb1
              have f1 : K.tmod 2 = 1 := by rw [Int.tmod_eq_emod_of_nonneg (by omega)]; omega
              have f2 : (K.tdiv 1).tmod 2 = 1 := by rw [Int.tdiv_one]; exact f1
              by_cases x0 : d < 0
              · go_wp2
                go_ret
                exact ⟨retB (HNo.out (R0.out (reg_no (.inr (.inl x0))))).symm, HGr.out⟩
              by_cases x1 : 36 ≤ d
              · go_wp2
                go_ret
                exact ⟨retB (HNo.out (R0.out (reg_no (.inr (.inr x1))))).symm, HGr.out⟩
              go_wp2
              go_roundw
              case rel => exact ⟨1, by omega, by go_num, by go_num, (fun _ => reg_yes (.inl hd1) (by omega) (by omega)), (fun h => by omega), (fun h => by omega), s0, s1, s2, HGr.out⟩
              case measure => simp [intOf]
            · have hd1 : decide (K % 2 = 1) = false := decide_eq_false hb1
              have f1 : K.tmod 2 = 0 := by rw [Int.tmod_eq_emod_of_nonneg (by omega)]; omega
              have f2 : (K.tdiv 1).tmod 2 = 0 := by rw [Int.tdiv_one]; exact f1
              by_cases xz : d = 0
              · subst xz
                go_wp2
                go_roundw
                case rel => exact ⟨1, by omega, by go_num, by go_num, (fun _ => reg_yes (.inr rfl) (by omega) (by omega)), (fun h => by omega), (fun h => by omega), s0, s1, s2, HGr.out⟩
                case measure => simp [intOf]
              · have xb : (d == 0) = false := by simpa using xz
                have xc : (d != 0) = true := by simpa using xz
                go_wp2
                go_ret
                exact ⟨retB (HNo.out (R0.out (reg_no (.inl ⟨hd1, xz⟩)))).symm, HGr.out⟩
          · rw [show pw 1 = (2 : Int) from rfl]
            by_cases hb1 : K / 2 % 2 = 1
            · have hd1 : decide (K / 2 % 2 = 1) = true := decide_eq_true hb1
              have f1 : (K.tdiv 2).tmod 2 = 1 := by rw [Int.tdiv_eq_ediv_of_nonneg (by omega), Int.tmod_eq_emod_of_nonneg (by omega)]; omega
              by_cases x0 : a < 0
              · go_wp2
                go_ret
                exact ⟨retB (HNo.out (R1.out (reg_no (.inr (.inl x0))))).symm, HGr.out⟩
              by_cases x1 : 36 ≤ a
              · go_wp2
                go_ret
                exact ⟨retB (HNo.out (R1.out (reg_no (.inr (.inr x1))))).symm, HGr.out⟩
              go_wp2
              go_roundw
              case rel => exact ⟨2, by omega, by go_num, by go_num, (fun _ => G0.out (by omega)), (fun _ => reg_yes (.inl hd1) (by omega) (by omega)), (fun h => by omega), s0, s1, s2, HGr.out⟩
              case measure => simp [intOf]
            · have hd1 : decide (K / 2 % 2 = 1) = false := decide_eq_false hb1
              have f1 : (K.tdiv 2).tmod 2 = 0 := by rw [Int.tdiv_eq_ediv_of_nonneg (by omega), Int.tmod_eq_emod_of_nonneg (by omega)]; omega
              by_cases xz : a = 0
              · subst xz
                go_wp2
                go_roundw
                case rel => exact ⟨2, by omega, by go_num, by go_num, (fun _ => G0.out (by omega)), (fun _ => reg_yes (.inr rfl) (by omega) (by omega)), (fun h => by omega), s0, s1, s2, HGr.out⟩
                case measure => simp [intOf]
              · have xb : (a == 0) = false := by simpa using xz
                have xc : (a != 0) = true := by simpa using xz
                go_wp2
                go_ret
                exact ⟨retB (HNo.out (R1.out (reg_no (.inl ⟨hd1, xz⟩)))).symm, HGr.out⟩
          · rw [show pw 2 = (4 : Int) from rfl]
            by_cases hb1 : K / 4 % 2 = 1
            · have hd1 : decide (K / 4 % 2 = 1) = true := decide_eq_true hb1
              have f1 : (K.tdiv 4).tmod 2 = 1 := by rw [Int.tdiv_eq_ediv_of_nonneg (by omega), Int.tmod_eq_emod_of_nonneg (by omega)]; omega
              by_cases x0 : b2 < 0
              · go_wp2
                go_ret
                exact ⟨retB (HNo.out (R2.out (reg_no (.inr (.inl x0))))).symm, HGr.out⟩
              by_cases x1 : 36 ≤ b2
              · go_wp2
                go_ret
                exact ⟨retB (HNo.out (R2.out (reg_no (.inr (.inr x1))))).symm, HGr.out⟩
              go_wp2
              go_roundw
              case rel => exact ⟨3, by omega, by go_num, by go_num, (fun _ => G0.out (by omega)), (fun _ => G1.out (by omega)), (fun _ => reg_yes (.inl hd1) (by omega) (by omega)), s0, s1, s2, HGr.out⟩
              case measure => simp [intOf]
            · have hd1 : decide (K / 4 % 2 = 1) = false := decide_eq_false hb1
              have f1 : (K.tdiv 4).tmod 2 = 0 := by rw [Int.tdiv_eq_ediv_of_nonneg (by omega), Int.tmod_eq_emod_of_nonneg (by omega)]; omega
              by_cases xz : b2 = 0
              · subst xz
                go_wp2
                go_roundw
                case rel => exact ⟨3, by omega, by go_num, by go_num, (fun _ => G0.out (by omega)), (fun _ => G1.out (by omega)), (fun _ => reg_yes (.inr rfl) (by omega) (by omega)), s0, s1, s2, HGr.out⟩
                case measure => simp [intOf]
              · have xb : (b2 == 0) = false := by simpa using xz
                have xc : (b2 != 0) = true := by simpa using xz
                go_wp2
                go_ret
                exact ⟨retB (HNo.out (R2.out (reg_no (.inl ⟨hd1, xz⟩)))).symm, HGr.out⟩
          · go_wp2
            go_roundw
            case rel => exact ⟨j + 1, by omega, by go_num, HYes.out (YY.out (G0.out (by omega)) (G1.out (by omega)) (G2.out (by omega))), HGr.out⟩
            case measure => simp [intOf]; omega
    · have HE : Hid (mayC code = true) := by
        have e : (code.take j).all micOk = true := HA.out
        rw [show j = n by omega, ← HL.out, List.take_length] at e
        unfold Hid; rw [HM2.out, e]
      go_wp2
      go_ret
      exact ⟨retB HE.out.symm, HG.out⟩
end Go.Proofs.YtkdghgiajifbdaaDoor.Mi
