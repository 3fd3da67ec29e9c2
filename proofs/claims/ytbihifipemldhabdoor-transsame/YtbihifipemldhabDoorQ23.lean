/-
  Rm6, Rm8, Bm1, Bm2, Mw: texts of ours that lie in one file.
-/
import Derived.Test.YtbihifipemldhabDoorQ09
import Derived.Test.YtbihifipemldhabDoorQ10
import Derived.Test.YtbihifipemldhabDoorQ06
import Derived.Test.YtbihifipemldhabDoorQ13
import Derived.Test.YtbihifipemldhabDoorQ03
import Derived.Test.YtbihifipemldhabDoorQ21
set_option linter.unusedVariables false
set_option linter.unusedSimpArgs false
set_option maxHeartbeats 8000000
set_option maxRecDepth 100000
/-
  Whether small steps may be, by the document: May.
-/
namespace Go.Proofs.YtbihifipemldhabDoor.Mi
open Go.ChangeShapes Go.WideShapes Go.ChangeAt Go.RowKit Mm Hh Hc

theorem May_any {ao : Option Addr} {n : Nat} (cap : Nat) {code : List Mv} {w : World} (C : Cs w ao n code) (hn : n ≤ 140737488351232) :
    Calls Tryd.prog 14 #[.slice ao n cap] w fun e w' => e = .returned (.bool (mayC code)) ∧ Gr w w' := by
  have HL : Hid (code.length = n) := C.len
  have HM : Hid (mayC code = (decide (n ≤ 200) && code.all micOk)) := by unfold Hid mayC; rw [HL.out]
  by_cases c2 : 200 < n
  · have HE : Hid (mayC code = false) := by unfold Hid; rw [HM.out, decide_eq_false (by omega)]; rfl
    clear HM C
    go_enter Tryd.func14, Tryd.ntmps14
    go_wp2
    go_ret
    exact ⟨retB HE.out.symm, Gr.refl _⟩
  have HM2 : Hid (mayC code = code.all micOk) := by unfold Hid; rw [HM.out, decide_eq_true (by omega)]; rfl
  clear HM
  have HC : Hid (Cs w ao n code) := C
  clear C
  go_enter Tryd.func14, Tryd.ntmps14
  go_wp2
  go_loopw [3] (fun i wr => ∃ j : Nat, j ≤ n ∧ i = .int .i64 j ∧ (code.take j).all micOk = true ∧ Gr w wr) (fun i _ => n - (intOf i).toNat)
  case atStart => exact ⟨0, Nat.zero_le _, rfl, rfl, Gr.refl _⟩
  case round =>
    obtain ⟨j, hj, rfl, hall, G⟩ := hrel
    have HA : Hid ((code.take j).all micOk = true) := hall
    have HG : Hid (Gr w wr) := G
    clear hall G
    by_cases hlt : j < n
    · obtain ⟨c, hc⟩ : ∃ c, code[j]? = some c := ⟨_, List.getElem?_eq_getElem (by rw [HL.out]; exact hlt)⟩
      obtain ⟨b, o, rfl, hb, hcell⟩ := (HC.out.of HG.out).spot (by omega)
      obtain ⟨p0, p1, p2, p3, p4⟩ := hcell j c hc
      have hmem := List.mem_of_getElem? hc
      have HW : Hid (W c.n) := HC.out.wn c hmem
      have wo := HC.out.wo c hmem
      have Nm : Hid (∀ V : World, Calls Tryd.prog 33 #[.int .i64 c.op] V fun e w' => e = .returned (.int .i64 (named c.op)) ∧ w' = V) := fun V => named_any c.op V wo.1 wo.2
      have HNo : Hid (micOk c = false → mayC code = false) := fun h => by rw [HM2.out]; exact all_no hc h
      have HYes : Hid (micOk c = true → (code.take (j + 1)).all micOk = true) := fun h => by rw [all_take1 _ _ _ _ hc, HA.out, h]; rfl
      have N1 : Hid (named c.op < 0 → micOk c = false) := mic_no1
      have N2 : Hid (named c.op < 8 → ¬ c.n = 0 → micOk c = false) := mic_no2
      have R0 : Hid (regOk (decide (named c.op % 2 = 1)) c.d = false → micOk c = false) := mic_no3
      have R1 : Hid (regOk (decide (named c.op / 2 % 2 = 1)) c.a = false → micOk c = false) := mic_no4
      have R2 : Hid (regOk (decide (named c.op / 4 % 2 = 1)) c.b = false → micOk c = false) := mic_no5
      have Y : Hid (0 ≤ named c.op → (8 ≤ named c.op ∨ c.n = 0) → regOk (decide (named c.op % 2 = 1)) c.d = true → regOk (decide (named c.op / 2 % 2 = 1)) c.a = true → regOk (decide (named c.op / 4 % 2 = 1)) c.b = true → micOk c = true) := mic_yes
      clear hcell hc hmem wo HC HA
      have HK : Hid (0 ≤ named c.op → named c.op = 0 ∨ named c.op = 7 ∨ named c.op = 8 ∨ named c.op = 9 ∨ named c.op = 10 ∨ named c.op = 11 ∨ named c.op = 14) := named_vals
      obtain ⟨op, d, a, b2, nn⟩ := c
      simp only at *
      generalize micOk ⟨op, d, a, b2, nn⟩ = OKB at *
      generalize named op = K at *
      by_cases k0 : K < 0
      · go_wp2_with fail
        refine (Nm.out _).mono ?_
        rintro e w1 ⟨rfl, rfl⟩
        go_wp2
        go_ret
        exact ⟨retB (HNo.out (N1.out k0)).symm, HG.out.alloc _⟩
      have kv := HK.out (by omega)
      clear HK
      by_cases k8 : K < 8
      · by_cases hz : nn = 0
        · have YY : Hid (regOk (decide (K % 2 = 1)) d = true → regOk (decide (K / 2 % 2 = 1)) a = true → regOk (decide (K / 4 % 2 = 1)) b2 = true → OKB = true) := Y.out (by omega) (.inr hz)
          subst hz
          clear Y N1 N2
          go_wp2_with fail
          refine (Nm.out _).mono ?_
          rintro e w1 ⟨rfl, rfl⟩
          clear Nm p0 p1 p2 p3 p4
          go_wp2
          go_loopw [8, 7] (fun i bit wq => ∃ t : Nat, t ≤ 3 ∧ i = .int .i64 t ∧ bit = .int .i64 (pw t) ∧ (1 ≤ t → regOk (decide (K % 2 = 1)) d = true) ∧ (2 ≤ t → regOk (decide (K / 2 % 2 = 1)) a = true) ∧ (3 ≤ t → regOk (decide (K / 4 % 2 = 1)) b2 = true) ∧ wq.cell? ⟨wr.heap.size + 1, 0, none⟩ = some (.int .i64 d) ∧ wq.cell? ⟨wr.heap.size + 1, 1, none⟩ = some (.int .i64 a) ∧ wq.cell? ⟨wr.heap.size + 1, 2, none⟩ = some (.int .i64 b2) ∧ Gr w wq) (fun i _ _ => 3 - (intOf i).toNat)
          case atStart => exact ⟨0, by omega, rfl, rfl, by omega, by omega, by omega, by simp, by simp, by simp, (HG.out.alloc _).alloc _⟩
          case round =>
            obtain ⟨t, ht, rfl, rfl, g0, g1, g2, s0, s1, s2, Gq⟩ := hrel
            rename World => wq
            have HGr : Hid (Gr w wq) := Gq
            have G0 : Hid (1 ≤ t → regOk (decide (K % 2 = 1)) d = true) := g0
            have G1 : Hid (2 ≤ t → regOk (decide (K / 2 % 2 = 1)) a = true) := g1
            have G2 : Hid (3 ≤ t → regOk (decide (K / 4 % 2 = 1)) b2 = true) := g2
            clear g0 g1 g2 Gq
            have tv : t = 0 ∨ t = 1 ∨ t = 2 ∨ t = 3 := by omega
            rcases tv with rfl | rfl | rfl | rfl
            · rw [show pw 0 = (1 : Int) from rfl]
              by_cases hb1 : K % 2 = 1
              · have hd1 : decide (K % 2 = 1) = true := decide_eq_true hb1
                have f1 : K.tmod 2 = 1 := by rw [Int.tmod_eq_emod_of_nonneg (by omega)]; omega
                have f2 : (K.tdiv 1).tmod 2 = 1 := by rw [Int.tdiv_one]; exact f1
                by_cases x0 : d < 0
                · go_wp2
                  go_ret
                  exact ⟨retB (HNo.out (R0.out (reg_no (.inr (.inl x0))))).symm, HGr.out⟩
                by_cases x1 : 36 ≤ d
                · go_wp2
                  go_ret
                  exact ⟨retB (HNo.out (R0.out (reg_no (.inr (.inr x1))))).symm, HGr.out⟩
                go_wp2
                go_roundw
                case rel => exact ⟨1, by omega, by go_num, by go_num, (fun _ => reg_yes (.inl hd1) (by omega) (by omega)), (fun h => by omega), (fun h => by omega), s0, s1, s2, HGr.out⟩
                case measure => simp [intOf]
              · have hd1 : decide (K % 2 = 1) = false := decide_eq_false hb1
                have f1 : K.tmod 2 = 0 := by rw [Int.tmod_eq_emod_of_nonneg (by omega)]; omega
                have f2 : (K.tdiv 1).tmod 2 = 0 := by rw [Int.tdiv_one]; exact f1
                by_cases xz : d = 0
                · subst xz
                  go_wp2
                  go_roundw
                  case rel => exact ⟨1, by omega, by go_num, by go_num, (fun _ => reg_yes (.inr rfl) (by omega) (by omega)), (fun h => by omega), (fun h => by omega), s0, s1, s2, HGr.out⟩
                  case measure => simp [intOf]
                · have xb : (d == 0) = false := by simpa using xz
                  have xc : (d != 0) = true := by simpa using xz
                  go_wp2
                  go_ret
                  exact ⟨retB (HNo.out (R0.out (reg_no (.inl ⟨hd1, xz⟩)))).symm, HGr.out⟩
            · rw [show pw 1 = (2 : Int) from rfl]
              by_cases hb1 : K / 2 % 2 = 1
              · have hd1 : decide (K / 2 % 2 = 1) = true := decide_eq_true hb1
                have f1 : (K.tdiv 2).tmod 2 = 1 := by rw [Int.tdiv_eq_ediv_of_nonneg (by omega), Int.tmod_eq_emod_of_nonneg (by omega)]; omega
                by_cases x0 : a < 0
                · go_wp2
                  go_ret
                  exact ⟨retB (HNo.out (R1.out (reg_no (.inr (.inl x0))))).symm, HGr.out⟩
                by_cases x1 : 36 ≤ a
                · go_wp2
                  go_ret
                  exact ⟨retB (HNo.out (R1.out (reg_no (.inr (.inr x1))))).symm, HGr.out⟩
                go_wp2
                go_roundw
                case rel => exact ⟨2, by omega, by go_num, by go_num, (fun _ => G0.out (by omega)), (fun _ => reg_yes (.inl hd1) (by omega) (by omega)), (fun h => by omega), s0, s1, s2, HGr.out⟩
                case measure => simp [intOf]
              · have hd1 : decide (K / 2 % 2 = 1) = false := decide_eq_false hb1
                have f1 : (K.tdiv 2).tmod 2 = 0 := by rw [Int.tdiv_eq_ediv_of_nonneg (by omega), Int.tmod_eq_emod_of_nonneg (by omega)]; omega
                by_cases xz : a = 0
                · subst xz
                  go_wp2
                  go_roundw
                  case rel => exact ⟨2, by omega, by go_num, by go_num, (fun _ => G0.out (by omega)), (fun _ => reg_yes (.inr rfl) (by omega) (by omega)), (fun h => by omega), s0, s1, s2, HGr.out⟩
                  case measure => simp [intOf]
                · have xb : (a == 0) = false := by simpa using xz
                  have xc : (a != 0) = true := by simpa using xz
                  go_wp2
                  go_ret
                  exact ⟨retB (HNo.out (R1.out (reg_no (.inl ⟨hd1, xz⟩)))).symm, HGr.out⟩
            · rw [show pw 2 = (4 : Int) from rfl]
              by_cases hb1 : K / 4 % 2 = 1
              · have hd1 : decide (K / 4 % 2 = 1) = true := decide_eq_true hb1
                have f1 : (K.tdiv 4).tmod 2 = 1 := by rw [Int.tdiv_eq_ediv_of_nonneg (by omega), Int.tmod_eq_emod_of_nonneg (by omega)]; omega
                by_cases x0 : b2 < 0
                · go_wp2
                  go_ret
                  exact ⟨retB (HNo.out (R2.out (reg_no (.inr (.inl x0))))).symm, HGr.out⟩
                by_cases x1 : 36 ≤ b2
                · go_wp2
                  go_ret
                  exact ⟨retB (HNo.out (R2.out (reg_no (.inr (.inr x1))))).symm, HGr.out⟩
                go_wp2
                go_roundw
                case rel => exact ⟨3, by omega, by go_num, by go_num, (fun _ => G0.out (by omega)), (fun _ => G1.out (by omega)), (fun _ => reg_yes (.inl hd1) (by omega) (by omega)), s0, s1, s2, HGr.out⟩
                case measure => simp [intOf]
              · have hd1 : decide (K / 4 % 2 = 1) = false := decide_eq_false hb1
                have f1 : (K.tdiv 4).tmod 2 = 0 := by rw [Int.tdiv_eq_ediv_of_nonneg (by omega), Int.tmod_eq_emod_of_nonneg (by omega)]; omega
                by_cases xz : b2 = 0
                · subst xz
                  go_wp2
                  go_roundw
                  case rel => exact ⟨3, by omega, by go_num, by go_num, (fun _ => G0.out (by omega)), (fun _ => G1.out (by omega)), (fun _ => reg_yes (.inr rfl) (by omega) (by omega)), s0, s1, s2, HGr.out⟩
                  case measure => simp [intOf]
                · have xb : (b2 == 0) = false := by simpa using xz
                  have xc : (b2 != 0) = true := by simpa using xz
                  go_wp2
                  go_ret
                  exact ⟨retB (HNo.out (R2.out (reg_no (.inl ⟨hd1, xz⟩)))).symm, HGr.out⟩
            · go_wp2
              go_roundw
              case rel => exact ⟨j + 1, by omega, by go_num, HYes.out (YY.out (G0.out (by omega)) (G1.out (by omega)) (G2.out (by omega))), HGr.out⟩
              case measure => simp [intOf]; omega
        · have hzb : (nn == 0) = false := by simpa using hz
          have hzc : (nn != 0) = true := by simpa using hz
          go_wp2_with fail
          refine (Nm.out _).mono ?_
          rintro e w1 ⟨rfl, rfl⟩
          go_wp2
          go_ret
          exact ⟨retB (HNo.out (N2.out k8 hz)).symm, HG.out.alloc _⟩
      · have YY : Hid (regOk (decide (K % 2 = 1)) d = true → regOk (decide (K / 2 % 2 = 1)) a = true → regOk (decide (K / 4 % 2 = 1)) b2 = true → OKB = true) := Y.out (by omega) (.inl (by omega))
        clear Y N1 N2
        go_wp2_with fail
        refine (Nm.out _).mono ?_
        rintro e w1 ⟨rfl, rfl⟩
        clear Nm p0 p1 p2 p3 p4
        go_wp2
        go_loopw [8, 7] (fun i bit wq => ∃ t : Nat, t ≤ 3 ∧ i = .int .i64 t ∧ bit = .int .i64 (pw t) ∧ (1 ≤ t → regOk (decide (K % 2 = 1)) d = true) ∧ (2 ≤ t → regOk (decide (K / 2 % 2 = 1)) a = true) ∧ (3 ≤ t → regOk (decide (K / 4 % 2 = 1)) b2 = true) ∧ wq.cell? ⟨wr.heap.size + 1, 0, none⟩ = some (.int .i64 d) ∧ wq.cell? ⟨wr.heap.size + 1, 1, none⟩ = some (.int .i64 a) ∧ wq.cell? ⟨wr.heap.size + 1, 2, none⟩ = some (.int .i64 b2) ∧ Gr w wq) (fun i _ _ => 3 - (intOf i).toNat)
        case atStart => exact ⟨0, by omega, rfl, rfl, by omega, by omega, by omega, by simp, by simp, by simp, (HG.out.alloc _).alloc _⟩
        case round =>
          obtain ⟨t, ht, rfl, rfl, g0, g1, g2, s0, s1, s2, Gq⟩ := hrel
          rename World => wq
          have HGr : Hid (Gr w wq) := Gq
          have G0 : Hid (1 ≤ t → regOk (decide (K % 2 = 1)) d = true) := g0
          have G1 : Hid (2 ≤ t → regOk (decide (K / 2 % 2 = 1)) a = true) := g1
          have G2 : Hid (3 ≤ t → regOk (decide (K / 4 % 2 = 1)) b2 = true) := g2
          clear g0 g1 g2 Gq
          have tv : t = 0 ∨ t = 1 ∨ t = 2 ∨ t = 3 := by omega
          rcases tv with rfl | rfl | rfl | rfl
          · rw [show pw 0 = (1 : Int) from rfl]
            by_cases hb1 : K % 2 = 1
            · have hd1 : decide (K % 2 = 1) = true := decide_eq_true hb1
              have f1 : K.tmod 2 = 1 := by rw [Int.tmod_eq_emod_of_nonneg (by omega)]; omega
              have f2 : (K.tdiv 1).tmod 2 = 1 := by rw [Int.tdiv_one]; exact f1
              by_cases x0 : d < 0
              · go_wp2
                go_ret
                exact ⟨retB (HNo.out (R0.out (reg_no (.inr (.inl x0))))).symm, HGr.out⟩
              by_cases x1 : 36 ≤ d
              · go_wp2
                go_ret
                exact ⟨retB (HNo.out (R0.out (reg_no (.inr (.inr x1))))).symm, HGr.out⟩
              go_wp2
              go_roundw
              case rel => exact ⟨1, by omega, by go_num, by go_num, (fun _ => reg_yes (.inl hd1) (by omega) (by omega)), (fun h => by omega), (fun h => by omega), s0, s1, s2, HGr.out⟩
              case measure => simp [intOf]
            · have hd1 : decide (K % 2 = 1) = false := decide_eq_false hb1
              have f1 : K.tmod 2 = 0 := by rw [Int.tmod_eq_emod_of_nonneg (by omega)]; omega
              have f2 : (K.tdiv 1).tmod 2 = 0 := by rw [Int.tdiv_one]; exact f1
              by_cases xz : d = 0
              · subst xz
                go_wp2
                go_roundw
                case rel => exact ⟨1, by omega, by go_num, by go_num, (fun _ => reg_yes (.inr rfl) (by omega) (by omega)), (fun h => by omega), (fun h => by omega), s0, s1, s2, HGr.out⟩
                case measure => simp [intOf]
              · have xb : (d == 0) = false := by simpa using xz
                have xc : (d != 0) = true := by simpa using xz
                go_wp2
                go_ret
                exact ⟨retB (HNo.out (R0.out (reg_no (.inl ⟨hd1, xz⟩)))).symm, HGr.out⟩
          · rw [show pw 1 = (2 : Int) from rfl]
            by_cases hb1 : K / 2 % 2 = 1
            · have hd1 : decide (K / 2 % 2 = 1) = true := decide_eq_true hb1
              have f1 : (K.tdiv 2).tmod 2 = 1 := by rw [Int.tdiv_eq_ediv_of_nonneg (by omega), Int.tmod_eq_emod_of_nonneg (by omega)]; omega
              by_cases x0 : a < 0
              · go_wp2
                go_ret
                exact ⟨retB (HNo.out (R1.out (reg_no (.inr (.inl x0))))).symm, HGr.out⟩
              by_cases x1 : 36 ≤ a
              · go_wp2
                go_ret
                exact ⟨retB (HNo.out (R1.out (reg_no (.inr (.inr x1))))).symm, HGr.out⟩
              go_wp2
              go_roundw
              case rel => exact ⟨2, by omega, by go_num, by go_num, (fun _ => G0.out (by omega)), (fun _ => reg_yes (.inl hd1) (by omega) (by omega)), (fun h => by omega), s0, s1, s2, HGr.out⟩
              case measure => simp [intOf]
            · have hd1 : decide (K / 2 % 2 = 1) = false := decide_eq_false hb1
              have f1 : (K.tdiv 2).tmod 2 = 0 := by rw [Int.tdiv_eq_ediv_of_nonneg (by omega), Int.tmod_eq_emod_of_nonneg (by omega)]; omega
              by_cases xz : a = 0
              · subst xz
                go_wp2
                go_roundw
                case rel => exact ⟨2, by omega, by go_num, by go_num, (fun _ => G0.out (by omega)), (fun _ => reg_yes (.inr rfl) (by omega) (by omega)), (fun h => by omega), s0, s1, s2, HGr.out⟩
                case measure => simp [intOf]
              · have xb : (a == 0) = false := by simpa using xz
                have xc : (a != 0) = true := by simpa using xz
                go_wp2
                go_ret
                exact ⟨retB (HNo.out (R1.out (reg_no (.inl ⟨hd1, xz⟩)))).symm, HGr.out⟩
          · rw [show pw 2 = (4 : Int) from rfl]
            by_cases hb1 : K / 4 % 2 = 1
            · have hd1 : decide (K / 4 % 2 = 1) = true := decide_eq_true hb1
              have f1 : (K.tdiv 4).tmod 2 = 1 := by rw [Int.tdiv_eq_ediv_of_nonneg (by omega), Int.tmod_eq_emod_of_nonneg (by omega)]; omega
              by_cases x0 : b2 < 0
              · go_wp2
                go_ret
                exact ⟨retB (HNo.out (R2.out (reg_no (.inr (.inl x0))))).symm, HGr.out⟩
              by_cases x1 : 36 ≤ b2
              · go_wp2
                go_ret
                exact ⟨retB (HNo.out (R2.out (reg_no (.inr (.inr x1))))).symm, HGr.out⟩
              go_wp2
              go_roundw
              case rel => exact ⟨3, by omega, by go_num, by go_num, (fun _ => G0.out (by omega)), (fun _ => G1.out (by omega)), (fun _ => reg_yes (.inl hd1) (by omega) (by omega)), s0, s1, s2, HGr.out⟩
              case measure => simp [intOf]
            · have hd1 : decide (K / 4 % 2 = 1) = false := decide_eq_false hb1
              have f1 : (K.tdiv 4).tmod 2 = 0 := by rw [Int.tdiv_eq_ediv_of_nonneg (by omega), Int.tmod_eq_emod_of_nonneg (by omega)]; omega
              by_cases xz : b2 = 0
              · subst xz
                go_wp2
                go_roundw
                case rel => exact ⟨3, by omega, by go_num, by go_num, (fun _ => G0.out (by omega)), (fun _ => G1.out (by omega)), (fun _ => reg_yes (.inr rfl) (by omega) (by omega)), s0, s1, s2, HGr.out⟩
                case measure => simp [intOf]
              · have xb : (b2 == 0) = false := by simpa using xz
                have xc : (b2 != 0) = true := by simpa using xz
                go_wp2
                go_ret
                exact ⟨retB (HNo.out (R2.out (reg_no (.inl ⟨hd1, xz⟩)))).symm, HGr.out⟩
          · go_wp2
            go_roundw
            case rel => exact ⟨j + 1, by omega, by go_num, HYes.out (YY.out (G0.out (by omega)) (G1.out (by omega)) (G2.out (by omega))), HGr.out⟩
            case measure => simp [intOf]; omega
    · have HE : Hid (mayC code = true) := by
        have e : (code.take j).all micOk = true := HA.out
        rw [show j = n by omega, ← HL.out, List.take_length] at e
        unfold Hid; rw [HM2.out, e]
      go_wp2
      go_ret
      exact ⟨retB HE.out.symm, HG.out⟩
end Go.Proofs.YtbihifipemldhabDoor.Mi
/-
  What the document's Same answers of two Dids that read as the same run: they are.
-/
namespace Go.Proofs.YtbihifipemldhabDoor.Mi
open Go.ChangeShapes Go.WideShapes Go.ChangeAt Go.RowKit Mm Hh Hc

theorem neq_hartM {h : Hv} (o : h.Ok) (w : World) : (binOp .neq 48 (.agg (hL h).toArray) (.agg (hL h).toArray)).run Tryd.prog w = .ok (.bool false) w := by
  have e : (binOp .eql 48 (.agg (hL h).toArray) (.agg (hL h).toArray)).run Tryd.prog w = .ok (.bool true) w := eql_hart o w
  have e1 : binOp .eql 48 (.agg (hL h).toArray) (.agg (hL h).toArray) = (do pure (.bool (← Op.equal 48 (.agg (hL h).toArray) (.agg (hL h).toArray)))) := rfl
  have e2 : binOp .neq 48 (.agg (hL h).toArray) (.agg (hL h).toArray) = (do pure (.bool (!(← Op.equal 48 (.agg (hL h).toArray) (.agg (hL h).toArray))))) := rfl
  rw [e1, Sem.run_bind] at e
  rw [e2, Sem.run_bind]
  generalize (Op.equal 48 (.agg (hL h).toArray) (.agg (hL h).toArray)).run Tryd.prog w = r at e ⊢
  cases r with
  | ok v w' =>
    simp only [Result.andThen_ok, Sem.run_pure, Result.ok.injEq, Value.bool.injEq] at e ⊢
    obtain ⟨rfl, rfl⟩ := e
    exact ⟨rfl, rfl⟩
  | _ => simp [Result.andThen] at e
theorem rg_get {ss : List (Int × Int)} : ∀ {i : Nat} {p : Int × Int}, ss[i]? = some p → (rgs ss)[i * 2]? = some (.int .u32 p.1) ∧ (rgs ss)[i * 2 + 1]? = some (.int .u32 (Wd.lo (p.1 + p.2))) := by
  induction ss with
  | nil => intro i p h; simp at h
  | cons q r ih =>
    intro i p h
    have e : rgs (q :: r) = [.int .u32 q.1, .int .u32 (Wd.lo (q.1 + q.2))] ++ rgs r := rfl
    match i, h with
    | 0, h => simp at h; subst h; exact ⟨rfl, rfl⟩
    | i + 1, h =>
      have ih := ih (i := i) (by simpa using h)
      rw [e, List.getElem?_append_right (by simp; omega), List.getElem?_append_right (by simp; omega)]
      simp only [List.length_cons, List.length_nil]
      rw [show (i + 1) * 2 - (0 + 1 + 1) = i * 2 by omega, show (i + 1) * 2 + 1 - (0 + 1 + 1) = i * 2 + 1 by omega]
      exact ih
theorem gA_get {h : Hv} (o : h.Ok) {M O S : Value} {n : Int} (j : Nat) : (gA h M O n S)[37 + j]? = [M, O, Value.int .i64 n, S][j]? := by
  unfold gA gL
  rw [List.getElem?_toArray, List.getElem?_append_right (by simp [hL_len o])]
  simp [hL_len o]
theorem gA_hart {h : Hv} (o : h.Ok) {M O S : Value} {n : Int} {j : Nat} {v : Value} (hv : (hL h)[j]? = some v) : (gA h M O n S)[j]? = some v := by
  have hl := hL_len o
  have hj : j < (hL h).length := (List.getElem?_eq_some_iff.1 hv).1
  unfold gA gL
  rw [List.getElem?_toArray, List.getElem?_append_left hj]
  exact hv
theorem own_at {w : World} {base e sz n : Nat} {v : Value} {xs : List Value} (h : w.ownsRow base e sz v n xs) (hn : 0 < n) : ∃ g c, v = .slice (some ⟨g, 0, none⟩) n c ∧ g < w.heap.size ∧ ∀ j u, xs[j]? = some u → w.cell? ⟨g, j, none⟩ = some u := by
  obtain ⟨g, c, rfl⟩ := own_form h hn
  refine ⟨g, c, rfl, (h.lt g rfl).2, fun j u hu => ?_⟩
  have := h.cells (g := g) rfl j u hu
  rwa [add_at, Nat.zero_add] at this
theorem heapD {w : World} {g n : Nat} {x : Option Obj} (h : w.heap[g]? = x) : (w.drewN n).heap[g]? = x := h
theorem Same_same {w : World} {r : Rn} {M O S M2 O2 S2 : Value} (D1 : Dr w r M O S) (D2 : Dr w r M2 O2 S2) (ho : r.out.length ≤ 1000000) (hs : r.sto.length ≤ 1000000) :
    Calls Tryd.prog 17 #[.agg (gA r.h M O r.n S), .agg (gA r.h M2 O2 r.n S2)] w fun e w' => e = .returned (.bool true) ∧ Gr w w' := by
  obtain ⟨ok, ⟨ma, mc, rfl, m1⟩, ⟨ob, oo⟩, ⟨sb, so⟩⟩ := D1
  obtain ⟨_, ⟨ma2, mc2, rfl, m2⟩, ⟨ob2, oo2⟩, ⟨sb2, so2⟩⟩ := D2
  obtain ⟨oa, oc, rfl, w1⟩ := wm_own rfl oo
  obtain ⟨oa2, oc2, rfl, w2⟩ := wm_own rfl oo2
  obtain ⟨sa, sc, rfl⟩ := owns_word so
  obtain ⟨sa2, sc2, rfl⟩ := owns_word so2
  have By : Hid (∀ W : World, Gr w W → Calls Tryd.prog 25 #[.slice ma r.m.length mc, .slice ma2 r.m.length mc2] W fun e w' => e = .returned (.bool true) ∧ w' = W) := fun W G => by
    have := Mr.Bytes_any mc mc2 (m1.of G) (m2.of G)
    simpa using this
  have Wo : Hid (∀ W : World, Gr w W → Calls Tryd.prog 26 #[.slice oa r.out.length oc, .slice oa2 r.out.length oc2] W fun e w' => e = .returned (.bool true) ∧ Gr W w') := fun W G => Words_same oc oc2 ho (w1.of G) (w2.of G)
  have HC : Hid (∀ i p, r.sto[i]? = some p → ∃ g1 g2, sa = some ⟨g1, 0, none⟩ ∧ sa2 = some ⟨g2, 0, none⟩ ∧ g1 < w.heap.size ∧ g2 < w.heap.size ∧ (w.cell? ⟨g1, i * 2, none⟩ = some (.int .u32 p.1) ∧ w.cell? ⟨g1, i * 2 + 1, none⟩ = some (.int .u32 (Wd.lo (p.1 + p.2)))) ∧ (w.cell? ⟨g2, i * 2, none⟩ = some (.int .u32 p.1) ∧ w.cell? ⟨g2, i * 2 + 1, none⟩ = some (.int .u32 (Wd.lo (p.1 + p.2))))) := fun i p hp => by
    have hn : 0 < r.sto.length := by have := (List.getElem?_eq_some_iff.1 hp).1; omega
    obtain ⟨g1, d1, e1, l1, c1⟩ := own_at so hn
    obtain ⟨g2, d2, e2, l2, c2⟩ := own_at so2 hn
    injection e1 with f1 _ _
    injection e2 with f2 _ _
    have q := rg_get hp
    exact ⟨g1, g2, f1, f2, l1, l2, ⟨c1 _ _ q.1, c1 _ _ q.2⟩, ⟨c2 _ _ q.1, c2 _ _ q.2⟩⟩
  have ne : ∀ W : World, (binOp .neq 48 (.agg (hL r.h).toArray) (.agg (hL r.h).toArray)).run Tryd.prog W = .ok (.bool false) W := fun W => neq_hartM ok.h W
  have HL : Hid ((hL r.h).length = 37) := hL_len ok.h
  have HX1 : Hid (∀ j v, (hL r.h)[j]? = some v → (gA r.h (.slice ma r.m.length mc) (.slice oa r.out.length oc) r.n (.slice sa r.sto.length sc))[j]? = some v) := fun j v h => gA_hart ok.h h
  have HX2 : Hid (∀ j v, (hL r.h)[j]? = some v → (gA r.h (.slice ma2 r.m.length mc2) (.slice oa2 r.out.length oc2) r.n (.slice sa2 r.sto.length sc2))[j]? = some v) := fun j v h => gA_hart ok.h h
  have x37 : (gA r.h (.slice ma r.m.length mc) (.slice oa r.out.length oc) r.n (.slice sa r.sto.length sc))[37]? = some (.slice ma r.m.length mc) := gA_get ok.h 0
  have x38 : (gA r.h (.slice ma r.m.length mc) (.slice oa r.out.length oc) r.n (.slice sa r.sto.length sc))[38]? = some (.slice oa r.out.length oc) := gA_get ok.h 1
  have x39 : (gA r.h (.slice ma r.m.length mc) (.slice oa r.out.length oc) r.n (.slice sa r.sto.length sc))[39]? = some (.int .i64 r.n) := gA_get ok.h 2
  have x40 : (gA r.h (.slice ma r.m.length mc) (.slice oa r.out.length oc) r.n (.slice sa r.sto.length sc))[40]? = some (.slice sa r.sto.length sc) := gA_get ok.h 3
  have y37 : (gA r.h (.slice ma2 r.m.length mc2) (.slice oa2 r.out.length oc2) r.n (.slice sa2 r.sto.length sc2))[37]? = some (.slice ma2 r.m.length mc2) := gA_get ok.h 0
  have y38 : (gA r.h (.slice ma2 r.m.length mc2) (.slice oa2 r.out.length oc2) r.n (.slice sa2 r.sto.length sc2))[38]? = some (.slice oa2 r.out.length oc2) := gA_get ok.h 1
  have y39 : (gA r.h (.slice ma2 r.m.length mc2) (.slice oa2 r.out.length oc2) r.n (.slice sa2 r.sto.length sc2))[39]? = some (.int .i64 r.n) := gA_get ok.h 2
  have y40 : (gA r.h (.slice ma2 r.m.length mc2) (.slice oa2 r.out.length oc2) r.n (.slice sa2 r.sto.length sc2))[40]? = some (.slice sa2 r.sto.length sc2) := gA_get ok.h 3
  clear m1 m2 oo oo2 so so2 w1 w2 ok
  generalize gA r.h (.slice ma r.m.length mc) (.slice oa r.out.length oc) r.n (.slice sa r.sto.length sc) = A1 at *
  generalize gA r.h (.slice ma2 r.m.length mc2) (.slice oa2 r.out.length oc2) r.n (.slice sa2 r.sto.length sc2) = A2 at *
  generalize hsl : r.sto.length = sn at *
  have HSL : Hid (r.sto.length = sn) := hsl
  clear hsl
  generalize r.m.length = mn at *
  generalize r.out.length = on at *
  generalize (r.n : Int) = rn at *
  have HA1 : Hid (((w.alloc (.cells A1 54)).alloc (.cells A2 54)).heap[w.heap.size]? = some (.cells A1 54 (0, 0))) := heap_alloc2_old w _ _
  have HA2 : Hid (((w.alloc (.cells A1 54)).alloc (.cells A2 54)).heap[w.heap.size + 1]? = some (.cells A2 54 (0, 0))) := heap_alloc2_new w _ _
  have R1 : Hid (((w.alloc (.cells A1 54)).alloc (.cells A2 54)).rangeAt w.heap.size 0 (hL r.h)) := fun j v hv => by rw [Nat.zero_add]; exact (cell_of_row _ _ _ _ _ _ HA1.out).trans (HX1.out j v hv)
  have R2 : Hid (((w.alloc (.cells A1 54)).alloc (.cells A2 54)).rangeAt (w.heap.size + 1) 0 (hL r.h)) := fun j v hv => by rw [Nat.zero_add]; exact (cell_of_row _ _ _ _ _ _ HA2.out).trans (HX2.out j v hv)
  go_enter Tryd.func17, Tryd.ntmps17
  go_wp2_with (first
    | (refine wpList_load_mid rfl 48 (.tmp 6) rfl w.heap.size 0 rfl (hL r.h) _ ?lm1 Tryd.underlying48 rfl (by rw [HL.out]; exact iHa) ?_; (case lm1 => exact R1.out))
    | (refine wpList_load_mid rfl 48 (.tmp 8) rfl (w.heap.size + 1) 0 rfl (hL r.h) _ ?lm2 Tryd.underlying48 rfl (by rw [HL.out]; exact iHa) ?_; (case lm2 => exact R2.out)))
  refine (By.out _ (((Gr.refl _).alloc _).alloc _)).mono ?_
  rintro e w0 ⟨rfl, rfl⟩
  clear By R1 R2 ne
  go_wp2_with fail
  refine (Wo.out _ (((Gr.refl _).alloc _).alloc _)).mono ?_
  rintro e w3 ⟨rfl, G3⟩
  have HG3 : Hid (Gr w w3) := (((Gr.refl _).alloc _).alloc _).trans G3
  have HB1 : Hid (w3.heap[w.heap.size]? = some (.cells A1 54 (0, 0))) := heap_up G3 HA1.out
  have HB2 : Hid (w3.heap[w.heap.size + 1]? = some (.cells A2 54 (0, 0))) := heap_up G3 HA2.out
  clear G3 Wo HA1 HA2 HX1 HX2
  go_wp2_with fail
  go_loopw [5] (fun i wr => ∃ j : Nat, j ≤ sn ∧ i = .int .i64 j ∧ wr.heap[w.heap.size]? = some (.cells A1 54 (0, 0)) ∧ wr.heap[w.heap.size + 1]? = some (.cells A2 54 (0, 0)) ∧ Gr w wr) (fun i _ => sn - (intOf i).toNat)
  case atStart => exact ⟨0, Nat.zero_le _, rfl, HB1.out, HB2.out, HG3.out⟩
  case round =>
    obtain ⟨j, hj, rfl, B1, B2, G⟩ := hrel
    have HC1 : Hid (wr.heap[w.heap.size]? = some (.cells A1 54 (0, 0))) := B1
    have HC2 : Hid (wr.heap[w.heap.size + 1]? = some (.cells A2 54 (0, 0))) := B2
    have HG : Hid (Gr w wr) := G
    have k1 : wr.cell? ⟨w.heap.size, 40, none⟩ = some (.slice sa sn sc) := (cell_of_row _ _ _ _ _ _ B1).trans x40
    have k2 : wr.cell? ⟨w.heap.size + 1, 40, none⟩ = some (.slice sa2 sn sc2) := (cell_of_row _ _ _ _ _ _ B2).trans y40
    clear B1 B2 G
    by_cases hlt : j < sn
    · obtain ⟨p, hp⟩ : ∃ p, r.sto[j]? = some p := ⟨_, List.getElem?_eq_getElem (by rw [HSL.out]; exact hlt)⟩
      obtain ⟨g1, g2, rfl, rfl, l1, l2, ⟨p0, p1⟩, ⟨q0, q1⟩⟩ := HC.out j p hp
      have P0 := (HG.out.cell ⟨g1, j * 2, none⟩ (by exact l1)).trans p0
      have P1 := (HG.out.cell ⟨g1, j * 2 + 1, none⟩ (by exact l1)).trans p1
      have Q0 := (HG.out.cell ⟨g2, j * 2, none⟩ (by exact l2)).trans q0
      have Q1 := (HG.out.cell ⟨g2, j * 2 + 1, none⟩ (by exact l2)).trans q1
      clear HC hp p0 p1 q0 q1
      generalize Wd.lo (p.1 + p.2) = y at *
      generalize p.1 = x at *
      go_wp2
      go_quiet (fail)
      go_wp2
      go_roundw
      case rel => exact ⟨j + 1, by omega, by go_num, heapD HC1.out, heapD HC2.out, HG.out.drewN _⟩
      case measure => simp [intOf]; omega
    · go_wp2
      go_ret
      exact ⟨rfl, HG.out⟩
end Go.Proofs.YtbihifipemldhabDoor.Mi
/-
  What package block's Make answers: the block at a place ('bkX'). Conditions: the place is from 0 to 2^32 - 1; the memory is one that a machine can hold; the tables of package decode hold what their initialisers lay.
-/
namespace Go.Proofs.YtbihifipemldhabDoor.Bk
open Go.ChangeShapes Go.WideShapes Go.ChangeAt Go.RowKit Mm Hh Hc

/-- The place that a block bears, and the words of its instructions, of a memory of n bytes. -/
def bkP (n : Nat) (pc : Int) : Int := if 4096 < n then 0 else pc
def bkX (n : Nat) (l : List UInt8) (pc : Int) : List Int := if 4096 < n then [] else blk l pc 16 0
theorem iB : (Tryd.prog.info? 41).map (·.size) = some 2 := by kernel_rfl
theorem infoI : (Tryd.prog.info? 63).map (fun i => (i.zero, i.size, i.bytes)) = some (some (.agg #[.int .i64 0, .int .i64 0, .int .i64 0, .int .i64 0, .int .i32 0]), 5, 40) := by kernel_rfl
theorem owns_form {w : World} {base e sz n : Nat} {v : Value} {xs : List Value} (h : w.ownsRow base e sz v n xs) : ∃ a c, v = .slice a n c := by
  rcases h.2 with ⟨rfl, rfl⟩ | ⟨g, cap, _, rfl, _⟩
  · exact ⟨none, 0, rfl⟩
  · exact ⟨_, cap, rfl⟩
theorem owns_base {w : World} {b b' e sz n : Nat} {v : Value} {xs : List Value} (h : w.ownsRow b e sz v n xs) (hb : b' ≤ b) : w.ownsRow b' e sz v n xs := by
  refine ⟨h.1, ?_⟩
  rcases h.2 with h | ⟨g', cap, cur, hv, hb1, r⟩
  · exact .inl h
  · exact .inr ⟨g', cap, cur, hv, by omega, r⟩
theorem five_cells {W : World} {b : Nat} {x0 x1 x2 x3 x4 : Value} (h0 : W.cell? ⟨b, 0, none⟩ = some x0) (h1 : W.cell? ⟨b, 1, none⟩ = some x1) (h2 : W.cell? ⟨b, 2, none⟩ = some x2) (h3 : W.cell? ⟨b, 3, none⟩ = some x3) (h4 : W.cell? ⟨b, 4, none⟩ = some x4) : ∀ j u, ([x0, x1, x2, x3, x4] : List Value)[j]? = some u → W.cell? ((⟨b, 0, none⟩ : Addr).add j) = some u := by
  intro j u hj
  rw [add_at]
  match j, hj with
  | 0, hj => simp at hj; subst hj; exact h0
  | 1, hj => simp at hj; subst hj; exact h1
  | 2, hj => simp at hj; subst hj; exact h2
  | 3, hj => simp at hj; subst hj; exact h3
  | 4, hj => simp at hj; subst hj; exact h4
/-- Behind 'b.Ins = append(b.Ins, i)': what lies where. b: the block at g + 1; the result: at g; i: the block that was made first in w1. -/
structure Aft (w w3 : World) (g gi : Nat) (pc : Int) (v : Value) (k : Nat) (xs : List Value) (y : Value) : Prop where
  b1 : w3.heap[g + 1]? = some (.cells #[.int .u32 pc, v] 41 (0, 0))
  b0 : w3.heap[g]? = some (.cells #[.int .u32 0, .slice none 0 0] 41 (0, 0))
  own : w3.ownsRow (g + 2) 63 5 v k xs
  gr : Gr w w3
  op : w3.cell? ⟨gi, 0, none⟩ = some y
theorem grown_hold {w w' : World} {base : Nat} {O : Value} {n : Nat} {xs : List Value} {e sz : Nat} (hO : w.ownsRow base e sz O n xs) (q : w.grownBy w' O.ownBlock) {t : Nat} (ht : t ≠ e) {k : Nat} {o : Array Value} {f : Nat × Nat} (hk : w.heap[k]? = some (.cells o t f)) : w'.heap[k]? = some (.cells o t f) :=
  (q.block k (Array.getElem?_eq_some_iff.1 hk).1 (fun h => by
    rcases hO.2 with ⟨h0, _⟩ | ⟨g', cap, cur, hv, _, hg, _⟩
    · rw [h0] at h; cases h
    · rw [hv] at h
      injection h with h
      exact ne_of_types hk hg ht h)).trans hk
theorem heap_held {w w' : World} (g : Gr w w') {k : Nat} {x : Obj} (h : w.heap[k]? = some x) : w'.heap[k]? = some x := by
  rw [Below.block g k (Array.getElem?_eq_some_iff.1 h).1]; exact h
theorem aft {w wr w1 w2 : World} {g : Nat} {pc : Int} {S v' : Value} {k : Nat} {xs xs' : List Value} {Y Z : Array Value} {y : Value} (hg : w.heap.size = g) (B1 : wr.heap[g + 1]? = some (.cells #[.int .u32 pc, S] 41 (0, 0))) (B0 : wr.heap[g]? = some (.cells #[.int .u32 0, .slice none 0 0] 41 (0, 0)))
    (O : wr.ownsRow (g + 2) 63 5 S k xs) (G : Gr w wr) (G1 : Gr wr w1) (q : ((w1.alloc (.cells Y 63)).alloc (.cells Z 63)).grownBy w2 S.ownBlock) (O2 : w2.ownsRow (g + 2) 63 5 v' (k + 1) xs') (hy : Y[0]? = some y) :
    w2.cell? ⟨g + 1, 1, none⟩ = some S ∧ w2.frozen? ⟨g + 1, 1, none⟩ = false ∧ Aft w (w2.setCell ⟨g + 1, 1, none⟩ v') g w1.heap.size pc v' (k + 1) xs' y := by
  have G2 : Gr wr ((w1.alloc (.cells Y 63)).alloc (.cells Z 63)) := (G1.alloc _).alloc _
  have O1 := owns_gr O G2
  have b1 := grown_hold O1 q (by decide) (heap_held G2 B1)
  have b0 := grown_hold O1 q (by decide) (heap_held G2 B0)
  have hY : w2.heap[w1.heap.size]? = some (.cells Y 63 (0, 0)) := by
    have e : ((w1.alloc (.cells Y 63)).alloc (.cells Z 63)).heap[w1.heap.size]? = some (.cells Y 63 (0, 0)) := heap_alloc2_old w1 _ _
    refine (q.block _ (Array.getElem?_eq_some_iff.1 e).1 (fun h => ?_)).trans e
    have := (O.lt _ h.symm).2
    have := G1.size
    omega
  have ne : ∀ {t : Nat}, t ≠ 41 → ∀ {k : Nat} {o : Array Value} {f : Nat × Nat}, w2.heap[k]? = some (.cells o t f) → (w2.setCell ⟨g + 1, 1, none⟩ v').heap[k]? = w2.heap[k]? := fun ht _ _ _ hk => heap_setCell_other _ _ _ _ (by exact ne_of_types hk b1 ht)
  refine ⟨cell_of_row _ _ _ _ _ _ b1, frozen_of_row _ _ _ _ _ b1, ?_, ?_, ?_, ?_, ?_⟩
  · rw [heap_setCell_same _ _ _ _ _ _ b1]; rfl
  · exact (heap_setCell_other _ _ _ _ (by show g ≠ g + 1; omega)).trans b0
  · exact owns_to O2 fun k o f hk => ne (by decide) hk
  · refine Gr.setCell ?_ (by show w.heap.size ≤ g + 1; omega) _
    exact (G.trans G2).grown q (fun b e => by have := (O.lt b e).1; omega)
  · exact (cell_of_row _ _ _ _ _ _ ((ne (by decide) hY).trans hY)).trans hy
theorem two_set {W : World} {g t : Nat} {z0 z1 : Value} (h : W.heap[g]? = some (.cells #[z0, z1] t (0, 0))) (a b : Value) : ((W.setCell ⟨g, 0, none⟩ a).setCell ⟨g, 1, none⟩ b).heap[g]? = some (.cells #[a, b] t (0, 0)) := by
  have h0 := heap_setCell_same W g 0 _ _ a h
  exact heap_setCell_same _ g 1 _ _ b h0
theorem two_owns {W : World} {g base n : Nat} {z0 z1 v : Value} {xs : List Value} (h : W.ownsRow base 63 5 v n xs) (hb : W.heap[g]? = some (.cells #[z0, z1] 41 (0, 0))) (hg : g ≤ base) (a b : Value) : ((W.setCell ⟨g, 0, none⟩ a).setCell ⟨g, 1, none⟩ b).ownsRow g 63 5 v n xs :=
  owns_base (owns_to h fun k o f hk => by
    have e := ne_of_types hk hb (by decide)
    rw [heap_setCell_other _ _ _ _ (by exact e), heap_setCell_other _ _ _ _ (by exact e)]) hg
theorem ins_oneL (x0 x1 x2 x3 x4 : Int) : ∀ u ∈ ([.int .i64 x0, .int .i64 x1, .int .i64 x2, .int .i64 x3, .int .i32 x4] : List Value), u.oneCell' = true := by
  intro u hu
  simp only [List.mem_cons, List.not_mem_nil, or_false] at hu
  rcases hu with rfl | rfl | rfl | rfl | rfl <;> rfl
end Go.Proofs.YtbihifipemldhabDoor.Bk
/-
  What the document's chapter 6 answers of a memory and a place: the block that 'bkX' tells. Conditions: the place is from 0 to 2^32 - 1; the memory is one that a machine can hold.
-/
namespace Go.Proofs.YtbihifipemldhabDoor.Bk
open Go.ChangeShapes Go.WideShapes Go.ChangeAt Go.RowKit Mm Hh Hc

theorem Last_any (op : Int) (w : World) : Calls Tryd.prog 31 #[.int .i64 op] w fun e w' => e = .returned (.bool (lastOp op)) ∧ w' = w := by
  go_enter Tryd.func31, Tryd.ntmps31
  go_wp2
  all_goals
    go_ret
    refine ⟨Dw.ret_bool ?_, rfl⟩
    simp only [beq_iff_eq, beq_eq_false_iff_ne, ne_eq] at *
    unfold lastOp
    first | exact (decide_eq_true (by omega)).symm | exact (decide_eq_false (by omega)).symm
theorem RMake_no {w : World} (ao : Option Addr) {n : Nat} (cap : Nat) (l : List UInt8) (pc : Int) (hn : 4096 < n) (hn2 : n ≤ 140737488351232) :
    Calls Tryd.prog 11 #[.slice ao n cap, .int .u32 pc] w fun e w' => ∃ v, e = .returned (.agg #[.int .u32 (bkP n pc), v]) ∧ w'.ownsRow w.heap.size 63 5 v (bkX n l pc).length (blC (bkX n l pc)) ∧ Gr w w' := by
  have e1 : bkP n pc = 0 := if_pos hn
  have e2 : bkX n l pc = [] := if_pos hn
  rw [e1, e2]
  clear e1 e2
  go_enter Tryd.func11, Tryd.ntmps11
  go_wp2_with fail
  refine bodyPost_ret (v := .agg #[.int .u32 0, .slice none 0 0]) (results_cell_row rfl _ _ _ _ _ (0, 0) _ rfl (heap_alloc_new w _) Tryd.underlying41 rfl iB) rfl ⟨_, rfl, World.ownsRow_nil _ _ _ _, ?_⟩
  exact (Gr.refl _).alloc _
/-- How long the slice in cell 1 of block g is. -/
def lenAt (w : World) (g : Nat) : Nat := match w.cell? ⟨g, 1, none⟩ with | some (.slice _ k _) => k | _ => 0
theorem lenAt_of {w : World} {g : Nat} {v a : Value} {s : Option Addr} {k c : Nat} {t : Nat} (h : w.heap[g]? = some (.cells #[v, .slice s k c] t (0, 0))) : lenAt w g = k := by
  unfold lenAt
  rw [show w.cell? ⟨g, 1, none⟩ = some (.slice s k c) from cell_of_row _ _ _ _ _ _ h]
theorem RMake_yes {w : World} {ao : Option Addr} {n : Nat} (cap : Nat) {l : List UInt8} (pc : Int) (M : Mem w ao n l) (hn : n ≤ 4096) (h0 : 0 ≤ pc) (h1 : pc < 4294967296) :
    Calls Tryd.prog 11 #[.slice ao n cap, .int .u32 pc] w fun e w' => ∃ v, e = .returned (.agg #[.int .u32 (bkP n pc), v]) ∧ w'.ownsRow w.heap.size 63 5 v (bkX n l pc).length (blC (bkX n l pc)) ∧ Gr w w' := by
  have e1 : bkP n pc = pc := if_neg (by omega)
  have e2 : bkX n l pc = blk l pc 16 0 := if_neg (by omega)
  rw [e1, e2]
  have L : Hid (∀ (k : Nat) (W : World), Gr w W → Calls Tryd.prog 29 #[.slice ao n cap, .int .i64 13, .int .u32 ((pc + 4 * (k : Int)) % 4294967296)] W fun e w' => e = .returned (.tuple #[.int .u32 (ldV l 13 (at4 pc k)), .bool (ldOk l 13 (at4 pc k))]) ∧ w' = W) := fun k W G => Mr.Load_any cap 13 (at4 pc k) (M.of G) (by omega) (at4_bd pc k).1 (at4_bd pc k).2
  have D : Hid (∀ (k : Nat) (W : World), Calls Tryd.prog 30 #[.int .u32 (ldV l 13 (at4 pc k))] W fun e w' => e = .returned (.tuple #[Dw.decV (ldV l 13 (at4 pc k)), .bool (Dw.decOk (ldV l 13 (at4 pc k)))]) ∧ Gr W w') := fun k V => by
    have wx := W.ldV l 13 (at4 pc k)
    have R := Re.RDecode_any (ldV l 13 (at4 pc k)) wx.1 wx.2
    unfold Re.RDec at R
    exact (R V).mono fun e w' h => ⟨h.1, h.2.1⟩
  obtain ⟨i0, hi, hz0, hz1, hz2⟩ := info_parts infoI
  clear e1 e2 M
  go_enter Tryd.func11, Tryd.ntmps11
  go_wp2_with fail
  go_loopw [] (fun wr => ∃ (k : Nat) (xs : List Int) (a : Option Addr) (c : Nat), k ≤ 16 ∧ xs.length = k ∧ xs ++ blk l pc (16 - k) k = blk l pc 16 0 ∧ wr.heap[w.heap.size + 1]? = some (.cells #[.int .u32 pc, .slice a k c] 41 (0, 0)) ∧ wr.heap[w.heap.size]? = some (.cells #[.int .u32 0, .slice none 0 0] 41 (0, 0)) ∧ wr.ownsRow (w.heap.size + 2) 63 5 (.slice a k c) k (blC xs) ∧ Gr w wr) (fun wr => 16 - lenAt wr (w.heap.size + 1))
  case atStart => exact ⟨0, [], none, 0, by omega, rfl, rfl, heap_alloc2_new w _ _, heap_alloc2_old w _ _, World.ownsRow_nil _ _ _ _, ((Gr.refl _).alloc _).alloc _⟩
  case round =>
    obtain ⟨k, xs, a, c, hk, hl, hx, B1, B0, O, G⟩ := hrel
    have HM : Hid (lenAt wr (w.heap.size + 1) = k) := lenAt_of (a := .bool true) B1
    have HX : Hid (xs ++ blk l pc (16 - k) k = blk l pc 16 0) := hx
    have HL : Hid (xs.length = k) := hl
    have HB1 : Hid (wr.heap[w.heap.size + 1]? = some (.cells #[.int .u32 pc, .slice a k c] 41 (0, 0))) := B1
    have HB0 : Hid (wr.heap[w.heap.size]? = some (.cells #[.int .u32 0, .slice none 0 0] 41 (0, 0))) := B0
    have HO : Hid (wr.ownsRow (w.heap.size + 2) 63 5 (.slice a k c) k (blC xs)) := O
    have HG : Hid (Gr w wr) := G
    have hlt : w.heap.size + 1 < wr.heap.size := (Array.getElem?_eq_some_iff.1 B1).1
    clear hl hx B1 B0 O G
    have p1 : wr.cell? ⟨w.heap.size + 1, 1, none⟩ = some (.slice a k c) := cell_of_row _ _ _ _ _ _ HB1.out
    by_cases h16 : k < 16
    · have LK : Hid _ := L.out k
      have DK : Hid _ := D.out k
      have DO : Hid (Dw.decOk (ldV l 13 (at4 pc k)) = decide (Dc.dop (ldV l 13 (at4 pc k)) ≠ 0)) := rfl
      have FO : Hid (ftC l (at4 pc k) = if ldOk l 13 (at4 pc k) = true then (if Dc.dop (ldV l 13 (at4 pc k)) = 0 then 2 else 0) else 1) := rfl
      have HA : Hid (¬ ftC l (at4 pc k) = 0 → xs = blk l pc 16 0) := fun h => by
        have e := HX.out
        rw [show 16 - k = (15 - k) + 1 by omega, blk_stop h, List.append_nil] at e
        exact e
      have HBe : Hid (ftC l (at4 pc k) = 0 → lastOp (Dc.dop (ldV l 13 (at4 pc k))) = true → xs ++ [ldV l 13 (at4 pc k)] = blk l pc 16 0) := fun h h2 => by
        have e := HX.out
        rw [show 16 - k = (15 - k) + 1 by omega, blk_last h h2] at e
        exact e
      have HC : Hid (ftC l (at4 pc k) = 0 → lastOp (Dc.dop (ldV l 13 (at4 pc k))) = false → (xs ++ [ldV l 13 (at4 pc k)]) ++ blk l pc (16 - (k + 1)) (k + 1) = blk l pc 16 0) := fun h h2 => by
        have e := HX.out
        rw [show 16 - k = (15 - k) + 1 by omega, blk_on h h2] at e
        rw [show 16 - (k + 1) = 15 - k by omega]
        simpa using e
      have HIC : Hid (insC (ldV l 13 (at4 pc k)) = [.int .i64 (Dc.dop (ldV l 13 (at4 pc k))), .int .i64 (Dc.rdF (Dc.frm (Dc.dop (ldV l 13 (at4 pc k)))) (ldV l 13 (at4 pc k))), .int .i64 (Dc.rs1F (Dc.frm (Dc.dop (ldV l 13 (at4 pc k)))) (ldV l 13 (at4 pc k))), .int .i64 (Dc.rs2F (Dc.frm (Dc.dop (ldV l 13 (at4 pc k)))) (ldV l 13 (at4 pc k))), .int .i32 (Dc.immF (Dc.frm (Dc.dop (ldV l 13 (at4 pc k)))) (ldV l 13 (at4 pc k)))]) := rfl
      clear HX
      unfold Dw.decV Dw.insV at DK
      clear L D
      generalize Dw.decOk (ldV l 13 (at4 pc k)) = dk at *
      generalize ldOk l 13 (at4 pc k) = B at *
      generalize ldV l 13 (at4 pc k) = X at *
      generalize ftC l (at4 pc k) = cc at *
      generalize Dc.rdF (Dc.frm (Dc.dop X)) X = x1 at *
      generalize Dc.rs1F (Dc.frm (Dc.dop X)) X = x2 at *
      generalize Dc.rs2F (Dc.frm (Dc.dop X)) X = x3 at *
      generalize Dc.immF (Dc.frm (Dc.dop X)) X = x4 at *
      generalize Dc.dop X = x0 at *
      have LK2 : Hid (∀ W : World, Gr w W → Calls Tryd.prog 29 #[.slice ao n cap, .int .i64 13, .int .u32 ((pc + 4 * (k : Int)) % 4294967296)] W fun e w' => e = .returned (.tuple #[.int .u32 X, .bool B]) ∧ w' = W) := LK
      have DK2 : Hid (∀ W : World, Calls Tryd.prog 30 #[.int .u32 X] W fun e w' => e = .returned (.tuple #[.agg #[.int .i64 x0, .int .i64 x1, .int .i64 x2, .int .i64 x3, .int .i32 x4], .bool dk]) ∧ Gr W w') := DK
      clear LK DK
      cases B with
      | false =>
        have HXE : Hid (xs = blk l pc 16 0) := HA.out (by rw [FO.out, if_neg (by simp)]; omega)
        clear DK2 HBe HC HA HIC DO FO
        go_wp2_with fail
        refine (LK2.out _ HG.out).mono ?_
        rintro e w1 ⟨rfl, rfl⟩
        clear LK2
        have HOW : Hid (w1.ownsRow (w.heap.size + 2) 63 5 (.slice a (k) c) (blk l pc 16 0).length (blC (blk l pc 16 0))) := (by unfold Hid; rw [← HXE.out, HL.out]; exact HO.out)
        have q0 : w1.cell? ⟨w.heap.size + 1, 0, none⟩ = some (.int .u32 pc) := cell_of_row _ _ _ _ _ _ HB1.out
        have q1 : w1.cell? ⟨w.heap.size + 1, 1, none⟩ = some (.slice a (k) c) := cell_of_row _ _ _ _ _ _ HB1.out
        have r0 : w1.cell? ⟨w.heap.size, 0, none⟩ = some (.int .u32 0) := cell_of_row _ _ _ _ _ _ HB0.out
        have r1 : w1.cell? ⟨w.heap.size, 1, none⟩ = some (.slice none 0 0) := cell_of_row _ _ _ _ _ _ HB0.out
        have f0 : ∀ j, w1.frozen? ⟨w.heap.size, j, none⟩ = false := fun j => frozen_of_row _ _ _ _ _ HB0.out
        go_wp2_with fail
        refine bodyPost_ret (v := .agg #[.int .u32 pc, .slice a (k) c]) (results_cell_row Tryd.results11 _ _ _ _ _ (0, 0) _ rfl (two_set HB0.out _ _) Tryd.underlying41 rfl iB) rfl ⟨_, rfl, ?_, ?_⟩
        · exact two_owns HOW.out HB0.out (by omega) _ _
        · exact (HG.out.setCell (Nat.le_refl _) _).setCell (Nat.le_refl _) _
      | true =>
        by_cases hd : x0 = 0
        · have hdk : dk = false := by rw [DO.out]; simp [hd]
          have HXE : Hid (xs = blk l pc 16 0) := HA.out (by rw [FO.out, if_pos rfl, if_pos hd]; omega)
          subst hdk
          clear HBe HC HA HIC DO FO hd
          go_wp2_with fail
          refine (LK2.out _ HG.out).mono ?_
          rintro e w1 ⟨rfl, rfl⟩
          clear LK2
          go_wp2_with fail
          refine (DK2.out _).mono ?_
          rintro e w2 ⟨rfl, G1⟩
          have HGA : Hid (Gr w1 (w2.alloc (.cells #[.int .i64 x0, .int .i64 x1, .int .i64 x2, .int .i64 x3, .int .i32 x4] 63))) := G1.alloc _
          clear G1 DK2
          have HOW : Hid ((w2.alloc (.cells #[.int .i64 x0, .int .i64 x1, .int .i64 x2, .int .i64 x3, .int .i32 x4] 63)).ownsRow (w.heap.size + 2) 63 5 (.slice a (k) c) (blk l pc 16 0).length (blC (blk l pc 16 0))) := (by unfold Hid; rw [← HXE.out, HL.out]; exact owns_gr HO.out HGA.out)
          have q0 : (w2.alloc (.cells #[.int .i64 x0, .int .i64 x1, .int .i64 x2, .int .i64 x3, .int .i32 x4] 63)).cell? ⟨w.heap.size + 1, 0, none⟩ = some (.int .u32 pc) := cell_of_row _ _ _ _ _ _ (heap_held HGA.out HB1.out)
          have q1 : (w2.alloc (.cells #[.int .i64 x0, .int .i64 x1, .int .i64 x2, .int .i64 x3, .int .i32 x4] 63)).cell? ⟨w.heap.size + 1, 1, none⟩ = some (.slice a (k) c) := cell_of_row _ _ _ _ _ _ (heap_held HGA.out HB1.out)
          have r0 : (w2.alloc (.cells #[.int .i64 x0, .int .i64 x1, .int .i64 x2, .int .i64 x3, .int .i32 x4] 63)).cell? ⟨w.heap.size, 0, none⟩ = some (.int .u32 0) := cell_of_row _ _ _ _ _ _ (heap_held HGA.out HB0.out)
          have r1 : (w2.alloc (.cells #[.int .i64 x0, .int .i64 x1, .int .i64 x2, .int .i64 x3, .int .i32 x4] 63)).cell? ⟨w.heap.size, 1, none⟩ = some (.slice none 0 0) := cell_of_row _ _ _ _ _ _ (heap_held HGA.out HB0.out)
          have f0 : ∀ j, (w2.alloc (.cells #[.int .i64 x0, .int .i64 x1, .int .i64 x2, .int .i64 x3, .int .i32 x4] 63)).frozen? ⟨w.heap.size, j, none⟩ = false := fun j => frozen_of_row _ _ _ _ _ (heap_held HGA.out HB0.out)
          go_wp2_with fail
          refine bodyPost_ret (v := .agg #[.int .u32 pc, .slice a (k) c]) (results_cell_row Tryd.results11 _ _ _ _ _ (0, 0) _ rfl (two_set (heap_held HGA.out HB0.out) _ _) Tryd.underlying41 rfl iB) rfl ⟨_, rfl, ?_, ?_⟩
          · exact two_owns HOW.out (heap_held HGA.out HB0.out) (by omega) _ _
          · exact ((HG.out.trans HGA.out).setCell (Nat.le_refl _) _).setCell (Nat.le_refl _) _
        · have hdk : dk = true := by rw [DO.out]; simp [hd]
          have hcc : cc = 0 := by rw [FO.out, if_pos rfl, if_neg hd]
          subst hdk hcc
          clear HA DO FO hd
          go_wp2_with fail
          refine (LK2.out _ HG.out).mono ?_
          rintro e w0 ⟨rfl, rfl⟩
          clear LK2
          go_wp2_with fail
          refine (DK2.out _).mono ?_
          rintro e w1 ⟨rfl, G1⟩
          have HG1 : Hid (Gr w0 w1) := G1
          have q1 : w1.cell? ⟨w.heap.size + 1, 1, none⟩ = some (.slice a k c) := cell_of_row _ _ _ _ _ _ (heap_held G1 HB1.out)
          have hlt1 : w.heap.size + 1 < w1.heap.size := Nat.lt_of_lt_of_le hlt G1.size
          clear G1 DK2 p1
          have HA : Hid True := trivial
          go_wp2_with (at_builtin; refine wpList_append_own _ rfl (.tmp 44) (.tmp 46) 39 rfl (w.heap.size + 2) 63 i0 (.agg #[.int .i64 0, .int .i64 0, .int .i64 0, .int .i64 0, .int .i32 0]) 5 40 Tryd.underlying39 hi hz0 hz1 hz2 rfl (by decide) (.slice a k c) k (blC xs) rfl (owns_gr HO.out ((HG1.out.alloc _).alloc _)) ⟨w1.heap.size + 1, 0, none⟩ 1 1 [.int .i64 x0, .int .i64 x1, .int .i64 x2, .int .i64 x3, .int .i32 x4] rfl rfl (five_cells (by simp) (by simp) (by simp) (by simp) (by simp)) (ins_oneL _ _ _ _ _) (by unfold maxLen; omega) (by omega) (by simp; omega) ?_; intro v' w2 hown hgrow _; obtain ⟨a', c', rfl⟩ := owns_form hown; obtain ⟨z1, z2, A0⟩ := aft rfl HB1.out HB0.out HO.out HG.out HG1.out hgrow hown (y := .int .i64 x0) (by simp); have HF : Hid (Aft w (w2.setCell ⟨w.heap.size + 1, 1, none⟩ (.slice a' (k + 1) c')) w.heap.size w1.heap.size pc (.slice a' (k + 1) c') (k + 1) (blC xs ++ [.int .i64 x0, .int .i64 x1, .int .i64 x2, .int .i64 x3, .int .i32 x4]) (.int .i64 x0)) := A0; have z3 := A0.op; clear A0 hown hgrow)
          clear z1 z2 z3 HO HB1 HB0 HG HG1 q1
          generalize w2.setCell ⟨w.heap.size + 1, 1, none⟩ (.slice a' (k + 1) c') = w3 at *
          have HLN : Hid ((xs ++ [X]).length = k + 1) := by unfold Hid; rw [List.length_append, HL.out]; rfl
          have HCC : Hid (blC (xs ++ [X]) = blC xs ++ [.int .i64 x0, .int .i64 x1, .int .i64 x2, .int .i64 x3, .int .i32 x4]) := by unfold Hid; rw [blC_snoc, HIC.out]
          cases hL : lastOp x0 with
          | true =>
            have HE : Hid (∀ W : World, Calls Tryd.prog 31 #[.int .i64 x0] W fun e w' => e = .returned (.bool true) ∧ w' = W) := fun W => by have := Last_any x0 W; rwa [hL] at this
            have HXE : Hid (xs ++ [X] = blk l pc 16 0) := HBe.out (by simp) hL
            refine (HE.out _).mono ?_
            rintro e w4 ⟨rfl, rfl⟩
            clear HE hL HBe HC HA
            have HOW : Hid (w4.ownsRow (w.heap.size + 2) 63 5 (.slice a' (k + 1) c') (blk l pc 16 0).length (blC (blk l pc 16 0))) := (by unfold Hid; rw [← HXE.out, HLN.out, HCC.out]; exact HF.out.own)
            have q0 : w4.cell? ⟨w.heap.size + 1, 0, none⟩ = some (.int .u32 pc) := cell_of_row _ _ _ _ _ _ HF.out.b1
            have q1 : w4.cell? ⟨w.heap.size + 1, 1, none⟩ = some (.slice a' (k + 1) c') := cell_of_row _ _ _ _ _ _ HF.out.b1
            have r0 : w4.cell? ⟨w.heap.size, 0, none⟩ = some (.int .u32 0) := cell_of_row _ _ _ _ _ _ HF.out.b0
            have r1 : w4.cell? ⟨w.heap.size, 1, none⟩ = some (.slice none 0 0) := cell_of_row _ _ _ _ _ _ HF.out.b0
            have f0 : ∀ j, w4.frozen? ⟨w.heap.size, j, none⟩ = false := fun j => frozen_of_row _ _ _ _ _ HF.out.b0
            go_wp2_with fail
            refine bodyPost_ret (v := .agg #[.int .u32 pc, .slice a' (k + 1) c']) (results_cell_row Tryd.results11 _ _ _ _ _ (0, 0) _ rfl (two_set HF.out.b0 _ _) Tryd.underlying41 rfl iB) rfl ⟨_, rfl, ?_, ?_⟩
            · exact two_owns HOW.out HF.out.b0 (by omega) _ _
            · exact (HF.out.gr.setCell (Nat.le_refl _) _).setCell (Nat.le_refl _) _
          | false =>
            have HE : Hid (∀ W : World, Calls Tryd.prog 31 #[.int .i64 x0] W fun e w' => e = .returned (.bool false) ∧ w' = W) := fun W => by have := Last_any x0 W; rwa [hL] at this
            have HXE : Hid ((xs ++ [X]) ++ blk l pc (16 - (k + 1)) (k + 1) = blk l pc 16 0) := HC.out (by simp) hL
            refine (HE.out _).mono ?_
            rintro e w4 ⟨rfl, rfl⟩
            clear HE hL HBe HC HA
            go_wp2_with fail
            go_roundw
            case rel => exact ⟨k + 1, xs ++ [X], a', c', by omega, HLN.out, HXE.out, HF.out.b1, HF.out.b0, by rw [HCC.out]; exact HF.out.own, HF.out.gr⟩
            case measure =>
              have e := lenAt_of (a := .bool true) HF.out.b1
              have e2 := HM.out
              omega
    · have k16 : k = 16 := by omega
      subst k16
      have HXE : Hid (xs = blk l pc 16 0) := by have := HX.out; rw [blk_zero, List.append_nil] at this; exact this
      clear L D HX
      have HOW : Hid (wr.ownsRow (w.heap.size + 2) 63 5 (.slice a (16) c) (blk l pc 16 0).length (blC (blk l pc 16 0))) := (by unfold Hid; rw [← HXE.out, HL.out]; exact HO.out)
      have q0 : wr.cell? ⟨w.heap.size + 1, 0, none⟩ = some (.int .u32 pc) := cell_of_row _ _ _ _ _ _ HB1.out
      have q1 : wr.cell? ⟨w.heap.size + 1, 1, none⟩ = some (.slice a (16) c) := cell_of_row _ _ _ _ _ _ HB1.out
      have r0 : wr.cell? ⟨w.heap.size, 0, none⟩ = some (.int .u32 0) := cell_of_row _ _ _ _ _ _ HB0.out
      have r1 : wr.cell? ⟨w.heap.size, 1, none⟩ = some (.slice none 0 0) := cell_of_row _ _ _ _ _ _ HB0.out
      have f0 : ∀ j, wr.frozen? ⟨w.heap.size, j, none⟩ = false := fun j => frozen_of_row _ _ _ _ _ HB0.out
      go_wp2_with fail
      refine bodyPost_ret (v := .agg #[.int .u32 pc, .slice a (16) c]) (results_cell_row Tryd.results11 _ _ _ _ _ (0, 0) _ rfl (two_set HB0.out _ _) Tryd.underlying41 rfl iB) rfl ⟨_, rfl, ?_, ?_⟩
      · exact two_owns HOW.out HB0.out (by omega) _ _
      · exact (HG.out.setCell (Nat.le_refl _) _).setCell (Nat.le_refl _) _
end Go.Proofs.YtbihifipemldhabDoor.Bk
/-
  What the program's runner does of one small step, as plain data ('lvB', 'dos', 'gos'), and that it is what the document asks ('mic').
-/
namespace Go.Proofs.YtbihifipemldhabDoor.Mi
open Mm Wd Hh

/-- Do stored bytes meet the own ones? As the program asks. -/
def meet (bf bt : Int) (p : Int × Int) : Bool := decide (max p.1 bf < min (lo (p.1 + p.2)) bt)
def ownB (bf bt : Int) (ss : List (Int × Int)) : Bool := ss.any (meet bf bt)
theorem hits_iff (bf bt p : Int) : ∀ k, hits bf bt p k = true ↔ ∃ j : Nat, j < k ∧ bf ≤ lo (p + j) ∧ lo (p + j) < bt
  | 0 => ⟨fun h => (by cases h), fun ⟨j, h, _⟩ => absurd h (by omega)⟩
  | k + 1 => by
    unfold hits
    rw [Bool.or_eq_true, hits_iff bf bt p k, decide_eq_true_iff]
    constructor
    · rintro (⟨j, h, q⟩ | q)
      · exact ⟨j, by omega, q⟩
      · exact ⟨k, by omega, q⟩
    · rintro ⟨j, h, q⟩
      by_cases e : j = k
      · subst e; exact .inr q
      · exact .inl ⟨j, by omega, q⟩
theorem hits_meet {bf bt p : Int} {k : Nat} (h0 : 0 ≤ p) (h1 : p + k < 4294967296) (hk : k ≤ 4) : hits bf bt p k = meet bf bt (p, (k : Int)) := by
  have e : ∀ j : Nat, j ≤ k → lo (p + j) = p + j := fun j h => Int.emod_eq_of_lt (by omega) (by omega)
  rw [Bool.eq_iff_iff, hits_iff]
  unfold meet
  rw [decide_eq_true_iff]
  show _ ↔ max p bf < min (lo (p + k)) bt
  rw [e k (by omega)]
  constructor
  · rintro ⟨j, hj, a, b⟩
    rw [e j (by omega)] at a b
    rw [Int.max_def, Int.min_def]
    split <;> split <;> omega
  · intro h
    rw [Int.max_def, Int.min_def] at h
    by_cases c : p ≤ bf
    · refine ⟨(bf - p).toNat, ?_, ?_⟩
      · split at h <;> split at h <;> omega
      · rw [e _ (by split at h <;> split at h <;> omega)]
        split at h <;> split at h <;> omega
    · refine ⟨0, ?_, ?_⟩
      · split at h <;> split at h <;> omega
      · rw [e _ (by omega)]
        split at h <;> split at h <;> omega
theorem holds_no {op a b : Int} (h : op < 5 ∨ 10 < op) : holds op a b = false := by
  unfold holds
  rw [if_neg (by omega), if_neg (by omega), if_neg (by omega), if_neg (by omega), if_neg (by omega), if_neg (by omega)]
theorem mic_op {bf bt steps : Int} {r : Rn} {i : Mv} {c k : Int} (h : 100 ≤ c) (hk : 0 ≤ k ∧ k < 100) (h2 : i.op = c + k) (h3 : c % 100 = 0) : mic bf bt steps r i = mOp bf bt r c k i := by
  unfold mic
  rw [if_neg (by omega), if_neg (by omega), if_neg (by omega), if_neg (by omega), if_neg (by omega), if_neg (by omega), show i.op - i.op % 100 = c by omega, show i.op % 100 = k by omega]
/-- What stays true from small step to small step. -/
structure Gd (bf bt : Int) (r : Rn) : Prop where
  ok : r.Ok
  st : r.over = false → r.h.state = 0
  own : r.own = ownB bf bt r.sto
  len : r.m.length ≤ 4096
theorem Gd.start {bf bt : Int} {h : Hv} {l : List UInt8} (o : h.Ok) (hs : h.state = 0) (hl : l.length ≤ 4096) : Gd bf bt (mstart h l) :=
  ⟨⟨o, rfl, fun j => by match j with | 0 | 1 | 2 | 3 => exact W.zero | j + 4 => exact W.zero, o.pc0, o.pc1⟩, fun _ => hs, rfl, hl⟩
end Go.Proofs.YtbihifipemldhabDoor.Mi
