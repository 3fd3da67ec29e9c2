/-
  What ferrybridgeref5.Wrong answers, of every machine and script.
-/
import Derived.Test.YtfolphjampklpaaDoorMh
namespace Go.Proofs.YtfolphjampklpaaDoor.Mc
open Go.ChangeShapes Go.WideShapes Go.ChangeAt Go.RowKit Mm Hh
set_option linter.unusedVariables false
set_option linter.unusedSimpArgs false

theorem iH : (Tryd.prog.info? 34).map (·.size) = some 37 := by kernel_rfl
set_option maxHeartbeats 1000000 in
theorem Wrong_any (hmay : ∀ (h : Hv), h.Ok → ∀ W : World, Calls Tryd.prog 15 #[.agg (hA h)] W fun e w' => e = .returned (.bool (may h)) ∧ Gr W w')
    {ma ha pa : Option Addr} {hn pn : Nat} (mc hc pc : Nat) {m : List UInt8} {hs : List Hv} {ps : List (Int × Int)} {w : World} (mn : Nat) (hmn : m.length = mn) (H : Hs w ha hn hs) (P : Ps w pa pn ps) (b1 : mn ≤ 140737488351232) (b2 : hn ≤ 140737488351232) (b3 : pn ≤ 140737488351232) :
    Calls Tryd.prog 20 #[.agg #[.slice ma mn mc, .slice ha hn hc], .slice pa pn pc] w fun e w' => e = .returned (.int .i64 (wrong m hs ps)) ∧ Gr w w' := by
  have hl := H.len
  have pl := P.len
  by_cases c1 : 4096 < mn ∨ hn < 1 ∨ 4 < hn
  · have HE : Hid (wrong m hs ps = 2) := by unfold Hid wrong; rw [if_pos (by omega)]
    clear H P hmay
    have c2 : 4096 < mn ∨ (¬ 4096 < mn ∧ hn < 1) ∨ (¬ 4096 < mn ∧ ¬ hn < 1 ∧ 4 < hn) := by omega
    clear c1
    rcases c2 with c | ⟨c, d⟩ | ⟨c, d, e⟩
    all_goals
      go_enter Tryd.func20, Tryd.ntmps20
      go_wp2
      go_ret
      exact ⟨ret_int HE.out.symm, (Gr.refl _).alloc _⟩
  · have n1 : ¬ 4096 < mn := by omega
    have n2 : ¬ hn < 1 := by omega
    have n3 : ¬ 4 < hn := by omega
    obtain ⟨b, o, rfl, hb, hcell⟩ := H.spot (by omega)
    have HW : Hid (wrong m hs ps = if hs.all may = false then 2 else if 300 < ps.length then 1 else if ps.all (pickOk hs.length) = false then 3 else 0) := by unfold Hid wrong; rw [if_neg (by omega)]
    have HK : Hid (∀ i h, hs[i]? = some h → w.rangeAt b (o + i * 37) (hL h)) := hcell
    have HO : Hid (∀ h ∈ hs, h.Ok) := H.ok
    have HP : Hid (Ps w pa pn ps) := P
    have HM : Hid (∀ (h : Hv), h.Ok → ∀ W : World, Calls Tryd.prog 15 #[.agg (hA h)] W fun e w' => e = .returned (.bool (may h)) ∧ Gr W w') := hmay
    have HL : Hid (hs.length = hn) := hl
    have PL : Hid (ps.length = pn) := pl
    clear hcell H P hmay c1 hl pl hmn
    go_enter Tryd.func20, Tryd.ntmps20
    go_wp2
    go_loopw [5] (fun i wr => ∃ k : Nat, k ≤ hn ∧ i = .int .i64 k ∧ (hs.take k).all may = true ∧ Gr (w.alloc (.cells #[.slice ma mn mc, .slice (some ⟨b, o, none⟩) hn hc] 48)) wr) (fun i _ => hn - (intOf i).toNat)
    case atStart => exact ⟨0, Nat.zero_le _, rfl, rfl, Gr.refl _⟩
    case round =>
      obtain ⟨k, hk, rfl, hall, G⟩ := hrel
      have HB : Hid (wr.heap[w.heap.size]? = some (.cells #[.slice ma mn mc, .slice (some ⟨b, o, none⟩) hn hc] 48 (0, 0))) := (G.block _ (by simp)).trans (heap_alloc_new w _)
      have k1 : wr.cell? ⟨w.heap.size, 1, none⟩ = some (.slice (some ⟨b, o, none⟩) hn hc) := cell_of_row _ _ _ _ _ _ HB.out
      have HG : Hid (Gr (w.alloc (.cells #[.slice ma mn mc, .slice (some ⟨b, o, none⟩) hn hc] 48)) wr) := G
      have HA : Hid ((hs.take k).all may = true) := hall
      clear G hall
      by_cases hlt : k < hn
      · obtain ⟨h, hh⟩ : ∃ h, hs[k]? = some h := ⟨_, List.getElem?_eq_getElem (by rw [HL.out]; exact hlt)⟩
        have HH : Hid (hs[k]? = some h) := hh
        have okh := HO.out h (List.mem_of_getElem? hh)
        have RG : Hid (wr.rangeAt b (o + k * 37) (hL h)) := fun j v hv => (HG.out.cell _ (by simp; omega)).trans (((Gr.refl w).alloc _).cell _ (by exact hb) |>.trans (HK.out k h hh j v hv))
        have HLL : Hid ((hL h).length = 37) := hL_len okh
        have M1 : Hid (∀ W : World, Calls Tryd.prog 15 #[.agg (hL h).toArray] W fun e w' => e = .returned (.bool (may h)) ∧ Gr W w') := fun W => HM.out h okh W
        clear hh okh
        cases hmb : may h with
        | true =>
          have M2 : Hid (∀ W : World, Calls Tryd.prog 15 #[.agg (hL h).toArray] W fun e w' => e = .returned (.bool true) ∧ Gr W w') := fun W => by have := M1.out W; rwa [hmb] at this
          have HN : Hid ((hs.take (k + 1)).all may = true) := by unfold Hid; rw [all_take may hs k h HH.out, HA.out, hmb]; rfl
          clear M1 hmb
          go_wp2_with (refine wpList_load_mid rfl 34 _ rfl b (o + k * 37) rfl (hL h) _ ?r1 Tryd.underlying34 rfl (by rw [HLL.out]; exact iH) ?_; (case r1 => exact RG.out))
          refine (M2.out _).mono ?_
          rintro e w1 ⟨rfl, G1⟩
          have HG1 : Hid (Gr (w.alloc (.cells #[.slice ma mn mc, .slice (some ⟨b, o, none⟩) hn hc] 48)) w1) := HG.out.trans G1
          clear G1 M2 k1 HG HB RG
          go_wp2_with fail
          go_roundw
          case rel => exact ⟨k + 1, by omega, by go_num, HN.out, HG1.out⟩
          case measure => simp [intOf]; omega
        | false =>
          have M2 : Hid (∀ W : World, Calls Tryd.prog 15 #[.agg (hL h).toArray] W fun e w' => e = .returned (.bool false) ∧ Gr W w') := fun W => by have := M1.out W; rwa [hmb] at this
          have HE : Hid (wrong m hs ps = 2) := by unfold Hid; rw [HW.out, if_pos (all_false HH.out hmb)]
          clear M1 hmb
          go_wp2_with (refine wpList_load_mid rfl 34 _ rfl b (o + k * 37) rfl (hL h) _ ?r1 Tryd.underlying34 rfl (by rw [HLL.out]; exact iH) ?_; (case r1 => exact RG.out))
          refine (M2.out _).mono ?_
          rintro e w1 ⟨rfl, G1⟩
          have HG1 : Hid (Gr w w1) := ((Gr.refl _).alloc _).trans (HG.out.trans G1)
          clear G1 M2 k1 HG HB RG
          go_wp2_with fail
          go_ret
          exact ⟨ret_int HE.out.symm, HG1.out⟩
      · have ek : k = hn := by omega
        have HAll : Hid (hs.all may = true) := by have := HA.out; rw [ek, ← HL.out, List.take_length] at this; exact this
        have HW2 : Hid (wrong m hs ps = if 300 < ps.length then 1 else if ps.all (pickOk hs.length) = false then 3 else 0) := by unfold Hid; rw [HW.out, HAll.out, if_neg (by simp)]
        have HG1 : Hid (Gr w wr) := ((Gr.refl _).alloc _).trans HG.out
        clear ek HA HW HAll
        by_cases c3 : 300 < pn
        · have HE : Hid (wrong m hs ps = 1) := by unfold Hid; rw [HW2.out, PL.out, if_pos c3]
          go_wp2_with fail
          go_ret
          exact ⟨ret_int HE.out.symm, HG1.out⟩
        · have HW3 : Hid (wrong m hs ps = if ps.all (pickOk hn) = false then 3 else 0) := by unfold Hid; rw [HW2.out, PL.out, HL.out, if_neg c3]
          clear HW2
          by_cases p0 : pn = 0
          · subst p0
            have HE : Hid (wrong m hs ps = 0) := by
              have : ps = [] := List.eq_nil_of_length_eq_zero PL.out
              unfold Hid; rw [HW3.out, this]; rfl
            go_wp2_with fail
            go_loopw [6] (fun i wq => i = .int .i64 0 ∧ wq = wr) (fun _ _ => 0)
            case atStart => exact ⟨rfl, rfl⟩
            case round =>
              obtain ⟨rfl, rfl⟩ := hrel
              go_wp2
              go_ret
              exact ⟨ret_int HE.out.symm, HG1.out⟩
          · obtain ⟨b', o', rfl, hb', hcell'⟩ := HP.out.spot (by omega)
            have HC : Hid (∀ i p, ps[i]? = some p → wr.cell? ⟨b', o' + i * 2, none⟩ = some (.int .i64 p.1) ∧ wr.cell? ⟨b', o' + i * 2 + 1, none⟩ = some (.int .i64 p.2)) := fun i p hp => ⟨(HG1.out.cell _ (by exact hb')).trans (hcell' i p hp).1, (HG1.out.cell _ (by exact hb')).trans (hcell' i p hp).2⟩
            clear hcell'
            go_wp2_with fail
            go_loopw [6] (fun i wq => ∃ j : Nat, j ≤ pn ∧ i = .int .i64 j ∧ (ps.take j).all (pickOk hn) = true ∧ ∃ q, wq = wr.drewN q) (fun i _ => pn - (intOf i).toNat)
            case atStart => exact ⟨0, Nat.zero_le _, rfl, rfl, 0, rfl⟩
            case round =>
              obtain ⟨j, hj, rfl, hall, q, rfl⟩ := hrel
              have HA : Hid ((ps.take j).all (pickOk hn) = true) := hall
              clear hall
              by_cases hlt2 : j < pn
              · obtain ⟨p, hp⟩ : ∃ p, ps[j]? = some p := ⟨_, List.getElem?_eq_getElem (by rw [PL.out]; exact hlt2)⟩
                obtain ⟨q0, q1⟩ := HC.out j p hp
                have HE : Hid (¬ (0 ≤ p.1 ∧ p.1 < hn ∧ 0 ≤ p.2 ∧ p.2 ≤ 400) → wrong m hs ps = 3) := fun hno => by rw [HW3.out, if_pos (all_false hp (by unfold pickOk; exact decide_eq_false hno))]
                have HN : Hid ((0 ≤ p.1 ∧ p.1 < hn ∧ 0 ≤ p.2 ∧ p.2 ≤ 400) → (ps.take (j + 1)).all (pickOk hn) = true) := fun hy => by
                  rw [all_take _ ps j p hp, HA.out, show pickOk hn p = true by unfold pickOk; exact decide_eq_true hy]; rfl
                clear hp
                obtain ⟨x, y⟩ := p
                simp only at *
                have hc : x < 0 ∨ (¬ x < 0 ∧ (hn : Int) ≤ x) ∨ (¬ x < 0 ∧ ¬ (hn : Int) ≤ x ∧ y < 0) ∨ (¬ x < 0 ∧ ¬ (hn : Int) ≤ x ∧ ¬ y < 0 ∧ 400 < y) ∨ (¬ x < 0 ∧ ¬ (hn : Int) ≤ x ∧ ¬ y < 0 ∧ ¬ 400 < y) := by omega
                rcases hc with h1 | ⟨h1, h2⟩ | ⟨h1, h2, h3⟩ | ⟨h1, h2, h3, h4⟩ | ⟨h1, h2, h3, h4⟩
                · have d1 : decide (x < 0) = true := by simpa using h1
                  go_wp2_with fail
                  go_quiet (fail)
                  go_wp2_with fail
                  go_ret
                  exact ⟨ret_int (HE.out (by omega)).symm, (HG1.out.drewN _).drewN _⟩
                · have d1 : decide (x < 0) = false := by simpa using h1
                  have d2 : decide ((hn : Int) ≤ x) = true := by simpa using h2
                  go_wp2_with fail
                  go_quiet (fail)
                  go_wp2_with fail
                  go_ret
                  exact ⟨ret_int (HE.out (by omega)).symm, (HG1.out.drewN _).drewN _⟩
                · have d1 : decide (x < 0) = false := by simpa using h1
                  have d2 : decide ((hn : Int) ≤ x) = false := by simpa using h2
                  have d3 : decide (y < 0) = true := by simpa using h3
                  go_wp2_with fail
                  go_quiet (fail)
                  go_wp2_with fail
                  go_ret
                  exact ⟨ret_int (HE.out (by omega)).symm, (HG1.out.drewN _).drewN _⟩
                · have d1 : decide (x < 0) = false := by simpa using h1
                  have d2 : decide ((hn : Int) ≤ x) = false := by simpa using h2
                  have d3 : decide (y < 0) = false := by simpa using h3
                  have d4 : decide (400 < y) = true := by simpa using h4
                  go_wp2_with fail
                  go_quiet (fail)
                  go_wp2_with fail
                  go_ret
                  exact ⟨ret_int (HE.out (by omega)).symm, (HG1.out.drewN _).drewN _⟩
                · have d1 : decide (x < 0) = false := by simpa using h1
                  have d2 : decide ((hn : Int) ≤ x) = false := by simpa using h2
                  have d3 : decide (y < 0) = false := by simpa using h3
                  have d4 : decide (400 < y) = false := by simpa using h4
                  go_wp2_with fail
                  go_quiet (fail)
                  go_wp2_with fail
                  go_roundw
                  case rel => exact ⟨j + 1, by omega, by go_num, HN.out (by omega), _, rfl⟩
                  case measure => simp [intOf]; omega
              · have HE : Hid (wrong m hs ps = 0) := by
                  have e : (ps.take j).all (pickOk hn) = true := HA.out
                  rw [show j = pn by omega, ← PL.out, List.take_length] at e
                  unfold Hid; rw [HW3.out, e]; rfl
                go_wp2
                go_ret
                exact ⟨ret_int HE.out.symm, HG1.out.drewN _⟩
end Go.Proofs.YtfolphjampklpaaDoor.Mc
