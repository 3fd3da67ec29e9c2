/-
  What package machine's wrong and slices.Clone (of harts) answer.
-/
import Derived.Test.YtfolphjampklpaaDoorMb1
import Derived.Test.YtfolphjampklpaaDoorHm7
namespace Go.Proofs.YtfolphjampklpaaDoor.Mc
open Go.ChangeShapes Go.WideShapes Go.ChangeAt Go.RowKit Mm Hh Hc
set_option linter.unusedVariables false
set_option linter.unusedSimpArgs false

set_option maxHeartbeats 1000000 in
set_option maxRecDepth 100000 in
theorem pwrong_any {ma ha pa : Option Addr} {hn pn : Nat} (mc hc pc : Nat) {m : List UInt8} {hs : List Hv} {ps : List (Int × Int)} {w : World} (mn : Nat) (hmn : m.length = mn) (H : Hs w ha hn hs) (P : Ps w pa pn ps) (b1 : mn ≤ 140737488351232) (b2 : hn ≤ 140737488351232) (b3 : pn ≤ 140737488351232) :
    Calls Tryd.prog 70 #[.agg #[.slice ma mn mc, .slice ha hn hc], .slice pa pn pc] w fun e w' => e = .returned (.int .i64 (wrong m hs ps)) ∧ Gr w w' := by
  have HM : Hid (∀ W : World, Gr w W → Calls Tryd.prog 77 #[.agg #[.slice ma mn mc, .slice ha hn hc]] W fun e w' => e = .returned (.bool (mayM mn hs)) ∧ Gr W w') := fun W G => MMay_any mc hc mn (H.of G) b1 b2
  have HWr : Hid (wrong m hs ps = if mayM mn hs = false then 2 else if 300 < ps.length then 1 else if ps.all (pickOk hs.length) = false then 3 else 0) := by have := wrong_may m hs ps; rw [hmn] at this; exact this
  have HL : Hid (hs.length = hn) := H.len
  have PL : Hid (ps.length = pn) := P.len
  have HP : Hid (Ps w pa pn ps) := P
  clear H P hmn
  generalize mayM mn hs = B at *
  cases B with
  | false =>
    have HE : Hid (wrong m hs ps = 2) := by unfold Hid; rw [HWr.out, if_pos rfl]
    clear HWr HP
    go_enter Tryd.func70, Tryd.ntmps70
    go_wp2_with fail
    refine (HM.out _ ((Gr.refl _).alloc _)).mono ?_
    rintro e w1 ⟨rfl, G1⟩
    have HG1 : Hid (Gr w w1) := ((Gr.refl _).alloc _).trans G1
    clear G1 HM
    go_wp2_with fail
    go_ret
    exact ⟨ret_int HE.out.symm, HG1.out⟩
  | true =>
    have HW2 : Hid (wrong m hs ps = if 300 < pn then 1 else if ps.all (pickOk hn) = false then 3 else 0) := by unfold Hid; rw [HWr.out, if_neg (by simp), PL.out, HL.out]
    clear HWr
    go_enter Tryd.func70, Tryd.ntmps70
    go_wp2_with fail
    refine (HM.out _ ((Gr.refl _).alloc _)).mono ?_
    rintro e w1 ⟨rfl, G1⟩
    have HG1 : Hid (Gr w w1) := ((Gr.refl _).alloc _).trans G1
    have HB : Hid (w1.heap[w.heap.size]? = some (.cells #[.slice ma mn mc, .slice ha hn hc] 48 (0, 0))) := (G1.block _ (by simp)).trans (heap_alloc_new w _)
    have hlt1 : w.heap.size < w1.heap.size := (Array.getElem?_eq_some_iff.1 HB.out).1
    clear G1 HM
    by_cases c3 : 300 < pn
    · have HE : Hid (wrong m hs ps = 1) := by unfold Hid; rw [HW2.out, if_pos c3]
      go_wp2_with fail
      go_ret
      exact ⟨ret_int HE.out.symm, HG1.out⟩
    · have HW3 : Hid (wrong m hs ps = if ps.all (pickOk hn) = false then 3 else 0) := by unfold Hid; rw [HW2.out, if_neg c3]
      clear HW2
      by_cases p0 : pn = 0
      · subst p0
        have HE : Hid (wrong m hs ps = 0) := by
          have : ps = [] := List.eq_nil_of_length_eq_zero PL.out
          unfold Hid; rw [HW3.out, this]; rfl
        go_wp2_with fail
        go_loopw [15] (fun i wq => i = .int .i64 0 ∧ wq = w1) (fun _ _ => 0)
        case atStart => exact ⟨rfl, rfl⟩
        case round =>
          obtain ⟨rfl, rfl⟩ := hrel
          go_wp2
          go_ret
          exact ⟨ret_int HE.out.symm, HG1.out⟩
      · obtain ⟨b', o', rfl, hb', hcell'⟩ := HP.out.spot (by omega)
        have HC : Hid (∀ i p, ps[i]? = some p → w1.cell? ⟨b', o' + i * 2, none⟩ = some (.int .i64 p.1) ∧ w1.cell? ⟨b', o' + i * 2 + 1, none⟩ = some (.int .i64 p.2)) := fun i p hp => ⟨(HG1.out.cell _ (by exact hb')).trans (hcell' i p hp).1, (HG1.out.cell _ (by exact hb')).trans (hcell' i p hp).2⟩
        have hb1 : b' < w1.heap.size := Nat.lt_of_lt_of_le hb' HG1.out.size
        clear hcell' HP
        go_wp2_with fail
        go_loopw [15] (fun i wq => ∃ j : Nat, j ≤ pn ∧ i = .int .i64 j ∧ (ps.take j).all (pickOk hn) = true ∧ Gr w1 wq) (fun i _ => pn - (intOf i).toNat)
        case atStart => exact ⟨0, Nat.zero_le _, rfl, rfl, Gr.refl _⟩
        case round =>
          obtain ⟨j, hj, rfl, hall, G⟩ := hrel
          have HA : Hid ((ps.take j).all (pickOk hn) = true) := hall
          have HG : Hid (Gr w1 wr) := G
          have hbr : b' < wr.heap.size := Nat.lt_of_lt_of_le hb1 G.size
          have hwr : w.heap.size < wr.heap.size := Nat.lt_of_lt_of_le hlt1 G.size
          have k1 : wr.cell? ⟨w.heap.size, 1, none⟩ = some (.slice ha hn hc) := (G.cell _ (by exact hlt1)).trans (cell_of_row _ _ _ _ _ _ HB.out)
          clear hall G
          by_cases hlt2 : j < pn
          · obtain ⟨p, hp⟩ : ∃ p, ps[j]? = some p := ⟨_, List.getElem?_eq_getElem (by rw [PL.out]; exact hlt2)⟩
            have q0 : wr.cell? ⟨b', o' + j * 2, none⟩ = some (.int .i64 p.1) := (HG.out.cell _ (by exact hb1)).trans (HC.out j p hp).1
            have q1 : wr.cell? ⟨b', o' + j * 2 + 1, none⟩ = some (.int .i64 p.2) := (HG.out.cell _ (by exact hb1)).trans (HC.out j p hp).2
            have HE : Hid (¬ (0 ≤ p.1 ∧ p.1 < hn ∧ 0 ≤ p.2 ∧ p.2 ≤ 400) → wrong m hs ps = 3) := fun hno => by rw [HW3.out, if_pos (all_false hp (by unfold pickOk; exact decide_eq_false hno))]
            have HN : Hid ((0 ≤ p.1 ∧ p.1 < hn ∧ 0 ≤ p.2 ∧ p.2 ≤ 400) → (ps.take (j + 1)).all (pickOk hn) = true) := fun hy => by
              rw [all_take _ ps j p hp, HA.out, show pickOk hn p = true by unfold pickOk; exact decide_eq_true hy]; rfl
            clear hp
            obtain ⟨x, y⟩ := p
            simp only at *
            have hc : x < 0 ∨ (¬ x < 0 ∧ (hn : Int) ≤ x) ∨ (¬ x < 0 ∧ ¬ (hn : Int) ≤ x ∧ y < 0) ∨ (¬ x < 0 ∧ ¬ (hn : Int) ≤ x ∧ ¬ y < 0 ∧ 400 < y) ∨ (¬ x < 0 ∧ ¬ (hn : Int) ≤ x ∧ ¬ y < 0 ∧ ¬ 400 < y) := by omega
            rcases hc with h1 | ⟨h1, h2⟩ | ⟨h1, h2, h3⟩ | ⟨h1, h2, h3, h4⟩ | ⟨h1, h2, h3, h4⟩
            · go_wp2
              go_ret
              exact ⟨ret_int (HE.out (by omega)).symm, HG1.out.trans (HG.out.alloc _)⟩
            · go_wp2
              go_ret
              exact ⟨ret_int (HE.out (by omega)).symm, HG1.out.trans (HG.out.alloc _)⟩
            · go_wp2
              go_ret
              exact ⟨ret_int (HE.out (by omega)).symm, HG1.out.trans (HG.out.alloc _)⟩
            · go_wp2
              go_ret
              exact ⟨ret_int (HE.out (by omega)).symm, HG1.out.trans (HG.out.alloc _)⟩
            · go_wp2
              go_roundw
              case rel => exact ⟨j + 1, by omega, by go_num, HN.out (by omega), HG.out.alloc _⟩
              case measure => simp [intOf]; omega
          · have HE : Hid (wrong m hs ps = 0) := by
              have e : (ps.take j).all (pickOk hn) = true := HA.out
              rw [show j = pn by omega, ← PL.out, List.take_length] at e
              unfold Hid; rw [HW3.out, e]; rfl
            go_wp2
            go_ret
            exact ⟨ret_int HE.out.symm, HG1.out.trans HG.out⟩

theorem owns_at {w : World} {base e sz n : Nat} {v : Value} {xs : List Value} (h : w.ownsRow base e sz v n xs) (hn : 1 ≤ n) : ∃ g cap, v = .slice (some ⟨g, 0, none⟩) n cap ∧ base ≤ g := by
  obtain ⟨_, h⟩ := h
  rcases h with ⟨_, h0⟩ | ⟨g, cap, cur, hv, hb, _⟩
  · omega
  · exact ⟨g, cap, hv, hb⟩
theorem infoH : (Tryd.prog.info? 34).map (fun i => (i.zero, i.size, i.bytes)) = some (some (.agg (hA h0)), 37, 160) := by kernel_rfl
set_option maxHeartbeats 1000000 in
set_option maxRecDepth 100000 in
/-- slices.Clone, of harts. -/
theorem HClone_any {w : World} {ad : Addr} {n : Nat} (cap : Nat) {hs : List Hv} (H : Hs w (some ad) n hs) (hn1 : 1 ≤ n) (hn : n ≤ 4) :
    Calls Tryd.prog 71 #[.slice (some ad) n cap] w fun e w' => ∃ g c, e = .returned (.slice (some ⟨g, 0, none⟩) n c) ∧ w.heap.size ≤ g ∧ HRow w' g hs ∧ Gr w w' := by
  obtain ⟨i0, hi, hz0, hz1, hz2⟩ := info_parts infoH
  have HH : Hid (Hs w (some ad) n hs) := H
  have HL : Hid (hs.length = n) := H.len
  have HO : Hid (∀ h ∈ hs, h.Ok) := H.ok
  have he : ∀ w : World, (binOp .eql 46 (.slice (some ad) n cap) (.slice none 0 0)).run Tryd.prog w = .ok (.bool false) w := fun _ => by kernel_rfl
  clear H
  go_enter Tryd.func71, Tryd.ntmps71
  go_wp2_with (at_builtin; refine wpList_append_own _ rfl (.tmp 5) (.tmp 6) 46 rfl w.heap.size 34 i0 (.agg (hA h0)) 37 160 Tryd.underlying46 hi hz0 hz1 hz2 rfl (by decide) _ 0 [] rfl (World.ownsRow_made w #[] 0 (Nat.le_refl _) (by decide) rfl) ad n cap (hC hs) rfl (by rw [hC_len HO.out, HL.out]) (HH.out.of ((Gr.refl _).alloc _)).src (hC_one hs) (by unfold maxLen; omega) (by omega) (by simp) ?_; intro v' w1 hown hgrow _; have HOw : Hid (w1.ownsRow w.heap.size 34 37 v' n (hC hs)) := (by unfold Hid; simpa using hown); have HG : Hid (Gr w w1) := ((Gr.refl _).alloc _).grown hgrow (fun k e => Nat.le_of_eq (Option.some.inj e)); clear hown hgrow)
  obtain ⟨g, c, rfl, hg⟩ := owns_at HOw.out hn1
  have HR : Hid (HRow w1 g hs) := HRow.own HO.out HOw.out
  clear HOw
  go_ret
  exact ⟨g, c, rfl, hg, HR.out, HG.out⟩
end Go.Proofs.YtfolphjampklpaaDoor.Mc
