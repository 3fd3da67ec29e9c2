/-
  Mb1, Mb2, Mb3, Mb4, Mb5: texts of ours that lie in one file.
-/
import Derived.Test.YtdiofidmlgliiaaDoorK01
import Derived.Test.YtdiofidmlgliiaaDoorHm1
import Derived.Test.YtdiofidmlgliiaaDoorHw
import Derived.Test.YtdiofidmlgliiaaDoorHm7
import Derived.Deep.RegionHeld3
import Derived.Test.YtdiofidmlgliiaaDoorHa
/-
  What package machine's meets, May and wrong answer, of every machine and script.
-/
namespace Go.Proofs.YtdiofidmlgliiaaDoor.Mc
open Go.ChangeShapes Go.WideShapes Go.ChangeAt Go.RowKit Mm Hh Hc
set_option linter.unusedVariables false
set_option linter.unusedSimpArgs false

theorem ret_bool {a b : Bool} (h : a = b) : Ending.returned (.bool a) = .returned (.bool b) := by rw [h]
set_option maxHeartbeats 1000000 in
set_option maxRecDepth 100000 in
theorem meets_any {x f t : Int} (hx0 : 0 ≤ x) (hx : x < 4294967296) (hf0 : 0 ≤ f) (hf : f < 4294967296) (w : World) :
    Calls Tryd.prog 102 #[.int .u32 x, .agg #[.int .u32 f, .int .u32 t]] w fun e w' => e = .returned (.bool (decide (x < t) && decide (f < x + 4))) ∧ Gr w w' := by
  by_cases h1 : x < t
  · have HE : Hid ((decide (x < t) && decide (f < x + 4)) = decide (f < x + 4)) := by unfold Hid; simp [h1]
    rw [HE.out]
    go_enter Tryd.func102, Tryd.ntmps102
    go_wp2
    go_ret
    exact ⟨rfl, (Gr.refl _).alloc _⟩
  · have HE : Hid ((decide (x < t) && decide (f < x + 4)) = false) := by unfold Hid; simp [h1]
    rw [HE.out]
    go_enter Tryd.func102, Tryd.ntmps102
    go_wp2
    go_ret
    exact ⟨rfl, (Gr.refl _).alloc _⟩

/-- A machine of mn bytes and the harts hs may be. -/
def mayM (mn : Nat) (hs : List Hv) : Bool := decide (mn ≤ 4096 ∧ 1 ≤ hs.length ∧ hs.length ≤ 4) && hs.all may
theorem wrong_may (m : List UInt8) (hs : List Hv) (ps : List (Int × Int)) : wrong m hs ps = if mayM m.length hs = false then 2 else if 300 < ps.length then 1 else if ps.all (pickOk hs.length) = false then 3 else 0 := by
  unfold wrong mayM
  by_cases h : 4096 < m.length ∨ hs.length < 1 ∨ 4 < hs.length
  · rw [if_pos h, if_pos]; rw [decide_eq_false (by omega)]; rfl
  · rw [if_neg h, decide_eq_true (show m.length ≤ 4096 ∧ 1 ≤ hs.length ∧ hs.length ≤ 4 by omega)]; simp only [Bool.true_and]

set_option maxHeartbeats 1000000 in
set_option maxRecDepth 100000 in
theorem MMay_any {ma ha : Option Addr} {hn : Nat} (mc hc : Nat) {hs : List Hv} {w : World} (mn : Nat) (H : Hs w ha hn hs) (b1 : mn ≤ 140737488351232) (b2 : hn ≤ 140737488351232) :
    Calls Tryd.prog 34 #[.agg #[.slice ma mn mc, .slice ha hn hc]] w fun e w' => e = .returned (.bool (mayM mn hs)) ∧ Gr w w' := by
  have hl := H.len
  by_cases c1 : 4096 < mn ∨ hn < 1 ∨ 4 < hn
  · have HE : Hid (mayM mn hs = false) := by unfold Hid mayM; rw [decide_eq_false (by omega)]; rfl
    clear H
    have c2 : 4096 < mn ∨ (¬ 4096 < mn ∧ hn < 1) ∨ (¬ 4096 < mn ∧ ¬ hn < 1 ∧ 4 < hn) := by omega
    clear c1
    rcases c2 with c | ⟨c, d⟩ | ⟨c, d, e⟩
    all_goals
      go_enter Tryd.func34, Tryd.ntmps34
      go_wp2
      go_ret
      exact ⟨ret_bool HE.out.symm, (Gr.refl _).alloc _⟩
  · have n1 : ¬ 4096 < mn := by omega
    have n2 : ¬ hn < 1 := by omega
    have n3 : ¬ 4 < hn := by omega
    obtain ⟨b, o, rfl, hb, hcell⟩ := H.spot (by omega)
    have HW : Hid (mayM mn hs = hs.all may) := by unfold Hid mayM; rw [decide_eq_true (by omega)]; rfl
    have HK : Hid (∀ i h, hs[i]? = some h → w.rangeAt b (o + i * 37) (hL h)) := hcell
    have HO : Hid (∀ h ∈ hs, h.Ok) := H.ok
    have HL : Hid (hs.length = hn) := hl
    clear hcell H c1 hl
    go_enter Tryd.func34, Tryd.ntmps34
    go_wp2
    go_loopw [24] (fun i wr => ∃ k : Nat, k ≤ hn ∧ i = .int .i64 k ∧ (hs.take k).all may = true ∧ Gr w wr) (fun i _ => hn - (intOf i).toNat)
    case atStart => exact ⟨0, Nat.zero_le _, rfl, rfl, (Gr.refl _).alloc _⟩
    case round =>
      obtain ⟨k, hk, rfl, hall, G⟩ := hrel
      have HG : Hid (Gr w wr) := G
      have HA : Hid ((hs.take k).all may = true) := hall
      clear G hall
      by_cases hlt : k < hn
      · obtain ⟨h, hh⟩ : ∃ h, hs[k]? = some h := ⟨_, List.getElem?_eq_getElem (by rw [HL.out]; exact hlt)⟩
        have HH : Hid (hs[k]? = some h) := hh
        have okh := HO.out h (List.mem_of_getElem? hh)
        have RG : Hid (wr.rangeAt b (o + k * 37) (hL h)) := fun j v hv => (HG.out.cell _ (by exact hb)).trans (HK.out k h hh j v hv)
        have HLL : Hid ((hL h).length = 37) := hL_len okh
        have HSZ : Hid ((hL h).toArray.size = 37) := by unfold Hid; simp [HLL.out]
        have HONE : Hid ((hL h).toArray.all (·.oneCell') = true) := one_hA h
        have M1 : Hid (∀ W : World, Calls Tryd.prog 69 #[.agg (hL h).toArray] W fun e w' => e = .returned (.bool (may h)) ∧ Gr W w') := fun W => may_any okh W
        have HW4 : Hid (∀ Y : Array Value, Gr wr ((wr.alloc (.cells Y 70)).setRow wr.heap.size (hL h).toArray)) := fun Y => gr_setRow ((Gr.refl _).alloc _) (Nat.le_refl _) _
        have HX4 : Hid (∀ Y : Array Value, ((wr.alloc (.cells Y 70)).setRow wr.heap.size (hL h).toArray).heap[wr.heap.size]? = some (.cells (hL h).toArray 70 (0, 0))) := fun Y => setRow_heap _ _ _ _ _ (0, 0) (heap_alloc_new wr _)
        clear hh okh
        cases hmb : may h with
        | true =>
          have M2 : Hid (∀ W : World, Calls Tryd.prog 69 #[.agg (hL h).toArray] W fun e w' => e = .returned (.bool true) ∧ Gr W w') := fun W => by have := M1.out W; rwa [hmb] at this
          have HN : Hid ((hs.take (k + 1)).all may = true) := by unfold Hid; rw [all_take may hs k h HH.out, HA.out, hmb]; rfl
          clear M1 hmb
          go_wp2_with (first
            | (refine wpList_load_mid rfl 70 _ rfl b (o + k * 37) rfl (hL h) _ ?r1 Tryd.underlying70 rfl (by rw [HLL.out]; exact iH) ?_; (case r1 => exact RG.out))
            | (refine wpList_store_row rfl 70 _ _ rfl wr.heap.size (hL h).toArray rfl rfl 70 _ (heap_alloc_new wr _) (by rw [HSZ.out]; exact iH) (by rw [HSZ.out]; rfl) HONE.out ?_)
            | (refine wpList_load_row rfl 70 _ rfl wr.heap.size rfl 70 (hL h).toArray (0, 0) _ ?r2 Tryd.underlying70 rfl (by rw [HSZ.out]; exact iH) ?_; (case r2 => exact HX4.out _)))
          refine (M2.out _).mono ?_
          rintro e w1 ⟨rfl, G1⟩
          have HG1 : Hid (Gr w w1) := HG.out.trans ((HW4.out _).trans G1)
          clear G1 M2 HG RG HW4 HX4
          go_wp2_with fail
          go_roundw
          case rel => exact ⟨k + 1, by omega, by go_num, HN.out, HG1.out⟩
          case measure => simp [intOf]; omega
        | false =>
          have M2 : Hid (∀ W : World, Calls Tryd.prog 69 #[.agg (hL h).toArray] W fun e w' => e = .returned (.bool false) ∧ Gr W w') := fun W => by have := M1.out W; rwa [hmb] at this
          have HE : Hid (mayM mn hs = false) := by unfold Hid; rw [HW.out]; exact all_false HH.out hmb
          clear M1 hmb
          go_wp2_with (first
            | (refine wpList_load_mid rfl 70 _ rfl b (o + k * 37) rfl (hL h) _ ?r1 Tryd.underlying70 rfl (by rw [HLL.out]; exact iH) ?_; (case r1 => exact RG.out))
            | (refine wpList_store_row rfl 70 _ _ rfl wr.heap.size (hL h).toArray rfl rfl 70 _ (heap_alloc_new wr _) (by rw [HSZ.out]; exact iH) (by rw [HSZ.out]; rfl) HONE.out ?_)
            | (refine wpList_load_row rfl 70 _ rfl wr.heap.size rfl 70 (hL h).toArray (0, 0) _ ?r2 Tryd.underlying70 rfl (by rw [HSZ.out]; exact iH) ?_; (case r2 => exact HX4.out _)))
          refine (M2.out _).mono ?_
          rintro e w1 ⟨rfl, G1⟩
          have HG1 : Hid (Gr w w1) := HG.out.trans ((HW4.out _).trans G1)
          clear G1 M2 HG RG HW4 HX4
          go_wp2_with fail
          go_ret
          exact ⟨ret_bool HE.out.symm, HG1.out⟩
      · have HE : Hid (mayM mn hs = true) := by have := HA.out; rw [show k = hn by omega, ← HL.out, List.take_length] at this; unfold Hid; rw [HW.out]; exact this
        go_wp2_with fail
        go_ret
        exact ⟨ret_bool HE.out.symm, HG.out⟩
end Go.Proofs.YtdiofidmlgliiaaDoor.Mc
/-
  What package machine's wrong and slices.Clone (of harts) answer.
-/
namespace Go.Proofs.YtdiofidmlgliiaaDoor.Mc
open Go.ChangeShapes Go.WideShapes Go.ChangeAt Go.RowKit Mm Hh Hc
set_option linter.unusedVariables false
set_option linter.unusedSimpArgs false

variable {hs : List Hv} {w : World} {n : Nat}
set_option maxHeartbeats 1000000 in
set_option maxRecDepth 100000 in
theorem pwrong_any {ma ha pa : Option Addr} {hn pn : Nat} (mc hc pc : Nat) {m : List UInt8} {hs : List Hv} {ps : List (Int × Int)} {w : World} (mn : Nat) (hmn : m.length = mn) (H : Hs w ha hn hs) (P : Ps w pa pn ps) (b1 : mn ≤ 140737488351232) (b2 : hn ≤ 140737488351232) (b3 : pn ≤ 140737488351232) :
    Calls Tryd.prog 56 #[.agg #[.slice ma mn mc, .slice ha hn hc], .slice pa pn pc] w fun e w' => e = .returned (.int .i64 (wrong m hs ps)) ∧ Gr w w' := by
  have HM : Hid (∀ W : World, Gr w W → Calls Tryd.prog 34 #[.agg #[.slice ma mn mc, .slice ha hn hc]] W fun e w' => e = .returned (.bool (mayM mn hs)) ∧ Gr W w') := fun W G => MMay_any mc hc mn (H.of G) b1 b2
  have HWr : Hid (wrong m hs ps = if mayM mn hs = false then 2 else if 300 < ps.length then 1 else if ps.all (pickOk hs.length) = false then 3 else 0) := by have := wrong_may m hs ps; rw [hmn] at this; exact this
  have HL : Hid (hs.length = hn) := H.len
  have PL : Hid (ps.length = pn) := P.len
  have HP : Hid (Ps w pa pn ps) := P
  clear H P hmn
  generalize mayM mn hs = B at *
  cases B with
  | false =>
    have HE : Hid (wrong m hs ps = 2) := by unfold Hid; rw [HWr.out, if_pos rfl]
    clear HWr HP
    go_enter Tryd.func56, Tryd.ntmps56
    go_wp2_with fail
    refine (HM.out _ ((Gr.refl _).alloc _)).mono ?_
    rintro e w1 ⟨rfl, G1⟩
    have HG1 : Hid (Gr w w1) := ((Gr.refl _).alloc _).trans G1
    clear G1 HM
    go_wp2_with fail
    go_ret
    exact ⟨ret_int HE.out.symm, HG1.out⟩
  | true =>
    have HW2 : Hid (wrong m hs ps = if 300 < pn then 1 else if ps.all (pickOk hn) = false then 3 else 0) := by unfold Hid; rw [HWr.out, if_neg (by simp), PL.out, HL.out]
    clear HWr
    go_enter Tryd.func56, Tryd.ntmps56
    go_wp2_with fail
    refine (HM.out _ ((Gr.refl _).alloc _)).mono ?_
    rintro e w1 ⟨rfl, G1⟩
    have HG1 : Hid (Gr w w1) := ((Gr.refl _).alloc _).trans G1
    have HB : Hid (w1.heap[w.heap.size]? = some (.cells #[.slice ma mn mc, .slice ha hn hc] 34 (0, 0))) := (G1.block _ (by simp)).trans (heap_alloc_new w _)
    have hlt1 : w.heap.size < w1.heap.size := (Array.getElem?_eq_some_iff.1 HB.out).1
    clear G1 HM
    by_cases c3 : 300 < pn
    · have HE : Hid (wrong m hs ps = 1) := by unfold Hid; rw [HW2.out, if_pos c3]
      go_wp2_with fail
      go_ret
      exact ⟨ret_int HE.out.symm, HG1.out⟩
    · have HW3 : Hid (wrong m hs ps = if ps.all (pickOk hn) = false then 3 else 0) := by unfold Hid; rw [HW2.out, if_neg c3]
      clear HW2
      by_cases p0 : pn = 0
      · subst p0
        have HE : Hid (wrong m hs ps = 0) := by
          have : ps = [] := List.eq_nil_of_length_eq_zero PL.out
          unfold Hid; rw [HW3.out, this]; rfl
        go_wp2_with fail
        go_loopw [15] (fun i wq => i = .int .i64 0 ∧ wq = w1) (fun _ _ => 0)
        case atStart => exact ⟨rfl, rfl⟩
        case round =>
          obtain ⟨rfl, rfl⟩ := hrel
          go_wp2
          go_ret
          exact ⟨ret_int HE.out.symm, HG1.out⟩
      · obtain ⟨b', o', rfl, hb', hcell'⟩ := HP.out.spot (by omega)
        have HC : Hid (∀ i p, ps[i]? = some p → w1.cell? ⟨b', o' + i * 2, none⟩ = some (.int .i64 p.1) ∧ w1.cell? ⟨b', o' + i * 2 + 1, none⟩ = some (.int .i64 p.2)) := fun i p hp => ⟨(HG1.out.cell _ (by exact hb')).trans (hcell' i p hp).1, (HG1.out.cell _ (by exact hb')).trans (hcell' i p hp).2⟩
        have hb1 : b' < w1.heap.size := Nat.lt_of_lt_of_le hb' HG1.out.size
        clear hcell' HP
        go_wp2_with fail
        go_loopw [15] (fun i wq => ∃ j : Nat, j ≤ pn ∧ i = .int .i64 j ∧ (ps.take j).all (pickOk hn) = true ∧ Gr w1 wq) (fun i _ => pn - (intOf i).toNat)
        case atStart => exact ⟨0, Nat.zero_le _, rfl, rfl, Gr.refl _⟩
        case round =>
          obtain ⟨j, hj, rfl, hall, G⟩ := hrel
          have HA : Hid ((ps.take j).all (pickOk hn) = true) := hall
          have HG : Hid (Gr w1 wr) := G
          have hbr : b' < wr.heap.size := Nat.lt_of_lt_of_le hb1 G.size
          have hwr : w.heap.size < wr.heap.size := Nat.lt_of_lt_of_le hlt1 G.size
          have k1 : wr.cell? ⟨w.heap.size, 1, none⟩ = some (.slice ha hn hc) := (G.cell _ (by exact hlt1)).trans (cell_of_row _ _ _ _ _ _ HB.out)
          clear hall G
          by_cases hlt2 : j < pn
          · obtain ⟨p, hp⟩ : ∃ p, ps[j]? = some p := ⟨_, List.getElem?_eq_getElem (by rw [PL.out]; exact hlt2)⟩
            have q0 : wr.cell? ⟨b', o' + j * 2, none⟩ = some (.int .i64 p.1) := (HG.out.cell _ (by exact hb1)).trans (HC.out j p hp).1
            have q1 : wr.cell? ⟨b', o' + j * 2 + 1, none⟩ = some (.int .i64 p.2) := (HG.out.cell _ (by exact hb1)).trans (HC.out j p hp).2
            have HE : Hid (¬ (0 ≤ p.1 ∧ p.1 < hn ∧ 0 ≤ p.2 ∧ p.2 ≤ 400) → wrong m hs ps = 3) := fun hno => by rw [HW3.out, if_pos (all_false hp (by unfold pickOk; exact decide_eq_false hno))]
            have HN : Hid ((0 ≤ p.1 ∧ p.1 < hn ∧ 0 ≤ p.2 ∧ p.2 ≤ 400) → (ps.take (j + 1)).all (pickOk hn) = true) := fun hy => by
              rw [all_take _ ps j p hp, HA.out, show pickOk hn p = true by unfold pickOk; exact decide_eq_true hy]; rfl
            clear hp
            obtain ⟨x, y⟩ := p
            simp only at *
            have hc : x < 0 ∨ (¬ x < 0 ∧ (hn : Int) ≤ x) ∨ (¬ x < 0 ∧ ¬ (hn : Int) ≤ x ∧ y < 0) ∨ (¬ x < 0 ∧ ¬ (hn : Int) ≤ x ∧ ¬ y < 0 ∧ 400 < y) ∨ (¬ x < 0 ∧ ¬ (hn : Int) ≤ x ∧ ¬ y < 0 ∧ ¬ 400 < y) := by omega
            rcases hc with h1 | ⟨h1, h2⟩ | ⟨h1, h2, h3⟩ | ⟨h1, h2, h3, h4⟩ | ⟨h1, h2, h3, h4⟩
            · go_wp2
              go_ret
              exact ⟨ret_int (HE.out (by omega)).symm, HG1.out.trans (HG.out.alloc _)⟩
            · go_wp2
              go_ret
              exact ⟨ret_int (HE.out (by omega)).symm, HG1.out.trans (HG.out.alloc _)⟩
            · go_wp2
              go_ret
              exact ⟨ret_int (HE.out (by omega)).symm, HG1.out.trans (HG.out.alloc _)⟩
            · go_wp2
              go_ret
              exact ⟨ret_int (HE.out (by omega)).symm, HG1.out.trans (HG.out.alloc _)⟩
            · go_wp2
              go_roundw
              case rel => exact ⟨j + 1, by omega, by go_num, HN.out (by omega), HG.out.alloc _⟩
              case measure => simp [intOf]; omega
          · have HE : Hid (wrong m hs ps = 0) := by
              have e : (ps.take j).all (pickOk hn) = true := HA.out
              rw [show j = pn by omega, ← PL.out, List.take_length] at e
              unfold Hid; rw [HW3.out, e]; rfl
            go_wp2
            go_ret
            exact ⟨ret_int HE.out.symm, HG1.out.trans HG.out⟩

theorem owns_at {base e sz : Nat} {v : Value} {xs : List Value} (h : w.ownsRow base e sz v n xs) (hn : 1 ≤ n) : ∃ g cap, v = .slice (some ⟨g, 0, none⟩) n cap ∧ base ≤ g := by
  obtain ⟨_, h⟩ := h
  rcases h with ⟨_, h0⟩ | ⟨g, cap, cur, hv, hb, _⟩
  · omega
  · exact ⟨g, cap, hv, hb⟩
theorem infoH : (Tryd.prog.info? 70).map (fun i => (i.zero, i.size, i.bytes)) = some (some (.agg (hA h0)), 37, 160) := by kernel_rfl
set_option maxHeartbeats 1000000 in
set_option maxRecDepth 100000 in
/-- slices.Clone, of harts. -/
theorem HClone_any {ad : Addr} (cap : Nat) (H : Hs w (some ad) n hs) (hn1 : 1 ≤ n) (hn : n ≤ 4) :
    Calls Tryd.prog 37 #[.slice (some ad) n cap] w fun e w' => ∃ g c, e = .returned (.slice (some ⟨g, 0, none⟩) n c) ∧ w.heap.size ≤ g ∧ HRow w' g hs ∧ Gr w w' := by
  obtain ⟨i0, hi, hz0, hz1, hz2⟩ := info_parts infoH
  have HH : Hid _ := H
  have HL : Hid _ := H.len
  have HO : Hid _ := H.ok
  have he : ∀ w : World, (binOp .eql 32 (.slice (some ad) n cap) (.slice none 0 0)).run Tryd.prog w = .ok (.bool false) w := fun _ => by kernel_rfl
  clear H
  go_enter Tryd.func37, Tryd.ntmps37
  go_wp2_with (at_builtin; refine wpList_append_own _ rfl (.tmp 5) (.tmp 6) 32 rfl w.heap.size 70 i0 (.agg (hA h0)) 37 160 Tryd.underlying32 hi hz0 hz1 hz2 rfl (by decide) _ 0 [] rfl (World.ownsRow_made w #[] 0 (Nat.le_refl _) (by decide) rfl) ad n cap (hC hs) rfl (by rw [hC_len HO.out, HL.out]) (HH.out.of ((Gr.refl _).alloc _)).src (hC_one hs) (by unfold maxLen; omega) (by omega) (by simp) ?_; intro v' w1 hown hgrow _; have HOw : Hid (w1.ownsRow w.heap.size 70 37 v' n (hC hs)) := (by unfold Hid; simpa using hown); have HG : Hid (Gr w w1) := ((Gr.refl _).alloc _).grown hgrow (fun k e => Nat.le_of_eq (Option.some.inj e)); clear hown hgrow)
  obtain ⟨g, c, rfl, hg⟩ := owns_at HOw.out hn1
  have HR : Hid (HRow w1 g hs) := HRow.own HO.out HOw.out
  clear HOw
  go_ret
  exact ⟨g, c, rfl, hg, HR.out, HG.out⟩
end Go.Proofs.YtdiofidmlgliiaaDoor.Mc
/-
  A board of package machine, as cells of memory; what NewBoard answers.
-/
namespace Go.Proofs.YtdiofidmlgliiaaDoor.Mc
open Go.ChangeShapes Go.WideShapes Go.ChangeAt Go.RowKit Mm Hh Hc
set_option linter.unusedVariables false
set_option linter.unusedSimpArgs false

variable {ty : Nat} {rs : List Value}
theorem HRow.of {w w' : World} {g : Nat} {hs : List Hv} (r : HRow w g hs) (G : Gr w w') : HRow w' g hs := by
  obtain ⟨rest, e⟩ := r.row
  exact ⟨r.ok, rest, (G.block _ (gs e).1).trans e⟩
theorem own_gr {w w' : World} {base : Nat} {v : Value} {l : List UInt8} (h : Own w base v l) (G : Gr w w') : Own w' base v l :=
  h.to fun k o f e => G.block _ (gs e).1
/-- A board at the beginning of block g, which is of type ty (the cells behind the board: rs): its memory M, its harts in block gh, what came out O. -/
structure Bw (ty : Nat) (rs : List Value) (w : World) (base g : Nat) (M : Value) (gh hc : Nat) (O : Value) (s : Sh) : Prop where
  t1 : ty ≠ 5
  t2 : ty ≠ 59
  t3 : ty ≠ 70
  bg : base ≤ g
  blk : w.heap[g]? = some (.cells (M :: .slice (some ⟨gh, 0, none⟩) s.hs.length hc :: O :: .int .i64 s.steps :: rs).toArray ty (0, 0))
  mem : Own w 0 M s.m
  bh : base ≤ gh
  row : HRow w gh s.hs
  out : w.ownsRow base 59 1 O s.out.length (s.out.map (Value.int .u32))
def Bd (ty : Nat) (rs : List Value) (w : World) (base g : Nat) (s : Sh) : Prop := ∃ M gh hc O, Bw ty rs w base g M gh hc O s
theorem Bw.of {w w' : World} {base g : Nat} {M : Value} {gh hc : Nat} {O : Value} {s : Sh} (B : Bw ty rs w base g M gh hc O s) (G : Gr w w') : Bw ty rs w' base g M gh hc O s :=
  ⟨B.t1, B.t2, B.t3, B.bg, (G.block _ (gs B.blk).1).trans B.blk, own_gr B.mem G, B.bh, B.row.of G, owns_to B.out fun k o f e => G.block _ (gs e).1⟩
theorem Bd.of {w w' : World} {base g : Nat} {s : Sh} (B : Bd ty rs w base g s) (G : Gr w w') : Bd ty rs w' base g s := by
  obtain ⟨M, gh, hc, O, B⟩ := B
  exact ⟨M, gh, hc, O, B.of G⟩
section
variable {w : World} {base g gh hc : Nat} {M O : Value} {s : Sh}
theorem Bw.lt (B : Bw ty rs w base g M gh hc O s) : g < w.heap.size := (gs B.blk).1
theorem Bw.c0 (B : Bw ty rs w base g M gh hc O s) : w.cell? ⟨g, 0, none⟩ = some M := (cr B.blk).trans (by simp)
theorem Bw.c1 (B : Bw ty rs w base g M gh hc O s) : w.cell? ⟨g, 1, none⟩ = some (.slice (some ⟨gh, 0, none⟩) s.hs.length hc) := (cr B.blk).trans (by simp)
theorem Bw.c2 (B : Bw ty rs w base g M gh hc O s) : w.cell? ⟨g, 2, none⟩ = some O := (cr B.blk).trans (by simp)
theorem Bw.c3 (B : Bw ty rs w base g M gh hc O s) : w.cell? ⟨g, 3, none⟩ = some (.int .i64 s.steps) := (cr B.blk).trans (by simp)
theorem Bw.rest (B : Bw ty rs w base g M gh hc O s) (i : Nat) : w.cell? ⟨g, 4 + i, none⟩ = rs[i]? := (cr B.blk).trans (by rw [List.getElem?_toArray, Nat.add_comm]; rfl)
end

theorem one_bd (a b c : Option Addr) (n1 n2 n3 c1 c2 c3 : Nat) (x : Int) : (#[.slice a n1 c1, .slice b n2 c2, .slice c n3 c3, .int .i64 x] : Array Value).all (·.oneCell') = true := by
  refine all_oneCell_toArray ?_
  intro v hv
  simp only [List.mem_cons, List.not_mem_nil, or_false] at hv
  rcases hv with rfl | rfl | rfl | rfl <;> rfl
theorem iB : (Tryd.prog.info? 72).map (·.size) = some 4 := by kernel_rfl
set_option maxHeartbeats 1000000 in
set_option maxRecDepth 100000 in
theorem NewBoard_no {ma ha pa : Option Addr} {hn pn : Nat} (mc hc pc : Nat) {m : List UInt8} {hs : List Hv} {ps : List (Int × Int)} {w : World} (mn : Nat) (hmn : m.length = mn) (H : Hs w ha hn hs) (P : Ps w pa pn ps) (b1 : mn ≤ 140737488351232) (b2 : hn ≤ 140737488351232) (b3 : pn ≤ 140737488351232) (hno : ¬ wrong m hs ps = 0) :
    Calls Tryd.prog 28 #[.agg #[.slice ma mn mc, .slice ha hn hc], .slice pa pn pc] w fun e w' => e = .returned (.tuple #[.agg #[.slice none 0 0, .slice none 0 0, .slice none 0 0, .int .i64 0], .int .i64 (wrong m hs ps)]) ∧ Gr w w' := by
  have HM : Hid (∀ W : World, Gr w W → Calls Tryd.prog 56 #[.agg #[.slice ma mn mc, .slice ha hn hc], .slice pa pn pc] W fun e w' => e = .returned (.int .i64 (wrong m hs ps)) ∧ Gr W w') := fun W G => pwrong_any mc hc pc mn hmn (H.of G) (P.of G) b1 b2 b3
  clear H P hmn
  generalize wrong m hs ps = E at *
  have hE : (E != 0) = true := by simpa using hno
  clear hno
  go_enter Tryd.func28, Tryd.ntmps28
  go_wp2_with fail
  refine (HM.out _ (((Gr.refl _).alloc _).alloc _)).mono ?_
  rintro e w1 ⟨rfl, G1⟩
  have HG1 : Hid (Gr w w1) := (((Gr.refl _).alloc _).alloc _).trans G1
  have HB : Hid (w1.heap[w.heap.size + 1]? = some (.cells #[.slice none 0 0, .slice none 0 0, .slice none 0 0, .int .i64 0] 72 (0, 0))) := (two_of G1).2
  clear G1 HM
  have HI : Hid ((Tryd.prog.info? 72).map (·.size) = some 4) := iB
  go_wp2_with (refine wpList_store_row rfl 72 _ _ rfl (w.heap.size + 1) #[.slice none 0 0, .slice none 0 0, .slice none 0 0, .int .i64 0] rfl rfl 72 _ ?hb HI.out rfl (by kernel_rfl) ?_; (case hb => exact HB.out))
  refine bodyPost_ret (v := .tuple #[.agg _, .int .i64 E]) (Hr.results_cell_tmp' Tryd.results28 _ _ _ _ _ (0, 0) _ _ rfl rfl (setRow_heap _ _ _ _ _ (0, 0) HB.out) Tryd.underlying72 rfl HI.out) rfl ⟨rfl, ?_⟩
  exact gr_setRow HG1.out (Nat.le_succ _) _
theorem clone_own {ma : Option Addr} {mc : Nat} {m : List UInt8} {w : World} {mn : Nat} (M : Mem w ma mn m) (hcap : ma = none → mc = 0) (hn : mn ≤ 4096) :
    Calls Tryd.prog 36 #[.slice ma mn mc] w fun e w' => ∃ a c, e = .returned (.slice a mn c) ∧ Own w' 0 (.slice a mn c) m ∧ Gr w w' :=
  (Clone_any M hcap (by omega)).mono fun e w' ⟨v, e1, e2, e3⟩ => by
    obtain ⟨a, c, rfl, _⟩ := e2.mem
    have := M.len
    rw [this] at e1 e2
    exact ⟨a, c, e1, e2.base (w' := w') (Nat.zero_le _), e3⟩
set_option maxHeartbeats 1000000 in
set_option maxRecDepth 100000 in
theorem NewBoard_yes {ma ha pa : Option Addr} {hn pn : Nat} (mc hc pc : Nat) {m : List UInt8} {hs : List Hv} {ps : List (Int × Int)} {w : World} (mn : Nat) (M : Mem w ma mn m) (hcap : ma = none → mc = 0) (H : Hs w ha hn hs) (P : Ps w pa pn ps) (b3 : pn ≤ 140737488351232) (hy : wrong m hs ps = 0) (b1 : mn ≤ 4096) (b2 : 1 ≤ hn) (b4 : hn ≤ 4) :
    Calls Tryd.prog 28 #[.agg #[.slice ma mn mc, .slice ha hn hc], .slice pa pn pc] w fun e w' => ∃ a c gh hc, e = .returned (.tuple #[.agg #[.slice a mn c, .slice (some ⟨gh, 0, none⟩) hn hc, .slice none 0 0, .int .i64 0], .int .i64 0]) ∧ Own w' 0 (.slice a mn c) m ∧ w.heap.size ≤ gh ∧ HRow w' gh hs ∧ Gr w w' := by
  have HM : Hid (∀ W : World, Gr w W → Calls Tryd.prog 56 #[.agg #[.slice ma mn mc, .slice ha hn hc], .slice pa pn pc] W fun e w' => e = .returned (.int .i64 0) ∧ Gr W w') := fun W G => by rw [← hy]; exact pwrong_any mc hc pc mn M.len (H.of G) (P.of G) (by omega) (by omega) b3
  obtain ⟨b, o, rfl, _, _⟩ := H.spot (by omega)
  have C1 : Hid (∀ W : World, Gr w W → _) := fun W G => clone_own (M.of G) hcap b1
  have C2 : Hid (∀ W : World, Gr w W → Calls Tryd.prog 37 #[.slice (some ⟨b, o, none⟩) hn hc] W fun e w' => ∃ g c, e = .returned (.slice (some ⟨g, 0, none⟩) hn c) ∧ w.heap.size ≤ g ∧ HRow w' g hs ∧ Gr W w') := fun W G => (HClone_any hc (H.of G) b2 b4).mono fun e w' ⟨g, c, e1, e2, e3⟩ => ⟨g, c, e1, Nat.le_trans G.size e2, e3⟩
  clear H P hy M hcap
  go_enter Tryd.func28, Tryd.ntmps28
  go_wp2_with fail
  refine (HM.out _ (((Gr.refl _).alloc _).alloc _)).mono ?_
  rintro e w1 ⟨rfl, G1⟩
  have HG1 : Hid (Gr w w1) := (((Gr.refl _).alloc _).alloc _).trans G1
  have HA : Hid (w1.heap[w.heap.size]? = some (.cells #[.slice ma mn mc, .slice (some ⟨b, o, none⟩) hn hc] 34 (0, 0))) := (two_of G1).1
  have HB : Hid (w1.heap[w.heap.size + 1]? = some (.cells #[.slice none 0 0, .slice none 0 0, .slice none 0 0, .int .i64 0] 72 (0, 0))) := (two_of G1).2
  have k0 := cr0 HA.out
  have k1 := cr1 HA.out
  clear G1 HM
  go_wp2_with fail
  have hlt : w.heap.size < w1.heap.size := (gs HA.out).1
  have hne : w1.heap.size ≠ w.heap.size := by omega
  go_region_held3 (fun W => W.cell? ⟨w.heap.size, 0, none⟩ = some (.slice ma mn mc) ∧ W.cell? ⟨w.heap.size, 1, none⟩ = some (.slice (some ⟨b, o, none⟩) hn hc)) (first | go_keep | (constructor <;> assumption)) (first
    | (go_at_call 36; refine (C1.out _ (by repeat (first | exact HG1.out | refine Gr.drew ?_ | refine Gr.alloc ?_ _))).mono ?_; rintro e w2 ⟨a2, c2, rfl, O2, G2⟩; have HO2 : Hid (Own w2 0 (.slice a2 mn c2) m) := O2; have HG2 : Hid (Gr w1 w2) := Gr.trans (by repeat (first | exact Gr.refl w1 | refine Gr.drew ?_ | refine Gr.alloc ?_ _)) G2; have HC2 : Hid (w2.heap[w1.heap.size]? = some (.cells #[.slice none 0 0, .slice none 0 0, .slice none 0 0, .int .i64 0] 72 (0, 0))) := Hr.heap_of_gr ((Gr.refl (w1.alloc _)).drew.trans G2) (heap_alloc_new w1 _); have q0 : w2.cell? ⟨w.heap.size, 0, none⟩ = some (.slice ma mn mc) := cr (Hr.heap_of_gr HG2.out HA.out); have q1 : w2.cell? ⟨w.heap.size, 1, none⟩ = some (.slice (some ⟨b, o, none⟩) hn hc) := cr (Hr.heap_of_gr HG2.out HA.out); clear G2 O2 k0 k1 C1)
    | (go_at_call 37; refine (C2.out _ (by repeat (first | exact HG1.out.trans HG2.out | refine Gr.drew ?_ | refine Gr.alloc ?_ _))).mono ?_; rintro e w3 ⟨g3, c3, rfl, hg3, R3, G3⟩; have HR3 : Hid (HRow w3 g3 hs) := R3; have HO3 : Hid (Own w3 0 (.slice a2 mn c2) m) := own_gr HO2.out G3; have HG3 : Hid (Gr w1 w3) := HG2.out.trans G3; have HC3 : Hid (w3.heap[w1.heap.size]? = some (.cells #[.slice none 0 0, .slice none 0 0, .slice none 0 0, .int .i64 0] 72 (0, 0))) := Hr.heap_of_gr G3 HC2.out; have q3 : w3.cell? ⟨w.heap.size, 0, none⟩ = some (.slice ma mn mc) := cr (Hr.heap_of_gr HG3.out HA.out); have q4 : w3.cell? ⟨w.heap.size, 1, none⟩ = some (.slice (some ⟨b, o, none⟩) hn hc) := cr (Hr.heap_of_gr HG3.out HA.out); have z0 : w3.cell? ⟨w1.heap.size, 0, none⟩ = some (.slice none 0 0) := cr HC3.out; have z1 : w3.cell? ⟨w1.heap.size, 1, none⟩ = some (.slice none 0 0) := cr HC3.out; have z2 : w3.cell? ⟨w1.heap.size, 2, none⟩ = some (.slice none 0 0) := cr HC3.out; have z3 : w3.cell? ⟨w1.heap.size, 3, none⟩ = some (.int .i64 0) := cr HC3.out; have f0 : w3.frozen? ⟨w1.heap.size, 0, none⟩ = false := fzr HC3.out; have f1 : w3.frozen? ⟨w1.heap.size, 1, none⟩ = false := fzr HC3.out; clear G3 R3 C2 q0 q1 HO2 HG2 HC2))
  have hlt2 : w.heap.size + 1 < w1.heap.size := (gs HB.out).1
  have HB3 : Hid (w3.heap[w.heap.size + 1]? = some (.cells #[.slice none 0 0, .slice none 0 0, .slice none 0 0, .int .i64 0] 72 (0, 0))) := Hr.heap_of_gr HG3.out HB.out
  have hne2 : w1.heap.size ≠ w.heap.size + 1 := by omega
  have HI : Hid _ := iB
  go_wp2_with (refine wpList_store_row rfl 72 _ _ rfl (w.heap.size + 1) #[.slice a2 mn c2, .slice (some ⟨g3, 0, none⟩) hn c3, .slice none 0 0, .int .i64 0] rfl rfl 72 #[.slice none 0 0, .slice none 0 0, .slice none 0 0, .int .i64 0] ?hb HI.out rfl (one_bd _ _ _ _ _ _ _ _ _ _) ?_; (case hb => (rw [hso (by exact hne2.symm), hso (by exact hne2.symm)]; exact HB3.out)))
  refine bodyPost_ret (v := .tuple #[.agg _, .int .i64 0]) (Hr.results_cell_tmp' Tryd.results28 _ _ _ _ _ (0, 0) _ _ rfl rfl (srh (by rw [hso (by exact hne2.symm), hso (by exact hne2.symm)]; exact HB3.out)) Tryd.underlying72 rfl HI.out) rfl ?_
  have ne : ∀ (t : Nat) (k : Nat) (q : Array Value) (f : Nat × Nat), t ≠ 72 → w3.heap[k]? = some (.cells q t f) → (((w3.setCell ⟨w1.heap.size, 0, none⟩ (.slice a2 mn c2)).setCell ⟨w1.heap.size, 1, none⟩ (.slice (some ⟨g3, 0, none⟩) hn c3)).setRow (w.heap.size + 1) #[.slice a2 mn c2, .slice (some ⟨g3, 0, none⟩) hn c3, .slice none 0 0, .int .i64 0]).heap[k]? = w3.heap[k]? := fun t k q f ht hk => by
    have n1 : k ≠ w1.heap.size := ne_of_types hk HC3.out ht
    have n2 : k ≠ w.heap.size + 1 := ne_of_types hk HB3.out ht
    rw [sro n2, hso (by exact n1), hso (by exact n1)]
  refine ⟨a2, c2, g3, c3, rfl, HO3.out.to fun k q f hk => ne _ k q f (by decide) hk, hg3, ?_, ?_⟩
  · obtain ⟨rest, hr⟩ := HR3.out.row
    exact ⟨HR3.out.ok, rest, (ne _ _ _ _ (by decide) hr).trans hr⟩
  · exact gr_setRow (((HG1.out.trans HG3.out).setCell (Nat.le_of_lt hlt) _).setCell (Nat.le_of_lt hlt) _) (Nat.le_succ _) _
end Go.Proofs.YtdiofidmlgliiaaDoor.Mc
/-
  What a hart of a board did, as the cells of a struct (api.Did); what Board's Work answers.
-/
namespace Go.Proofs.YtdiofidmlgliiaaDoor.Mc
open Go.ChangeShapes Go.WideShapes Go.ChangeAt Go.RowKit Mm Hh Hc
set_option linter.unusedVariables false
set_option linter.unusedSimpArgs false

/-- What a hart did: the hart, the memory, what came out, steps, where was stored (as slices). -/
structure Qv where
  h : Hv
  m : Value
  out : Value
  n : Int
  sto : Value
def qA (d : Qv) : Array Value := (hL d.h ++ [d.m, d.out, .int .i64 d.n, d.sto]).toArray
theorem qA_size {d : Qv} (o : d.h.Ok) : (qA d).size = 41 := by simp [qA, hL_len o]
theorem qA_get {d : Qv} (o : d.h.Ok) {i : Nat} (hi : i < 37) : (qA d)[i]? = (hL d.h)[i]? := by
  have := hL_len o
  unfold qA
  rw [List.getElem?_toArray, List.getElem?_append_left (by omega)]
theorem qA_fld {d : Qv} (o : d.h.Ok) (j : Nat) : (qA d)[37 + j]? = [d.m, d.out, .int .i64 d.n, d.sto][j]? := by
  unfold qA
  rw [List.getElem?_toArray, List.getElem?_append_right (by simp [hL_len o])]
  simp [hL_len o]
theorem one_qA {d : Qv} (h1 : d.m.oneCell' = true) (h2 : d.out.oneCell' = true) (h3 : d.sto.oneCell' = true) : (qA d).all (·.oneCell') = true := by
  refine all_oneCell_toArray ?_
  intro v hv
  simp only [hL, List.mem_append, List.mem_map, List.mem_cons, List.not_mem_nil, or_false] at hv
  rcases hv with (⟨n, _, rfl⟩ | rfl | rfl | rfl | rfl | rfl) | rfl | rfl | rfl | rfl <;> first | rfl | assumption
theorem iQ : (Tryd.prog.info? 101).map (·.size) = some 41 := by kernel_rfl
theorem zQ : (Tryd.prog.info? 101).bind (·.zero) = some (.agg (qA ⟨h0, nilS, nilS, 0, nilS⟩)) := by kernel_rfl
theorem fold_one (off : Nat) (v : Value) (cs : Array Value) : ((#[v] : Array Value).zipIdx.foldl (fun cs (x : Value × Nat) => cs.setIfInBounds (off + x.2) x.1) cs) = cs.setIfInBounds off v := rfl
theorem fold_hart {h : Hv} (o : h.Ok) (d : Qv) (od : d.h.Ok) : ((hA h).zipIdx.foldl (fun cs (x : Value × Nat) => cs.setIfInBounds (0 + x.2) x.1) (qA d)) = qA { d with h := h } := by
  have a1 := fold_set 0 (hA h) (qA d)
  have s1 := hA_size o
  have s2 := qA_size od
  apply Array.ext_getElem?
  intro k
  rw [a1.2 k]
  by_cases hk : k < 37
  · rw [if_pos (by omega), qA_get (d := { d with h := h }) o hk]
    simp [hA]
  · rw [if_neg (by omega)]
    obtain ⟨j, rfl⟩ : ∃ j, k = 37 + j := ⟨k - 37, by omega⟩
    rw [qA_fld od, qA_fld (d := { d with h := h }) o]
theorem qA_set {d : Qv} (o : d.h.Ok) (i : Nat) (v : Value) : (qA d).setIfInBounds (37 + i) v = (hL d.h ++ ([d.m, d.out, .int .i64 d.n, d.sto].set i v)).toArray := by
  have := hL_len o
  unfold qA
  simp only [List.setIfInBounds_toArray]
  rw [List.set_append_right _ _ (by omega), this, Nat.add_sub_cancel_left]
theorem built_five {P : Program} {t : TypeId} {it : TypeInfo} {z : Value} {fs : Array Field} {ps : List (Nat × Nat)} (hi : P.info? t = some it) (hu : P.underlying t = some (.struct fs)) (hz : it.zero = some z)
    (hp : fs.toList.mapM (fun f => (P.info? f.type).map fun i => (f.offset, i.size)) = some ps) {n : Nat} (p0 : ps.toArray[0]? = some (0, n)) (p1 : ps.toArray[1]? = some (n, 1)) (p2 : ps.toArray[2]? = some (n + 1, 1)) (p3 : ps.toArray[3]? = some (n + 2, 1)) (p4 : ps.toArray[4]? = some (n + 3, 1))
    (A : Array Value) (hA : A.size = n) (v1 v2 v3 v4 : Value) (h1 : v1.cells = #[v1]) (h2 : v2.cells = #[v2]) (h3 : v3.cells = #[v3]) (h4 : v4.cells = #[v4]) (hs : z.cells.size = n + 4) :
    P.built t [(0, .agg A), (1, v1), (2, v2), (3, v3), (4, v4)] = some ((((((A.zipIdx.foldl (fun cs (x : Value × Nat) => cs.setIfInBounds (0 + x.2) x.1) z.cells).setIfInBounds n v1).setIfInBounds (n + 1) v2).setIfInBounds (n + 2) v3).setIfInBounds (n + 3) v4)) := by
  unfold Program.built
  simp only [hi, hu, hz, hp]
  have a1 := (fold_set 0 A z.cells).1
  unfold Instr.fill
  simp only [p0]
  have e : (Value.agg A).cells = A := rfl
  rw [e, if_neg (by simp [hA]; omega)]
  unfold Instr.fill
  simp only [p1]
  rw [h1, if_neg (by rw [a1]; simp; omega), fold_one]
  unfold Instr.fill
  simp only [p2]
  rw [h2, if_neg (by rw [Array.size_setIfInBounds, a1]; simp; omega), fold_one]
  unfold Instr.fill
  simp only [p3]
  rw [h3, if_neg (by rw [Array.size_setIfInBounds, Array.size_setIfInBounds, a1]; simp; omega), fold_one]
  unfold Instr.fill
  simp only [p4]
  rw [h4, if_neg (by rw [Array.size_setIfInBounds, Array.size_setIfInBounds, Array.size_setIfInBounds, a1]; simp; omega), fold_one]
  unfold Instr.fill
  rfl
theorem built_did5 {h : Hv} (o : h.Ok) (m out : Value) (n : Int) (sto : Value) (h1 : m.cells = #[m]) (h2 : out.cells = #[out]) (h3 : sto.cells = #[sto]) :
    Tryd.prog.built 101 [(0, .agg (hA h)), (1, m), (2, out), (3, .int .i64 n), (4, sto)] = some (qA ⟨h, m, out, n, sto⟩) := by
  obtain ⟨it, hi, hz⟩ := info_zero zQ
  have z0 := h0_ok
  rw [built_five (n := 37) hi Tryd.underlying101 hz (ps := [(0, 37), (37, 1), (38, 1), (39, 1), (40, 1)]) (by kernel_rfl) rfl rfl rfl rfl rfl (hA h) (hA_size o) m out (.int .i64 n) sto h1 h2 rfl h3 (by show (qA _).size = 41; exact qA_size z0)]
  have c0 : (Value.agg (qA ⟨h0, nilS, nilS, 0, nilS⟩)).cells = qA ⟨h0, nilS, nilS, 0, nilS⟩ := rfl
  rw [c0, fold_hart o _ z0]
  have l := hL_len o
  unfold qA
  simp only [List.setIfInBounds_toArray, List.set_append_right _ _ (show (hL h).length ≤ 37 by omega), List.set_append_right _ _ (show (hL h).length ≤ 38 by omega), List.set_append_right _ _ (show (hL h).length ≤ 39 by omega), List.set_append_right _ _ (show (hL h).length ≤ 40 by omega), l]
  rfl
end Go.Proofs.YtdiofidmlgliiaaDoor.Mc
/-
  What Board's Work answers: what its hart does in so many steps ('wk').
-/
namespace Go.Proofs.YtdiofidmlgliiaaDoor.Mc
open Go.ChangeShapes Go.WideShapes Go.ChangeAt Go.RowKit Mm Hh Hc
set_option linter.unusedVariables false
set_option linter.unusedSimpArgs false

variable {ty : Nat} {rs : List Value}
theorem yieldsIf_build {P : Program} {ops : Array Oper} {S : World → Prop} {o : Oper} {a : Act} (hw : Region.wanted o (yielded ops a.tmps) = true) (t : TypeId) (parts : Array (Nat × Operand)) (ho : o.op = .build t parts)
    (cells : Array Value) (hf : P.built t (parts.map fun (i, x) => (i, a.eval x)).toList = some cells) : YieldsIf P ops S o (.agg cells) a :=
  .inl ⟨hw, fun w _ => by
    unfold execOp
    simp only [ho, Sem.run_bind, run_build w t _ _ hf, Result.andThen_ok]
    rfl⟩
/-- In world w, what hart d did is x. -/
structure Dq (w : World) (base : Nat) (d : Qv) (x : Wk) : Prop where
  hh : d.h = x.h
  n : d.n = x.n
  mem : Own w 0 d.m x.m
  out : w.ownsRow base 59 1 d.out x.out.length (x.out.map (Value.int .u32))
  sto : w.ownsRow base 143 2 d.sto x.sto.length (rgs x.sto)
theorem owns_cells {w : World} {base e sz n : Nat} {v : Value} {xs : List Value} (h : w.ownsRow base e sz v n xs) : v.cells = #[v] ∧ v.oneCell' = true ∧ ∃ a c, v = .slice a n c := by
  rcases h.2 with ⟨rfl, rfl⟩ | ⟨g, cap, _, rfl, _⟩
  · exact ⟨rfl, rfl, none, 0, rfl⟩
  · exact ⟨rfl, rfl, _, cap, rfl⟩
theorem heap3_new (w : World) (a b c : Obj) : (((w.alloc a).alloc b).alloc c).drew.heap[w.heap.size + 2]? = some c := by
  have := heap_alloc_new ((w.alloc a).alloc b) c
  have e : ((w.alloc a).alloc b).heap.size = w.heap.size + 2 := by simp
  rw [e] at this
  exact this
theorem heap3_gr (w : World) (a b c : Obj) : Gr w (((w.alloc a).alloc b).alloc c).drew := Gr.drew (Gr.alloc (Gr.alloc (Gr.alloc (Gr.refl _) _) _) _)
theorem heap3_old (w : World) (A : Array Value) (t : Nat) (b c : Obj) : (((w.alloc (.cells A t)).alloc b).alloc c).drew.heap[w.heap.size]? = some (.cells A t (0, 0)) := Hr.heap_of_gr (Gr.drew (Gr.alloc (Gr.refl _) _)) (heap_alloc2_old w _ _)
theorem heap3_mid (w : World) (a : Obj) (A : Array Value) (t : Nat) (c : Obj) : (((w.alloc a).alloc (.cells A t)).alloc c).drew.heap[w.heap.size + 1]? = some (.cells A t (0, 0)) := Hr.heap_of_gr (Gr.drew (Gr.alloc (Gr.refl _) _)) (heap_alloc2_new w _ _)
theorem Gr.toBelow {w w' : World} (h : Below w.heap.size w w') : Gr w w' := h
set_option maxHeartbeats 2000000 in
set_option maxRecDepth 100000 in
theorem Work_gen {w : World} {base g gh hc : Nat} {M O : Value} {s : Sh} (B : Bw ty rs w base g M gh hc O s) {c mn : Nat} (F : Fit s c mn) (hmn : mn ≤ 4096) (T : TT w w.heap.size) {k n : Nat} (hk : k < c) (hc4 : c ≤ 4) (hn : n ≤ 400)
    (ST : ∀ (x : Wk) (W : World), WOk x mn → x.n < n → (x.n = 0 → x = w0 s k) → In W w.heap.size (w.heap.size + 2) x.h x.m x.out x.sto → TT W w.heap.size → Calls Tryd.prog 74 #[.pointer (some ⟨w.heap.size + 2, 0, none⟩)] W fun e w' => e = .returned (.tuple #[]) ∧ In w' w.heap.size (w.heap.size + 2) (stp x.h x.m).h (stp x.h x.m).m (x.out ++ (stp x.h x.m).out) (x.sto ++ (stp x.h x.m).sto) ∧ Fr w.heap.size W w') :
    Calls Tryd.prog 41 #[.pointer (some ⟨g, 0, none⟩), .agg #[.int .i64 k, .int .i64 n]] w fun e w' => ∃ d, e = .returned (.agg (qA d)) ∧ d.h.Ok ∧ Dq w' w.heap.size d (wk (w0 s k) n) ∧ Gr w w' := by
  have hl : k < s.hs.length := by rw [F.len]; exact hk
  have eh : s.hs[k]? = some (at' s k) := by unfold at'; rw [List.getElem?_eq_getElem hl]; simp [List.getD, hl]
  have W0 := w0_ok F hk
  have okh : (at' s k).Ok := W0.ok
  have RG : Hid (w.rangeAt gh (k * 37) (hL (at' s k))) := B.row.range eh
  obtain ⟨ma, mc, rfl, _⟩ := B.mem.mem
  have hml : s.m.length = mn := F.mem
  have HOM : Hid (Own w 0 (.slice ma mn mc) s.m) := by unfold Hid; rw [← hml]; exact B.mem
  have HB0 : Hid (w.cell? ⟨g, 0, none⟩ = some (.slice ma mn mc)) := by have := B.c0; rw [hml] at this; exact this
  have HB1 : Hid (w.cell? ⟨g, 1, none⟩ = some (.slice (some ⟨gh, 0, none⟩) c hc)) := by have := B.c1; rw [F.len] at this; exact this
  have HT : Hid (TT w w.heap.size) := T
  have HSt : Hid _ := ST
  clear ST
  have hgl : g < w.heap.size := B.lt
  have hghl : gh < w.heap.size := by obtain ⟨_, e⟩ := B.row.row; exact (Array.getElem?_eq_some_iff.1 e).1
  have HX : Hid (w0 s k = ⟨at' s k, s.m, [], [], 0⟩) := rfl
  have HW0 : Hid (WOk (w0 s k) mn) := W0
  have HLL : Hid ((hL (at' s k)).length = 37) := hL_len okh
  have HOK : Hid (at' s k).Ok := okh
  clear B F T hml W0 okh eh hl
  generalize at' s k = h at *
  generalize w0 s k = x0 at *
  generalize s.m = l at *
  have HBu : Hid (Tryd.prog.built 146 [(0, .agg (hL h).toArray), (1, .slice ma mn mc)] = some (cA ⟨h, .slice ma mn mc, nilS, nilS⟩)) := built_core HOK.out _ rfl
  have HZc : Hid ((cA ⟨h, .slice ma mn mc, nilS, nilS⟩).size = 40) := cA_size HOK.out
  have HOc : Hid ((cA ⟨h, .slice ma mn mc, nilS, nilS⟩).all (·.oneCell') = true) := one_cA _ rfl rfl rfl
  have HSG : Hid (∀ W : World, Gr w W → W.heap[w.heap.size]? = some (.cells #[.int .i64 k, .int .i64 n] 56 (0, 0)) → W.cell? ⟨g, 1, none⟩ = some (.slice (some ⟨gh, 0, none⟩) c hc) ∧ W.cell? ⟨w.heap.size, 0, none⟩ = some (.int .i64 k) ∧ W.rangeAt gh (k * 37) (hL h) ∧ W.cell? ⟨g, 0, none⟩ = some (.slice ma mn mc)) := fun W G e =>
    ⟨(G.cell _ (by exact hgl)).trans HB1.out, cell_of_row _ _ _ _ _ _ e, fun j v hv => (G.cell _ (by exact hghl)).trans (RG.out j v hv), (G.cell _ (by exact hgl)).trans HB0.out⟩
  go_enter Tryd.func41, Tryd.ntmps41
  go_wp2_with fail
  refine wp_region_held_drew (S := fun W => W.cell? ⟨g, 1, none⟩ = some (.slice (some ⟨gh, 0, none⟩) c hc) ∧ W.cell? ⟨w.heap.size, 0, none⟩ = some (.int .i64 k) ∧ W.rangeAt gh (k * 37) (hL h) ∧ W.cell? ⟨g, 0, none⟩ = some (.slice ma mn mc)) (by kernel_rfl) ?_ (fun hHeld => ?_)
  · exact HSG.out _ (((Gr.refl _).alloc _).alloc _).drew (Hr.heap_of_gr (Gr.refl _).drew (heap_alloc2_old w _ _))
  have HS0 : Hid _ := hHeld
  clear hHeld
  refine wpAnyH_take (i := 0) (v := .pointer (some ⟨g, 0, none⟩)) rfl (by kernel_rfl) (by kernel_rfl) (by kernel_rfl) (fun _ _ _ h => h) (Or.inl ⟨by rfl, fun W hW => by obtain ⟨q0, q1, q2, q3⟩ := hW; go_simp⟩) HS0.out ?_
  simp only [Act.put, List.setIfInBounds_toArray, List.set_cons_zero, List.set_cons_succ]
  refine wpAnyH_take (i := 1) (v := .pointer (some ⟨g, 0, none⟩)) rfl (by kernel_rfl) (by kernel_rfl) (by kernel_rfl) (fun _ _ _ h => h) (Or.inl ⟨by rfl, fun W hW => by obtain ⟨q0, q1, q2, q3⟩ := hW; go_simp⟩) HS0.out ?_
  simp only [Act.put, List.setIfInBounds_toArray, List.set_cons_zero, List.set_cons_succ]
  refine wpAnyH_take (i := 2) (v := .pointer (some ⟨g, 0, none⟩)) rfl (by kernel_rfl) (by kernel_rfl) (by kernel_rfl) (fun _ _ _ h => h) (Or.inl ⟨by rfl, fun W hW => by obtain ⟨q0, q1, q2, q3⟩ := hW; go_simp⟩) HS0.out ?_
  simp only [Act.put, List.setIfInBounds_toArray, List.set_cons_zero, List.set_cons_succ]
  refine wpAnyH_take (i := 3) (v := .pointer (some ⟨g, 0, none⟩)) rfl (by kernel_rfl) (by kernel_rfl) (by kernel_rfl) (fun _ _ _ h => h) (Or.inl ⟨by rfl, fun W hW => by obtain ⟨q0, q1, q2, q3⟩ := hW; go_simp⟩) HS0.out ?_
  simp only [Act.put, List.setIfInBounds_toArray, List.set_cons_zero, List.set_cons_succ]
  refine wpAnyH_take (i := 4) (v := .pointer (some ⟨g, 1, none⟩)) rfl (by kernel_rfl) (by kernel_rfl) (by kernel_rfl) (fun _ _ _ h => h) (Or.inl ⟨by rfl, fun W hW => by obtain ⟨q0, q1, q2, q3⟩ := hW; go_simp⟩) HS0.out ?_
  simp only [Act.put, List.setIfInBounds_toArray, List.set_cons_zero, List.set_cons_succ]
  refine wpAnyH_take (i := 5) (v := .slice (some ⟨gh, 0, none⟩) c hc) rfl (by kernel_rfl) (by kernel_rfl) (by kernel_rfl) (fun _ _ _ h => h) (Or.inl ⟨by rfl, fun W hW => by obtain ⟨q0, q1, q2, q3⟩ := hW; go_simp⟩) HS0.out ?_
  simp only [Act.put, List.setIfInBounds_toArray, List.set_cons_zero, List.set_cons_succ]
  refine wpAnyH_take (i := 6) (v := .pointer (some ⟨w.heap.size, 0, none⟩)) rfl (by kernel_rfl) (by kernel_rfl) (by kernel_rfl) (fun _ _ _ h => h) (Or.inl ⟨by rfl, fun W hW => by obtain ⟨q0, q1, q2, q3⟩ := hW; go_simp⟩) HS0.out ?_
  simp only [Act.put, List.setIfInBounds_toArray, List.set_cons_zero, List.set_cons_succ]
  refine wpAnyH_take (i := 7) (v := .int .i64 k) rfl (by kernel_rfl) (by kernel_rfl) (by kernel_rfl) (fun _ _ _ h => h) (Or.inl ⟨by rfl, fun W hW => by obtain ⟨q0, q1, q2, q3⟩ := hW; go_simp⟩) HS0.out ?_
  simp only [Act.put, List.setIfInBounds_toArray, List.set_cons_zero, List.set_cons_succ]
  refine wpAnyH_take (i := 8) (v := .pointer (some ⟨gh, k * 37, none⟩)) rfl (by kernel_rfl) (by kernel_rfl) (by kernel_rfl) (fun _ _ _ h => h) (Or.inl ⟨by rfl, fun W hW => by obtain ⟨q0, q1, q2, q3⟩ := hW; go_simp⟩) HS0.out ?_
  simp only [Act.put, List.setIfInBounds_toArray, List.set_cons_zero, List.set_cons_succ]
  refine wpAnyH_take (i := 9) (v := .agg (hL h).toArray) rfl (by kernel_rfl) (by kernel_rfl) (by kernel_rfl) (fun _ _ _ h => h) ?hy HS0.out ?_
  case hy => exact yieldsIf_load_mid (by rfl) 70 (.tmp 15) rfl gh (k * 37) (by simp [Act.eval]) (hL h) _ (fun W hW => hW.2.2.1) Tryd.underlying70 rfl (by rw [HLL.out]; exact iH)
  simp only [Act.put, List.setIfInBounds_toArray, List.set_cons_zero, List.set_cons_succ]
  refine wpAnyH_take (i := 10) (v := .pointer (some ⟨g, 0, none⟩)) rfl (by kernel_rfl) (by kernel_rfl) (by kernel_rfl) (fun _ _ _ h => h) (Or.inl ⟨by rfl, fun W hW => by obtain ⟨q0, q1, q2, q3⟩ := hW; go_simp⟩) HS0.out ?_
  simp only [Act.put, List.setIfInBounds_toArray, List.set_cons_zero, List.set_cons_succ]
  refine wpAnyH_take (i := 11) (v := .pointer (some ⟨g, 0, none⟩)) rfl (by kernel_rfl) (by kernel_rfl) (by kernel_rfl) (fun _ _ _ h => h) (Or.inl ⟨by rfl, fun W hW => by obtain ⟨q0, q1, q2, q3⟩ := hW; go_simp⟩) HS0.out ?_
  simp only [Act.put, List.setIfInBounds_toArray, List.set_cons_zero, List.set_cons_succ]
  refine wpAnyH_take (i := 12) (v := .pointer (some ⟨g, 0, none⟩)) rfl (by kernel_rfl) (by kernel_rfl) (by kernel_rfl) (fun _ _ _ h => h) (Or.inl ⟨by rfl, fun W hW => by obtain ⟨q0, q1, q2, q3⟩ := hW; go_simp⟩) HS0.out ?_
  simp only [Act.put, List.setIfInBounds_toArray, List.set_cons_zero, List.set_cons_succ]
  refine wpAnyH_take (i := 13) (v := .pointer (some ⟨g, 0, none⟩)) rfl (by kernel_rfl) (by kernel_rfl) (by kernel_rfl) (fun _ _ _ h => h) (Or.inl ⟨by rfl, fun W hW => by obtain ⟨q0, q1, q2, q3⟩ := hW; go_simp⟩) HS0.out ?_
  simp only [Act.put, List.setIfInBounds_toArray, List.set_cons_zero, List.set_cons_succ]
  refine wpAnyH_take (i := 14) (v := .pointer (some ⟨g, 0, none⟩)) rfl (by kernel_rfl) (by kernel_rfl) (by kernel_rfl) (fun _ _ _ h => h) (Or.inl ⟨by rfl, fun W hW => by obtain ⟨q0, q1, q2, q3⟩ := hW; go_simp⟩) HS0.out ?_
  simp only [Act.put, List.setIfInBounds_toArray, List.set_cons_zero, List.set_cons_succ]
  refine wpAnyH_take (i := 15) (v := .slice ma mn mc) rfl (by kernel_rfl) (by kernel_rfl) (by kernel_rfl) (fun _ _ _ h => h) (Or.inl ⟨by rfl, fun W hW => by obtain ⟨q0, q1, q2, q3⟩ := hW; go_simp⟩) HS0.out ?_
  simp only [Act.put, List.setIfInBounds_toArray, List.set_cons_zero, List.set_cons_succ]
  refine wpAnyH_take (i := 16) (v := .agg (cA ⟨h, .slice ma mn mc, nilS, nilS⟩)) rfl (by kernel_rfl) (by kernel_rfl) (by kernel_rfl) (fun _ _ _ h => h) ?hy HS0.out ?_
  case hy => exact yieldsIf_build (by rfl) 146 _ rfl _ (by simpa [Act.eval] using HBu.out)
  simp only [Act.put, List.setIfInBounds_toArray, List.set_cons_zero, List.set_cons_succ]
  refine wpAnyH_ready (rs := [17]) (by kernel_rfl) (by simp) ?_
  refine AllReadyH.cons rfl (fun K hK => ?_) AllReadyH.nil
  go_simp
  refine hK.out _ _ ?_ (fun _ => ?_)
  · exact HSG.out _ (heap3_gr _ _ _ _) (heap3_old _ _ _ _ _)
  clear hK K HS0
  refine wpAnyH_ready (rs := [18]) (by kernel_rfl) (by simp) ?_
  refine AllReadyH.cons rfl (fun K hK => ?_) AllReadyH.nil
  refine step_store rfl 146 (.tmp 5) (.tmp 23) rfl (w.heap.size + 2) (cA ⟨h, .slice ma mn mc, nilS, nilS⟩) (by simp [Act.eval]) (by simp [Act.eval]) 146 (cA ⟨h0, nilS, nilS, nilS⟩) (heap3_new _ _ _ _) (by rw [HZc.out]; exact iC) (by rw [HZc.out]; rfl) HOc.out ?_
  refine hK.out _ _ ?_ (fun _ => ?_)
  · refine HSG.out _ (gr_setRow (heap3_gr _ _ _ _) (by omega) _) ?_
    rw [setRow_other _ _ _ _ (by omega)]
    exact heap3_old _ _ _ _ _
  clear hK K
  refine wpAnyH_done (by kernel_rfl) ?_ _
  have HIn : Hid (∀ o1 o2 : Obj, Inv ((((w.alloc o1).alloc o2).alloc (.cells (cA ⟨h0, nilS, nilS, nilS⟩) 146)).drew.setRow (w.heap.size + 2) (cA ⟨h, .slice ma mn mc, nilS, nilS⟩)) w.heap.size (w.heap.size + 2) ⟨h, .slice ma mn mc, nilS, nilS⟩ l [] []) := fun o1 o2 => by
    refine ⟨HOK.out, by omega, setRow_heap _ _ _ _ _ (0, 0) (heap3_new _ _ _ _), HOM.out.to fun q ob f hq => ?_, World.ownsRow_nil _ _ _ _, World.ownsRow_nil _ _ _ _⟩
    have := (Array.getElem?_eq_some_iff.1 hq).1
    rw [setRow_other _ _ _ _ (by omega)]
    exact (heap3_gr w o1 o2 _).block q this
  have HG4 : Hid (∀ o1 o2 o3 : Obj, Gr w ((((w.alloc o1).alloc o2).alloc o3).drew.setRow (w.heap.size + 2) (cA ⟨h, .slice ma mn mc, nilS, nilS⟩))) := fun _ _ _ => gr_setRow (heap3_gr _ _ _ _) (by omega) _
  go_wp2_with fail
  go_loopw [6] (fun i wr => ∃ x : Wk, i = .int .i64 x.n ∧ x.n ≤ n ∧ wk x0 n = wk x (n - x.n) ∧ WOk x mn ∧ (x.n = 0 → x = x0) ∧ In wr w.heap.size (w.heap.size + 2) x.h x.m x.out x.sto ∧ Fr w.heap.size w wr ∧ wr.heap[w.heap.size]? = some (.cells #[.int .i64 k, .int .i64 n] 56 (0, 0)) ∧ ∃ Z : Array Value, Z.size = 41 ∧ wr.heap[w.heap.size + 1]? = some (.cells Z 101 (0, 0))) (fun i _ => n - (intOf i).toNat)
  case atStart =>
    refine ⟨x0, by rw [HX.out]; rfl, by rw [HX.out]; exact Nat.zero_le _, by rw [HX.out]; rfl, HW0.out, fun _ => rfl, ?_, Fr.ofGr (HG4.out _ _ _) (Nat.le_refl _), ?_, qA ⟨h0, nilS, nilS, 0, nilS⟩, qA_size (d := ⟨h0, nilS, nilS, 0, nilS⟩) h0_ok, ?_⟩
    · rw [HX.out]; exact (HIn.out _ _).inn
    · rw [setRow_other _ _ _ _ (by omega)]; exact heap3_old _ _ _ _ _
    · rw [setRow_other _ _ _ _ (by omega)]; exact heap3_mid _ _ _ _ _
  case round =>
    obtain ⟨x, rfl, hxn, hxw, ok, hx0, I, Fq, P4, Z, hZ, D4⟩ := hrel
    have HX0 : Hid _ := hx0
    have HI : Hid (In wr w.heap.size (w.heap.size + 2) x.h x.m x.out x.sto) := I
    have HF : Hid (Fr w.heap.size w wr) := Fq
    have HPk : Hid (wr.heap[w.heap.size]? = some (.cells #[.int .i64 k, .int .i64 n] 56 (0, 0))) := P4
    have HD4 : Hid (wr.heap[w.heap.size + 1]? = some (.cells Z 101 (0, 0))) := D4
    have HZ : Hid (Z.size = 41) := hZ
    have HXW : Hid (wk x0 n = wk x (n - x.n)) := hxw
    have HWO : Hid (WOk x mn) := ok
    have k1 : wr.cell? ⟨w.heap.size, 1, none⟩ = some (.int .i64 n) := cell_of_row _ _ _ _ _ _ P4
    have k35 : wr.cell? ⟨w.heap.size + 2, 35, none⟩ = some (.int .i64 x.h.state) := by
      obtain ⟨cv, e, J⟩ := HI.out
      rw [← e]; exact (J.hcell (by omega)).trans (hL_fld J.ok 3)
    clear hxw ok hx0 I Fq P4 D4 hZ HIn HG4 HSG HB0 HB1 HOM RG
    by_cases hgo : x.n < n ∧ x.h.state = 0
    · obtain ⟨hlt, hst⟩ := hgo
      have hst2 : Hid (x.h.state = 0) := hst
      rw [hst] at k35
      clear hst
      have HST : Hid (Calls Tryd.prog 74 #[.pointer (some ⟨w.heap.size + 2, 0, none⟩)] wr fun e w' => e = .returned (.tuple #[]) ∧ In w' w.heap.size (w.heap.size + 2) (stp x.h x.m).h (stp x.h x.m).m (x.out ++ (stp x.h x.m).out) (x.sto ++ (stp x.h x.m).sto) ∧ Fr w.heap.size wr w') := HSt.out x wr HWO.out hlt HX0.out HI.out (HT.out.of HF.out)
      go_wp2_with fail
      refine Calls.mono HST.out ?_
      rintro e w1 ⟨rfl, I1, F1⟩
      have HI1 : Hid (In w1 w.heap.size (w.heap.size + 2) (wk1 x).h (wk1 x).m (wk1 x).out (wk1 x).sto) := I1
      have HF1 : Hid (Fr w.heap.size w w1) := HF.out.trans F1
      have HP1 : Hid (w1.heap[w.heap.size]? = some (.cells #[.int .i64 k, .int .i64 n] 56 (0, 0))) := (F1.keep _ _ _ _ HPk.out (by decide) (by decide) (by decide)).trans HPk.out
      have HD1 : Hid (w1.heap[w.heap.size + 1]? = some (.cells Z 101 (0, 0))) := (F1.keep _ _ _ _ HD4.out (by decide) (by decide) (by decide)).trans HD4.out
      have HX1 : Hid (wk x0 n = wk (wk1 x) (n - (wk1 x).n)) := by
        unfold Hid
        rw [HXW.out, show n - x.n = (n - (x.n + 1)) + 1 by omega, wk_go hst2.out]
        rfl
      clear I1 F1 HST HI HF HPk HD4 k1 k35 HXW
      go_wp2_with fail
      go_roundw
      case rel => exact ⟨wk1 x, by show Value.int .i64 _ = .int .i64 ((x.n + 1 : Nat) : Int); go_num, by show x.n + 1 ≤ n; omega, HX1.out, wk1_ok HWO.out hst2.out, fun e => absurd e (Nat.succ_ne_zero _), HI1.out, HF1.out, HP1.out, Z, HZ.out, HD1.out⟩
      case measure => simp [intOf]; omega
    · have HE : Hid (wk x0 n = x) := by
        unfold Hid
        rw [HXW.out]
        by_cases h1 : x.n < n
        · exact wk_stop (fun e => hgo ⟨h1, e⟩) _
        · rw [show n - x.n = 0 by omega]; rfl
      have hc2 : ¬ x.n < n ∨ (x.n < n ∧ (x.h.state == 0) = false) := by
        by_cases h1 : x.n < n
        · exact .inr ⟨h1, by simpa using fun e => hgo ⟨h1, e⟩⟩
        · exact .inl h1
      clear hgo HXW
      obtain ⟨cv, hcv, J⟩ := HI.out
      have HOKx : Hid x.h.Ok := HWO.out.ok
      have HLx : Hid ((hL x.h).length = 37) := hL_len HOKx.out
      have HRx : Hid (wr.rangeAt (w.heap.size + 2) 0 (hL x.h)) := fun j v hv => by
        have hj : j < 37 := by have := (List.getElem?_eq_some_iff.1 hv).1; rwa [HLx.out] at this
        rw [Nat.zero_add, J.hcell hj, hcv]; exact hv
      have k37 : wr.cell? ⟨w.heap.size + 2, 37, none⟩ = some cv.m := J.fcell 0
      have k38 : wr.cell? ⟨w.heap.size + 2, 38, none⟩ = some cv.out := J.fcell 1
      have k39 : wr.cell? ⟨w.heap.size + 2, 39, none⟩ = some cv.sto := J.fcell 2
      have HQ : Hid (Dq wr w.heap.size ⟨x.h, cv.m, cv.out, x.n, cv.sto⟩ x) := ⟨rfl, rfl, J.mem, J.out, J.sto⟩
      have HBd : Hid (Tryd.prog.built 101 [(0, .agg (hL x.h).toArray), (1, cv.m), (2, cv.out), (3, .int .i64 x.n), (4, cv.sto)] = some (qA ⟨x.h, cv.m, cv.out, x.n, cv.sto⟩)) := built_did5 HOKx.out _ _ _ _ HQ.out.mem.cells.1 (owns_cells HQ.out.out).1 (owns_cells HQ.out.sto).1
      have HOd : Hid ((qA ⟨x.h, cv.m, cv.out, x.n, cv.sto⟩).all (·.oneCell') = true) := one_qA HQ.out.mem.cells.2 (owns_cells HQ.out.out).2.1 (owns_cells HQ.out.sto).2.1
      have HSd : Hid ((qA ⟨x.h, cv.m, cv.out, x.n, cv.sto⟩).size = 41) := qA_size HOKx.out
      clear J hcv HI
      generalize hQA : qA ⟨x.h, cv.m, cv.out, x.n, cv.sto⟩ = QA at *
      have HQA : Hid (qA ⟨x.h, cv.m, cv.out, x.n, cv.sto⟩ = QA) := hQA
      clear hQA
      rcases hc2 with h1 | ⟨h1, h2⟩
      all_goals
        go_wp2_with (first
          | (refine wpList_load_mid rfl 70 _ rfl (w.heap.size + 2) 0 rfl (hL x.h) _ ?r1 Tryd.underlying70 rfl (by rw [HLx.out]; exact iH) ?_; (case r1 => exact HRx.out))
          | (refine wpList_buildTo rfl 101 _ rfl _ rfl QA (by have := HBd.out; simp [Act.eval, Act.put]; exact this) ?_)
          | (refine wpList_store_row rfl 101 _ _ rfl (w.heap.size + 1) QA rfl rfl 101 Z ?r2 (by rw [HSd.out]; exact iQ) (by rw [HSd.out, HZ.out]) HOd.out ?_; (case r2 => exact HD4.out)))
        refine bodyPost_ret (v := .agg QA) (results_cell_row rfl _ _ _ _ _ (0, 0) _ rfl (setRow_heap _ _ _ _ _ (0, 0) HD4.out) Tryd.underlying101 rfl (by rw [HSd.out]; exact iQ)) rfl ⟨⟨x.h, cv.m, cv.out, x.n, cv.sto⟩, by rw [HQA.out], HOKx.out, ?_, ?_⟩
        · rw [HE.out]
          refine ⟨rfl, rfl, ?_, ?_, ?_⟩
          · exact HQ.out.mem.to fun q ob f hq => setRow_other _ _ _ _ (ne_of_types hq HD4.out (by decide))
          · exact owns_to HQ.out.out fun q ob f hq => setRow_other _ _ _ _ (ne_of_types hq HD4.out (by decide))
          · exact owns_to HQ.out.sto fun q ob f hq => setRow_other _ _ _ _ (ne_of_types hq HD4.out (by decide))
        · exact gr_setRow HF.out.below (Nat.le_succ _) _
theorem Work_any {w : World} {base g gh hc : Nat} {M O : Value} {s : Sh} (B : Bw ty rs w base g M gh hc O s) {c mn : Nat} (F : Fit s c mn) (hmn : mn ≤ 4096) (T : TT w w.heap.size) {k n : Nat} (hk : k < c) (hc4 : c ≤ 4) (hn : n ≤ 400) :
    Calls Tryd.prog 41 #[.pointer (some ⟨g, 0, none⟩), .agg #[.int .i64 k, .int .i64 n]] w fun e w' => ∃ d, e = .returned (.agg (qA d)) ∧ d.h.Ok ∧ Dq w' w.heap.size d (wk (w0 s k) n) ∧ Gr w w' := 
  Work_gen B F hmn T hk hc4 hn fun x W ok hx _ I T => Step_any I T (by rw [ok.mem]; omega) (by have := ok.sto; omega) (by have := ok.out; omega)
/-- One step, where no instruction stands at the hart's PC. -/
theorem Work_trap {w : World} {base g gh hc : Nat} {M O : Value} {s : Sh} (B : Bw ty rs w base g M gh hc O s) {c mn : Nat} (F : Fit s c mn) (hmn : mn ≤ 4096) (T : TT w w.heap.size) {k : Nat} (hk : k < c) (hc4 : c ≤ 4) (hf : ¬ Bk.ftC s.m (at' s k).pc = 0) :
    Calls Tryd.prog 41 #[.pointer (some ⟨g, 0, none⟩), .agg #[.int .i64 k, .int .i64 1]] w fun e w' => ∃ d, e = .returned (.agg (qA d)) ∧ d.h.Ok ∧ Dq w' w.heap.size d (wk (w0 s k) 1) ∧ Gr w w' := 
  Work_gen (n := 1) B F hmn T hk hc4 (by omega) fun x W ok hx h0 I T => Step_trap I T (by rw [ok.mem]; omega) (by rw [h0 (by omega)]; exact hf)
end Go.Proofs.YtdiofidmlgliiaaDoor.Mc
