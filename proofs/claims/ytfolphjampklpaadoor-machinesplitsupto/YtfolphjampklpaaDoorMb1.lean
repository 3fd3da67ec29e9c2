/-
  What package machine's meets, May and wrong answer, of every machine and script.
-/
import Derived.Test.YtfolphjampklpaaDoorMq
import Derived.Test.YtfolphjampklpaaDoorMr
import Derived.Test.YtfolphjampklpaaDoorRef5a
import Derived.Test.YtfolphjampklpaaDoorHm1
import Derived.Test.YtfolphjampklpaaDoorHw
namespace Go.Proofs.YtfolphjampklpaaDoor.Mc
open Go.ChangeShapes Go.WideShapes Go.ChangeAt Go.RowKit Mm Hh Hc
set_option linter.unusedVariables false
set_option linter.unusedSimpArgs false

theorem ret_bool {a b : Bool} (h : a = b) : Ending.returned (.bool a) = .returned (.bool b) := by rw [h]
set_option maxHeartbeats 1000000 in
set_option maxRecDepth 100000 in
theorem meets_any {x f t : Int} (hx0 : 0 ≤ x) (hx : x < 4294967296) (hf0 : 0 ≤ f) (hf : f < 4294967296) (w : World) :
    Calls Tryd.prog 78 #[.int .u32 x, .agg #[.int .u32 f, .int .u32 t]] w fun e w' => e = .returned (.bool (decide (x < t) && decide (f < x + 4))) ∧ Gr w w' := by
  by_cases h1 : x < t
  · have HE : Hid ((decide (x < t) && decide (f < x + 4)) = decide (f < x + 4)) := by unfold Hid; simp [h1]
    rw [HE.out]
    go_enter Tryd.func78, Tryd.ntmps78
    go_wp2
    go_ret
    exact ⟨rfl, (Gr.refl _).alloc _⟩
  · have HE : Hid ((decide (x < t) && decide (f < x + 4)) = false) := by unfold Hid; simp [h1]
    rw [HE.out]
    go_enter Tryd.func78, Tryd.ntmps78
    go_wp2
    go_ret
    exact ⟨rfl, (Gr.refl _).alloc _⟩

/-- A machine of mn bytes and the harts hs may be. -/
def mayM (mn : Nat) (hs : List Hv) : Bool := decide (mn ≤ 4096 ∧ 1 ≤ hs.length ∧ hs.length ≤ 4) && hs.all may
theorem wrong_may (m : List UInt8) (hs : List Hv) (ps : List (Int × Int)) : wrong m hs ps = if mayM m.length hs = false then 2 else if 300 < ps.length then 1 else if ps.all (pickOk hs.length) = false then 3 else 0 := by
  unfold wrong mayM
  by_cases h : 4096 < m.length ∨ hs.length < 1 ∨ 4 < hs.length
  · rw [if_pos h, if_pos]; rw [decide_eq_false (by omega)]; rfl
  · rw [if_neg h, decide_eq_true (show m.length ≤ 4096 ∧ 1 ≤ hs.length ∧ hs.length ≤ 4 by omega)]; simp only [Bool.true_and]

set_option maxHeartbeats 1000000 in
set_option maxRecDepth 100000 in
theorem MMay_any {ma ha : Option Addr} {hn : Nat} (mc hc : Nat) {hs : List Hv} {w : World} (mn : Nat) (H : Hs w ha hn hs) (b1 : mn ≤ 140737488351232) (b2 : hn ≤ 140737488351232) :
    Calls Tryd.prog 77 #[.agg #[.slice ma mn mc, .slice ha hn hc]] w fun e w' => e = .returned (.bool (mayM mn hs)) ∧ Gr w w' := by
  have hl := H.len
  by_cases c1 : 4096 < mn ∨ hn < 1 ∨ 4 < hn
  · have HE : Hid (mayM mn hs = false) := by unfold Hid mayM; rw [decide_eq_false (by omega)]; rfl
    clear H
    have c2 : 4096 < mn ∨ (¬ 4096 < mn ∧ hn < 1) ∨ (¬ 4096 < mn ∧ ¬ hn < 1 ∧ 4 < hn) := by omega
    clear c1
    rcases c2 with c | ⟨c, d⟩ | ⟨c, d, e⟩
    all_goals
      go_enter Tryd.func77, Tryd.ntmps77
      go_wp2
      go_ret
      exact ⟨ret_bool HE.out.symm, (Gr.refl _).alloc _⟩
  · have n1 : ¬ 4096 < mn := by omega
    have n2 : ¬ hn < 1 := by omega
    have n3 : ¬ 4 < hn := by omega
    obtain ⟨b, o, rfl, hb, hcell⟩ := H.spot (by omega)
    have HW : Hid (mayM mn hs = hs.all may) := by unfold Hid mayM; rw [decide_eq_true (by omega)]; rfl
    have HK : Hid (∀ i h, hs[i]? = some h → w.rangeAt b (o + i * 37) (hL h)) := hcell
    have HO : Hid (∀ h ∈ hs, h.Ok) := H.ok
    have HL : Hid (hs.length = hn) := hl
    clear hcell H c1 hl
    go_enter Tryd.func77, Tryd.ntmps77
    go_wp2
    go_loopw [24] (fun i wr => ∃ k : Nat, k ≤ hn ∧ i = .int .i64 k ∧ (hs.take k).all may = true ∧ Gr w wr) (fun i _ => hn - (intOf i).toNat)
    case atStart => exact ⟨0, Nat.zero_le _, rfl, rfl, (Gr.refl _).alloc _⟩
    case round =>
      obtain ⟨k, hk, rfl, hall, G⟩ := hrel
      have HG : Hid (Gr w wr) := G
      have HA : Hid ((hs.take k).all may = true) := hall
      clear G hall
      by_cases hlt : k < hn
      · obtain ⟨h, hh⟩ : ∃ h, hs[k]? = some h := ⟨_, List.getElem?_eq_getElem (by rw [HL.out]; exact hlt)⟩
        have HH : Hid (hs[k]? = some h) := hh
        have okh := HO.out h (List.mem_of_getElem? hh)
        have RG : Hid (wr.rangeAt b (o + k * 37) (hL h)) := fun j v hv => (HG.out.cell _ (by exact hb)).trans (HK.out k h hh j v hv)
        have HLL : Hid ((hL h).length = 37) := hL_len okh
        have HSZ : Hid ((hL h).toArray.size = 37) := by unfold Hid; simp [HLL.out]
        have HONE : Hid ((hL h).toArray.all (·.oneCell') = true) := one_hA h
        have M1 : Hid (∀ W : World, Calls Tryd.prog 14 #[.agg (hL h).toArray] W fun e w' => e = .returned (.bool (may h)) ∧ Gr W w') := fun W => may_any okh W
        have HW4 : Hid (∀ Y : Array Value, Gr wr ((wr.alloc (.cells Y 34)).setRow wr.heap.size (hL h).toArray)) := fun Y => gr_setRow ((Gr.refl _).alloc _) (Nat.le_refl _) _
        have HX4 : Hid (∀ Y : Array Value, ((wr.alloc (.cells Y 34)).setRow wr.heap.size (hL h).toArray).heap[wr.heap.size]? = some (.cells (hL h).toArray 34 (0, 0))) := fun Y => setRow_heap _ _ _ _ _ (0, 0) (heap_alloc_new wr _)
        clear hh okh
        cases hmb : may h with
        | true =>
          have M2 : Hid (∀ W : World, Calls Tryd.prog 14 #[.agg (hL h).toArray] W fun e w' => e = .returned (.bool true) ∧ Gr W w') := fun W => by have := M1.out W; rwa [hmb] at this
          have HN : Hid ((hs.take (k + 1)).all may = true) := by unfold Hid; rw [all_take may hs k h HH.out, HA.out, hmb]; rfl
          clear M1 hmb
          go_wp2_with (first
            | (refine wpList_load_mid rfl 34 _ rfl b (o + k * 37) rfl (hL h) _ ?r1 Tryd.underlying34 rfl (by rw [HLL.out]; exact iH) ?_; (case r1 => exact RG.out))
            | (refine wpList_store_row rfl 34 _ _ rfl wr.heap.size (hL h).toArray rfl rfl 34 _ (heap_alloc_new wr _) (by rw [HSZ.out]; exact iH) (by rw [HSZ.out]; rfl) HONE.out ?_)
            | (refine wpList_load_row rfl 34 _ rfl wr.heap.size rfl 34 (hL h).toArray (0, 0) _ ?r2 Tryd.underlying34 rfl (by rw [HSZ.out]; exact iH) ?_; (case r2 => exact HX4.out _)))
          refine (M2.out _).mono ?_
          rintro e w1 ⟨rfl, G1⟩
          have HG1 : Hid (Gr w w1) := HG.out.trans ((HW4.out _).trans G1)
          clear G1 M2 HG RG HW4 HX4
          go_wp2_with fail
          go_roundw
          case rel => exact ⟨k + 1, by omega, by go_num, HN.out, HG1.out⟩
          case measure => simp [intOf]; omega
        | false =>
          have M2 : Hid (∀ W : World, Calls Tryd.prog 14 #[.agg (hL h).toArray] W fun e w' => e = .returned (.bool false) ∧ Gr W w') := fun W => by have := M1.out W; rwa [hmb] at this
          have HE : Hid (mayM mn hs = false) := by unfold Hid; rw [HW.out]; exact all_false HH.out hmb
          clear M1 hmb
          go_wp2_with (first
            | (refine wpList_load_mid rfl 34 _ rfl b (o + k * 37) rfl (hL h) _ ?r1 Tryd.underlying34 rfl (by rw [HLL.out]; exact iH) ?_; (case r1 => exact RG.out))
            | (refine wpList_store_row rfl 34 _ _ rfl wr.heap.size (hL h).toArray rfl rfl 34 _ (heap_alloc_new wr _) (by rw [HSZ.out]; exact iH) (by rw [HSZ.out]; rfl) HONE.out ?_)
            | (refine wpList_load_row rfl 34 _ rfl wr.heap.size rfl 34 (hL h).toArray (0, 0) _ ?r2 Tryd.underlying34 rfl (by rw [HSZ.out]; exact iH) ?_; (case r2 => exact HX4.out _)))
          refine (M2.out _).mono ?_
          rintro e w1 ⟨rfl, G1⟩
          have HG1 : Hid (Gr w w1) := HG.out.trans ((HW4.out _).trans G1)
          clear G1 M2 HG RG HW4 HX4
          go_wp2_with fail
          go_ret
          exact ⟨ret_bool HE.out.symm, HG1.out⟩
      · have HE : Hid (mayM mn hs = true) := by have := HA.out; rw [show k = hn by omega, ← HL.out, List.take_length] at this; unfold Hid; rw [HW.out]; exact this
        go_wp2_with fail
        go_ret
        exact ⟨ret_bool HE.out.symm, HG.out⟩
end Go.Proofs.YtfolphjampklpaaDoor.Mc
