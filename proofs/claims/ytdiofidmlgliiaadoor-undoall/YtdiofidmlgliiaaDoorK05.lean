/-
  Ub1, Ur: texts of ours that lie in one file.
-/
import Derived.Test.YtdiofidmlgliiaaDoorK03
import Derived.Test.YtdiofidmlgliiaaDoorK04
import Derived.Test.YtdiofidmlgliiaaDoorHw
/-
  What package undo's fit says: whether each Undo of a list can be one of a machine.
-/
namespace Go.Proofs.YtdiofidmlgliiaaDoor.Ud
open Go.ChangeShapes Go.WideShapes Go.ChangeAt Go.RowKit Mm Hh Hc Mc
set_option linter.unusedVariables false
set_option linter.unusedSimpArgs false

variable {w : World} {ma ha la : Option Addr} {mn mc hn hc ln lc : Nat} {us : List Uv} {u : Uv} {x : List Value}
theorem retB {a b : Bool} (h : a = b) : Ending.returned (.bool a) = .returned (.bool b) := by rw [h]
/-- There is a hart of that number. -/
theorem there_any (mb : Nat) (k1 : w.cell? ⟨mb, 1, none⟩ = some (.slice ha hn hc)) (hb : hn ≤ 140737488351232) (q : Int) :
    Calls Tryd.prog 70 #[.int .i64 q, .pointer (some ⟨mb, 0, none⟩)] w fun e w' => e = .returned (.bool (decide (0 ≤ q ∧ q < hn))) ∧ Gr w w' := by
  by_cases h0 : 0 ≤ q
  · by_cases h1 : q < hn
    · go_enter Tryd.func70, Tryd.ntmps70
      go_wp2
      go_ret
      exact ⟨retB (by simp [h0, h1]), Gr.refl _⟩
    · go_enter Tryd.func70, Tryd.ntmps70
      go_wp2
      go_ret
      exact ⟨retB (by simp [h1]), Gr.refl _⟩
  · go_enter Tryd.func70, Tryd.ntmps70
    go_wp2
    go_ret
    exact ⟨retB (by rw [decide_eq_false (show ¬ 0 ≤ q by omega)]; rfl), Gr.refl _⟩
set_option maxRecDepth 100000 in
/-- The bytes of an Undo end within the memory. -/
theorem inside_any (U : Uc w u x) (hb : mn ≤ 140737488351232) : Calls Tryd.prog 71 #[.slice ma mn mc, .agg x.toArray] w fun e w' => e = .returned (.bool (decide (u.fr + u.bs.length ≤ mn))) ∧ Gr w w' := by
  obtain ⟨ba, bn, bc, l1, l2, l3, rfl, o, _, _, M, _, b1, _⟩ := U
  have hl := M.len
  have f0 := o.f0
  have f1 := o.f1
  have k38 : (uL u (.slice ba bn bc) (.slice l1 l2 l3)).toArray[38]? = some (.int .u32 u.fr) := by rw [List.getElem?_toArray]; exact uL_fld o.was 0
  have k39 : (uL u (.slice ba bn bc) (.slice l1 l2 l3)).toArray[39]? = some (.slice ba bn bc) := by rw [List.getElem?_toArray]; exact uL_fld o.was 1
  have HR : Hid ((decide (u.fr + u.bs.length ≤ mn)) = decide (u.fr + (bn : Int) ≤ mn)) := by unfold Hid; rw [hl]
  clear M o hl
  generalize (uL u (.slice ba bn bc) (.slice l1 l2 l3)).toArray = X at *
  have q38 : (w.alloc (.cells X 86)).cell? ⟨w.heap.size, 38, none⟩ = some (.int .u32 u.fr) := (cr (heap_alloc_new w _)).trans k38
  have q39 : (w.alloc (.cells X 86)).cell? ⟨w.heap.size, 39, none⟩ = some (.slice ba bn bc) := (cr (heap_alloc_new w _)).trans k39
  clear k38 k39
  generalize u.fr = f at *
  have e1 : IntKind.u64.wrap f = f := by simp [IntKind.wrap, IntKind.bits, IntKind.signed]; omega
  have e2 : IntKind.u64.wrap (bn : Int) = bn := by simp [IntKind.wrap, IntKind.bits, IntKind.signed]; omega
  have e3 : IntKind.u64.wrap (f + (bn : Int)) = f + bn := by simp [IntKind.wrap, IntKind.bits, IntKind.signed]; omega
  have e4 : IntKind.u64.wrap (mn : Int) = mn := by simp [IntKind.wrap, IntKind.bits, IntKind.signed]; omega
  go_enter Tryd.func71, Tryd.ntmps71
  go_wp2
  go_ret
  exact ⟨retB HR.out.symm, (Gr.refl _).alloc _⟩

theorem all_no {α : Type} {f : α → Bool} {l : List α} {k : Nat} {y : α} (h : l[k]? = some y) (hx : f y = false) : l.all f = false := all_false h hx
set_option maxHeartbeats 4000000 in
set_option maxRecDepth 100000 in
theorem fit_any (U : Us w la ln us) (hb1 : mn ≤ 140737488351232) (hb2 : hn ≤ 140737488351232) (hb3 : ln ≤ 140737488351232) :
    Calls Tryd.prog 35 #[.agg #[.slice ma mn mc, .slice ha hn hc], .slice la ln lc] w fun e w' => e = .returned (.bool (us.all (fitU hn mn))) ∧ Gr w w' := by
  have HU : Hid (Us w la ln us) := U
  have HL : Hid (us.length = ln) := U.len
  have HC : Hid (∀ (q : Int) (W : World), Gr w W → W.heap[w.heap.size]? = some (.cells #[.slice ma mn mc, .slice ha hn hc] 34 (0, 0)) → Calls Tryd.prog 70 #[.int .i64 q, .pointer (some ⟨w.heap.size, 0, none⟩)] W fun e w' => e = .returned (.bool (decide (0 ≤ q ∧ q < hn))) ∧ Gr W w') := fun q W G e => there_any w.heap.size (cr1 e) hb2 q
  clear U
  go_enter Tryd.func35, Tryd.ntmps35
  go_wp2_with fail
  go_loopw [13] (fun i wr => ∃ j : Nat, j ≤ ln ∧ i = .int .i64 j ∧ (us.take j).all (fitU hn mn) = true ∧ Gr w wr ∧ wr.heap[w.heap.size]? = some (.cells #[.slice ma mn mc, .slice ha hn hc] 34 (0, 0))) (fun i _ => ln - (intOf i).toNat)
  case atStart => exact ⟨0, Nat.zero_le _, rfl, rfl, (Gr.refl _).alloc _, heap_alloc_new w _⟩
  case round =>
    obtain ⟨j, hj, rfl, hall, G, KM⟩ := hrel
    have HA : Hid ((us.take j).all (fitU hn mn) = true) := hall
    have HG : Hid (Gr w wr) := G
    have HM : Hid (wr.heap[w.heap.size]? = some (.cells #[.slice ma mn mc, .slice ha hn hc] 34 (0, 0))) := KM
    have hml : w.heap.size < wr.heap.size := (gs KM).1
    clear hall G KM
    by_cases hlt : j < ln
    · obtain ⟨u, hu⟩ : ∃ u, us[j]? = some u := ⟨_, List.getElem?_eq_getElem (by rw [HL.out]; exact hlt)⟩
      obtain ⟨b, o, rfl, hb, hc'⟩ := HU.out.spot (by omega)
      obtain ⟨x, Ux', hr⟩ := hc' j u hu
      have RG : Hid (wr.rangeAt b (o + j * 41) x) := rangeAt_of hr hb HG.out
      have HXL : Hid (x.length = 41) := Ux'.len
      have HXA : Hid (x.toArray.size = 41) := by unfold Hid; simp [HXL.out]
      have HX1 : Hid (x.toArray.all (·.oneCell') = true) := Ux'.one
      have HIn : Hid (∀ W : World, Gr w W → Calls Tryd.prog 71 #[.slice ma mn mc, .agg x.toArray] W fun e w' => e = .returned (.bool (decide (u.fr + u.bs.length ≤ mn))) ∧ Gr W w') := fun W G => inside_any (Ux'.of G) hb1
      obtain ⟨ba, bn, bc', l1, l2, l3, hx, ok, hk, hq, _, LS, _, b2⟩ := Ux'
      have HXe : Hid (x[0]? = some (.int .i64 u.k) ∧ ∀ i v, (hL u.was)[i]? = some v → x[1 + i]? = some v) := by
        rw [hx]
        refine ⟨rfl, fun i v hi => ?_⟩
        have : i < 37 := by have := (List.getElem?_eq_some_iff.1 hi).1; rwa [hL_len ok.was] at this
        rw [uL_was ok.was this]; exact hi
      have HX40 : Hid (x[40]? = some (.slice l1 l2 l3)) := by rw [hx]; exact uL_fld ok.was 2
      have HLS : Hid (Ls w l1 l2 u.lost) := LS
      have HMy : Hid (∀ W : World, Calls Tryd.prog 69 #[.agg (hL u.was).toArray] W fun e w' => e = .returned (.bool (may u.was)) ∧ Gr W w') := fun W => may_any ok.was W
      have HHL : Hid ((hL u.was).length = 37) := hL_len ok.was
      have HG4 : Hid (∀ Y : Array Value, Gr wr ((wr.alloc (.cells Y 86)).setRow wr.heap.size x.toArray)) := fun Y => gr_setRow ((Gr.refl _).alloc _) (Nat.le_refl _) _
      have HS4 : Hid (∀ Y : Array Value, ((wr.alloc (.cells Y 86)).setRow wr.heap.size x.toArray).heap[wr.heap.size]? = some (.cells x.toArray 86 (0, 0))) := fun Y => srh (heap_alloc_new wr _)
      have HM4 : Hid (∀ Y : Array Value, ((wr.alloc (.cells Y 86)).setRow wr.heap.size x.toArray).heap[w.heap.size]? = some (.cells #[.slice ma mn mc, .slice ha hn hc] 34 (0, 0))) := fun Y => Hr.heap_of_gr (HG4.out Y) HM.out
      have u0 : ∀ Y : Array Value, ((wr.alloc (.cells Y 86)).setRow wr.heap.size x.toArray).cell? ⟨wr.heap.size, 0, none⟩ = some (.int .i64 u.k) := fun Y => (cr (HS4.out Y)).trans (by rw [List.getElem?_toArray]; exact HXe.out.1)
      have HFu : Hid (fitU hn mn u = (decide (0 ≤ u.k ∧ u.k < hn) && (may u.was && (decide (u.fr + u.bs.length ≤ mn) && u.lost.all fun q => decide (0 ≤ q.1 ∧ q.1 < hn))))) := rfl
      have HNx : Hid ((us.take (j + 1)).all (fitU hn mn) = ((us.take j).all (fitU hn mn) && fitU hn mn u)) := all_take _ _ _ _ hu
      have HFl : Hid (fitU hn mn u = false → us.all (fitU hn mn) = false) := fun h => all_no hu h
      clear hc' hr hx ok LS HU hu
      have HC1 : Hid (∀ W : World, Gr w W → W.heap[w.heap.size]? = some (.cells #[.slice ma mn mc, .slice ha hn hc] 34 (0, 0)) → Calls Tryd.prog 70 #[.int .i64 u.k, .pointer (some ⟨w.heap.size, 0, none⟩)] W fun e w' => e = .returned (.bool (decide (0 ≤ u.k ∧ u.k < hn))) ∧ Gr W w') := HC.out u.k
      generalize decide (0 ≤ u.k ∧ u.k < (hn : Int)) = t1 at HC1 HFu
      generalize may u.was = t2 at HMy HFu
      generalize decide (u.fr + u.bs.length ≤ mn) = t3 at HIn HFu
      cases t1 with
      | false =>
        have HNo : Hid (us.all (fitU hn mn) = false) := HFl.out (by rw [HFu.out]; rfl)
        clear HFu HFl HNx
        go_wp2_with (first
          | (refine wpList_load_mid rfl 86 _ rfl b (o + j * 41) rfl x _ ?r1 Tryd.underlying86 rfl (by rw [HXL.out]; exact iU) ?_; (case r1 => exact RG.out))
          | (refine wpList_store_row rfl 86 _ _ rfl wr.heap.size x.toArray rfl rfl 86 _ (heap_alloc_new wr _) (by rw [HXA.out]; exact iU) (by rw [HXA.out]; rfl) HX1.out ?_))
        refine (HC1.out _ (HG.out.trans (HG4.out _)) (HM4.out _)).mono ?_
        rintro e w5 ⟨rfl, G5⟩
        have HG5 : Hid (Gr w w5) := HG.out.trans ((HG4.out _).trans G5)
        have HU5 : Hid (w5.heap[wr.heap.size]? = some (.cells x.toArray 86 (0, 0))) := Hr.heap_of_gr G5 (HS4.out _)
        have HM5 : Hid (w5.heap[w.heap.size]? = some (.cells #[.slice ma mn mc, .slice ha hn hc] 34 (0, 0))) := Hr.heap_of_gr ((HG4.out _).trans G5) HM.out
        have R5 : Hid (w5.rangeAt (wr.heap.size) 1 (hL u.was)) := fun i v hv => by rw [cr HU5.out, List.getElem?_toArray]; exact HXe.out.2 i v hv
        have hl5 : wr.heap.size < w5.heap.size := (gs HU5.out).1
        clear G5 HS4 HG4 HM4 u0 HC1
        go_wp2_with fail
        go_ret
        exact ⟨retB HNo.out.symm, HG5.out⟩
      | true =>
        cases t2 with
        | false =>
          have HNo : Hid (us.all (fitU hn mn) = false) := HFl.out (by rw [HFu.out]; rfl)
          clear HFu HFl HNx
          go_wp2_with (first
            | (refine wpList_load_mid rfl 86 _ rfl b (o + j * 41) rfl x _ ?r1 Tryd.underlying86 rfl (by rw [HXL.out]; exact iU) ?_; (case r1 => exact RG.out))
            | (refine wpList_store_row rfl 86 _ _ rfl wr.heap.size x.toArray rfl rfl 86 _ (heap_alloc_new wr _) (by rw [HXA.out]; exact iU) (by rw [HXA.out]; rfl) HX1.out ?_))
          refine (HC1.out _ (HG.out.trans (HG4.out _)) (HM4.out _)).mono ?_
          rintro e w5 ⟨rfl, G5⟩
          have HG5 : Hid (Gr w w5) := HG.out.trans ((HG4.out _).trans G5)
          have HU5 : Hid (w5.heap[wr.heap.size]? = some (.cells x.toArray 86 (0, 0))) := Hr.heap_of_gr G5 (HS4.out _)
          have HM5 : Hid (w5.heap[w.heap.size]? = some (.cells #[.slice ma mn mc, .slice ha hn hc] 34 (0, 0))) := Hr.heap_of_gr ((HG4.out _).trans G5) HM.out
          have R5 : Hid (w5.rangeAt (wr.heap.size) 1 (hL u.was)) := fun i v hv => by rw [cr HU5.out, List.getElem?_toArray]; exact HXe.out.2 i v hv
          have hl5 : wr.heap.size < w5.heap.size := (gs HU5.out).1
          clear G5 HS4 HG4 HM4 u0 HC1
          go_wp2_with (refine wpList_gload_mid (by rfl) 70 _ rfl wr.heap.size 1 rfl (hL u.was) _ ?r2 Tryd.underlying70 rfl (by rw [HHL.out]; exact iH) ?_; (case r2 => exact R5.out))
          refine (HMy.out _).mono ?_
          rintro e w6 ⟨rfl, G6⟩
          have HG6 : Hid (Gr w w6) := HG5.out.trans G6
          have HU6 : Hid (w6.heap[wr.heap.size]? = some (.cells x.toArray 86 (0, 0))) := Hr.heap_of_gr G6 HU5.out
          have HM6 : Hid (w6.heap[w.heap.size]? = some (.cells #[.slice ma mn mc, .slice ha hn hc] 34 (0, 0))) := Hr.heap_of_gr G6 HM5.out
          have m0 : w6.cell? ⟨w.heap.size, 0, none⟩ = some (.slice ma mn mc) := cr0 HM6.out
          clear G6 HG5 HU5 HM5 R5 HMy
          go_wp2_with fail
          go_ret
          exact ⟨retB HNo.out.symm, HG6.out⟩
        | true =>
          cases t3 with
          | false =>
            have HNo : Hid (us.all (fitU hn mn) = false) := HFl.out (by rw [HFu.out]; rfl)
            clear HFu HFl HNx
            go_wp2_with (first
              | (refine wpList_load_mid rfl 86 _ rfl b (o + j * 41) rfl x _ ?r1 Tryd.underlying86 rfl (by rw [HXL.out]; exact iU) ?_; (case r1 => exact RG.out))
              | (refine wpList_store_row rfl 86 _ _ rfl wr.heap.size x.toArray rfl rfl 86 _ (heap_alloc_new wr _) (by rw [HXA.out]; exact iU) (by rw [HXA.out]; rfl) HX1.out ?_))
            refine (HC1.out _ (HG.out.trans (HG4.out _)) (HM4.out _)).mono ?_
            rintro e w5 ⟨rfl, G5⟩
            have HG5 : Hid (Gr w w5) := HG.out.trans ((HG4.out _).trans G5)
            have HU5 : Hid (w5.heap[wr.heap.size]? = some (.cells x.toArray 86 (0, 0))) := Hr.heap_of_gr G5 (HS4.out _)
            have HM5 : Hid (w5.heap[w.heap.size]? = some (.cells #[.slice ma mn mc, .slice ha hn hc] 34 (0, 0))) := Hr.heap_of_gr ((HG4.out _).trans G5) HM.out
            have R5 : Hid (w5.rangeAt (wr.heap.size) 1 (hL u.was)) := fun i v hv => by rw [cr HU5.out, List.getElem?_toArray]; exact HXe.out.2 i v hv
            have hl5 : wr.heap.size < w5.heap.size := (gs HU5.out).1
            clear G5 HS4 HG4 HM4 u0 HC1
            go_wp2_with (refine wpList_gload_mid (by rfl) 70 _ rfl wr.heap.size 1 rfl (hL u.was) _ ?r2 Tryd.underlying70 rfl (by rw [HHL.out]; exact iH) ?_; (case r2 => exact R5.out))
            refine (HMy.out _).mono ?_
            rintro e w6 ⟨rfl, G6⟩
            have HG6 : Hid (Gr w w6) := HG5.out.trans G6
            have HU6 : Hid (w6.heap[wr.heap.size]? = some (.cells x.toArray 86 (0, 0))) := Hr.heap_of_gr G6 HU5.out
            have HM6 : Hid (w6.heap[w.heap.size]? = some (.cells #[.slice ma mn mc, .slice ha hn hc] 34 (0, 0))) := Hr.heap_of_gr G6 HM5.out
            have m0 : w6.cell? ⟨w.heap.size, 0, none⟩ = some (.slice ma mn mc) := cr0 HM6.out
            clear G6 HG5 HU5 HM5 R5 HMy
            go_wp2_with (refine wpList_gload_row (by rfl) 86 _ rfl wr.heap.size rfl 86 x.toArray (0, 0) _ ?r3 Tryd.underlying86 rfl (by rw [HXA.out]; exact iU) ?_; (case r3 => exact HU6.out))
            refine (HIn.out _ HG6.out).mono ?_
            rintro e w7 ⟨rfl, G7⟩
            have HG7 : Hid (Gr w w7) := HG6.out.trans G7
            have HU7 : Hid (w7.heap[wr.heap.size]? = some (.cells x.toArray 86 (0, 0))) := Hr.heap_of_gr G7 HU6.out
            have HM7 : Hid (w7.heap[w.heap.size]? = some (.cells #[.slice ma mn mc, .slice ha hn hc] 34 (0, 0))) := Hr.heap_of_gr G7 HM6.out
            clear G7 HG6 HU6 HM6 m0 HIn
            go_wp2_with fail
            go_ret
            exact ⟨retB HNo.out.symm, HG7.out⟩
          | true =>
            have HF4 : Hid (fitU hn mn u = u.lost.all fun q => decide (0 ≤ q.1 ∧ q.1 < (hn : Int))) := by unfold Hid; rw [HFu.out]; simp only [Bool.true_and]
            clear HFu
            go_wp2_with (first
              | (refine wpList_load_mid rfl 86 _ rfl b (o + j * 41) rfl x _ ?r1 Tryd.underlying86 rfl (by rw [HXL.out]; exact iU) ?_; (case r1 => exact RG.out))
              | (refine wpList_store_row rfl 86 _ _ rfl wr.heap.size x.toArray rfl rfl 86 _ (heap_alloc_new wr _) (by rw [HXA.out]; exact iU) (by rw [HXA.out]; rfl) HX1.out ?_))
            refine (HC1.out _ (HG.out.trans (HG4.out _)) (HM4.out _)).mono ?_
            rintro e w5 ⟨rfl, G5⟩
            have HG5 : Hid (Gr w w5) := HG.out.trans ((HG4.out _).trans G5)
            have HU5 : Hid (w5.heap[wr.heap.size]? = some (.cells x.toArray 86 (0, 0))) := Hr.heap_of_gr G5 (HS4.out _)
            have HM5 : Hid (w5.heap[w.heap.size]? = some (.cells #[.slice ma mn mc, .slice ha hn hc] 34 (0, 0))) := Hr.heap_of_gr ((HG4.out _).trans G5) HM.out
            have R5 : Hid (w5.rangeAt (wr.heap.size) 1 (hL u.was)) := fun i v hv => by rw [cr HU5.out, List.getElem?_toArray]; exact HXe.out.2 i v hv
            have hl5 : wr.heap.size < w5.heap.size := (gs HU5.out).1
            clear G5 HS4 HG4 HM4 u0 HC1
            go_wp2_with (refine wpList_gload_mid (by rfl) 70 _ rfl wr.heap.size 1 rfl (hL u.was) _ ?r2 Tryd.underlying70 rfl (by rw [HHL.out]; exact iH) ?_; (case r2 => exact R5.out))
            refine (HMy.out _).mono ?_
            rintro e w6 ⟨rfl, G6⟩
            have HG6 : Hid (Gr w w6) := HG5.out.trans G6
            have HU6 : Hid (w6.heap[wr.heap.size]? = some (.cells x.toArray 86 (0, 0))) := Hr.heap_of_gr G6 HU5.out
            have HM6 : Hid (w6.heap[w.heap.size]? = some (.cells #[.slice ma mn mc, .slice ha hn hc] 34 (0, 0))) := Hr.heap_of_gr G6 HM5.out
            have m0 : w6.cell? ⟨w.heap.size, 0, none⟩ = some (.slice ma mn mc) := cr0 HM6.out
            clear G6 HG5 HU5 HM5 R5 HMy
            go_wp2_with (refine wpList_gload_row (by rfl) 86 _ rfl wr.heap.size rfl 86 x.toArray (0, 0) _ ?r3 Tryd.underlying86 rfl (by rw [HXA.out]; exact iU) ?_; (case r3 => exact HU6.out))
            refine (HIn.out _ HG6.out).mono ?_
            rintro e w7 ⟨rfl, G7⟩
            have HG7 : Hid (Gr w w7) := HG6.out.trans G7
            have HU7 : Hid (w7.heap[wr.heap.size]? = some (.cells x.toArray 86 (0, 0))) := Hr.heap_of_gr G7 HU6.out
            have HM7 : Hid (w7.heap[w.heap.size]? = some (.cells #[.slice ma mn mc, .slice ha hn hc] 34 (0, 0))) := Hr.heap_of_gr G7 HM6.out
            clear G7 HG6 HU6 HM6 m0 HIn
            have k40 : w7.cell? ⟨wr.heap.size, 40, none⟩ = some (.slice l1 l2 l3) := (cr HU7.out).trans (by rw [List.getElem?_toArray]; exact HX40.out)
            have HLL : Hid (u.lost.length = l2) := HLS.out.len
            go_wp2_with fail
            go_loopw [38] (fun i ws => ∃ q : Nat, q ≤ l2 ∧ i = .int .i64 q ∧ (u.lost.take q).all (fun q => decide (0 ≤ q.1 ∧ q.1 < (hn : Int))) = true ∧ Gr w ws ∧ ws.heap[w.heap.size]? = some (.cells #[.slice ma mn mc, .slice ha hn hc] 34 (0, 0))) (fun i _ => l2 - (intOf i).toNat)
            case atStart => exact ⟨0, Nat.zero_le _, rfl, rfl, HG7.out, HM7.out⟩
            case round =>
              obtain ⟨q, hq', rfl, hall, G, KM⟩ := hrel
              have HAq : Hid ((u.lost.take q).all (fun q => decide (0 ≤ q.1 ∧ q.1 < (hn : Int))) = true) := hall
              have HGq : Hid (Gr w wr) := G
              have HMq : Hid (wr.heap[w.heap.size]? = some (.cells #[.slice ma mn mc, .slice ha hn hc] 34 (0, 0))) := KM
              clear hall G KM k40 HU7
              by_cases hlq : q < l2
              · obtain ⟨p, hp⟩ : ∃ p, u.lost[q]? = some p := ⟨_, List.getElem?_eq_getElem (by rw [HLL.out]; exact hlq)⟩
                obtain ⟨b7, o7, rfl, hb7, hc7⟩ := HLS.out.spot (by omega)
                have z0 : wr.cell? ⟨b7, o7 + q * 2, none⟩ = some (.int .i64 p.1) := (HGq.out.cell _ (by exact hb7)).trans (hc7 q p hp).1
                have z1 : wr.cell? ⟨b7, o7 + q * 2 + 1, none⟩ = some (.int .u32 p.2) := (HGq.out.cell _ (by exact hb7)).trans (hc7 q p hp).2
                have HCq : Hid (∀ W : World, Gr w W → W.heap[w.heap.size]? = some (.cells #[.slice ma mn mc, .slice ha hn hc] 34 (0, 0)) → Calls Tryd.prog 70 #[.int .i64 p.1, .pointer (some ⟨w.heap.size, 0, none⟩)] W fun e w' => e = .returned (.bool (decide (0 ≤ p.1 ∧ p.1 < hn))) ∧ Gr W w') := HC.out p.1
                have HTq : Hid ((u.lost.take (q + 1)).all (fun q => decide (0 ≤ q.1 ∧ q.1 < (hn : Int))) = ((u.lost.take q).all (fun q => decide (0 ≤ q.1 ∧ q.1 < (hn : Int))) && decide (0 ≤ p.1 ∧ p.1 < (hn : Int)))) := all_take _ _ _ _ hp
                have HNq : Hid (decide (0 ≤ p.1 ∧ p.1 < (hn : Int)) = false → us.all (fitU hn mn) = false) := fun h => HFl.out (by rw [HF4.out]; exact all_no hp h)
                clear hc7 hp
                obtain ⟨p1, p2⟩ := p
                simp only at *
                generalize decide (0 ≤ p1 ∧ p1 < (hn : Int)) = t5 at HCq HTq HNq
                cases t5 with
                | false =>
                  have HNo : Hid (us.all (fitU hn mn) = false) := HNq.out rfl
                  clear HNq HTq
                  go_wp2_with fail
                  refine (HCq.out _ (HGq.out.alloc _) (Hr.heap_of_gr ((Gr.refl _).alloc _) HMq.out)).mono ?_
                  rintro e w8 ⟨rfl, G8⟩
                  have HG8 : Hid (Gr w w8) := (HGq.out.alloc _).trans G8
                  clear G8 HCq z0 z1
                  go_wp2_with fail
                  go_ret
                  exact ⟨retB HNo.out.symm, HG8.out⟩
                | true =>
                  clear HNq
                  go_wp2_with fail
                  refine (HCq.out _ (HGq.out.alloc _) (Hr.heap_of_gr ((Gr.refl _).alloc _) HMq.out)).mono ?_
                  rintro e w8 ⟨rfl, G8⟩
                  have HG8 : Hid (Gr w w8) := (HGq.out.alloc _).trans G8
                  have HM8 : Hid (w8.heap[w.heap.size]? = some (.cells #[.slice ma mn mc, .slice ha hn hc] 34 (0, 0))) := Hr.heap_of_gr (((Gr.refl _).alloc _).trans G8) HMq.out
                  clear G8 HCq z0 z1
                  go_wp2_with fail
                  go_roundw
                  case rel => exact ⟨q + 1, by omega, by go_num, by rw [HTq.out, HAq.out]; rfl, HG8.out, HM8.out⟩
                  case measure => simp [intOf]; omega
              · have HYe : Hid ((us.take (j + 1)).all (fitU hn mn) = true) := by
                  unfold Hid
                  rw [HNx.out, HA.out, HF4.out]
                  have := HAq.out
                  rwa [List.take_of_length_le (by rw [HLL.out]; omega)] at this
                clear HAq HNx HFl HF4
                go_wp2_with fail
                go_roundw
                case rel => exact ⟨j + 1, by omega, by go_num, HYe.out, HGq.out, HMq.out⟩
                case measure => simp [intOf]; omega
    · have HYe : Hid (us.all (fitU hn mn) = true) := by
        have := HA.out
        rwa [List.take_of_length_le (by rw [HL.out]; omega)] at this
      clear HA
      go_wp2_with fail
      go_ret
      exact ⟨retB HYe.out.symm, HG.out⟩
end Go.Proofs.YtdiofidmlgliiaaDoor.Ud
/-
  A recorder of package undo, as cells of memory ('Rw'): a board, and a row of Undos of its own; how Undos are built, and a slice of one.
-/
namespace Go.Proofs.YtdiofidmlgliiaaDoor.Ud
open Go.ChangeShapes Go.WideShapes Go.ChangeAt Go.RowKit Mm Hh Hc Mc
set_option linter.unusedVariables false
set_option linter.unusedSimpArgs false

set_option maxRecDepth 100000 in
theorem built_undo {h : Hv} (o : h.Ok) (k : Int) : Tryd.prog.built 86 [(0, .int .i64 k), (1, .agg (hL h).toArray)] = some (uL ⟨k, h, 0, [], []⟩ nilS nilS).toArray := by
  obtain ⟨it, hi, hz⟩ := info_zero zU
  have hp : ∀ fs, Tryd.prog.underlying 86 = some (.struct fs) → fs.toList.mapM (fun f => (Tryd.prog.info? f.type).map fun i => (f.offset, i.size)) = some [(0, 1), (1, 37), (38, 1), (39, 1), (40, 1)] := fun fs e => by
    rw [Tryd.underlying86] at e
    injection e with e
    injection e with e
    subst e
    kernel_rfl
  have ls := hL_len o
  have z1 : (uL h00 nilS nilS).toArray.size = 41 := by simp [uL_len (u := h00) h0_ok]
  unfold Program.built
  simp only [hi, Tryd.underlying86, hz, hp _ Tryd.underlying86]
  unfold Instr.fill
  simp only [List.getElem?_toArray, List.getElem?_cons_zero]
  have e0 : (Value.int .i64 k).cells = #[.int .i64 k] := rfl
  have e1 : (Value.agg (hL h).toArray).cells = (hL h).toArray := rfl
  have e2 : (Value.agg (uL h00 nilS nilS).toArray).cells = (uL h00 nilS nilS).toArray := rfl
  rw [e0, e2, if_neg (by simp [uL_len (u := h00) h0_ok]), fold_one]
  unfold Instr.fill
  simp only [List.getElem?_toArray, List.getElem?_cons_succ, List.getElem?_cons_zero]
  rw [e1, if_neg (by simp [ls, uL_len (u := h00) h0_ok])]
  unfold Instr.fill
  refine congrArg some ?_
  apply Array.ext_getElem?
  intro i
  have a1 := fold_set 1 (hL h).toArray ((uL h00 nilS nilS).toArray.setIfInBounds 0 (.int .i64 k))
  rw [a1.2 i]
  simp only [Array.size_setIfInBounds, z1, List.size_toArray, ls]
  by_cases hi2 : 1 ≤ i ∧ i < 38
  · rw [if_pos (by omega)]
    obtain ⟨j, rfl⟩ : ∃ j, i = 1 + j := ⟨i - 1, by omega⟩
    rw [List.getElem?_toArray, List.getElem?_toArray, uL_was (u := ⟨k, h, 0, [], []⟩) o (by omega), Nat.add_sub_cancel_left]
  · rw [if_neg (by omega), Array.getElem?_setIfInBounds]
    by_cases h0' : i = 0
    · subst h0'
      rw [if_pos rfl, if_pos (by rw [z1]; omega)]
      rfl
    · rw [if_neg (fun e => h0' e.symm)]
      obtain ⟨j, rfl⟩ : ∃ j, i = 38 + j := ⟨i - 38, by omega⟩
      rw [List.getElem?_toArray, List.getElem?_toArray, uL_fld (u := h00) h0_ok, uL_fld (u := ⟨k, h, 0, [], []⟩) o]
      rfl
/-- A slice of one struct. -/
theorem fill_one {n : Nat} {A Z : Array Value} (hA : A.size = n) (hZ : Z.size = n) : Instr.fill (fun i => some (i * n, n)) Z [(0, .agg A)] = some A := by
  unfold Instr.fill
  simp only [Nat.zero_mul]
  have e1 : (Value.agg A).cells = A := rfl
  rw [e1, if_neg (by simp [hA, hZ])]
  unfold Instr.fill
  refine congrArg some ?_
  apply Array.ext_getElem?
  intro i
  have a1 := fold_set 0 A Z
  rw [a1.2 i]
  by_cases hi : i < n
  · rw [if_pos (by omega)]; simp
  · rw [if_neg (by omega), Array.getElem?_eq_none (by omega), Array.getElem?_eq_none (by omega)]
theorem step_slice1 {P : Program} {ops : Array Oper} {o : Oper} {a : Act} {w : World} {K : Act → World → Prop} {Q : Exit → Act → World → Prop} {E : Prop} (hg : o.guard = none) (t e : TypeId) (x : Operand) (ho : o.op = .buildSlice t 1 #[(0, x)])
    (A : Array Value) (n : Nat) (hx : a.eval x = .agg A) (hA : A.size = n) (hu : P.underlying t = some (.slice e)) (hi : (P.info? e).map (fun i => (i.zero.isSome, i.size)) = some (true, n)) (h0 : 0 < n) (hn : n ≤ 1000)
    (h : K (a.put o.dst (.slice (some ⟨w.heap.size, 0, none⟩) 1 1)) (w.alloc (.cells A e))) : if Region.wanted o (yielded ops a.tmps) = true then Oper.wp P o a w K Q else E := by
  rw [if_pos (by simp [Region.wanted, hg])]
  cases hie : P.info? e with
  | none => simp [hie] at hi
  | some ie =>
    simp only [hie, Option.map_some, Option.some.injEq, Prod.mk.injEq] at hi
    obtain ⟨hz, hs⟩ := hi
    obtain ⟨z, hzz⟩ := Option.isSome_iff_exists.1 hz
    refine wp_buildSlice t e 1 _ ho A ie z hu hie hzz (by rw [hs]; omega) (by rw [hs]; omega) ?_ h
    simp only [List.map_toArray, List.map_cons, List.map_nil, hx, hs, Nat.one_mul]
    exact fill_one hA (by simp)
theorem wpList_slice1 {P : Program} {ops : Array Oper} {rest : List Oper} {o : Oper} {a : Act} {w : World} {Q : Exit → Act → World → Prop} (hg : o.guard = none) (t e : TypeId) (x : Operand) (ho : o.op = .buildSlice t 1 #[(0, x)])
    (A : Array Value) (n : Nat) (hx : a.eval x = .agg A) (hA : A.size = n) (hu : P.underlying t = some (.slice e)) (hi : (P.info? e).map (fun i => (i.zero.isSome, i.size)) = some (true, n)) (h0 : 0 < n) (hn : n ≤ 1000)
    (h : wpList P ops Q rest (a.put o.dst (.slice (some ⟨w.heap.size, 0, none⟩) 1 1)) (w.alloc (.cells A e))) : wpList P ops Q (o :: rest) a w :=
  wpList_plain hg fun K hK => by
    have := step_slice1 (ops := #[]) (E := True) (Q := Q) hg t e x ho A n hx hA hu hi h0 hn (hK _ _ h)
    rwa [if_pos (by simp [Region.wanted, hg])] at this
theorem iUz : (Tryd.prog.info? 86).map (fun i => (i.zero.isSome, i.size)) = some (true, 41) := by kernel_rfl
theorem uL_set38 {u : Uv} {b l : Value} (o : u.was.Ok) (f : Int) : (uL u b l).toArray.setIfInBounds 38 (.int .u32 f) = (uL { u with fr := f } b l).toArray := by
  have := hL_len o
  unfold uL
  rw [List.setIfInBounds_toArray, List.set_cons_succ, List.set_append_right _ _ (by omega), this]
  rfl
theorem uL_set39 {u : Uv} {b l b' : Value} (o : u.was.Ok) : (uL u b l).toArray.setIfInBounds 39 b' = (uL u b' l).toArray := by
  have := hL_len o
  unfold uL
  rw [List.setIfInBounds_toArray, List.set_cons_succ, List.set_append_right _ _ (by omega), this]
  rfl
theorem uL_set40 {u : Uv} {b l l' : Value} (o : u.was.Ok) : (uL u b l).toArray.setIfInBounds 40 l' = (uL u b l').toArray := by
  have := hL_len o
  unfold uL
  rw [List.setIfInBounds_toArray, List.set_cons_succ, List.set_append_right _ _ (by omega), this]
  rfl

/-- A recorder at block g. -/
structure Rw (w : World) (base g : Nat) (M : Value) (gh hc : Nat) (O U : Value) (xs : List Value) (s : Sh) (us : List Uv) : Prop where
  bw : Bw 76 [U] w base g M gh hc O s
  row : w.ownsRow base 86 41 U us.length xs
  ux : Ux w us xs
def Rc (w : World) (base g : Nat) (s : Sh) (us : List Uv) : Prop := ∃ M gh hc O U xs, Rw w base g M gh hc O U xs s us
/-- What a recorder's method leaves: of what lay below 'base' nothing has turned, nor any row but recorders, harts, words and Undos. -/
structure Fk (base : Nat) (w w' : World) : Prop where
  below : Below base w w'
  keep : ∀ (k : Nat) (q : Array Value) (t : Nat) (f : Nat × Nat), w.heap[k]? = some (.cells q t f) → t ≠ 76 → t ≠ 70 → t ≠ 59 → t ≠ 86 → w'.heap[k]? = w.heap[k]?
section
variable {w w' a b c : World} {base g gh hc : Nat} {M O U : Value} {xs : List Value} {s : Sh} {us : List Uv}
theorem Fk.refl (base : Nat) (w : World) : Fk base w w := ⟨Below.refl _ _, fun _ _ _ _ _ _ _ _ _ => rfl⟩
theorem Fk.trans (h : Fk base a b) (k : Fk base b c) : Fk base a c := ⟨h.below.trans k.below, fun i q t f e t1 t2 t3 t4 => (k.keep i q t f ((h.keep i q t f e t1 t2 t3 t4).trans e) t1 t2 t3 t4).trans (h.keep i q t f e t1 t2 t3 t4)⟩
theorem Fk.ofGr (G : Gr w w') (hb : base ≤ w.heap.size) : Fk base w w' := ⟨Below.mono G hb, fun i q t f e _ _ _ _ => G.block i (gs e).1⟩
theorem Fk.ofFe (F : Fe 76 base w w') : Fk base w w' := ⟨F.below, fun i q t f e t1 t2 t3 _ => F.cells e t1 t2 t3⟩
theorem Fk.set {ty : Nat} {Y : Array Value} {f : Nat × Nat} (h : Fk base a w) (hy : w.heap[g]? = some (.cells Y ty f)) (ht : ty = 76 ∨ ty = 86) (hg : base ≤ g) (i : Nat) (v : Value) : Fk base a (w.setCell ⟨g, i, none⟩ v) := ⟨Below.setCell h.below (by exact hg) _, fun k q t f' e t1 t2 t3 t4 => by
  have e1 := h.keep k q t f' e t1 t2 t3 t4
  rw [hso (by exact ne_of_types (e1.trans e) hy (by rcases ht with rfl | rfl <;> assumption))]
  exact e1⟩
theorem Fk.row {k : Nat} {q : Array Value} {t : Nat} {f : Nat × Nat} (h : Fk base w w') (e : w.heap[k]? = some (.cells q t f)) (t1 : t ≠ 76) (t2 : t ≠ 70) (t3 : t ≠ 59) (t4 : t ≠ 86) : w'.heap[k]? = some (.cells q t f) := (h.keep k q t f e t1 t2 t3 t4).trans e
theorem Fk.grown {n : Nat} (hO : w.ownsRow base 86 41 U n xs) (q : w.grownBy w' U.ownBlock) (hb : base ≤ w.heap.size) : Fk base w w' := ⟨(Below.refl base w).grown q hb fun k e => (hO.lt k e).1, fun k o t f e _ _ _ t4 => grown_keep hO q t4 e⟩
theorem Rw.of (R : Rw w base g M gh hc O U xs s us) (G : Gr w w') : Rw w' base g M gh hc O U xs s us := ⟨R.bw.of G, owns_gr R.row G, R.ux.to (Ky.ofGr G)⟩
theorem Rc.of (R : Rc w base g s us) (G : Gr w w') : Rc w' base g s us := by
  obtain ⟨M, gh, hc, O, U, xs, R⟩ := R
  exact ⟨M, gh, hc, O, U, xs, R.of G⟩
/-- Rows of other types than Undos stay: so does a board. -/
theorem bw_toN {rs : List Value} (B : Bw 76 rs w base g M gh hc O s) (q : ∀ (k : Nat) (o : Array Value) (t : Nat) (f : Nat × Nat), t ≠ 86 → w.heap[k]? = some (.cells o t f) → w'.heap[k]? = w.heap[k]?) : Bw 76 rs w' base g M gh hc O s :=
  ⟨B.t1, B.t2, B.t3, B.bg, (q _ _ _ _ (by decide) B.blk).trans B.blk, B.mem.to fun k o f e => q k o _ f (by decide) e, B.bh, B.row.to fun k o f e => q k o _ f (by decide) e, owns_to B.out fun k o f e => q k o _ f (by decide) e⟩
/-- A board's method is done. -/
theorem Rw.take (R : Rw w base g M gh hc O U xs s us) {s' : Sh} (B : Bd 76 [U] w' base g s') (F : Fe 76 base w w') : ∃ M' gh' hc' O', Rw w' base g M' gh' hc' O' U xs s' us := by
  obtain ⟨M', gh', hc', O', B⟩ := B
  exact ⟨M', gh', hc', O', B, owns_to R.row fun k o f e => F.cells e (by decide) (by decide) (by decide), R.ux.to fun k o t f ht e => F.cells e (by rcases ht with rfl | rfl <;> decide) (by rcases ht with rfl | rfl <;> decide) (by rcases ht with rfl | rfl <;> decide)⟩
/-- One more Undo appended, and the slice stored. -/
theorem Rw.put (R : Rw w base g M gh hc O U xs s us) {u : Uv} {x : List Value} (hu : Uo w u x) (hx : x.length = 41) {v : Value} {n : Nat} (hn : n = us.length + 1) (hown : w'.ownsRow base 86 41 v n (xs ++ x)) (q : w.grownBy w' U.ownBlock) :
    w'.cell? ⟨g, 4, none⟩ = some U ∧ w'.frozen? ⟨g, 4, none⟩ = false ∧ Rc (w'.setCell ⟨g, 4, none⟩ v) base g s (us ++ [u]) ∧ Fk base w (w'.setCell ⟨g, 4, none⟩ v) := by
  have st : ∀ (k : Nat) (o : Array Value) (t : Nat) (f : Nat × Nat), t ≠ 86 → w.heap[k]? = some (.cells o t f) → w'.heap[k]? = w.heap[k]? := fun k o t f ht e => grown_keep R.row q ht e
  have B1 := bw_toN R.bw st
  have B2 : Bw 76 [v] (w'.setCell ⟨g, 4, none⟩ v) base g M gh hc O s := B1.setR 0 v
  have nx : ∀ (k : Nat) (o : Array Value) (t : Nat) (f : Nat × Nat), t ≠ 76 → w'.heap[k]? = some (.cells o t f) → (w'.setCell ⟨g, 4, none⟩ v).heap[k]? = w'.heap[k]? := fun k o t f ht e => hso (by exact ne_of_types e B1.blk ht)
  have ky : Ky w (w'.setCell ⟨g, 4, none⟩ v) := fun k o t f ht e => by
    have e1 := st k o t f (by rcases ht with rfl | rfl <;> decide) e
    exact (nx k o t f (by rcases ht with rfl | rfl <;> decide) (e1.trans e)).trans e1
  refine ⟨B1.rest 0, B1.fz 4, ⟨M, gh, hc, O, v, xs ++ x, B2, ?_, (R.ux.to ky).snoc (hu.to ky) hx⟩, (Fk.grown R.row q R.bw.base_le).set B1.blk (.inl rfl) R.bw.bg 4 v⟩
  have := owns_to hown fun k o f e => nx k o _ f (by decide) e
  rw [List.length_append, List.length_singleton, ← hn]
  exact this
end
theorem atW {p : World → Prop} {x : World} (F : World → Prop) (hF : F x) (h : ∀ y, F y → p y) : p x := h x hF
theorem szC (w : World) (p : Addr) (v : Value) : (w.setCell p v).heap.size = w.heap.size := by simp
structure One (P : Prop) : Prop where
  out : P
theorem shareP {P Q : Prop} (h : One P → Q) (p : P) : Q := h ⟨p⟩
theorem tt_up {w : World} {b n : Nat} (T : TT w b) (h : b ≤ n) : TT w n := ⟨T.tab, ⟨T.tb.sizes, T.tb.opers, Nat.lt_of_lt_of_le T.tb.b1 h, Nat.lt_of_lt_of_le T.tb.b2 h⟩, Nat.lt_of_lt_of_le T.b1 h, Nat.lt_of_lt_of_le T.b2 h⟩
theorem tt_below {w w' : World} {b : Nat} (T : TT w b) (h : Below b w w') : TT w' b :=
  ⟨⟨fun i n e => (Below.cell h (by exact T.b1)).trans (T.tab.shapes i n e), fun i n e => (Below.cell h (by exact T.b2)).trans (T.tab.uppers i n e)⟩, ⟨fun i n e => (Below.cell h (by exact T.tb.b1)).trans (T.tb.sizes i n e), fun i n e => (Below.cell h (by exact T.tb.b2)).trans (T.tb.opers i n e), T.tb.b1, T.tb.b2⟩, T.b1, T.b2⟩
end Go.Proofs.YtdiofidmlgliiaaDoor.Ud
