/-
  The walk of the law HartZero: of every hart and every memory it answers true.
-/
import Derived.Test.YtfolphjampklpaaDoorRef3Walks
import Derived.Test.YtfolphjampklpaaDoorHm8
import Derived.Test.YtfolphjampklpaaDoorHw
import Derived.Test.YtfolphjampklpaaDoorHa
import Derived.Test.YtfolphjampklpaaDoorHz
namespace Go.Proofs.YtfolphjampklpaaDoor.hartZero
open Go.ChangeShapes Go.WideShapes Go.ChangeAt Go.RowKit Mm Hh Hc
set_option linter.unusedVariables false
set_option linter.unusedSimpArgs false

theorem put_back {h : Hv} (o : h.Ok) (s c : Int) : ((hA h).setIfInBounds 35 (.int .i64 s)).setIfInBounds 36 (.int .i64 c) = hA { h with state := s, cause := c } := by
  have o1 : Hv.Ok { h with state := s } := ⟨o.len, o.reg, o.pc0, o.pc1, o.at0, o.at1⟩
  unfold hA
  simp only [List.setIfInBounds_toArray]
  rw [set_state o, set_cause o1]
set_option maxHeartbeats 2000000 in
set_option maxRecDepth 100000 in
theorem walk_no {h : Hv} (o : h.Ok) (ao : Option Addr) (n cap : Nat) (w : World) (hn : n ≤ 140737488351232) (hno : ¬ (may h = true ∧ h.state = 0 ∧ n ≤ 4096)) :
    Calls Tryd.prog 7 #[.agg (hA h), .slice ao n cap] w fun e w' => e = .returned (.bool true) ∧ Gr w w' := by
  have M2 : Hid (∀ W : World, Calls Tryd.prog 15 #[.agg (hA h)] W fun e w' => e = .returned (.bool (may h)) ∧ Gr W w') := fun W => rmay_any o W
  have S1 : Hid (∀ W : World, Calls Tryd.prog 16 #[.agg (hA h), .slice ao n cap] W fun e w' => e = .returned (.tuple #[.agg (hA h0), .slice none 0 0, .slice none 0 0, .bool false]) ∧ Gr W w') := fun W => hStep_no o ao n cap W hn hno
  have g35 : (hA h)[35]? = some (.int .i64 h.state) := (may_get h o).2.2.2.1
  have HS : Hid ((hA h).size = 37) := hA_size o
  have HSX : Hid ((hA h0).size = 37) := hA_size h0_ok
  have he : ∀ W : World, (binOp .eql 34 (.agg (hA h0)) (.agg #[.int .u32 0, .int .u32 0, .int .u32 0, .int .u32 0, .int .u32 0, .int .u32 0, .int .u32 0, .int .u32 0, .int .u32 0, .int .u32 0, .int .u32 0, .int .u32 0, .int .u32 0, .int .u32 0, .int .u32 0, .int .u32 0, .int .u32 0, .int .u32 0, .int .u32 0, .int .u32 0, .int .u32 0, .int .u32 0, .int .u32 0, .int .u32 0, .int .u32 0, .int .u32 0, .int .u32 0, .int .u32 0, .int .u32 0, .int .u32 0, .int .u32 0, .int .u32 0, .int .u32 0, .bool false, .int .u32 0, .int .i64 0, .int .i64 0])).run Tryd.prog W = .ok (.bool true) W := fun W => eql_hart h0_ok W
  have HO : Hid ((hA h0).all (·.oneCell') = true) := one_hA _
  generalize hA h0 = X at *
  generalize hA h = H at *
  generalize may h = B at *
  generalize h.state = st at *
  have hc : B = false ∨ (B = true ∧ (st != 0) = true) ∨ (B = true ∧ (st != 0) = false ∧ decide ((4096 : Int) < (n : Int)) = true) := by
    cases B with
    | false => exact .inl rfl
    | true =>
      by_cases h1 : st = 0
      · exact .inr (.inr ⟨rfl, by simp [h1], by simp [h1] at hno; simp; omega⟩)
      · exact .inr (.inl ⟨rfl, by simp [h1]⟩)
  clear hno o
  rcases hc with rfl | ⟨rfl, bs⟩ | ⟨rfl, bs, hs⟩
  all_goals
    go_enter Tryd.func7, Tryd.ntmps7
    go_wp2_with (refine wpList_load_row rfl 34 _ rfl w.heap.size rfl 34 H (0, 0) _ (heap_alloc_new w _) Tryd.underlying34 rfl (by rw [HS.out]; exact iH') ?_)
    refine (S1.out _).mono ?_
    rintro e w3 ⟨rfl, G3⟩
    have HB3 : Hid (w3.heap[w.heap.size]? = some (.cells H 34 (0, 0))) := Hr.heap_of_gr G3 (heap_alloc_new w _)
    have HG3 : Hid (Gr w w3) := ((Gr.refl _).alloc _).trans G3
    have HW4 : Hid (∀ Y : Array Value, Gr w3 ((w3.alloc (.cells Y 34)).setRow w3.heap.size X)) := fun Y => gr_setRow ((Gr.refl _).alloc _) (Nat.le_refl _) _
    have HX4 : Hid (∀ Y : Array Value, ((w3.alloc (.cells Y 34)).setRow w3.heap.size X).heap[w3.heap.size]? = some (.cells X 34 (0, 0))) := fun Y => setRow_heap _ _ _ _ _ (0, 0) (heap_alloc_new w3 _)
    have HB4 : Hid (∀ Y : Array Value, ((w3.alloc (.cells Y 34)).setRow w3.heap.size X).heap[w.heap.size]? = some (.cells H 34 (0, 0))) := fun Y => Hr.heap_of_gr (HW4.out Y) HB3.out
    have hne : ¬ w3.heap.size = w.heap.size := by have := (Array.getElem?_eq_some_iff.1 HB3.out).1; omega
    clear G3 S1
    go_wp2_with (first
      | (refine wpList_store_row rfl 34 _ _ rfl w3.heap.size X rfl rfl 34 _ (heap_alloc_new w3 _) (by rw [HSX.out]; exact iH') (by rw [HSX.out]; rfl) HO.out ?_)
      | (refine wpList_load_row rfl 34 (.tmp 5) rfl w3.heap.size rfl 34 X (0, 0) _ (HX4.out _) Tryd.underlying34 rfl (by rw [HSX.out]; exact iH') ?_)
      | (refine wpList_gload_row (by rfl) 34 (.tmp 2) rfl w.heap.size rfl 34 H (0, 0) _ (HB4.out _) Tryd.underlying34 rfl (by rw [HS.out]; exact iH') ?_))
    refine (M2.out _).mono ?_
    rintro e w5 ⟨rfl, G5⟩
    have HG5 : Hid (Gr w w5) := (HG3.out.trans (HW4.out _)).trans G5
    have k35 : w5.cell? ⟨w.heap.size, 35, none⟩ = some (.int .i64 st) := (cell_of_row _ _ _ _ _ _ (Hr.heap_of_gr G5 (HB4.out _))).trans g35
    clear G5 M2 HW4 HX4 HB4
    go_wp2_with fail
    go_ret
    exact ⟨rfl, HG5.out⟩

set_option maxHeartbeats 2000000 in
set_option maxRecDepth 100000 in
theorem walk_yes {h : Hv} (o : h.Ok) {ao : Option Addr} {n cap : Nat} {l : List UInt8} {w : World} (T : TT w w.heap.size) (M : Mem w ao n l) (hcap : ao = none → cap = 0) (hn : n ≤ 4096) (hm : may h = true) (hs : h.state = 0) :
    Calls Tryd.prog 7 #[.agg (hA h), .slice ao n cap] w fun e w' => e = .returned (.bool true) ∧ Gr w w' := by
  have S1 : Hid (∀ W : World, Gr w W → Calls Tryd.prog 16 #[.agg (hA h), .slice ao n cap] W fun e w' => ∃ V O, e = .returned (.tuple #[.agg (hA (stp h l).h), V, O, .bool true]) ∧ Own w' 0 V (stp h l).m ∧ w'.ownsRow W.heap.size 22 1 O (stp h l).out.length ((stp h l).out.map (Value.int .u32)) ∧ Gr W w') := fun W G => hStep_yes o (T.grow G) (M.of G) hcap hn hm hs
  have HS : Hid ((hA h).size = 37) := hA_size o
  have okS := stp_ok o l
  obtain ⟨f1, f2, f3, f4, f5⟩ := good_stp (rn_of hm hs) l
  have hl := M.len
  have HM : Hid (Mem w ao n l) := M
  generalize stp h l = S at *
  have M1 : Hid (∀ W : World, Calls Tryd.prog 14 #[.agg (hA S.h)] W fun e w' => e = .returned (.bool true) ∧ Gr W w') := fun W => by rw [← f1]; exact may_any okS W
  have HSX : Hid ((hA S.h).size = 37) := hA_size okS
  have HOX : Hid ((hA S.h).all (·.oneCell') = true) := one_hA _
  have x0 : (hA S.h)[0]? = some (.int .u32 0) := by rw [← f3]; exact (may_get S.h okS).1
  have x35 : (hA S.h)[35]? = some (.int .i64 S.h.state) := (may_get S.h okS).2.2.2.1
  have x36 : (hA S.h)[36]? = some (.int .i64 S.h.cause) := (may_get S.h okS).2.2.2.2
  have g35 : (hA h)[35]? = some (.int .i64 h.state) := (may_get h o).2.2.2.1
  have g36 : (hA h)[36]? = some (.int .i64 h.cause) := (may_get h o).2.2.2.2
  have he : ∀ W : World, (binOp .eql 34 (.agg (hA h)) (.agg (hA h))).run Tryd.prog W = .ok (.bool true) W := fun W => eql_hart o W
  have HF5 : Hid (¬ S.h.state = 0 → ((hA S.h).setIfInBounds 35 (.int .i64 h.state)).setIfInBounds 36 (.int .i64 h.cause) = hA h ∧ S.m = l ∧ S.out = []) := fun hne => ⟨by rw [put_back okS, (f5 hne).1], (f5 hne).2⟩
  have HX : Hid (∃ X1 : Array Value, (hA S.h).setIfInBounds 35 (.int .i64 h.state) = X1 ∧ X1.size = 37) := ⟨_, rfl, by simp [HSX.out]⟩
  clear f5 f1 f3
  generalize hA S.h = X at *
  generalize hA h = H at *
  generalize S.h.state = st at *
  generalize S.h.cause = ca at *
  generalize h.state = hst at *
  generalize h.cause = hca at *
  clear T M hcap hm hs o okS
  have nlen : ((S.m.length : Int) != (n : Int)) = false := by simp [f2, hl]
  go_enter Tryd.func7, Tryd.ntmps7
  go_wp2_with (refine wpList_load_row rfl 34 _ rfl w.heap.size rfl 34 H (0, 0) _ (heap_alloc_new w _) Tryd.underlying34 rfl (by rw [HS.out]; exact iH') ?_)
  refine (S1.out _ ((Gr.refl _).alloc _)).mono ?_
  rintro e w3 ⟨V, O, rfl, O1, O2, G3⟩
  obtain ⟨a1, c1, rfl, MV⟩ := O1.mem
  obtain ⟨a2, c2, rfl, WO⟩ := wm_own rfl O2
  have HMV : Hid (Mem w3 a1 S.m.length S.m) := MV
  have HB3 : Hid (w3.heap[w.heap.size]? = some (.cells H 34 (0, 0))) := Hr.heap_of_gr G3 (heap_alloc_new w _)
  have HG3 : Hid (Gr w w3) := ((Gr.refl _).alloc _).trans G3
  have hlt3 : w.heap.size < w3.heap.size := (Array.getElem?_eq_some_iff.1 HB3.out).1
  have HW4 : Hid (∀ Y : Array Value, Gr w3 ((w3.alloc (.cells Y 34)).setRow w3.heap.size X)) := fun Y => gr_setRow ((Gr.refl _).alloc _) (Nat.le_refl _) _
  have HX4 : Hid (∀ Y : Array Value, ((w3.alloc (.cells Y 34)).setRow w3.heap.size X).heap[w3.heap.size]? = some (.cells X 34 (0, 0))) := fun Y => setRow_heap _ _ _ _ _ (0, 0) (heap_alloc_new w3 _)
  clear G3 S1 O1 O2 MV WO
  go_wp2_with (first
    | (refine wpList_store_row rfl 34 _ _ rfl w3.heap.size X rfl rfl 34 _ (heap_alloc_new w3 _) (by rw [HSX.out]; exact iH') (by rw [HSX.out]; rfl) HOX.out ?_)
    | (refine wpList_load_row rfl 34 (.tmp 5) rfl w3.heap.size rfl 34 X (0, 0) _ (HX4.out _) Tryd.underlying34 rfl (by rw [HSX.out]; exact iH') ?_))
  refine (M1.out _).mono ?_
  rintro e w5 ⟨rfl, G5⟩
  have HX5 : Hid (w5.heap[w3.heap.size]? = some (.cells X 34 (0, 0))) := Hr.heap_of_gr G5 (HX4.out _)
  have HB5 : Hid (w5.heap[w.heap.size]? = some (.cells H 34 (0, 0))) := Hr.heap_of_gr G5 (Hr.heap_of_gr (HW4.out _) HB3.out)
  have HG5 : Hid (Gr w3 w5) := (HW4.out _).trans G5
  have hlt5 : w3.heap.size < w5.heap.size := (Array.getElem?_eq_some_iff.1 HX5.out).1
  have k0 : w5.cell? ⟨w3.heap.size, 0, none⟩ = some (.int .u32 0) := (cell_of_row _ _ _ _ _ _ HX5.out).trans x0
  have k35 : w5.cell? ⟨w3.heap.size, 35, none⟩ = some (.int .i64 st) := (cell_of_row _ _ _ _ _ _ HX5.out).trans x35
  clear G5 M1 HW4 HX4 HB3
  by_cases hst0 : st = 0
  · subst hst0
    go_wp2_with fail
    go_ret
    exact ⟨rfl, HG3.out.trans HG5.out⟩
  · obtain ⟨e1, e2, e3⟩ := HF5.out hst0
    have b0 : (st == 0) = false := by simp [hst0]
    obtain ⟨X1, ex1, sx1⟩ := HX.out
    clear hst0 HF5 HX
    rw [ex1] at e1
    have HW6 : Hid (∀ Y : Array Value, ((w5.alloc (.cells Y 34)).setRow w5.heap.size X).heap[w5.heap.size]? = some (.cells X 34 (0, 0))) := fun Y => setRow_heap _ _ _ _ _ (0, 0) (heap_alloc_new w5 _)
    have HY : Hid (∀ Y : Array Value, ((((w5.alloc (.cells Y 34)).setRow w5.heap.size X).setCell ⟨w5.heap.size, 35, none⟩ (.int .i64 hst)).setCell ⟨w5.heap.size, 36, none⟩ (.int .i64 hca)).heap[w5.heap.size]? = some (.cells H 34 (0, 0))) := fun Y => by
      rw [← e1, ← ex1]
      exact heap_setCell_same _ _ _ _ _ _ (heap_setCell_same _ _ _ _ _ _ (HW6.out Y))
    have HG6 : Hid (∀ Y : Array Value, Gr w5 ((((w5.alloc (.cells Y 34)).setRow w5.heap.size X).setCell ⟨w5.heap.size, 35, none⟩ (.int .i64 hst)).setCell ⟨w5.heap.size, 36, none⟩ (.int .i64 hca))) := fun Y => ((gr_setRow ((Gr.refl _).alloc _) (Nat.le_refl _) _).setCell (Nat.le_refl _) _).setCell (Nat.le_refl _) _
    have q35 : ∀ Y : Array Value, ((w5.alloc (.cells Y 34)).setRow w5.heap.size X).cell? ⟨w5.heap.size, 35, none⟩ = some (.int .i64 st) := fun Y => (cell_of_row _ _ _ _ _ _ (HW6.out Y)).trans x35
    have q36 : ∀ Y : Array Value, ((w5.alloc (.cells Y 34)).setRow w5.heap.size X).cell? ⟨w5.heap.size, 36, none⟩ = some (.int .i64 ca) := fun Y => (cell_of_row _ _ _ _ _ _ (HW6.out Y)).trans x36
    have qf : ∀ (Y : Array Value) (j : Nat), ((w5.alloc (.cells Y 34)).setRow w5.heap.size X).frozen? ⟨w5.heap.size, j, none⟩ = false := fun Y j => frozen_of_row _ _ _ _ _ (HW6.out Y)
    have HB6 : Hid (∀ Y : Array Value, ((w5.alloc (.cells Y 34)).setRow w5.heap.size X).heap[w.heap.size]? = some (.cells H 34 (0, 0))) := fun Y => by
      rw [setRow_other _ _ _ _ (by omega), heap_alloc_old _ _ (by omega)]; exact HB5.out
    have p35 : ∀ Y : Array Value, ((w5.alloc (.cells Y 34)).setRow w5.heap.size X).cell? ⟨w.heap.size, 35, none⟩ = some (.int .i64 hst) := fun Y => (cell_of_row _ _ _ _ _ _ (HB6.out Y)).trans g35
    have p36 : ∀ Y : Array Value, ((w5.alloc (.cells Y 34)).setRow w5.heap.size X).cell? ⟨w.heap.size, 36, none⟩ = some (.int .i64 hca) := fun Y => (cell_of_row _ _ _ _ _ _ (HB6.out Y)).trans g36
    have HB7 : Hid (∀ Y : Array Value, ((((w5.alloc (.cells Y 34)).setRow w5.heap.size X).setCell ⟨w5.heap.size, 35, none⟩ (.int .i64 hst)).setCell ⟨w5.heap.size, 36, none⟩ (.int .i64 hca)).heap[w.heap.size]? = some (.cells H 34 (0, 0))) := fun Y => by
      rw [heap_setCell_other _ _ _ _ (by simp; omega), heap_setCell_other _ _ _ _ (by simp; omega)]; exact HB6.out Y
    have hne : ¬ w5.heap.size = w.heap.size := by omega
    have hne2 : ¬ w.heap.size = w5.heap.size := by omega
    have HE2 : Hid (S.m = l) := e2
    have HE3 : Hid (S.out = []) := e3
    have h0 : S.out.length = 0 := by rw [e3]; rfl
    clear e1 e2 e3 ex1 f4
    go_wp2_with (first
      | (refine wpList_load_row rfl 34 (.tmp 5) rfl w3.heap.size rfl 34 X (0, 0) _ ?y0 Tryd.underlying34 rfl (by rw [HSX.out]; exact iH') ?_; (case y0 => exact HX5.out))
      | (refine wpList_store_row rfl 34 (.tmp 9) (.tmp 62) rfl w5.heap.size X rfl rfl 34 #[.int .u32 0, .int .u32 0, .int .u32 0, .int .u32 0, .int .u32 0, .int .u32 0, .int .u32 0, .int .u32 0, .int .u32 0, .int .u32 0, .int .u32 0, .int .u32 0, .int .u32 0, .int .u32 0, .int .u32 0, .int .u32 0, .int .u32 0, .int .u32 0, .int .u32 0, .int .u32 0, .int .u32 0, .int .u32 0, .int .u32 0, .int .u32 0, .int .u32 0, .int .u32 0, .int .u32 0, .int .u32 0, .int .u32 0, .int .u32 0, .int .u32 0, .int .u32 0, .int .u32 0, .bool false, .int .u32 0, .int .i64 0, .int .i64 0] ?y3 (by rw [HSX.out]; exact iH') (by rw [HSX.out]; rfl) HOX.out ?_; (case y3 => exact heap_alloc_new w5 _))
      | (refine wpList_load_row rfl 34 (.tmp 9) rfl w5.heap.size rfl 34 H (0, 0) _ ?y1 Tryd.underlying34 rfl (by rw [HS.out]; exact iH') ?_; (case y1 => exact HY.out _))
      | (refine wpList_load_row rfl 34 (.tmp 2) rfl w.heap.size rfl 34 H (0, 0) _ ?y2 Tryd.underlying34 rfl (by rw [HS.out]; exact iH') ?_; (case y2 => exact HB7.out _)))
    have HMV2 : Hid (Mem w3 a1 n S.m) := by have := HMV.out; rwa [f2, hl] at this
    refine (Mr.Bytes_any c1 cap (HMV2.out.of (HG5.out.trans (HG6.out _))) (HM.out.of ((HG3.out.trans HG5.out).trans (HG6.out _)))).mono ?_
    rintro e w7 ⟨rfl, rfl⟩
    have HE : decide (S.m = l) = true := by rw [HE2.out]; simp
    have HGF : Hid (∀ Y : Array Value, Gr w ((((w5.alloc (.cells Y 34)).setRow w5.heap.size X).setCell ⟨w5.heap.size, 35, none⟩ (.int .i64 hst)).setCell ⟨w5.heap.size, 36, none⟩ (.int .i64 hca))) := fun Y => (HG3.out.trans HG5.out).trans (HG6.out Y)
    go_wp2_with fail
    go_ret
    exact ⟨rfl, HGF.out _⟩
theorem walk {h : Hv} (o : h.Ok) {ao : Option Addr} {n cap : Nat} {l : List UInt8} {w : World} (T : TT w w.heap.size) (M : Mem w ao n l) (hcap : ao = none → cap = 0) (hn : n ≤ 140737488351232) :
    Calls Tryd.prog 7 #[.agg (hA h), .slice ao n cap] w fun e w' => e = .returned (.bool true) ∧ Gr w w' := by
  by_cases hy : may h = true ∧ h.state = 0 ∧ n ≤ 4096
  · exact walk_yes o T M hcap hy.2.2 hy.1 hy.2.1
  · exact walk_no o ao n cap w hn hy
end Go.Proofs.YtfolphjampklpaaDoor.hartZero
