/-
  The walk of the law HartSteps: of every hart and every memory it answers true.
-/
import Derived.Test.YtfolphjampklpaaDoorRef4g
import Derived.Test.YtfolphjampklpaaDoorHm8
import Derived.Test.YtfolphjampklpaaDoorHw
import Derived.Test.YtfolphjampklpaaDoorHa
import Derived.Test.YtfolphjampklpaaDoorHz
namespace Go.Proofs.YtfolphjampklpaaDoor.hartSteps
open Go.ChangeShapes Go.WideShapes Go.ChangeAt Go.RowKit Mm Hh Hc
set_option linter.unusedVariables false
set_option linter.unusedSimpArgs false

theorem out_slice {w : World} {v : Value} {os : List Int} (h : Hr.OutV w v os) : ∃ ao cap, v = .slice ao os.length cap ∧ Wm w ao os.length os := by
  rcases h with ⟨rfl, rfl⟩ | ⟨k, x, rfl, rfl, hc⟩
  · exact ⟨none, 0, rfl, rfl, fun _ => rfl, fun ad e => (by cases e)⟩
  · refine ⟨some ⟨k, 0, none⟩, 1, rfl, rfl, fun e => (by cases e), fun ad e t ht => ?_⟩
    obtain rfl := Option.some.inj e
    have : t = 0 := by simp at ht; omega
    subst this
    rw [add_at, cell_of_row _ _ _ _ _ _ hc]
    rfl

set_option maxHeartbeats 2000000 in
set_option maxRecDepth 100000 in
theorem walk_yes {h : Hv} (o : h.Ok) {ao : Option Addr} {n cap : Nat} {l : List UInt8} {w : World} (T : TT w w.heap.size) (M : Mem w ao n l) (hcap : ao = none → cap = 0) (hn : n ≤ 4096) (hm : may h = true) (hs : h.state = 0) :
    Calls Tryd.prog 6 #[.agg (hA h), .slice ao n cap] w fun e w' => e = .returned (.bool true) ∧ Gr w w' := by
  have M1 : Hid (∀ W : World, Calls Tryd.prog 14 #[.agg (hA h)] W fun e w' => e = .returned (.bool true) ∧ Gr W w') := fun W => by rw [← hm]; exact may_any o W
  have M2 : Hid (∀ W : World, Calls Tryd.prog 15 #[.agg (hA h)] W fun e w' => e = .returned (.bool true) ∧ Gr W w') := fun W => by rw [← hm]; exact rmay_any o W
  have S1 : Hid (∀ W : World, Gr w W → Calls Tryd.prog 16 #[.agg (hA h), .slice ao n cap] W fun e w' => ∃ V O, e = .returned (.tuple #[.agg (hA (stp h l).h), V, O, .bool true]) ∧ Own w' 0 V (stp h l).m ∧ w'.ownsRow W.heap.size 22 1 O (stp h l).out.length ((stp h l).out.map (Value.int .u32)) ∧ Gr W w') := fun W G => hStep_yes o (T.grow G) (M.of G) hcap hn hm hs
  have S2 : Hid (∀ W : World, Gr w W → Calls Tryd.prog 17 #[.agg (hA h), .slice ao n cap] W fun e w' => ∃ d, e = .returned (.agg (dA d)) ∧ Hr.Dd w' (.slice ao n cap) W.heap.size d (stp h l) ∧ Gr W w') := fun W G => Hr.rstep_any o (M.of G) (by omega) hs
  have g35 : (hA h)[35]? = some (.int .i64 0) := by rw [← hs]; exact (may_get h o).2.2.2.1
  have HS : Hid ((hA h).size = 37) := hA_size o
  have okS := stp_ok o l
  have hol := (good_stp (rn_of hm hs) l).2.2.2.1
  generalize stp h l = S at *
  have HSX : Hid ((hA S.h).size = 37) := hA_size okS
  have HLX : Hid ((hL S.h).length = 37) := hL_len okS
  have he : ∀ W : World, (binOp .eql 34 (.agg (hA S.h)) (.agg (hL S.h).toArray)).run Tryd.prog W = .ok (.bool true) W := fun W => eql_hart okS W
  generalize hA h = H at *
  clear T M hcap hm hs o okS
  go_enter Tryd.func6, Tryd.ntmps6
  go_wp2_with (refine wpList_load_row rfl 34 _ rfl w.heap.size rfl 34 H (0, 0) _ ?a1 Tryd.underlying34 rfl (by rw [HS.out]; exact iH') ?_; (case a1 => exact heap_alloc_new w _))
  refine (M1.out _).mono ?_
  rintro e w1 ⟨rfl, G1⟩
  have HB1 : Hid (w1.heap[w.heap.size]? = some (.cells H 34 (0, 0))) := Hr.heap_of_gr G1 (heap_alloc_new w _)
  have HG1 : Hid (Gr w w1) := ((Gr.refl _).alloc _).trans G1
  clear G1 M1
  go_wp2_with (refine wpList_load_row rfl 34 _ rfl w.heap.size rfl 34 H (0, 0) _ ?a2 Tryd.underlying34 rfl (by rw [HS.out]; exact iH') ?_; (case a2 => exact HB1.out))
  refine (M2.out _).mono ?_
  rintro e w2 ⟨rfl, G2⟩
  have HB2 : Hid (w2.heap[w.heap.size]? = some (.cells H 34 (0, 0))) := Hr.heap_of_gr G2 HB1.out
  have HG2 : Hid (Gr w w2) := HG1.out.trans G2
  clear G2 M2 HB1 HG1
  go_wp2_with (refine wpList_load_row rfl 34 _ rfl w.heap.size rfl 34 H (0, 0) _ ?a3 Tryd.underlying34 rfl (by rw [HS.out]; exact iH') ?_; (case a3 => exact HB2.out))
  refine (S1.out _ HG2.out).mono ?_
  rintro e w3 ⟨V, O, rfl, O1, O2, G3⟩
  obtain ⟨a1, c1, rfl, MV⟩ := O1.mem
  obtain ⟨a2, c2, rfl, WO⟩ := wm_own rfl O2
  have HMV : Hid (Mem w3 a1 S.m.length S.m) := MV
  have HWO : Hid (Wm w3 a2 S.out.length S.out) := WO
  have HB3 : Hid (w3.heap[w.heap.size]? = some (.cells H 34 (0, 0))) := Hr.heap_of_gr G3 HB2.out
  have HG3 : Hid (Gr w w3) := HG2.out.trans G3
  have hlt3 : w.heap.size < w3.heap.size := (Array.getElem?_eq_some_iff.1 HB3.out).1
  have HW4 : Hid (∀ Y : Array Value, Gr w3 ((w3.alloc (.cells Y 34)).setRow w3.heap.size (hA S.h))) := fun Y => gr_setRow ((Gr.refl _).alloc _) (Nat.le_refl _) _
  have k35 : ∀ Y : Array Value, ((w3.alloc (.cells Y 34)).setRow w3.heap.size (hA S.h)).cell? ⟨w.heap.size, 35, none⟩ = some (.int .i64 0) := fun Y => (cell_of_row _ _ _ _ _ _ (Hr.heap_of_gr (HW4.out Y) HB3.out)).trans g35
  clear G3 S1 HB2 HG2 O1 O2 MV WO
  go_wp2_with (first
    | (refine wpList_store_row rfl 34 _ _ rfl w3.heap.size (hA S.h) rfl rfl 34 _ (heap_alloc_new w3 _) (by rw [HSX.out]; exact iH') (by rw [HSX.out]; rfl) (one_hA _) ?_)
    | (refine wpList_load_row rfl 34 _ rfl w.heap.size rfl 34 H (0, 0) _ ?a4 Tryd.underlying34 rfl (by rw [HS.out]; exact iH') ?_; (case a4 => exact Hr.heap_of_gr (HW4.out _) HB3.out)))
  refine (S2.out _ (HG3.out.trans (HW4.out _))).mono ?_
  rintro e w5 ⟨d, rfl, DD, G5⟩
  obtain ⟨dok, dh, ⟨a3, n3, c3, dm, M3, _⟩, dout, _⟩ := DD
  obtain ⟨a4, c4, dout, W4⟩ := out_slice dout
  have HX5 : Hid (w5.heap[w3.heap.size]? = some (.cells (hA S.h) 34 (0, 0))) := Hr.heap_of_gr G5 (setRow_heap _ _ _ _ _ (0, 0) (heap_alloc_new w3 _))
  have HG5 : Hid (Gr w3 w5) := (HW4.out _).trans G5
  have hlt5 : w3.heap.size < w5.heap.size := (Array.getElem?_eq_some_iff.1 HX5.out).1
  have HSD : Hid ((dA d).size = 41) := dA_size dok.h
  have HOD : Hid ((dA d).all (·.oneCell') = true) := one_dA dok
  have g37 : (dA d)[37]? = some (.slice a3 n3 c3) := by rw [dA_fld dok.h 0]; simp [dm]
  have g38 : (dA d)[38]? = some (.slice a4 S.out.length c4) := by rw [dA_fld dok.h 1]; simp [dout]
  have gr : Hid (∀ j u, (hL S.h)[j]? = some u → (dA d)[j]? = some u) := fun j u hj => by
    have hj2 : j < 37 := by have := (List.getElem?_eq_some_iff.1 hj).1; rw [HLX.out] at this; exact this
    rw [dA_get dok.h hj2, dh]; exact hj
  have HM3 : Hid (Mem w5 a3 n3 S.m) := M3
  have HW4' : Hid (Wm w5 a4 S.out.length S.out) := W4
  generalize dA d = D at *
  clear G5 S2 HW4 HB3 M3 W4 dok dh dm dout k35
  have HW6 : Hid (∀ Y : Array Value, Gr w5 ((w5.alloc (.cells Y 41)).setRow w5.heap.size D)) := fun Y => gr_setRow ((Gr.refl _).alloc _) (Nat.le_refl _) _
  have HD6 : Hid (∀ Y : Array Value, ((w5.alloc (.cells Y 41)).setRow w5.heap.size D).heap[w5.heap.size]? = some (.cells D 41 (0, 0))) := fun Y => setRow_heap _ _ _ _ _ (0, 0) (heap_alloc_new w5 _)
  have k37 : ∀ Y : Array Value, ((w5.alloc (.cells Y 41)).setRow w5.heap.size D).cell? ⟨w5.heap.size, 37, none⟩ = some (.slice a3 n3 c3) := fun Y => (cell_of_row _ _ _ _ _ _ (HD6.out Y)).trans g37
  have k38 : ∀ Y : Array Value, ((w5.alloc (.cells Y 41)).setRow w5.heap.size D).cell? ⟨w5.heap.size, 38, none⟩ = some (.slice a4 S.out.length c4) := fun Y => (cell_of_row _ _ _ _ _ _ (HD6.out Y)).trans g38
  have RG : Hid (∀ Y : Array Value, ((w5.alloc (.cells Y 41)).setRow w5.heap.size D).rangeAt w5.heap.size 0 (hL S.h)) := fun Y j u hj => by
    rw [Nat.zero_add, cell_of_row _ _ _ _ _ _ (HD6.out Y)]; exact gr.out j u hj
  go_wp2_with (first
    | (refine wpList_store_row rfl 41 _ _ rfl w5.heap.size D rfl rfl 41 _ (heap_alloc_new w5 _) (by rw [HSD.out]; exact Hr.iD) (by rw [HSD.out]; rfl) HOD.out ?_)
    | (refine wpList_gload_row (by rfl) 34 _ rfl w3.heap.size rfl 34 (hA S.h) (0, 0) _ ?b1 Tryd.underlying34 rfl (by rw [HSX.out]; exact iH') ?_; (case b1 => exact Hr.heap_of_gr (HW6.out _) HX5.out))
    | (refine wpList_gload_mid (by rfl) 34 _ rfl w5.heap.size 0 rfl (hL S.h) _ ?b2 Tryd.underlying34 rfl (by rw [HLX.out]; exact iH') ?_; (case b2 => exact RG.out _)))
  refine (Mr.Bytes_any c1 c3 (HMV.out.of (HG5.out.trans (HW6.out _))) (HM3.out.of (HW6.out _))).mono ?_
  rintro e w7 ⟨rfl, rfl⟩
  have HE : decide (S.m = S.m) = true := by simp
  go_wp2_with fail
  refine (Words_same c2 c4 (by omega) (HWO.out.of (HG5.out.trans (HW6.out _))) (HW4'.out.of (HW6.out _))).mono ?_
  rintro e w8 ⟨rfl, G8⟩
  have HG8 : Hid (Gr w w8) := (HG3.out.trans (HG5.out.trans (HW6.out _))).trans G8
  clear G8 HW6 HD6 k37 k38 RG he
  go_wp2_with fail
  go_ret
  exact ⟨rfl, HG8.out⟩

set_option maxHeartbeats 2000000 in
set_option maxRecDepth 100000 in
theorem walk_no {h : Hv} (o : h.Ok) (ao : Option Addr) (n cap : Nat) (w : World) (hn : n ≤ 140737488351232) (hno : ¬ (may h = true ∧ h.state = 0 ∧ n ≤ 4096)) :
    Calls Tryd.prog 6 #[.agg (hA h), .slice ao n cap] w fun e w' => e = .returned (.bool true) ∧ Gr w w' := by
  have M1 : Hid (∀ W : World, Calls Tryd.prog 14 #[.agg (hA h)] W fun e w' => e = .returned (.bool (may h)) ∧ Gr W w') := fun W => may_any o W
  have M2 : Hid (∀ W : World, Calls Tryd.prog 15 #[.agg (hA h)] W fun e w' => e = .returned (.bool (may h)) ∧ Gr W w') := fun W => rmay_any o W
  have S1 : Hid (∀ W : World, Calls Tryd.prog 16 #[.agg (hA h), .slice ao n cap] W fun e w' => e = .returned (.tuple #[.agg (hA h0), .slice none 0 0, .slice none 0 0, .bool false]) ∧ Gr W w') := fun W => hStep_no o ao n cap W hn hno
  have g35 : (hA h)[35]? = some (.int .i64 h.state) := (may_get h o).2.2.2.1
  have HS : Hid ((hA h).size = 37) := hA_size o
  have HSX : Hid ((hA h0).size = 37) := hA_size h0_ok
  have he : ∀ W : World, (binOp .eql 34 (.agg (hA h0)) (.agg #[.int .u32 0, .int .u32 0, .int .u32 0, .int .u32 0, .int .u32 0, .int .u32 0, .int .u32 0, .int .u32 0, .int .u32 0, .int .u32 0, .int .u32 0, .int .u32 0, .int .u32 0, .int .u32 0, .int .u32 0, .int .u32 0, .int .u32 0, .int .u32 0, .int .u32 0, .int .u32 0, .int .u32 0, .int .u32 0, .int .u32 0, .int .u32 0, .int .u32 0, .int .u32 0, .int .u32 0, .int .u32 0, .int .u32 0, .int .u32 0, .int .u32 0, .int .u32 0, .int .u32 0, .bool false, .int .u32 0, .int .i64 0, .int .i64 0])).run Tryd.prog W = .ok (.bool true) W := fun W => eql_hart h0_ok W
  have HO : Hid ((hA h0).all (·.oneCell') = true) := one_hA _
  generalize hA h0 = X at *
  generalize hA h = H at *
  generalize may h = B at *
  generalize h.state = st at *
  have hc : B = false ∨ (B = true ∧ (st != 0) = true) ∨ (B = true ∧ (st != 0) = false ∧ 4096 < n) := by
    cases B with
    | false => exact .inl rfl
    | true =>
      by_cases h1 : st = 0
      · exact .inr (.inr ⟨rfl, by simp [h1], by simp [h1] at hno; omega⟩)
      · exact .inr (.inl ⟨rfl, by simp [h1]⟩)
  clear hno o
  rcases hc with rfl | ⟨rfl, bs⟩ | ⟨rfl, bs, hs⟩
  all_goals
    go_enter Tryd.func6, Tryd.ntmps6
    go_wp2_with (refine wpList_load_row rfl 34 _ rfl w.heap.size rfl 34 H (0, 0) _ (heap_alloc_new w _) Tryd.underlying34 rfl (by rw [HS.out]; exact iH') ?_)
    refine (M1.out _).mono ?_
    rintro e w1 ⟨rfl, G1⟩
    have HB1 : Hid (w1.heap[w.heap.size]? = some (.cells H 34 (0, 0))) := Hr.heap_of_gr G1 (heap_alloc_new w _)
    have HG1 : Hid (Gr w w1) := ((Gr.refl _).alloc _).trans G1
    clear G1 M1
    go_wp2_with (refine wpList_load_row rfl 34 _ rfl w.heap.size rfl 34 H (0, 0) _ HB1.out Tryd.underlying34 rfl (by rw [HS.out]; exact iH') ?_)
    refine (M2.out _).mono ?_
    rintro e w2 ⟨rfl, G2⟩
    have HB2 : Hid (w2.heap[w.heap.size]? = some (.cells H 34 (0, 0))) := Hr.heap_of_gr G2 HB1.out
    have HG2 : Hid (Gr w w2) := HG1.out.trans G2
    clear G2 M2 HB1 HG1
    go_wp2_with (refine wpList_load_row rfl 34 _ rfl w.heap.size rfl 34 H (0, 0) _ HB2.out Tryd.underlying34 rfl (by rw [HS.out]; exact iH') ?_)
    refine (S1.out _).mono ?_
    rintro e w3 ⟨rfl, G3⟩
    have HB3 : Hid (w3.heap[w.heap.size]? = some (.cells H 34 (0, 0))) := Hr.heap_of_gr G3 HB2.out
    have HG3 : Hid (Gr w w3) := HG2.out.trans G3
    have HW4 : Hid (∀ Y : Array Value, Gr w3 ((w3.alloc (.cells Y 34)).setRow w3.heap.size X)) := fun Y => gr_setRow ((Gr.refl _).alloc _) (Nat.le_refl _) _
    have HX4 : Hid (∀ Y : Array Value, ((w3.alloc (.cells Y 34)).setRow w3.heap.size X).heap[w3.heap.size]? = some (.cells X 34 (0, 0))) := fun Y => setRow_heap _ _ _ _ _ (0, 0) (heap_alloc_new w3 _)
    have k35 : ∀ Y : Array Value, ((w3.alloc (.cells Y 34)).setRow w3.heap.size X).cell? ⟨w.heap.size, 35, none⟩ = some (.int .i64 st) := fun Y => (cell_of_row _ _ _ _ _ _ (Hr.heap_of_gr (HW4.out Y) HB3.out)).trans g35
    clear G3 S1 HB2 HG2
    go_wp2_with (first
      | (refine wpList_store_row rfl 34 _ _ rfl w3.heap.size X rfl rfl 34 _ (heap_alloc_new w3 _) (by rw [HSX.out]; exact iH') (by rw [HSX.out]; rfl) HO.out ?_)
      | (refine wpList_gload_row (by rfl) 34 _ rfl w3.heap.size rfl 34 X (0, 0) _ (HX4.out _) Tryd.underlying34 rfl (by rw [HSX.out]; exact iH') ?_))
    go_ret
    exact ⟨rfl, HG3.out.trans (HW4.out _)⟩

theorem walk {h : Hv} (o : h.Ok) {ao : Option Addr} {n cap : Nat} {l : List UInt8} {w : World} (T : TT w w.heap.size) (M : Mem w ao n l) (hcap : ao = none → cap = 0) (hn : n ≤ 140737488351232) :
    Calls Tryd.prog 6 #[.agg (hA h), .slice ao n cap] w fun e w' => e = .returned (.bool true) ∧ Gr w w' := by
  by_cases hy : may h = true ∧ h.state = 0 ∧ n ≤ 4096
  · exact walk_yes o T M hcap hy.2.2 hy.1 hy.2.1
  · exact walk_no o ao n cap w hn hy

end Go.Proofs.YtfolphjampklpaaDoor.hartSteps
