/-
  Usm, UrW, Ma, Mo: texts of ours that lie in one file.
-/
import Derived.Test.YtphklaefhpoimacDoorM06
import Derived.Test.YtphklaefhpoimacDoorM11
import Derived.Test.YtphklaefhpoimacDoorM01
import Derived.Test.YtphklaefhpoimacDoorM02
import Derived.ProofKit
import Derived.SizedLaws
import Derived.Deep.Slices
import Derived.Test.YtphklaefhpoimacDoorMemArgs
/-
  What ferrybridgeref12.Same answers, of two lists of Undos that are one.
-/
namespace Go.Proofs.YtphklaefhpoimacDoor.Ud
open Go.ChangeShapes Go.WideShapes Go.ChangeAt Go.RowKit Mm Hh Hc Mc
set_option linter.unusedVariables false
set_option linter.unusedSimpArgs false

theorem wpList_gneq {P : Program} {ops : Array Oper} {rest : List Oper} {op : Oper} {a : Act} {w : World} {Q : Exit → Act → World → Prop} (hw : Region.wanted op (yielded ops a.tmps) = true) (t t' : TypeId) (x y : Operand) (ho : op.op = .binOp .neq t x y t') (A B : Array Value) (hx : a.eval x = .agg A) (hy : a.eval y = .agg B) (hg : P.eqGuardType P.depth t = false)
    {v : Value} (hr : ∀ w, (binOp .neq t (.agg A) (.agg B)).run P w = .ok v w) (h : wpList P ops Q rest (a.put op.dst v) w) : wpList P ops Q (op :: rest) a w :=
  wpList_want hw fun _ hK => by
    unfold Oper.wp execOp
    simp only [ho, hx, hy, Sem.run_bind, run_eqGuard_agg w _ _ _ _ _ _ hg, hr, Result.andThen_ok]
    exact hK _ _ h
set_option maxHeartbeats 4000000 in
set_option maxRecDepth 100000 in
theorem USame_same {la lb : Option Addr} {n : Nat} (c d : Nat) {us : List Uv} {w : World} (A : Us w la n us) (B : Us w lb n us) (hn : n ≤ 200000) (hl4 : ∀ u ∈ us, u.lost.length ≤ 4096) :
    Calls Tryd.prog 16 #[.slice la n c, .slice lb n d] w fun e w' => e = .returned (.bool true) ∧ Gr w w' := by
  have HA : Hid (Us w la n us) := A
  have HB : Hid (Us w lb n us) := B
  have HL4 : Hid (∀ u ∈ us, u.lost.length ≤ 4096) := hl4
  have HL : Hid (us.length = n) := A.len
  clear A B hl4
  have hnn : ((n : Int) != (n : Int)) = false := by simp
  go_enter Tryd.func16, Tryd.ntmps16
  go_wp2_with fail
  go_loopw [5] (fun i wr => ∃ k : Nat, k ≤ n ∧ i = .int .i64 k ∧ Gr w wr) (fun i _ => n - (intOf i).toNat)
  case atStart => exact ⟨0, Nat.zero_le _, rfl, Gr.refl _⟩
  case round =>
    rename World => w3
    obtain ⟨j, hj, rfl, G⟩ := hrel
    have HG : Hid (Gr w w3) := G
    clear G
    by_cases hlt : j < n
    · obtain ⟨u, hu⟩ : ∃ u, us[j]? = some u := ⟨_, List.getElem?_eq_getElem (by rw [HL.out]; exact hlt)⟩
      obtain ⟨b1, o1, rfl, hb1, r1⟩ := HA.out.spot (by omega)
      obtain ⟨b2, o2, rfl, hb2, r2⟩ := HB.out.spot (by omega)
      obtain ⟨x, ux, rx⟩ := r1 j u hu
      obtain ⟨y, uy, ry⟩ := r2 j u hu
      have RX : Hid (w3.rangeAt b1 (o1 + j * 41) x) := rangeAt_of rx hb1 HG.out
      have RY : Hid (∀ W : World, Gr w3 W → W.rangeAt b2 (o2 + j * 41) y) := fun W G => rangeAt_of ry hb2 (HG.out.trans G)
      have HXL : Hid (x.length = 41) := ux.len
      have HYL : Hid (y.length = 41) := uy.len
      have HXA : Hid (x.toArray.size = 41) := by unfold Hid; rw [List.size_toArray]; exact ux.len
      have HYA : Hid (y.toArray.size = 41) := by unfold Hid; rw [List.size_toArray]; exact uy.len
      have HX1 : Hid (x.toArray.all (·.oneCell') = true) := ux.one
      have HY1 : Hid (y.toArray.all (·.oneCell') = true) := uy.one
      obtain ⟨xa, xn, xc, xl, xm, xd, ex, ok, k1, k2, MX, LX, bx1, bx2⟩ := ux
      obtain ⟨ya, yn, yc, yl, ym, yd, ey, _, _, _, MY, LY, by1, by2⟩ := uy
      obtain rfl : xm = ym := LX.len.symm.trans LY.len
      have hlm : xm ≤ 4096 := by rw [← LX.len]; exact HL4.out u (List.mem_of_getElem? hu)
      have HLX : Hid (Ls w xl xm u.lost) := LX
      have HLY : Hid (Ls w yl xm u.lost) := LY
      have HLL : Hid (u.lost.length = xm) := LX.len
      have HBy : Hid (∀ W : World, Gr w W → Calls Tryd.prog 30 #[.slice xa xn xc, .slice ya yn yc] W fun e w' => e = .returned (.bool true) ∧ Gr W w') := fun W G => (Mr.Bytes_any xc yc (MX.of G) (MY.of G)).mono fun e w' ⟨h1, h2⟩ => ⟨by rw [h1]; simp, by rw [h2]; exact Gr.refl _⟩
      have HHL : Hid ((hL u.was).length = 37) := hL_len ok.was
      have HNQ : Hid (∀ W : World, (binOp .neq 70 (.agg (hL u.was).toArray) (.agg (hL u.was).toArray)).run Tryd.prog W = .ok (.bool false) W) := fun W => neq_hart ok.was W
      have cells : ∀ {z : List Value} {p q : Value}, z = uL u p q → z[0]? = some (.int .i64 u.k) ∧ (∀ i v, (hL u.was)[i]? = some v → z[1 + i]? = some v) ∧ z[38]? = some (.int .u32 u.fr) ∧ z[39]? = some p ∧ z[40]? = some q := by
        rintro z p q rfl
        refine ⟨rfl, fun i v hi => ?_, uL_fld ok.was 0, uL_fld ok.was 1, uL_fld ok.was 2⟩
        have : i < 37 := by have := (List.getElem?_eq_some_iff.1 hi).1; rwa [hL_len ok.was] at this
        rw [uL_was ok.was this]; exact hi
      have HCX : Hid _ := cells ex
      have HCY : Hid _ := cells ey
      have e0 : (u.k != u.k) = false := by simp
      have e1 : (u.fr != u.fr) = false := by simp
      have e2 : ((xm : Int) != (xm : Int)) = false := by simp
      have HZ4 : Hid (∀ Y Z : Array Value, (((w3.alloc (.cells Y 86)).setRow w3.heap.size x.toArray).alloc (.cells Z 86)).heap[w3.heap.size + 1]? = some (.cells Z 86 (0, 0))) := fun Y Z => by
        have h := heap_alloc_new ((w3.alloc (.cells Y 86)).setRow w3.heap.size x.toArray) (.cells Z 86)
        rwa [show ((w3.alloc (.cells Y 86)).setRow w3.heap.size x.toArray).heap.size = w3.heap.size + 1 by simp] at h
      have HS4 : Hid (∀ Y Z : Array Value, ((((w3.alloc (.cells Y 86)).setRow w3.heap.size x.toArray).alloc (.cells Z 86)).setRow (w3.heap.size + 1) y.toArray).heap[w3.heap.size]? = some (.cells x.toArray 86 (0, 0))) := fun Y Z => (sro (by omega)).trans ((heap_alloc_old _ _ (by simp)).trans (srh (heap_alloc_new w3 _)))
      clear cells MX MY LX LY ex ey rx ry r1 r2 ok hu k1 k2
      go_wp2_with (first
        | (refine wpList_load_mid rfl 86 _ rfl b1 (o1 + j * 41) rfl x _ ?r1 Tryd.underlying86 rfl (by rw [HXL.out]; exact iU) ?_; (case r1 => exact RX.out))
        | (refine wpList_store_row rfl 86 _ _ rfl w3.heap.size x.toArray rfl rfl 86 _ (heap_alloc_new w3 _) (by rw [HXA.out]; exact iU) (by rw [HXA.out]; rfl) HX1.out ?_)
        | (refine wpList_load_mid rfl 86 _ rfl b2 (o2 + j * 41) rfl y _ ?r1 Tryd.underlying86 rfl (by rw [HYL.out]; exact iU) ?_; (case r1 => exact RY.out _ (gr_setRow ((Gr.refl _).alloc _) (Nat.le_refl _) _)))
        | (refine wpList_store_row rfl 86 _ _ rfl (w3.heap.size + 1) y.toArray rfl rfl 86 _ (HZ4.out _ _) (by rw [HYA.out]; exact iU) (by rw [HYA.out]; rfl) HY1.out ?_; refine atW (fun W => Gr w3 W ∧ W.heap[w3.heap.size]? = some (.cells x.toArray 86 (0, 0)) ∧ W.heap[w3.heap.size + 1]? = some (.cells y.toArray 86 (0, 0))) ⟨gr_setRow ((gr_setRow ((Gr.refl w3).alloc _) (Nat.le_refl _) _).alloc _) (Nat.le_succ _) _, HS4.out _ _, srh (HZ4.out _ _)⟩ ?_; rintro w4 ⟨G4, X4, Y4⟩; have HG4 : Hid (Gr w w4) := HG.out.trans G4; have HX4 : Hid (w4.heap[w3.heap.size]? = some (.cells x.toArray 86 (0, 0))) := X4; have HY4 : Hid (w4.heap[w3.heap.size + 1]? = some (.cells y.toArray 86 (0, 0))) := Y4; have cx : ∀ {i : Nat} {v : Value}, x[i]? = some v → w4.cell? ⟨w3.heap.size, i, none⟩ = some v := (fun h => (cr HX4.out).trans (by rw [List.getElem?_toArray]; exact h)); have cy : ∀ {i : Nat} {v : Value}, y[i]? = some v → w4.cell? ⟨w3.heap.size + 1, i, none⟩ = some v := (fun h => (cr HY4.out).trans (by rw [List.getElem?_toArray]; exact h)); have x0 := cx HCX.out.1; have x38 := cx HCX.out.2.2.1; have x39 := cx HCX.out.2.2.2.1; have x40 := cx HCX.out.2.2.2.2; have y0 := cy HCY.out.1; have y38 := cy HCY.out.2.2.1; have y39 := cy HCY.out.2.2.2.1; have y40 := cy HCY.out.2.2.2.2; have RX4 : Hid (w4.rangeAt w3.heap.size 1 (hL u.was)) := (fun i v hv => cx (HCX.out.2.1 i v hv)); have RY4 : Hid (w4.rangeAt (w3.heap.size + 1) 1 (hL u.was)) := (fun i v hv => cy (HCY.out.2.1 i v hv)); have hl4 : w3.heap.size + 1 < w4.heap.size := (gs Y4).1; have hl3 : w3.heap.size < w4.heap.size := (gs X4).1; clear cx cy X4 Y4 G4 HS4 HZ4 RX RY)
        | (refine wpList_gload_mid (by rfl) 70 _ rfl w3.heap.size 1 rfl (hL u.was) _ ?r2 Tryd.underlying70 rfl (by rw [HHL.out]; exact iH) ?_; (case r2 => exact RX4.out))
        | (refine wpList_gload_mid (by rfl) 70 _ rfl (w3.heap.size + 1) 1 rfl (hL u.was) _ ?r2 Tryd.underlying70 rfl (by rw [HHL.out]; exact iH) ?_; (case r2 => exact RY4.out))
        | (refine wpList_gneq (by rfl) 70 70 _ _ rfl (hL u.was).toArray (hL u.was).toArray rfl rfl (by kernel_rfl) HNQ.out ?_))
      refine (HBy.out _ HG4.out).mono ?_
      rintro e w5 ⟨rfl, G5⟩
      have HG5 : Hid (Gr w w5) := HG4.out.trans G5
      have HX5 : Hid (w5.heap[w3.heap.size]? = some (.cells x.toArray 86 (0, 0))) := Hr.heap_of_gr G5 HX4.out
      have HY5 : Hid (w5.heap[w3.heap.size + 1]? = some (.cells y.toArray 86 (0, 0))) := Hr.heap_of_gr G5 HY4.out
      have a40 : w5.cell? ⟨w3.heap.size, 40, none⟩ = some (.slice xl xm xd) := (cr HX5.out).trans (by rw [List.getElem?_toArray]; exact HCX.out.2.2.2.2)
      have b40 : w5.cell? ⟨w3.heap.size + 1, 40, none⟩ = some (.slice yl xm yd) := (cr HY5.out).trans (by rw [List.getElem?_toArray]; exact HCY.out.2.2.2.2)
      clear x0 x38 x39 x40 y0 y38 y39 y40 RX4 RY4 HX4 HY4 G5 HG4 HBy
      have hl6 : w3.heap.size + 1 < w5.heap.size := (gs HY5.out).1
      have hl7 : w3.heap.size < w5.heap.size := (gs HX5.out).1
      go_wp2_with fail
      go_loopw [8] (fun kv wq => ∃ k : Nat, k ≤ xm ∧ kv = .int .i64 k ∧ Gr w5 wq) (fun kv _ => xm - (intOf kv).toNat)
      case atStart => exact ⟨0, Nat.zero_le _, rfl, Gr.refl _⟩
      case round =>
        obtain ⟨k, hk, rfl, G⟩ := hrel
        have HG6 : Hid (Gr w5 wr) := G
        have A40 : wr.cell? ⟨w3.heap.size, 40, none⟩ = some (.slice xl xm xd) := (G.cell _ (by exact hl7)).trans a40
        have B40 : wr.cell? ⟨w3.heap.size + 1, 40, none⟩ = some (.slice yl xm yd) := (G.cell _ (by exact hl6)).trans b40
        clear G
        by_cases hkl : k < xm
        · obtain ⟨p, hp⟩ : ∃ p, u.lost[k]? = some p := ⟨_, List.getElem?_eq_getElem (by rw [HLL.out]; exact hkl)⟩
          obtain ⟨c1, q1, rfl, hc1, s1⟩ := HLX.out.spot (by omega)
          obtain ⟨c2, q2, rfl, hc2, s2⟩ := HLY.out.spot (by omega)
          have GW := HG5.out.trans HG6.out
          have t0 : wr.cell? ⟨c1, q1 + k * 2, none⟩ = some (.int .i64 p.1) := (GW.cell _ (by exact hc1)).trans (s1 k p hp).1
          have t1 : wr.cell? ⟨c1, q1 + k * 2 + 1, none⟩ = some (.int .u32 p.2) := (GW.cell _ (by exact hc1)).trans (s1 k p hp).2
          have t2 : wr.cell? ⟨c2, q2 + k * 2, none⟩ = some (.int .i64 p.1) := (GW.cell _ (by exact hc2)).trans (s2 k p hp).1
          have t3 : wr.cell? ⟨c2, q2 + k * 2 + 1, none⟩ = some (.int .u32 p.2) := (GW.cell _ (by exact hc2)).trans (s2 k p hp).2
          clear s1 s2 hp GW a40 b40
          obtain ⟨p1, p2⟩ := p
          simp only at *
          go_wp2_with fail
          have n1 : (p1 != p1) = false := by simp
          have n2 : (p2 != p2) = false := by simp
          have n3 : (p1 == p1) = true := by simp
          have n4 : (p2 == p2) = true := by simp
          go_quiet (fail)
          go_wp2_with fail
          go_roundw
          case rel => exact ⟨k + 1, by omega, by go_num, HG6.out.drewN _⟩
          case measure => simp [intOf]; omega
        · go_wp2_with fail
          go_roundw
          case rel => exact ⟨j + 1, by omega, by go_num, HG5.out.trans HG6.out⟩
          case measure => simp [intOf]; omega
    · go_wp2_with fail
      go_ret
      exact ⟨rfl, HG.out⟩
end Go.Proofs.YtphklaefhpoimacDoor.Ud
/-
  The walk of the law UndoRuns: of every machine and script it answers true.
-/
namespace Go.Proofs.YtphklaefhpoimacDoor.undoRuns
open Go.ChangeShapes Go.WideShapes Go.ChangeAt Go.RowKit Mm Hh Hc Mc Ud
set_option linter.unusedVariables false
set_option linter.unusedSimpArgs false

variable {ma ha pa : Option Addr} {hn pn : Nat} {m : List UInt8} {hs : List Hv} {ps : List (Int × Int)} {w : World}
theorem zeros (w : World) : Shw w (.agg #[.slice none 0 0, .slice none 0 0, .slice none 0 0, .int .i64 0]) 0 0 ⟨[], [], [], 0⟩ :=
  ⟨none, 0, none, 0, none, 0, rfl, ⟨rfl, fun _ => rfl, fun ad e => by cases e⟩, ⟨rfl, fun h hm => (by cases hm), fun h => absurd h (by omega)⟩, ⟨rfl, fun _ => rfl, fun ad e => by cases e⟩⟩
set_option maxHeartbeats 2000000 in
set_option maxRecDepth 100000 in
theorem walk_no (mc hc pc : Nat) (mn : Nat) (hmn : m.length = mn) (H : Hs w ha hn hs) (P : Ps w pa pn ps) (b1 : mn ≤ 140737488351232) (b2 : hn ≤ 140737488351232) (b3 : pn ≤ 140737488351232) (hno : ¬ wrong m hs ps = 0) :
    Calls Tryd.prog 5 #[.agg #[.slice ma mn mc, .slice ha hn hc], .slice pa pn pc] w fun e w' => e = .returned (.bool true) ∧ Gr w w' := by
  have HWr : Hid (∀ W : World, Gr w W → _) := fun W G => Wrong_any (ma := ma) (fun h o W => rmay_any o W) mc hc pc mn hmn (H.of G) (P.of G) b1 b2 b3
  have HR : Hid (∀ W : World, Gr w W → _) := fun W G => URun_no (ma := ma) mc hc pc mn hmn (H.of G) (P.of G) b1 b2 b3 hno
  clear H P hmn
  generalize wrong m hs ps = E at *
  have hE : (E != 0) = true := by simpa using hno
  have hE2 : (E == 0) = false := by simpa using hno
  have hE3 : (E == E) = true := by simp
  clear hno
  go_enter Tryd.func5, Tryd.ntmps5
  go_wp2_with fail
  refine (HWr.out _ ((Gr.refl _).alloc _)).mono ?_
  rintro e w1 ⟨rfl, G1⟩
  have HG1 : Hid (Gr w w1) := ((Gr.refl _).alloc _).trans G1
  have HB : Hid (w1.heap[w.heap.size]? = some (.cells #[.slice ma mn mc, .slice ha hn hc] 34 (0, 0))) := Hr.heap_of_gr G1 (heap_alloc_new w _)
  have x0 := cr0 HB.out
  have x1 := cr1 HB.out
  have hlt : w.heap.size < w1.heap.size := (gs HB.out).1
  clear G1 HWr
  go_wp2_with fail
  refine (HR.out _ HG1.out).mono ?_
  rintro e w2 ⟨rfl, G2⟩
  have HG2 : Hid (Gr w w2) := HG1.out.trans G2
  clear G2 HR
  go_wp2_with fail
  refine (Same_w (zeros _) (zeros _) (by decide) (by omega)).mono ?_
  rintro e w3 ⟨rfl, G3⟩
  have HG3 : Hid (Gr w w3) := HG2.out.trans (((Gr.refl _).alloc _).trans G3)
  clear G3
  go_wp2_with fail
  go_ret
  exact ⟨rfl, HG3.out⟩

set_option maxHeartbeats 4000000 in
set_option maxRecDepth 100000 in
theorem walk_yes (mc hc pc : Nat) (mn : Nat) (T : TT w w.heap.size) (M : Mem w ma mn m) (hcap : ma = none → mc = 0) (H : Hs w ha hn hs) (P : Ps w pa pn ps) (hy : wrong m hs ps = 0) :
    Calls Tryd.prog 5 #[.agg #[.slice ma mn mc, .slice ha hn hc], .slice pa pn pc] w fun e w' => e = .returned (.bool true) ∧ Gr w w' := by
  obtain ⟨b1, b2, b4, hmay, b3, hpk⟩ := wrong_ok hy
  have hml := M.len
  have hhl := H.len
  have hpl := P.len
  have HWr : Hid (∀ W : World, Gr w W → Calls Tryd.prog 10 #[.agg #[.slice ma mn mc, .slice ha hn hc], .slice pa pn pc] W fun e w' => e = .returned (.int .i64 0) ∧ Gr W w') := fun W G => (Wrong_any (fun h o W => rmay_any o W) mc hc pc mn hml (H.of G) (P.of G) (by omega) (by omega) (by omega)).mono fun e w' h => ⟨by rw [h.1, hy], h.2⟩
  have HWk : Hid (∀ W : World, Gr w W → _) := fun W G => work_any pc (P.of G) (by omega) (fun p hp => ⟨(hpk p hp).2.2.1, (hpk p hp).2.2.2⟩)
  have F0 : Fit ⟨hs, m, [], 0⟩ hn mn := ⟨hhl, hml, fun h hm => ⟨H.ok h hm, hmay h hm⟩⟩
  have LV : Live ⟨hs, m, [], 0⟩ (trP ⟨hs, m, [], 0⟩ (nums ps)) := trP_live _ _ (fun q hq => by
    obtain ⟨r, hr, rfl⟩ := List.mem_map.1 hq
    have := hpk r hr
    show r.1.toNat < hs.length
    omega)
  have m4 : mn ≤ 4096 := by omega
  have hst : (play ⟨hs, m, [], 0⟩ (nums ps)).steps ≤ 200000 := by have := (few_nums hy H.ok).1.2; omega
  have hul : (uns ⟨hs, m, [], 0⟩ (trP ⟨hs, m, [], 0⟩ (nums ps))).length = (play ⟨hs, m, [], 0⟩ (nums ps)).steps := by have := uns_steps ⟨hs, m, [], 0⟩ (nums ps); rw [← this]; simp
  have HUL : Hid (∀ u ∈ uns ⟨hs, m, [], 0⟩ (trP ⟨hs, m, [], 0⟩ (nums ps)), u.lost.length ≤ 4096) := fun u hu => by have := (uns_fit m4 _ _ F0 LV u hu).2.2.2; omega
  have HU : Hid (∀ W : World, Gr w W → Calls Tryd.prog 12 #[.agg #[.slice ma mn mc, .slice ha hn hc], .slice pa pn pc] W fun e w' => ∃ v ua uc, e = .returned (.tuple #[v, .slice ua (play ⟨hs, m, [], 0⟩ (nums ps)).steps uc, .int .i64 0]) ∧ Shn w' v hn mn (play ⟨hs, m, [], 0⟩ (nums ps)) ∧ Us w' ua (play ⟨hs, m, [], 0⟩ (nums ps)).steps (uns ⟨hs, m, [], 0⟩ (trP ⟨hs, m, [], 0⟩ (nums ps))) ∧ Gr W w') := fun W G =>
    (URun_yes mc hc pc mn (T.grow G) (M.of G) hcap (H.of G) (P.of G) hy).mono fun e w' ⟨v, ua, un, uc, h1, h2, h3, h4, h5⟩ => by
      obtain rfl : (play ⟨hs, m, [], 0⟩ (nums ps)).steps = un := hul.symm.trans h3.len
      exact ⟨v, ua, uc, h1, h2, h3, h5⟩
  have HUn : Hid (∀ W : World, Gr w W → Calls Tryd.prog 15 #[.agg #[.slice ma mn mc, .slice ha hn hc], .slice pa pn pc] W fun e w' => ∃ ua uc, e = .returned (.slice ua (play ⟨hs, m, [], 0⟩ (nums ps)).steps uc) ∧ Us w' ua (play ⟨hs, m, [], 0⟩ (nums ps)).steps (uns ⟨hs, m, [], 0⟩ (trP ⟨hs, m, [], 0⟩ (nums ps))) ∧ Gr W w') := fun W G =>
    (Undos_any mc hc pc mn (M.of G) (H.of G) (P.of G) hy).mono fun e w' ⟨ua, un, uc, h1, h3, h5⟩ => by
      obtain rfl : (play ⟨hs, m, [], 0⟩ (nums ps)).steps = un := hul.symm.trans h3.len
      exact ⟨ua, uc, h1, h3, h5⟩
  have HPl : Hid (∀ W : World, Gr w W → _) := fun W G => Play_any mc hc pc mn (M.of G) hcap (H.of G) (P.of G) hy
  have HFew := (few_nums hy H.ok).1
  have HFO : Hid ((play ⟨hs, m, [], 0⟩ (nums ps)).out.length ≤ 1000000) := by have := HFew.1; have := HFew.2; unfold Hid; omega
  have c4 : hn ≤ 4 := by omega
  clear H P M T hy hcap hmay hpk F0 LV hml hhl hpl b1 b2 b4 b3 hul HFew
  generalize uns ⟨hs, m, [], 0⟩ (trP ⟨hs, m, [], 0⟩ (nums ps)) = us at *
  generalize play ⟨hs, m, [], 0⟩ (nums ps) = S at *
  go_enter Tryd.func5, Tryd.ntmps5
  go_wp2_with fail
  refine (HWr.out _ ((Gr.refl _).alloc _)).mono ?_
  rintro e w1 ⟨rfl, G1⟩
  have HG1 : Hid (Gr w w1) := ((Gr.refl _).alloc _).trans G1
  have HB1 : Hid (w1.heap[w.heap.size]? = some (.cells #[.slice ma mn mc, .slice ha hn hc] 34 (0, 0))) := Hr.heap_of_gr G1 (heap_alloc_new w _)
  clear G1 HWr
  go_wp2_with fail
  refine (HWk.out _ HG1.out).mono ?_
  rintro e w2 ⟨z, rfl, G2⟩
  have HG2 : Hid (Gr w w2) := HG1.out.trans G2
  have HB2 : Hid (w2.heap[w.heap.size]? = some (.cells #[.slice ma mn mc, .slice ha hn hc] 34 (0, 0))) := Hr.heap_of_gr G2 HB1.out
  have x0 := cr0 HB2.out
  have x1 := cr1 HB2.out
  clear G2 HWk HG1 HB1
  by_cases hz : 600 < z
  · go_wp2_with fail
    go_ret
    exact ⟨rfl, HG2.out⟩
  · go_wp2_with fail
    refine (HU.out _ HG2.out).mono ?_
    rintro e w3 ⟨v, ua, uc, rfl, S3, U3, G3⟩
    have HU3 : Hid (Us w3 ua S.steps us) := U3
    have HS3 : Hid _ := S3.w
    obtain ⟨s1, d1, s2, d2, s3, d3, rfl, _⟩ := S3
    have HG3 : Hid (Gr w w3) := HG2.out.trans G3
    have HB3 : Hid (w3.heap[w.heap.size]? = some (.cells #[.slice ma mn mc, .slice ha hn hc] 34 (0, 0))) := Hr.heap_of_gr G3 HB2.out
    have hlt : w.heap.size < w3.heap.size := (gs HB3.out).1
    clear x0 x1
    have x0 := cr0 HB3.out
    have x1 := cr1 HB3.out
    clear G3 HU HG2 HB2 U3
    go_wp2_with fail
    refine (HPl.out _ (HG3.out.alloc _)).mono ?_
    rintro e w4 ⟨v, rfl, S4, G4⟩
    have HS4 : Hid _ := S4
    obtain ⟨t1, f1, t2, f2, t3, f3, rfl, _⟩ := S4
    have HSw : Hid (w4.heap[w3.heap.size]? = some (.cells #[.slice s1 mn d1, .slice s2 hn d2, .slice s3 S.out.length d3, .int .i64 S.steps] 40 (0, 0))) := Hr.heap_of_gr G4 (heap_alloc_new w3 _)
    have HG34 : Hid (Gr w3 w4) := ((Gr.refl _).alloc _).trans G4
    have HB4 : Hid (w4.heap[w.heap.size]? = some (.cells #[.slice ma mn mc, .slice ha hn hc] 34 (0, 0))) := Hr.heap_of_gr HG34.out HB3.out
    have hlt4 : w.heap.size < w4.heap.size := (gs HB4.out).1
    clear G4 HPl x0 x1 HB3
    have x0 := cr0 HB4.out
    have x1 := cr1 HB4.out
    go_wp2_with fail
    refine (HUn.out _ ((HG3.out.trans HG34.out).alloc _)).mono ?_
    rintro e w5 ⟨ka, kc, rfl, U5, G5⟩
    have HU5 : Hid (Us w5 ka S.steps us) := U5
    have HG45 : Hid (Gr w4 w5) := ((Gr.refl _).alloc _).trans G5
    have HSx : Hid (w5.heap[w4.heap.size]? = some (.cells #[.slice t1 mn f1, .slice t2 hn f2, .slice t3 S.out.length f3, .int .i64 S.steps] 40 (0, 0))) := Hr.heap_of_gr G5 (heap_alloc_new w4 _)
    have HSy : Hid (w5.heap[w3.heap.size]? = some (.cells #[.slice s1 mn d1, .slice s2 hn d2, .slice s3 S.out.length d3, .int .i64 S.steps] 40 (0, 0))) := Hr.heap_of_gr HG45.out HSw.out
    have z0 := cr0 HSy.out
    have z1 := cr1 HSy.out
    have z2 := cr2 HSy.out
    have z3 := cr3 HSy.out
    have y0 := cr0 HSx.out
    have y1 := cr1 HSx.out
    have y2 := cr2 HSx.out
    have y3 := cr3 HSx.out
    clear G5 U5 x0 x1 HUn HB4 HSw
    go_wp2_with fail
    refine (Same_w (Mc.Shw.of HS3.out (HG34.out.trans HG45.out)) (Mc.Shw.of HS4.out HG45.out) HFO.out c4).mono ?_
    rintro e w6 ⟨rfl, G6⟩
    have HG6 : Hid (Gr w5 w6) := G6
    clear G6 z0 z1 z2 z3 y0 y1 y2 y3
    go_wp2_with fail
    refine (USame_same _ _ (HU3.out.of (HG34.out.trans (HG45.out.trans HG6.out))) (HU5.out.of HG6.out) hst HUL.out).mono ?_
    rintro e w7 ⟨rfl, G7⟩
    have HG7 : Hid (Gr w w7) := HG3.out.trans (HG34.out.trans (HG45.out.trans (HG6.out.trans G7)))
    clear G7
    go_wp2_with fail
    go_ret
    exact ⟨rfl, HG7.out⟩
end Go.Proofs.YtphklaefhpoimacDoor.undoRuns
/-
  The cells of a hart, and of harts and picks in slices, that are handed in: opened.
-/
namespace Go.Proofs.YtphklaefhpoimacDoor.Mc
open Go.ChangeShapes Go.WideShapes Go.ChangeAt Go.RowKit Mm Hh
set_option linter.unusedVariables false
set_option linter.unusedSimpArgs false

variable {α H : Type} {l : List Value} {v : Value} {n : Int} {enc : TypeId × Value → H} {W w : World} {b0 fuel len cap : Nat} {sp : Nat → Bool} {held : Bool} {x : DataW H × List MemPlace} {a : Addr} {ao : Option Addr} {d : DataW H} {p : List MemPlace}
theorem c34 : Tryd.prog.cellsOf 70 = 37 := by kernel_rfl
theorem c32 : Tryd.prog.cellsOf 68 = 32 := by kernel_rfl
theorem c22 : Tryd.prog.cellsOf 59 = 1 := by kernel_rfl
theorem c4 : Tryd.prog.cellsOf 4 = 1 := by kernel_rfl
theorem c3 : Tryd.prog.cellsOf 3 = 1 := by kernel_rfl
theorem list6 {l : List α} (h : l.length = 6) : ∃ a b c d e f, l = [a, b, c, d, e, f] := by
  match l, h with
  | [a, b, c, d, e, f], _ => exact ⟨a, b, c, d, e, f, rfl⟩
theorem cut_one {k : Nat} (h : (l.drop k).take 1 = [v]) : l[k]? = some v := by
  have := congrArg (fun x => x[0]?) h
  simpa using this
theorem u32_bd (h : (Lit.int .u32 n).wf = true) : 0 ≤ n ∧ n < 4294967296 := by
  have : 0 ≤ n ∧ n ≤ 4294967295 := by simpa [Lit.wf, IntKind.min, IntKind.max, IntKind.signed, IntKind.bits] using h
  omega
set_option maxRecDepth 100000 in
theorem hart_cells
    (hf : DataW.trod enc Tryd.prog W b0 sp held fuel 70 l = some x) : ∃ hh : Hv, l = hL hh ∧ hh.Ok := by
  obtain ⟨xs, m, rfl, hx, hcl, hlen, hel⟩ := DataW.trod_struct Tryd.underlying70 hf
  obtain ⟨y0, y1, y2, y3, y4, y5, rfl⟩ := list6 (l := xs) hlen
  clear hf hlen hx
  have k0 : DataW.trod enc Tryd.prog W b0 sp held m 68 ((l.drop 0).take (Tryd.prog.cellsOf 68)) = some y0 := hel 0 _ rfl
  have k1 : DataW.trod enc Tryd.prog W b0 sp held m 59 ((l.drop 32).take (Tryd.prog.cellsOf 59)) = some y1 := hel 1 _ rfl
  have k2 : DataW.trod enc Tryd.prog W b0 sp held m 4 ((l.drop 33).take (Tryd.prog.cellsOf 4)) = some y2 := hel 2 _ rfl
  have k3 : DataW.trod enc Tryd.prog W b0 sp held m 59 ((l.drop 34).take (Tryd.prog.cellsOf 59)) = some y3 := hel 3 _ rfl
  have k4 : DataW.trod enc Tryd.prog W b0 sp held m 3 ((l.drop 35).take (Tryd.prog.cellsOf 3)) = some y4 := hel 4 _ rfl
  have k5 : DataW.trod enc Tryd.prog W b0 sp held m 3 ((l.drop 36).take (Tryd.prog.cellsOf 3)) = some y5 := hel 5 _ rfl
  clear hel
  have hl : l.length = 37 := by rw [hcl, c34]
  obtain ⟨pc, e1, _, w1⟩ := DataW.trod_int Tryd.underlying59 k1
  obtain ⟨hd, e2, _⟩ := DataW.trod_bool Tryd.underlying4 k2
  obtain ⟨ha, e3, _, w3⟩ := DataW.trod_int Tryd.underlying59 k3
  obtain ⟨st, e4, _, _⟩ := DataW.trod_int Tryd.underlying3 k4
  obtain ⟨ca, e5, _, _⟩ := DataW.trod_int Tryd.underlying3 k5
  obtain ⟨zs, m2, rfl, _, _, hzl, hze⟩ := DataW.trod_array Tryd.underlying68 k0
  clear k0 k1 k2 k3 k4 k5
  rw [c22] at e1 e3
  rw [c4] at e2
  rw [c3] at e4 e5
  have q1 := cut_one e1
  have q2 := cut_one e2
  have q3 := cut_one e3
  have q4 := cut_one e4
  have q5 := cut_one e5
  have qr : ∀ i, i < 32 → ∃ n, l[i]? = some (.int .u32 n) ∧ 0 ≤ n ∧ n < 4294967296 := fun i hi => by
    have ki := hze i hi
    rw [List.getElem?_eq_getElem (by omega)] at ki
    obtain ⟨n, en, _, wn⟩ := DataW.trod_int Tryd.underlying59 ki
    rw [c22, c32] at en
    refine ⟨n, ?_, u32_bd wn⟩
    have := congrArg (fun x => x[0]?) en
    simp only [List.getElem?_take, List.getElem?_drop] at this
    rw [if_pos (by omega), if_pos (by omega)] at this
    simpa using this
  clear hze e1 e2 e3 e4 e5
  have qn : ∀ i, i < 32 → l[i]? = some (.int .u32 (intOf (l.getD i undef))) ∧ 0 ≤ intOf (l.getD i undef) ∧ intOf (l.getD i undef) < 4294967296 := fun i hi => by
    obtain ⟨n, en, b⟩ := qr i hi
    simp only [List.getD, en, Option.getD_some, intOf]
    exact ⟨trivial, b⟩
  refine ⟨⟨(List.range 32).map fun i => intOf (l.getD i undef), pc, hd, ha, st, ca⟩, ?_, ?_⟩
  · have : l = hL ⟨(List.range 32).map fun i => intOf (l.getD i undef), pc, hd, ha, st, ca⟩ := by
      apply List.ext_getElem?
      intro i
      unfold hL
      by_cases hi : i < 32
      · rw [List.getElem?_append_left (by simpa using hi), (qn i hi).1]
        simp [hi]
      · rw [List.getElem?_append_right (by simp; omega)]
        simp only [List.length_map, List.length_range]
        by_cases h37 : i < 37
        · have : i = 32 ∨ i = 33 ∨ i = 34 ∨ i = 35 ∨ i = 36 := by omega
          rcases this with rfl | rfl | rfl | rfl | rfl
          · exact q1
          · exact q2
          · exact q3
          · exact q4
          · exact q5
        · rw [List.getElem?_eq_none (by omega), List.getElem?_eq_none (by simp; omega)]
    exact this
  · refine ⟨by simp, fun i => ?_, (u32_bd w1).1, (u32_bd w1).2, (u32_bd w3).1, (u32_bd w3).2⟩
    unfold rg
    simp only [List.getD, List.getElem?_map]
    by_cases hi : i < 32
    · rw [List.getElem?_eq_getElem (by simpa using hi)]
      simp only [List.getElem_range, Option.map_some, Option.getD_some]
      exact (qn i hi).2
    · rw [List.getElem?_eq_none (by simp; omega)]
      simp


theorem c62 : Tryd.prog.cellsOf 56 = 2 := by kernel_rfl
theorem list2 {l : List α} (h : l.length = 2) : ∃ a b, l = [a, b] := by
  match l, h with
  | [a, b], _ => exact ⟨a, b, rfl⟩
theorem i64_bd (h : (Lit.int .i64 n).wf = true) : -9223372036854775808 ≤ n ∧ n ≤ 9223372036854775807 := by
  simpa [Lit.wf, IntKind.min, IntKind.max, IntKind.signed, IntKind.bits] using h
set_option maxRecDepth 100000 in
theorem pick_cells
    (hf : DataW.trod enc Tryd.prog W b0 sp held fuel 56 l = some x) : ∃ p : Int × Int, l = [.int .i64 p.1, .int .i64 p.2] ∧ -9223372036854775808 ≤ p.1 ∧ p.1 ≤ 9223372036854775807 ∧ -9223372036854775808 ≤ p.2 ∧ p.2 ≤ 9223372036854775807 := by
  obtain ⟨xs, m, rfl, hx, hcl, hlen, hel⟩ := DataW.trod_struct Tryd.underlying56 hf
  obtain ⟨y0, y1, rfl⟩ := list2 (l := xs) hlen
  have k0 : DataW.trod enc Tryd.prog W b0 sp held m 3 ((l.drop 0).take (Tryd.prog.cellsOf 3)) = some y0 := hel 0 _ rfl
  have k1 : DataW.trod enc Tryd.prog W b0 sp held m 3 ((l.drop 1).take (Tryd.prog.cellsOf 3)) = some y1 := hel 1 _ rfl
  rw [c62] at hcl
  obtain ⟨a, b, rfl⟩ := list2 hcl
  obtain ⟨p, e0, _, w0⟩ := DataW.trod_int Tryd.underlying3 k0
  obtain ⟨q, e1, _, w1⟩ := DataW.trod_int Tryd.underlying3 k1
  rw [c3] at e0 e1
  simp at e0 e1
  subst e0 e1
  exact ⟨(p, q), rfl, (i64_bd w0).1, (i64_bd w0).2, (i64_bd w1).1, (i64_bd w1).2⟩

/-- Cells from an address on, one by one. -/
theorem cells_each {n : Nat} {cs : List Value} (h : w.cells? 0 a n = some cs) : cs.length = n ∧ ∀ j, j < n → w.cell? (a.add j) = cs[j]? := by
  obtain ⟨_, hl, hc⟩ := World.cells?_some h
  exact ⟨hl, hc⟩
theorem spot_none (h : w.cell? (a.add 0) = some v) : a.spot = none := by simpa [Addr.add] using World.cell?_spot h
/-- An argument of type []api.Hart, opened. -/
theorem open_harts
    (hf : DataW.trod enc Tryd.prog W 0 (fun _ => true) true fuel 32 (Value.slice ao len cap).cells.toList = some (d, p)) : ∃ hs : List Hv, Hs W ao len hs ∧ (ao = none → cap = 0) ∧ (d = .nil ∧ len = 0 ∨ ∃ el sp, d = .slice el sp ∧ el.length = len) := by
  rcases Deep.open_slice Tryd.underlying32 hf with ⟨hcs, hx⟩ | ⟨a, len', cap', m, n, D, Pl, hcs, hb, hl, hm, em, hx, hel⟩
  · simp [Value.cells] at hcs
    obtain ⟨rfl, rfl, rfl⟩ := hcs
    exact ⟨[], ⟨rfl, fun h hm => (by cases hm), fun h => absurd h (by omega)⟩, fun _ => rfl, .inl ⟨by injection hx, rfl⟩⟩
  · simp [Value.cells] at hcs
    obtain ⟨rfl, rfl, rfl⟩ := hcs
    have em2 : m = cap := by simpa using em
    have hex : ∀ i, i < len → ∃ h : Hv, h.Ok ∧ ∀ j v, (hL h)[j]? = some v → W.cell? (a.add (i * 37 + j)) = some v := fun i hi => by
      obtain ⟨cs', hc, ht⟩ := hel i (by omega)
      obtain ⟨hh, rfl, ok⟩ := hart_cells ht
      rw [c34] at hc
      obtain ⟨_, hc⟩ := cells_each hc
      refine ⟨hh, ok, fun j v hv => ?_⟩
      have hj : j < 37 := by have := (List.getElem?_eq_some_iff.1 hv).1; rwa [hL_len ok] at this
      have := hc j hj
      rw [Deep.add_add] at this
      rw [this]
      exact hv
    obtain ⟨f, hf2⟩ := @Deep.choose_lt Hv ⟨hN⟩ len _ hex
    refine ⟨(List.range len).map f, ⟨by simp, fun h hm => ?_, fun hn => ?_⟩, fun e => (by cases e), .inr ⟨_, _, by injection hx, by simp⟩⟩
    · obtain ⟨i, hi, rfl⟩ := List.mem_map.1 hm
      exact (hf2 i (List.mem_range.1 hi)).1
    · obtain ⟨b, o, s⟩ := a
      have c0 := (hf2 0 hn).2 0 _ (hL_reg (hf2 0 hn).1 (by omega))
      have hs : s = none := spot_none (by simpa using c0)
      subst hs
      have hb : b < W.heap.size := by simpa [Addr.add] using World.block_lt_of_cell? W _ c0
      refine ⟨b, o, rfl, hb, fun i h hi j v hv => ?_⟩
      rw [List.getElem?_map] at hi
      by_cases hl2 : i < len
      · rw [List.getElem?_eq_getElem (by simpa using hl2)] at hi
        simp at hi
        subst hi
        have := (hf2 i hl2).2 j v hv
        rw [add_at] at this
        rw [Nat.add_assoc]
        exact this
      · rw [List.getElem?_eq_none (by simp; omega)] at hi
        cases hi
/-- An argument of type []api.Pick, opened. -/
theorem open_picks
    (hf : DataW.trod enc Tryd.prog W 0 (fun _ => true) true fuel 35 (Value.slice ao len cap).cells.toList = some (d, p)) :
    ∃ ps : List (Int × Int), Ps W ao len ps ∧ (ao = none → cap = 0) ∧ (len ≤ cap ∧ cap ≤ maxLen) ∧ (d = .nil ∧ len = 0 ∨ ∃ el sp, d = .slice el sp ∧ el.length = len) ∧ ∀ p ∈ ps, -9223372036854775808 ≤ p.1 ∧ p.1 ≤ 9223372036854775807 ∧ -9223372036854775808 ≤ p.2 ∧ p.2 ≤ 9223372036854775807 := by
  rcases Deep.open_slice Tryd.underlying35 hf with ⟨hcs, hx⟩ | ⟨a, len', cap', m, n, D, Pl, hcs, hb, hl, hm, em, hx, hel⟩
  · simp [Value.cells] at hcs
    obtain ⟨rfl, rfl, rfl⟩ := hcs
    exact ⟨[], ⟨rfl, fun h => absurd h (by omega)⟩, fun _ => rfl, ⟨Nat.le_refl _, Nat.zero_le _⟩, .inl ⟨by injection hx, rfl⟩, fun h hm => (by cases hm)⟩
  · simp [Value.cells] at hcs
    obtain ⟨rfl, rfl, rfl⟩ := hcs
    have em2 : m = cap := by simpa using em
    have hex : ∀ i, i < len → ∃ q : Int × Int, (-9223372036854775808 ≤ q.1 ∧ q.1 ≤ 9223372036854775807 ∧ -9223372036854775808 ≤ q.2 ∧ q.2 ≤ 9223372036854775807) ∧ W.cell? (a.add (i * 2)) = some (.int .i64 q.1) ∧ W.cell? (a.add (i * 2 + 1)) = some (.int .i64 q.2) := fun i hi => by
      obtain ⟨cs', hc, ht⟩ := hel i (by omega)
      obtain ⟨q, rfl, bd⟩ := pick_cells ht
      rw [c62] at hc
      obtain ⟨_, hc⟩ := cells_each hc
      have h0 := hc 0 (by omega)
      have h1 := hc 1 (by omega)
      rw [Deep.add_add] at h0 h1
      exact ⟨q, bd, h0, h1⟩
    obtain ⟨f, hf2⟩ := @Deep.choose_lt (Int × Int) ⟨(0, 0)⟩ len _ hex
    refine ⟨(List.range len).map f, ⟨by simp, fun hn => ?_⟩, fun e => (by cases e), ⟨hl, hm⟩, .inr ⟨_, _, by injection hx, by simp⟩, fun h hm => ?_⟩
    · obtain ⟨b, o, s⟩ := a
      have c0 := (hf2 0 hn).2.1
      have hs : s = none := spot_none (by simpa using c0)
      subst hs
      have hb : b < W.heap.size := by simpa [Addr.add] using World.block_lt_of_cell? W _ c0
      refine ⟨b, o, rfl, hb, fun i h hi => ?_⟩
      rw [List.getElem?_map] at hi
      by_cases hl2 : i < len
      · rw [List.getElem?_eq_getElem (by simpa using hl2)] at hi
        simp at hi
        subst hi
        obtain ⟨_, q0, q1⟩ := hf2 i hl2
        rw [add_at] at q0 q1
        exact ⟨q0, by rw [Nat.add_assoc]; exact q1⟩
      · rw [List.getElem?_eq_none (by simp; omega)] at hi
        cases hi
    · obtain ⟨i, hi, rfl⟩ := List.mem_map.1 hm
      exact (hf2 i (List.mem_range.1 hi)).1
end Go.Proofs.YtphklaefhpoimacDoor.Mc
/-
  A machine and a script that are handed in, opened; how many harts, bytes and picks there can be.
-/
namespace Go.Proofs.YtphklaefhpoimacDoor.Mc
open Go.ChangeShapes Go.WideShapes Go.ChangeAt Go.RowKit Mm Hh
set_option linter.unusedVariables false
set_option linter.unusedSimpArgs false

variable {H : Type} {enc : TypeId × Value → H} {W : World} {fuel base : Nat} {d : DataW H} {p : List MemPlace} {v : Value} {ts : List TypeId} {ds : List (DataW H)}
theorem cM : Tryd.prog.cellsOf 34 = 2 := by kernel_rfl
theorem cB : Tryd.prog.cellsOf 31 = 1 := by kernel_rfl
theorem cH : Tryd.prog.cellsOf 32 = 1 := by kernel_rfl
theorem byH : Tryd.prog.bytesOf 70 = 160 := by kernel_rfl
theorem byP : Tryd.prog.bytesOf 56 = 16 := by kernel_rfl
/-- A machine that is handed in. -/
structure Mg (W : World) (v : Value) (ma : Option Addr) (mn mc : Nat) (ha : Option Addr) (hn hc : Nat) (m : List UInt8) (hs : List Hv) : Prop where
  eq : v = .agg #[.slice ma mn mc, .slice ha hn hc]
  mem : Mem W ma mn m
  cap : ma = none → mc = 0
  harts : Hs W ha hn hs
  b1 : mn ≤ 140737488351232
  b2 : hn ≤ 140737488351232
theorem one_slice {t e : TypeId} {l : List Value} {k : Nat} {x : DataW H × List MemPlace} (hu : Tryd.prog.underlying t = some (.slice e)) (h : DataW.trod enc Tryd.prog W 0 (fun _ => true) true fuel t ((l.drop k).take 1) = some x) : ∃ ao n c, l[k]? = some (.slice ao n c) ∧ (l.drop k).take 1 = (Value.slice ao n c).cells.toList := by
  rcases Deep.open_slice hu h with ⟨hcs, _⟩ | ⟨a, len, cap, _, _, _, _, hcs, _⟩
  · exact ⟨none, 0, 0, cut_one hcs, hcs⟩
  · exact ⟨some a, len, cap, cut_one hcs, hcs⟩
theorem mem_cap {ao : Option Addr} {len cap : Nat}
    (hf : DataW.trod enc Tryd.prog W 0 (fun _ => true) true fuel 31 (Value.slice ao len cap).cells.toList = some (d, p)) : ao = none → cap = 0 := by
  rcases open_ints Tryd.underlying31 Tryd.underlying5 cells5 hf with ⟨hcs, _⟩ | ⟨a, len', cap', zs, hcs, _⟩
  · simp [Value.cells] at hcs
    exact fun _ => hcs.2.2
  · simp [Value.cells] at hcs
    intro h
    rw [h] at hcs
    cases hcs.1
set_option maxRecDepth 100000 in
theorem open_machine (hv : Value.okWide Tryd.prog W .any base 34 v) (h : DataW.Trod enc Tryd.prog W 0 (fun _ => true) true 34 v d p)
    (hsz : (DataW.weightsEach Tryd.prog ts ds).all (· ≤ reachBytes) = true) (ht : ts[0]? = some 34) (hd : ds[0]? = some d) : ∃ ma mn mc ha hn hc m hs, Mg W v ma mn mc ha hn hc m hs := by
  obtain ⟨cs, rfl, hcs⟩ := okWide_struct Tryd.underlying34 hv
  rw [cM] at hcs
  obtain ⟨l⟩ := cs
  obtain ⟨fuel, hf⟩ := h
  obtain ⟨xs, n, rfl, hx, _, hlen, hel⟩ := DataW.trod_struct Tryd.underlying34 hf
  obtain ⟨y0, y1, rfl⟩ := list2 (l := xs) hlen
  have k0 : DataW.trod enc Tryd.prog W 0 (fun _ => true) true n 31 ((l.drop 0).take (Tryd.prog.cellsOf 31)) = some y0 := hel 0 _ rfl
  have k1 : DataW.trod enc Tryd.prog W 0 (fun _ => true) true n 32 ((l.drop 1).take (Tryd.prog.cellsOf 32)) = some y1 := hel 1 _ rfl
  clear hf hel hv
  rw [cB] at k0
  rw [cH] at k1
  obtain ⟨ma, mn, mc, e0, q0⟩ := one_slice Tryd.underlying31 k0
  obtain ⟨ha, hn, hc, e1, q1⟩ := one_slice Tryd.underlying32 k1
  rw [q0] at k0
  rw [q1] at k1
  obtain ⟨d0, p0⟩ := y0
  obtain ⟨d1, p1⟩ := y1
  obtain ⟨m, M, hm⟩ := open_mem k0
  obtain ⟨hs, H2, _, hh⟩ := open_harts k1
  have ed : d = .agg [d0, d1] := by injection hx
  subst ed
  have hw := DataW.weights_mem_each (P := Tryd.prog) ht hd
  have hin : (DataW.weightsEach Tryd.prog [31, 32] [d0, d1]).all (· ≤ reachBytes) = true := by
    rw [List.all_eq_true]
    intro z hz
    refine List.all_eq_true.1 hsz z (hw z ?_)
    unfold DataW.weights
    rw [Tryd.underlying34]
    exact hz
  have ll : l = [.slice ma mn mc, .slice ha hn hc] := by
    obtain ⟨a, b, rfl⟩ := list2 (l := l) (by simpa using hcs)
    simp at e0 e1
    rw [e0, e1]
  refine ⟨ma, mn, mc, ha, hn, hc, m, hs, by rw [ll], M, mem_cap k0, H2, ?_, ?_⟩
  · rcases hm with ⟨_, h⟩ | ⟨zs, sp, h, hz⟩
    · rw [h]; decide
    · have := sized_slice hin (j := 0) (t := 31) (e := 5) rfl (by rw [h]; rfl) Tryd.underlying31
      rw [bytes5] at this
      simp only [lits, List.length_map, hz, reachBytes] at this
      omega
  · rcases hh with ⟨_, h⟩ | ⟨zs, sp, h, hz⟩
    · rw [h]; decide
    · have := sized_slice hin (j := 1) (t := 32) (e := 70) rfl (by rw [h]; rfl) Tryd.underlying32
      rw [byH] at this
      simp only [hz, reachBytes] at this
      omega
set_option maxRecDepth 100000 in
/-- A script that is handed in. -/
theorem open_script (hv : Value.okWide Tryd.prog W .any base 35 v) (h : DataW.Trod enc Tryd.prog W 0 (fun _ => true) true 35 v d p)
    (hsz : (DataW.weightsEach Tryd.prog ts ds).all (· ≤ reachBytes) = true) (j : Nat) (ht : ts[j]? = some 35) (hd : ds[j]? = some d) : ∃ pa pn pc ps, v = .slice pa pn pc ∧ Ps W pa pn ps ∧ (pa = none → pc = 0) ∧ pn ≤ pc ∧ pc ≤ maxLen ∧ pn ≤ 8796093022208 ∧ (d = .nil ∧ pn = 0 ∨ ∃ el sp, d = .slice el sp ∧ el.length = pn) := by
  obtain ⟨pa, pn, pc, rfl⟩ := okWide_slice Tryd.underlying35 hv
  obtain ⟨fa, hfa⟩ := h
  obtain ⟨ps, P, c0, ⟨c1, c2⟩, hd2, _⟩ := open_picks hfa
  refine ⟨pa, pn, pc, ps, rfl, P, c0, c1, c2, ?_, hd2⟩
  rcases hd2 with ⟨_, h⟩ | ⟨zs, sp, h, hz⟩
  · omega
  · have := sized_slice hsz (j := j) (t := 35) (e := 56) ht (by rw [hd, h]) Tryd.underlying35
    rw [byP] at this
    simp only [hz, reachBytes] at this
    omega
end Go.Proofs.YtphklaefhpoimacDoor.Mc
