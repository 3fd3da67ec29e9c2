/-
  Ref4f4: texts of ours that lie in one file.
-/
import Derived.Test.YtbihifipemldhabDoorQ14
set_option linter.unusedVariables false
set_option linter.unusedSimpArgs false
set_option maxHeartbeats 8000000
set_option maxRecDepth 100000
/-
  What ferrybridgeref4.Step answers, of some instructions.
-/
namespace Go.Proofs.YtbihifipemldhabDoor.Hr
open Go.ChangeShapes Go.WideShapes Go.ChangeAt Go.RowKit Mm Hh

theorem rs_storey {h : Hv} {ao : Option Addr} {n cap : Nat} {l : List UInt8} {w : World} {x op rd : Int} {r1 r2 : Nat} {im : Int} (P : Pr h ao n cap l w x op rd r1 r2 im) (ho : 16 ≤ op ∧ op ≤ 18) (hb : stOk l op (Wd.lo (rg h r1 + Wd.lo im)) = true) : RStep h ao n cap w ⟨h.go (Wd.lo (h.pc + 4)), stL l op (Wd.lo (rg h r1 + Wd.lo im)) (rg h r2), [], [((Wd.lo (rg h r1 + Wd.lo im)), ((ssz op : Nat) : Int))]⟩ := by
  unfold RStep
  obtain ⟨o, M, hn, ok, ex, D, d0, d1, s1, t1, i0, i1⟩ := P
  subst ex
  have HD : Hid (∀ W : World, Calls Tryd.prog 30 #[.int .u32 (ldV l 13 h.pc)] W fun e w' => e = .returned (.tuple #[.agg #[.int .i64 op, .int .i64 rd, .int .i64 r1, .int .i64 r2, .int .i32 im], .bool true]) ∧ Gr W w') := D
  have wp := W.pc o
  have wa := W.reg o r1
  have wb := W.reg o r2
  have wn := W.lo im
  have Fo : Hid (∀ W : World, Calls Tryd.prog 51 #[.int .i64 im] W fun e w' => e = .returned (.int .u32 (Wd.lo im)) ∧ Gr W w') := fun W => (Rw.Of_any im W (by omega) (by omega)).mono fun e w' h => ⟨h.1, by rw [h.2]; exact Gr.refl _⟩
  have S4 : Hid (∀ W : World, Calls Tryd.prog 74 #[.int .u32 h.pc, .int .u32 4] W fun e w' => e = .returned (.int .u32 (Wd.lo (h.pc + 4))) ∧ Gr W w') := fun W => (sum_any h.pc 4 W wp.1 wp.2 (by omega) (by omega)).mono fun e w' h => ⟨h.1, by rw [h.2]; exact Gr.refl _⟩
  have ST : Hid (∀ W : World, Calls Tryd.prog 74 #[.int .u32 (rg h r1), .int .u32 (Wd.lo im)] W fun e w' => e = .returned (.int .u32 (Wd.lo (rg h r1 + Wd.lo im))) ∧ Gr W w') := fun W => (sum_any _ _ W wa.1 wa.2 wn.1 wn.2).mono fun e w' h => ⟨h.1, by rw [h.2]; exact Gr.refl _⟩
  have SP : Hid (∀ W : World, Calls Tryd.prog 74 #[.int .u32 h.pc, .int .u32 (Wd.lo im)] W fun e w' => e = .returned (.int .u32 (Wd.lo (h.pc + Wd.lo im))) ∧ Gr W w') := fun W => (sum_any _ _ W wp.1 wp.2 wn.1 wn.2).mono fun e w' h => ⟨h.1, by rw [h.2]; exact Gr.refl _⟩
  have g1 : (hA h)[r1]? = some (.int .u32 (rg h r1)) := by simp only [hA, List.getElem?_toArray]; exact hL_reg o s1
  have g2 : (hA h)[r2]? = some (.int .u32 (rg h r2)) := by simp only [hA, List.getElem?_toArray]; exact hL_reg o t1
  have HM : Hid (Mem w ao n l) := M
  have L : Hid (∀ W : World, Gr w W → Calls Tryd.prog 29 #[.slice ao n cap, .int .i64 13, .int .u32 h.pc] W fun e w' => e = .returned (.tuple #[.int .u32 (ldV l 13 h.pc), .bool true]) ∧ Gr W w') := fun W G => by
    have := Mr.Load_any cap 13 h.pc (M.of G) hn o.pc0 o.pc1
    rw [ok] at this
    exact this.mono fun e w' h => ⟨h.1, by rw [h.2]; exact Gr.refl _⟩
  have HBu : Hid (Tryd.prog.built 105 [(0, .agg (hA h)), (1, .slice ao n cap)] = some (dA (dv0 h (.slice ao n cap)))) := Hc.built_did o _ rfl
  have HS : Hid ((hA h).size = 37) := hA_size o
  have HS0 : Hid ((dA (dv0 h (.slice ao n cap))).size = 41) := dA_size (d := dv0 _ _) o
  have HO0 : Hid ((dA (dv0 h (.slice ao n cap))).all (·.oneCell') = true) := one_dA (dv0_ok o _ _ _)
  have gpc : (hA h)[32]? = some (.int .u32 h.pc) := by simp only [hA, List.getElem?_toArray]; exact hL_fld o 0
  have St : Hid (∀ W : World, Gr w W → Calls Tryd.prog 76 #[.agg (dA (dv0 h (.slice ao n cap))), .int .i64 op, .int .u32 (Wd.lo (rg h r1 + Wd.lo im)), .int .u32 (rg h r2)] W fun e w' => ∃ ao' n' cap', e = .returned (.tuple #[.agg (dA ((dv0 h (.slice ao n cap)).setM (.slice ao' n' cap') (Wd.lo (rg h r1 + Wd.lo im)) ((ssz op : Nat) : Int))), .bool true]) ∧ Mem w' ao' n' (stL l op (Wd.lo (rg h r1 + Wd.lo im)) (rg h r2)) ∧ Gr W w' ∧ ∀ ad, ao' = some ad → W.heap.size ≤ ad.block) := fun W G => store_yes (dv0_ok o ao n cap) rfl op (Wd.lo (rg h r1 + Wd.lo im)) (rg h r2) (M.of G) hn (Wd.lo_bd _).1 (Wd.lo_bd _).2 wb.1 wb.2 hb
  have HwN : Hid (W (Wd.lo (h.pc + 4))) := .lo _
  have Hok : Hid (Dv.Ok (dv0 h (.slice ao n cap))) := dv0_ok o ao n cap
  clear hb
  generalize stL l op (Wd.lo (rg h r1 + Wd.lo im)) (rg h r2) = LL at *
  have b1 : (op == 1) = false := by simp; omega
  have b2 : (op == 2) = false := by simp; omega
  have b3 : (op == 3) = false := by simp; omega
  have b4 : (op == 4) = false := by simp; omega
  generalize dA (dv0 h (.slice ao n cap)) = D0 at *
  generalize hA h = H at *
  generalize hth : (Wd.lo (rg h r1 + Wd.lo im)) = th at *
  generalize hpn : (Wd.lo (h.pc + Wd.lo im)) = pn at *
  generalize hp4 : (Wd.lo (h.pc + 4)) = p4 at *
  generalize hnn : (Wd.lo im) = nn at *
  generalize (rg h r1) = xa at *
  generalize (rg h r2) = xb at *
  generalize ldV l 13 h.pc = lx at *
  generalize h.pc = pc at *
  clear hth hpn hp4 hnn
  clear M ok o D wp wa wb wn
  have kpc : ∀ Z Y : Array Value, ((((w.alloc (.cells H 48)).alloc (.cells Z 105)).alloc (.cells Y 105)).setRow (w.heap.size + 1 + 1) D0).cell? ⟨w.heap.size, 32, none⟩ = some (.int .u32 pc) := fun Z Y => ((three_of (Gr.refl _)).cellH 32).trans gpc
  go_enter Tryd.func41, Tryd.ntmps41
  go_wp2_with (first
    | (refine wpList_load_row rfl 48 _ rfl w.heap.size rfl 48 H (0, 0) _ ?ha1 Tryd.underlying48 rfl (by rw [HS.out]; exact iH) ?_; (case ha1 => exact heap_alloc2_old w _ _))
    | (refine wpList_buildTo rfl 105 _ rfl _ rfl D0 (by have := HBu.out; simp [Act.eval, Act.put]; exact this) ?_)
    | (refine wpList_store_row rfl 105 _ _ rfl (w.heap.size + 1 + 1) D0 rfl rfl 105 _ (third_of w _ _ _) (by rw [HS0.out]; exact iD) (by rw [HS0.out]; rfl) HO0.out ?_))
  refine (L.out _ (gr_three w _ _ _ _)).mono ?_
  rintro e w1 ⟨rfl, G1⟩
  have HZ : Hid (∃ Z : Array Value, Z.size = 41 ∧ Bt w1 w.heap.size H Z D0) := ⟨_, rfl, three_of G1⟩
  obtain ⟨Z, hz, hb⟩ := HZ.out
  have HG1 : Hid (Gr w w1) := (gr_three w _ _ _ _).trans G1
  have HB1 : Hid (Bt w1 w.heap.size H Z D0) := hb
  clear G1 L hb HZ HBu kpc
  go_wp2_with fail
  refine (HD.out _).mono ?_
  rintro e w2 ⟨rfl, G2⟩
  have HB2 : Hid (Bt w2 w.heap.size H Z D0) := HB1.out.of G2
  have HG2 : Hid (Gr w w2) := HG1.out.trans G2
  have hJ : w.heap.size + 1 + 1 < w2.heap.size := HB2.out.lt
  have HBs : Hid (Bs (w2.alloc (.cells #[.int .i64 op, .int .i64 rd, .int .i64 r1, .int .i64 r2, .int .i32 im] 63)) w.heap.size w2.heap.size H Z D0 #[.int .i64 op, .int .i64 rd, .int .i64 r1, .int .i64 r2, .int .i32 im]) := ⟨HB2.out.of ((Gr.refl _).alloc _), heap_alloc_new w2 _⟩
  have kr1 : w2.cell? ⟨w.heap.size, r1, none⟩ = some (.int .u32 xa) := (HB2.out.cellH r1).trans g1
  have kr2 : w2.cell? ⟨w.heap.size, r2, none⟩ = some (.int .u32 xb) := (HB2.out.cellH r2).trans g2
  have hB2 : w.heap.size < w2.heap.size := by omega
  clear G2 HD HB1 HG1
  go_wp2_with fail
  refine (Fo.out _).mono ?_
  rintro e w3 ⟨rfl, G3⟩
  have HB3 : Hid (Bs w3 w.heap.size w2.heap.size H Z D0 #[.int .i64 op, .int .i64 rd, .int .i64 r1, .int .i64 r2, .int .i32 im]) := HBs.out.of G3
  have HG3 : Hid (Gr w w3) := (HG2.out.alloc _).trans G3
  have kpc : w3.cell? ⟨w.heap.size, 32, none⟩ = some (.int .u32 pc) := (HB3.out.t.cellH 32).trans gpc
  clear G3 Fo HB2 HG2 HBs kr1 kr2
  go_wp2_with fail
  refine (S4.out _).mono ?_
  rintro e w4 ⟨rfl, G4⟩
  have HB4 : Hid (Bs w4 w.heap.size w2.heap.size H Z D0 #[.int .i64 op, .int .i64 rd, .int .i64 r1, .int .i64 r2, .int .i32 im]) := HB3.out.of G4
  have HG4 : Hid (Gr w w4) := HG3.out.trans G4
  clear G4 S4 HB3 HG3 kpc
  go_wp2_with fail
  refine (ST.out _).mono ?_
  rintro e w5 ⟨rfl, G5⟩
  have HB5 : Hid (Bs w5 w.heap.size w2.heap.size H Z D0 #[.int .i64 op, .int .i64 rd, .int .i64 r1, .int .i64 r2, .int .i32 im]) := HB4.out.of G5
  have HG5 : Hid (Gr w w5) := HG4.out.trans G5
  have kpc : w5.cell? ⟨w.heap.size, 32, none⟩ = some (.int .u32 pc) := (HB5.out.t.cellH 32).trans gpc
  have kop : w5.cell? ⟨w2.heap.size, 0, none⟩ = some (.int .i64 op) := HB5.out.cellI 0
  have krd : w5.cell? ⟨w2.heap.size, 1, none⟩ = some (.int .i64 rd) := HB5.out.cellI 1
  clear G5 ST HB4 HG4
  have hop1 : 16 ≤ op := ho.1
  have hop2 : op ≤ 18 := ho.2
  have q10 : ¬ op ≤ 10 := by omega
  have q15 : ¬ op ≤ 15 := by omega
  go_wp2_with (refine wpList_load_row rfl 105 _ rfl (w.heap.size + 1 + 1) rfl 105 D0 (0, 0) _ ?hl1 Tryd.underlying105 rfl (by rw [HS0.out]; exact iD) ?_; (case hl1 => exact HB5.out.t.d))
  refine (St.out _ HG5.out).mono ?_
  rintro e w7 ⟨a1, n1, c1, rfl, M7, G7, F7⟩
  have okS : ((dv0 h (.slice ao n cap)).setM (.slice a1 n1 c1) th ((ssz op : Nat) : Int)).Ok := Dv.Ok.setM Hok.out a1 n1 c1 th ((ssz op : Nat) : Int)
  have HS1 : Hid ((dA ((dv0 h (.slice ao n cap)).setM (.slice a1 n1 c1) th ((ssz op : Nat) : Int))).size = 41) := dA_size okS.h
  have HO1 : Hid ((dA ((dv0 h (.slice ao n cap)).setM (.slice a1 n1 c1) th ((ssz op : Nat) : Int))).all (·.oneCell') = true) := one_dA okS
  have wN := HwN.out
  have okF : (((dv0 h (.slice ao n cap)).setM (.slice a1 n1 c1) th ((ssz op : Nat) : Int)).setH (((dv0 h (.slice ao n cap)).setM (.slice a1 n1 c1) th ((ssz op : Nat) : Int)).h.go p4)).Ok := okS.setH (okS.h.go wN.1 wN.2)
  have HS2 : Hid ((dA (((dv0 h (.slice ao n cap)).setM (.slice a1 n1 c1) th ((ssz op : Nat) : Int)).setH (((dv0 h (.slice ao n cap)).setM (.slice a1 n1 c1) th ((ssz op : Nat) : Int)).h.go p4))).size = 41) := dA_size okF.h
  have HO2 : Hid ((dA (((dv0 h (.slice ao n cap)).setM (.slice a1 n1 c1) th ((ssz op : Nat) : Int)).setH (((dv0 h (.slice ao n cap)).setM (.slice a1 n1 c1) th ((ssz op : Nat) : Int)).h.go p4))).all (·.oneCell') = true) := one_dA okF
  have HE2 : Hid ((dA ((dv0 h (.slice ao n cap)).setM (.slice a1 n1 c1) th ((ssz op : Nat) : Int))).setIfInBounds 32 (.int .u32 p4) = dA (((dv0 h (.slice ao n cap)).setM (.slice a1 n1 c1) th ((ssz op : Nat) : Int)).setH (((dv0 h (.slice ao n cap)).setM (.slice a1 n1 c1) th ((ssz op : Nat) : Int)).h.go p4))) := pc_e okS.h p4
  have HC2 : Hid (∃ y, (dA ((dv0 h (.slice ao n cap)).setM (.slice a1 n1 c1) th ((ssz op : Nat) : Int)))[32]? = some (.int .u32 y)) := ⟨_, (dA_get okS.h (by omega)).trans (hL_fld okS.h 0)⟩
  have HOK : Hid ((((dv0 h (.slice ao n cap)).setM (.slice a1 n1 c1) th ((ssz op : Nat) : Int)).setH (((dv0 h (.slice ao n cap)).setM (.slice a1 n1 c1) th ((ssz op : Nat) : Int)).h.go p4)).Ok) := okF
  generalize hD2 : dA (((dv0 h (.slice ao n cap)).setM (.slice a1 n1 c1) th ((ssz op : Nat) : Int)).setH (((dv0 h (.slice ao n cap)).setM (.slice a1 n1 c1) th ((ssz op : Nat) : Int)).h.go p4)) = D2 at *
  have HD2 : Hid (dA (((dv0 h (.slice ao n cap)).setM (.slice a1 n1 c1) th ((ssz op : Nat) : Int)).setH (((dv0 h (.slice ao n cap)).setM (.slice a1 n1 c1) th ((ssz op : Nat) : Int)).h.go p4)) = D2) := hD2
  clear hD2 okF
  generalize hD1 : dA ((dv0 h (.slice ao n cap)).setM (.slice a1 n1 c1) th ((ssz op : Nat) : Int)) = D1 at *
  clear hD1 okS wN
  have HB6 : Hid (Bs w7 w.heap.size w2.heap.size H Z D0 #[.int .i64 op, .int .i64 rd, .int .i64 r1, .int .i64 r2, .int .i32 im]) := HB5.out.of G7
  have hlt5 := HB5.out.t.lt
  have HF7 : Hid (∀ ad, a1 = some ad → w.heap.size + 1 + 1 < ad.block) := fun ad q => by have := F7 ad q; omega
  have HM7 : Hid (Mem w7 a1 n1 LL) := M7
  have HB7 : Hid (Bs (w7.setRow (w.heap.size + 1 + 1) D1) w.heap.size w2.heap.size H Z D1 #[.int .i64 op, .int .i64 rd, .int .i64 r1, .int .i64 r2, .int .i32 im]) := HB6.out.row D1
  have HG7 : Hid (Gr w (w7.setRow (w.heap.size + 1 + 1) D1)) := gr_setRow (HG5.out.trans G7) (by omega) _
  clear G7 M7 F7 St kpc kop krd HB5 HG5
  obtain ⟨y32, hy32⟩ := HC2.out
  have c32 : (w7.setRow (w.heap.size + 1 + 1) D1).cell? ⟨w.heap.size + 1 + 1, 32, none⟩ = some (.int .u32 y32) := (HB7.out.t.cellD 32).trans hy32
  have f32 : (w7.setRow (w.heap.size + 1 + 1) D1).frozen? ⟨w.heap.size + 1 + 1, 32, none⟩ = false := HB7.out.t.fz 32
  have HB8 : Hid (Bt ((w7.setRow (w.heap.size + 1 + 1) D1).setCell ⟨w.heap.size + 1 + 1, 32, none⟩ (.int .u32 p4)) w.heap.size H Z D2) := by
    have := HB7.out.t.set 32 (.int .u32 p4)
    rwa [HE2.out] at this
  have HG8 : Hid (Gr w ((w7.setRow (w.heap.size + 1 + 1) D1).setCell ⟨w.heap.size + 1 + 1, 32, none⟩ (.int .u32 p4))) := HG7.out.setCell (by simp; omega) _
  clear hy32 HC2
  go_wp2_with (first
    | (refine wpList_store_row rfl 105 _ _ rfl (w.heap.size + 1 + 1) D1 rfl rfl 105 D0 ?hs1 (by rw [HS1.out]; exact iD) (by rw [HS1.out]; exact HS0.out) HO1.out ?_; (case hs1 => exact HB6.out.t.d))
    | (refine wpList_load_row rfl 105 _ rfl (w.heap.size + 1 + 1) rfl 105 D2 (0, 0) _ ?hl8 Tryd.underlying105 rfl (by rw [HS2.out]; exact iD) ?_; (case hl8 => exact HB8.out.d))
    | (refine wpList_store_row rfl 105 _ _ rfl (w.heap.size + 1) D2 rfl rfl 105 Z ?hs8 (by rw [HS2.out]; exact iD) (by rw [HS2.out, hz]) HO2.out ?_; (case hs8 => exact HB8.out.z)))
  have MF : Mem (((w7.setRow (w.heap.size + 1 + 1) D1).setCell ⟨w.heap.size + 1 + 1, 32, none⟩ (.int .u32 p4)).setRow (w.heap.size + 1) D2) a1 n1 LL := HM7.out.apart fun ad q => by
    have := HF7.out ad q
    rw [setRow_other _ _ _ _ (by omega), heap_setCell_other _ _ _ _ (by simp; omega), setRow_other _ _ _ _ (by omega)]
  have GF : Gr w (((w7.setRow (w.heap.size + 1 + 1) D1).setCell ⟨w.heap.size + 1 + 1, 32, none⟩ (.int .u32 p4)).setRow (w.heap.size + 1) D2) := gr_setRow HG8.out (by omega) _
  refine bodyPost_ret (v := .agg D2) (results_cell_row rfl _ _ _ _ _ (0, 0) _ rfl (setRow_heap _ _ _ _ _ (0, 0) HB8.out.z) Tryd.underlying105 rfl (by rw [HS2.out]; exact iD)) rfl ⟨_, congrArg (fun z => Ending.returned (.agg z)) HD2.out.symm, ⟨HOK.out, rfl, ⟨a1, n1, c1, rfl, MF, .inr fun ad q => by have := HF7.out ad q; omega⟩, .inl ⟨rfl, rfl⟩, .inr rfl⟩, GF⟩

theorem rs_storen {h : Hv} {ao : Option Addr} {n cap : Nat} {l : List UInt8} {w : World} {x op rd : Int} {r1 r2 : Nat} {im : Int} (P : Pr h ao n cap l w x op rd r1 r2 im) (ho : 16 ≤ op ∧ op ≤ 18) (hb : stOk l op (Wd.lo (rg h r1 + Wd.lo im)) = false) : RStep h ao n cap w ⟨h.trap 4, l, [], []⟩ := by
  unfold RStep
  obtain ⟨o, M, hn, ok, ex, D, d0, d1, s1, t1, i0, i1⟩ := P
  subst ex
  have HD : Hid (∀ W : World, Calls Tryd.prog 30 #[.int .u32 (ldV l 13 h.pc)] W fun e w' => e = .returned (.tuple #[.agg #[.int .i64 op, .int .i64 rd, .int .i64 r1, .int .i64 r2, .int .i32 im], .bool true]) ∧ Gr W w') := D
  have wp := W.pc o
  have wa := W.reg o r1
  have wb := W.reg o r2
  have wn := W.lo im
  have Fo : Hid (∀ W : World, Calls Tryd.prog 51 #[.int .i64 im] W fun e w' => e = .returned (.int .u32 (Wd.lo im)) ∧ Gr W w') := fun W => (Rw.Of_any im W (by omega) (by omega)).mono fun e w' h => ⟨h.1, by rw [h.2]; exact Gr.refl _⟩
  have S4 : Hid (∀ W : World, Calls Tryd.prog 74 #[.int .u32 h.pc, .int .u32 4] W fun e w' => e = .returned (.int .u32 (Wd.lo (h.pc + 4))) ∧ Gr W w') := fun W => (sum_any h.pc 4 W wp.1 wp.2 (by omega) (by omega)).mono fun e w' h => ⟨h.1, by rw [h.2]; exact Gr.refl _⟩
  have ST : Hid (∀ W : World, Calls Tryd.prog 74 #[.int .u32 (rg h r1), .int .u32 (Wd.lo im)] W fun e w' => e = .returned (.int .u32 (Wd.lo (rg h r1 + Wd.lo im))) ∧ Gr W w') := fun W => (sum_any _ _ W wa.1 wa.2 wn.1 wn.2).mono fun e w' h => ⟨h.1, by rw [h.2]; exact Gr.refl _⟩
  have SP : Hid (∀ W : World, Calls Tryd.prog 74 #[.int .u32 h.pc, .int .u32 (Wd.lo im)] W fun e w' => e = .returned (.int .u32 (Wd.lo (h.pc + Wd.lo im))) ∧ Gr W w') := fun W => (sum_any _ _ W wp.1 wp.2 wn.1 wn.2).mono fun e w' h => ⟨h.1, by rw [h.2]; exact Gr.refl _⟩
  have g1 : (hA h)[r1]? = some (.int .u32 (rg h r1)) := by simp only [hA, List.getElem?_toArray]; exact hL_reg o s1
  have g2 : (hA h)[r2]? = some (.int .u32 (rg h r2)) := by simp only [hA, List.getElem?_toArray]; exact hL_reg o t1
  have HM : Hid (Mem w ao n l) := M
  have L : Hid (∀ W : World, Gr w W → Calls Tryd.prog 29 #[.slice ao n cap, .int .i64 13, .int .u32 h.pc] W fun e w' => e = .returned (.tuple #[.int .u32 (ldV l 13 h.pc), .bool true]) ∧ Gr W w') := fun W G => by
    have := Mr.Load_any cap 13 h.pc (M.of G) hn o.pc0 o.pc1
    rw [ok] at this
    exact this.mono fun e w' h => ⟨h.1, by rw [h.2]; exact Gr.refl _⟩
  have HBu : Hid (Tryd.prog.built 105 [(0, .agg (hA h)), (1, .slice ao n cap)] = some (dA (dv0 h (.slice ao n cap)))) := Hc.built_did o _ rfl
  have HS : Hid ((hA h).size = 37) := hA_size o
  have HS0 : Hid ((dA (dv0 h (.slice ao n cap))).size = 41) := dA_size (d := dv0 _ _) o
  have HO0 : Hid ((dA (dv0 h (.slice ao n cap))).all (·.oneCell') = true) := one_dA (dv0_ok o _ _ _)
  have gpc : (hA h)[32]? = some (.int .u32 h.pc) := by simp only [hA, List.getElem?_toArray]; exact hL_fld o 0
  have St : Hid (∀ W : World, Gr w W → Calls Tryd.prog 76 #[.agg (dA (dv0 h (.slice ao n cap))), .int .i64 op, .int .u32 (Wd.lo (rg h r1 + Wd.lo im)), .int .u32 (rg h r2)] W fun e w' => e = .returned (.tuple #[.agg (dA (dv0 h (.slice ao n cap))), .bool false]) ∧ Gr W w') := fun W G => store_no (dv0_ok o ao n cap) rfl op (Wd.lo (rg h r1 + Wd.lo im)) (rg h r2) (M.of G) hn (Wd.lo_bd _).1 (Wd.lo_bd _).2 wb.1 wb.2 hb
  clear hb
  have b1 : (op == 1) = false := by simp; omega
  have b2 : (op == 2) = false := by simp; omega
  have b3 : (op == 3) = false := by simp; omega
  have b4 : (op == 4) = false := by simp; omega
  have Tr : Hid (∀ W : World, Calls Tryd.prog 73 #[.agg (dA (dv0 h (.slice ao n cap))), .int .i64 4] W fun e w' => e = .returned (.agg (dA ((dv0 h (.slice ao n cap)).setH ((dv0 h (.slice ao n cap)).h.trap 4)))) ∧ Gr W w') := fun W => trap_any (dv0_ok o ao n cap) 4 W
  have HSt : Hid ((dA ((dv0 h (.slice ao n cap)).setH ((dv0 h (.slice ao n cap)).h.trap 4))).size = 41) := dA_size (d := (dv0 h (.slice ao n cap)).setH _) ((dv0_ok o ao n cap).h.trap 4)
  have HOt : Hid ((dA ((dv0 h (.slice ao n cap)).setH ((dv0 h (.slice ao n cap)).h.trap 4))).all (·.oneCell') = true) := one_dA ((dv0_ok o ao n cap).setH ((dv0_ok o ao n cap).h.trap 4))
  have Okt : Hid (((dv0 h (.slice ao n cap)).setH ((dv0 h (.slice ao n cap)).h.trap 4)).Ok) := (dv0_ok o ao n cap).setH ((dv0_ok o ao n cap).h.trap 4)
  generalize hDt : dA ((dv0 h (.slice ao n cap)).setH ((dv0 h (.slice ao n cap)).h.trap 4)) = Dt at *
  have HDt : Hid (dA ((dv0 h (.slice ao n cap)).setH ((dv0 h (.slice ao n cap)).h.trap 4)) = Dt) := hDt
  clear hDt
  generalize dA (dv0 h (.slice ao n cap)) = D0 at *
  generalize hA h = H at *
  generalize hth : (Wd.lo (rg h r1 + Wd.lo im)) = th at *
  generalize hpn : (Wd.lo (h.pc + Wd.lo im)) = pn at *
  generalize hp4 : (Wd.lo (h.pc + 4)) = p4 at *
  generalize hnn : (Wd.lo im) = nn at *
  generalize (rg h r1) = xa at *
  generalize (rg h r2) = xb at *
  generalize ldV l 13 h.pc = lx at *
  generalize h.pc = pc at *
  clear hth hpn hp4 hnn
  clear M ok o D wp wa wb wn
  have kpc : ∀ Z Y : Array Value, ((((w.alloc (.cells H 48)).alloc (.cells Z 105)).alloc (.cells Y 105)).setRow (w.heap.size + 1 + 1) D0).cell? ⟨w.heap.size, 32, none⟩ = some (.int .u32 pc) := fun Z Y => ((three_of (Gr.refl _)).cellH 32).trans gpc
  go_enter Tryd.func41, Tryd.ntmps41
  go_wp2_with (first
    | (refine wpList_load_row rfl 48 _ rfl w.heap.size rfl 48 H (0, 0) _ ?ha1 Tryd.underlying48 rfl (by rw [HS.out]; exact iH) ?_; (case ha1 => exact heap_alloc2_old w _ _))
    | (refine wpList_buildTo rfl 105 _ rfl _ rfl D0 (by have := HBu.out; simp [Act.eval, Act.put]; exact this) ?_)
    | (refine wpList_store_row rfl 105 _ _ rfl (w.heap.size + 1 + 1) D0 rfl rfl 105 _ (third_of w _ _ _) (by rw [HS0.out]; exact iD) (by rw [HS0.out]; rfl) HO0.out ?_))
  refine (L.out _ (gr_three w _ _ _ _)).mono ?_
  rintro e w1 ⟨rfl, G1⟩
  have HZ : Hid (∃ Z : Array Value, Z.size = 41 ∧ Bt w1 w.heap.size H Z D0) := ⟨_, rfl, three_of G1⟩
  obtain ⟨Z, hz, hb⟩ := HZ.out
  have HG1 : Hid (Gr w w1) := (gr_three w _ _ _ _).trans G1
  have HB1 : Hid (Bt w1 w.heap.size H Z D0) := hb
  clear G1 L hb HZ HBu kpc
  go_wp2_with fail
  refine (HD.out _).mono ?_
  rintro e w2 ⟨rfl, G2⟩
  have HB2 : Hid (Bt w2 w.heap.size H Z D0) := HB1.out.of G2
  have HG2 : Hid (Gr w w2) := HG1.out.trans G2
  have hJ : w.heap.size + 1 + 1 < w2.heap.size := HB2.out.lt
  have HBs : Hid (Bs (w2.alloc (.cells #[.int .i64 op, .int .i64 rd, .int .i64 r1, .int .i64 r2, .int .i32 im] 63)) w.heap.size w2.heap.size H Z D0 #[.int .i64 op, .int .i64 rd, .int .i64 r1, .int .i64 r2, .int .i32 im]) := ⟨HB2.out.of ((Gr.refl _).alloc _), heap_alloc_new w2 _⟩
  have kr1 : w2.cell? ⟨w.heap.size, r1, none⟩ = some (.int .u32 xa) := (HB2.out.cellH r1).trans g1
  have kr2 : w2.cell? ⟨w.heap.size, r2, none⟩ = some (.int .u32 xb) := (HB2.out.cellH r2).trans g2
  have hB2 : w.heap.size < w2.heap.size := by omega
  clear G2 HD HB1 HG1
  go_wp2_with fail
  refine (Fo.out _).mono ?_
  rintro e w3 ⟨rfl, G3⟩
  have HB3 : Hid (Bs w3 w.heap.size w2.heap.size H Z D0 #[.int .i64 op, .int .i64 rd, .int .i64 r1, .int .i64 r2, .int .i32 im]) := HBs.out.of G3
  have HG3 : Hid (Gr w w3) := (HG2.out.alloc _).trans G3
  have kpc : w3.cell? ⟨w.heap.size, 32, none⟩ = some (.int .u32 pc) := (HB3.out.t.cellH 32).trans gpc
  clear G3 Fo HB2 HG2 HBs kr1 kr2
  go_wp2_with fail
  refine (S4.out _).mono ?_
  rintro e w4 ⟨rfl, G4⟩
  have HB4 : Hid (Bs w4 w.heap.size w2.heap.size H Z D0 #[.int .i64 op, .int .i64 rd, .int .i64 r1, .int .i64 r2, .int .i32 im]) := HB3.out.of G4
  have HG4 : Hid (Gr w w4) := HG3.out.trans G4
  clear G4 S4 HB3 HG3 kpc
  go_wp2_with fail
  refine (ST.out _).mono ?_
  rintro e w5 ⟨rfl, G5⟩
  have HB5 : Hid (Bs w5 w.heap.size w2.heap.size H Z D0 #[.int .i64 op, .int .i64 rd, .int .i64 r1, .int .i64 r2, .int .i32 im]) := HB4.out.of G5
  have HG5 : Hid (Gr w w5) := HG4.out.trans G5
  have kpc : w5.cell? ⟨w.heap.size, 32, none⟩ = some (.int .u32 pc) := (HB5.out.t.cellH 32).trans gpc
  have kop : w5.cell? ⟨w2.heap.size, 0, none⟩ = some (.int .i64 op) := HB5.out.cellI 0
  have krd : w5.cell? ⟨w2.heap.size, 1, none⟩ = some (.int .i64 rd) := HB5.out.cellI 1
  clear G5 ST HB4 HG4
  have hop1 : 16 ≤ op := ho.1
  have hop2 : op ≤ 18 := ho.2
  have q10 : ¬ op ≤ 10 := by omega
  have q15 : ¬ op ≤ 15 := by omega
  go_wp2_with (refine wpList_load_row rfl 105 _ rfl (w.heap.size + 1 + 1) rfl 105 D0 (0, 0) _ ?hl1 Tryd.underlying105 rfl (by rw [HS0.out]; exact iD) ?_; (case hl1 => exact HB5.out.t.d))
  refine (St.out _ HG5.out).mono ?_
  rintro e w7 ⟨rfl, G7⟩
  have HB6 : Hid (Bs w7 w.heap.size w2.heap.size H Z D0 #[.int .i64 op, .int .i64 rd, .int .i64 r1, .int .i64 r2, .int .i32 im]) := HB5.out.of G7
  have HB7 : Hid (Bs (w7.setRow (w.heap.size + 1 + 1) D0) w.heap.size w2.heap.size H Z D0 #[.int .i64 op, .int .i64 rd, .int .i64 r1, .int .i64 r2, .int .i32 im]) := HB6.out.row D0
  have HG7 : Hid (Gr w (w7.setRow (w.heap.size + 1 + 1) D0)) := gr_setRow (HG5.out.trans G7) (by omega) _
  clear G7 St kpc kop krd HB5 HG5
  go_wp2_with (first
    | (refine wpList_store_row rfl 105 _ _ rfl (w.heap.size + 1 + 1) D0 rfl rfl 105 D0 ?hs1 (by rw [HS0.out]; exact iD) rfl HO0.out ?_; (case hs1 => exact HB6.out.t.d))
    | (refine wpList_load_row rfl 105 _ rfl (w.heap.size + 1 + 1) rfl 105 D0 (0, 0) _ ?hd1 Tryd.underlying105 rfl (by rw [HS0.out]; exact iD) ?_; (case hd1 => exact HB7.out.t.d)))
  refine (Tr.out _).mono ?_
  rintro e wt ⟨rfl, Gt⟩
  have HRt : Hid (wt.heap[w.heap.size + 1]? = some (.cells Z 105 (0, 0))) := (HB7.out.t.of Gt).z
  have HGt : Hid (Gr w wt) := HG7.out.trans Gt
  clear Gt Tr
  go_wp2_with (refine wpList_store_row rfl 105 _ _ rfl (w.heap.size + 1) Dt rfl rfl 105 Z ?hd2 (by rw [HSt.out]; exact iD) (by rw [HSt.out, hz]) HOt.out ?_; (case hd2 => exact HRt.out))
  refine bodyPost_ret (v := .agg Dt) (results_cell_row rfl _ _ _ _ _ (0, 0) _ rfl (setRow_heap _ _ _ _ _ (0, 0) HRt.out) Tryd.underlying105 rfl (by rw [HSt.out]; exact iD)) rfl ⟨_, congrArg (fun z => Ending.returned (.agg z)) HDt.out.symm, ⟨Okt.out, rfl, ⟨ao, n, cap, rfl, HM.out.of (gr_setRow HGt.out (by omega) _), .inl rfl⟩, .inl ⟨rfl, rfl⟩, .inl ⟨rfl, rfl, rfl⟩⟩, ?_⟩
  exact gr_setRow HGt.out (by omega) _

theorem rs_callt {h : Hv} {ao : Option Addr} {n cap : Nat} {l : List UInt8} {w : World} {x op rd : Int} {r1 r2 : Nat} {im : Int} (P : Pr h ao n cap l w x op rd r1 r2 im) (ho : op = 58) (hb : ¬ rg h 17 = 0 ∧ ¬ rg h 17 = 1) : RStep h ao n cap w ⟨h.trap 5, l, [], []⟩ := by
  unfold RStep
  obtain ⟨o, M, hn, ok, ex, D, d0, d1, s1, t1, i0, i1⟩ := P
  subst ho
  subst ex
  have HD : Hid (∀ W : World, Calls Tryd.prog 30 #[.int .u32 (ldV l 13 h.pc)] W fun e w' => e = .returned (.tuple #[.agg #[.int .i64 58, .int .i64 rd, .int .i64 r1, .int .i64 r2, .int .i32 im], .bool true]) ∧ Gr W w') := D
  have wp := W.pc o
  have wa := W.reg o r1
  have wb := W.reg o r2
  have wn := W.lo im
  have Fo : Hid (∀ W : World, Calls Tryd.prog 51 #[.int .i64 im] W fun e w' => e = .returned (.int .u32 (Wd.lo im)) ∧ Gr W w') := fun W => (Rw.Of_any im W (by omega) (by omega)).mono fun e w' h => ⟨h.1, by rw [h.2]; exact Gr.refl _⟩
  have S4 : Hid (∀ W : World, Calls Tryd.prog 74 #[.int .u32 h.pc, .int .u32 4] W fun e w' => e = .returned (.int .u32 (Wd.lo (h.pc + 4))) ∧ Gr W w') := fun W => (sum_any h.pc 4 W wp.1 wp.2 (by omega) (by omega)).mono fun e w' h => ⟨h.1, by rw [h.2]; exact Gr.refl _⟩
  have ST : Hid (∀ W : World, Calls Tryd.prog 74 #[.int .u32 (rg h r1), .int .u32 (Wd.lo im)] W fun e w' => e = .returned (.int .u32 (Wd.lo (rg h r1 + Wd.lo im))) ∧ Gr W w') := fun W => (sum_any _ _ W wa.1 wa.2 wn.1 wn.2).mono fun e w' h => ⟨h.1, by rw [h.2]; exact Gr.refl _⟩
  have SP : Hid (∀ W : World, Calls Tryd.prog 74 #[.int .u32 h.pc, .int .u32 (Wd.lo im)] W fun e w' => e = .returned (.int .u32 (Wd.lo (h.pc + Wd.lo im))) ∧ Gr W w') := fun W => (sum_any _ _ W wp.1 wp.2 wn.1 wn.2).mono fun e w' h => ⟨h.1, by rw [h.2]; exact Gr.refl _⟩
  have g1 : (hA h)[r1]? = some (.int .u32 (rg h r1)) := by simp only [hA, List.getElem?_toArray]; exact hL_reg o s1
  have g2 : (hA h)[r2]? = some (.int .u32 (rg h r2)) := by simp only [hA, List.getElem?_toArray]; exact hL_reg o t1
  have HM : Hid (Mem w ao n l) := M
  have L : Hid (∀ W : World, Gr w W → Calls Tryd.prog 29 #[.slice ao n cap, .int .i64 13, .int .u32 h.pc] W fun e w' => e = .returned (.tuple #[.int .u32 (ldV l 13 h.pc), .bool true]) ∧ Gr W w') := fun W G => by
    have := Mr.Load_any cap 13 h.pc (M.of G) hn o.pc0 o.pc1
    rw [ok] at this
    exact this.mono fun e w' h => ⟨h.1, by rw [h.2]; exact Gr.refl _⟩
  have HBu : Hid (Tryd.prog.built 105 [(0, .agg (hA h)), (1, .slice ao n cap)] = some (dA (dv0 h (.slice ao n cap)))) := Hc.built_did o _ rfl
  have HS : Hid ((hA h).size = 37) := hA_size o
  have HS0 : Hid ((dA (dv0 h (.slice ao n cap))).size = 41) := dA_size (d := dv0 _ _) o
  have HO0 : Hid ((dA (dv0 h (.slice ao n cap))).all (·.oneCell') = true) := one_dA (dv0_ok o _ _ _)
  have gpc : (hA h)[32]? = some (.int .u32 h.pc) := by simp only [hA, List.getElem?_toArray]; exact hL_fld o 0
  have g17 : (hA h)[17]? = some (.int .u32 (rg h 17)) := by simp only [hA, List.getElem?_toArray]; exact hL_reg o (by omega)
  have b0 : (rg h 17 == 0) = false := by simp [hb.1]
  have b1 : (rg h 17 != 1) = true := by simp [hb.2]
  clear hb
  generalize rg h 17 = r17 at *
  have Tr : Hid (∀ W : World, Calls Tryd.prog 73 #[.agg (dA (dv0 h (.slice ao n cap))), .int .i64 5] W fun e w' => e = .returned (.agg (dA ((dv0 h (.slice ao n cap)).setH ((dv0 h (.slice ao n cap)).h.trap 5)))) ∧ Gr W w') := fun W => trap_any (dv0_ok o ao n cap) 5 W
  have HSt : Hid ((dA ((dv0 h (.slice ao n cap)).setH ((dv0 h (.slice ao n cap)).h.trap 5))).size = 41) := dA_size (d := (dv0 h (.slice ao n cap)).setH _) ((dv0_ok o ao n cap).h.trap 5)
  have HOt : Hid ((dA ((dv0 h (.slice ao n cap)).setH ((dv0 h (.slice ao n cap)).h.trap 5))).all (·.oneCell') = true) := one_dA ((dv0_ok o ao n cap).setH ((dv0_ok o ao n cap).h.trap 5))
  have Okt : Hid (((dv0 h (.slice ao n cap)).setH ((dv0 h (.slice ao n cap)).h.trap 5)).Ok) := (dv0_ok o ao n cap).setH ((dv0_ok o ao n cap).h.trap 5)
  generalize hDt : dA ((dv0 h (.slice ao n cap)).setH ((dv0 h (.slice ao n cap)).h.trap 5)) = Dt at *
  have HDt : Hid (dA ((dv0 h (.slice ao n cap)).setH ((dv0 h (.slice ao n cap)).h.trap 5)) = Dt) := hDt
  clear hDt
  generalize dA (dv0 h (.slice ao n cap)) = D0 at *
  generalize hA h = H at *
  generalize hth : (Wd.lo (rg h r1 + Wd.lo im)) = th at *
  generalize hpn : (Wd.lo (h.pc + Wd.lo im)) = pn at *
  generalize hp4 : (Wd.lo (h.pc + 4)) = p4 at *
  generalize hnn : (Wd.lo im) = nn at *
  generalize (rg h r1) = xa at *
  generalize (rg h r2) = xb at *
  generalize ldV l 13 h.pc = lx at *
  generalize h.pc = pc at *
  clear hth hpn hp4 hnn
  clear M ok o D wp wa wb wn
  have kpc : ∀ Z Y : Array Value, ((((w.alloc (.cells H 48)).alloc (.cells Z 105)).alloc (.cells Y 105)).setRow (w.heap.size + 1 + 1) D0).cell? ⟨w.heap.size, 32, none⟩ = some (.int .u32 pc) := fun Z Y => ((three_of (Gr.refl _)).cellH 32).trans gpc
  go_enter Tryd.func41, Tryd.ntmps41
  go_wp2_with (first
    | (refine wpList_load_row rfl 48 _ rfl w.heap.size rfl 48 H (0, 0) _ ?ha1 Tryd.underlying48 rfl (by rw [HS.out]; exact iH) ?_; (case ha1 => exact heap_alloc2_old w _ _))
    | (refine wpList_buildTo rfl 105 _ rfl _ rfl D0 (by have := HBu.out; simp [Act.eval, Act.put]; exact this) ?_)
    | (refine wpList_store_row rfl 105 _ _ rfl (w.heap.size + 1 + 1) D0 rfl rfl 105 _ (third_of w _ _ _) (by rw [HS0.out]; exact iD) (by rw [HS0.out]; rfl) HO0.out ?_))
  refine (L.out _ (gr_three w _ _ _ _)).mono ?_
  rintro e w1 ⟨rfl, G1⟩
  have HZ : Hid (∃ Z : Array Value, Z.size = 41 ∧ Bt w1 w.heap.size H Z D0) := ⟨_, rfl, three_of G1⟩
  obtain ⟨Z, hz, hb⟩ := HZ.out
  have HG1 : Hid (Gr w w1) := (gr_three w _ _ _ _).trans G1
  have HB1 : Hid (Bt w1 w.heap.size H Z D0) := hb
  clear G1 L hb HZ HBu kpc
  go_wp2_with fail
  refine (HD.out _).mono ?_
  rintro e w2 ⟨rfl, G2⟩
  have HB2 : Hid (Bt w2 w.heap.size H Z D0) := HB1.out.of G2
  have HG2 : Hid (Gr w w2) := HG1.out.trans G2
  have hJ : w.heap.size + 1 + 1 < w2.heap.size := HB2.out.lt
  have HBs : Hid (Bs (w2.alloc (.cells #[.int .i64 58, .int .i64 rd, .int .i64 r1, .int .i64 r2, .int .i32 im] 63)) w.heap.size w2.heap.size H Z D0 #[.int .i64 58, .int .i64 rd, .int .i64 r1, .int .i64 r2, .int .i32 im]) := ⟨HB2.out.of ((Gr.refl _).alloc _), heap_alloc_new w2 _⟩
  have kr1 : w2.cell? ⟨w.heap.size, r1, none⟩ = some (.int .u32 xa) := (HB2.out.cellH r1).trans g1
  have kr2 : w2.cell? ⟨w.heap.size, r2, none⟩ = some (.int .u32 xb) := (HB2.out.cellH r2).trans g2
  have hB2 : w.heap.size < w2.heap.size := by omega
  clear G2 HD HB1 HG1
  go_wp2_with fail
  refine (Fo.out _).mono ?_
  rintro e w3 ⟨rfl, G3⟩
  have HB3 : Hid (Bs w3 w.heap.size w2.heap.size H Z D0 #[.int .i64 58, .int .i64 rd, .int .i64 r1, .int .i64 r2, .int .i32 im]) := HBs.out.of G3
  have HG3 : Hid (Gr w w3) := (HG2.out.alloc _).trans G3
  have kpc : w3.cell? ⟨w.heap.size, 32, none⟩ = some (.int .u32 pc) := (HB3.out.t.cellH 32).trans gpc
  clear G3 Fo HB2 HG2 HBs kr1 kr2
  go_wp2_with fail
  refine (S4.out _).mono ?_
  rintro e w4 ⟨rfl, G4⟩
  have HB4 : Hid (Bs w4 w.heap.size w2.heap.size H Z D0 #[.int .i64 58, .int .i64 rd, .int .i64 r1, .int .i64 r2, .int .i32 im]) := HB3.out.of G4
  have HG4 : Hid (Gr w w4) := HG3.out.trans G4
  clear G4 S4 HB3 HG3 kpc
  go_wp2_with fail
  refine (ST.out _).mono ?_
  rintro e w5 ⟨rfl, G5⟩
  have HB5 : Hid (Bs w5 w.heap.size w2.heap.size H Z D0 #[.int .i64 58, .int .i64 rd, .int .i64 r1, .int .i64 r2, .int .i32 im]) := HB4.out.of G5
  have HG5 : Hid (Gr w w5) := HG4.out.trans G5
  have kpc : w5.cell? ⟨w.heap.size, 32, none⟩ = some (.int .u32 pc) := (HB5.out.t.cellH 32).trans gpc
  have kop : w5.cell? ⟨w2.heap.size, 0, none⟩ = some (.int .i64 58) := HB5.out.cellI 0
  have krd : w5.cell? ⟨w2.heap.size, 1, none⟩ = some (.int .i64 rd) := HB5.out.cellI 1
  clear G5 ST HB4 HG4
  have k17 : w5.cell? ⟨w.heap.size, 17, none⟩ = some (.int .u32 r17) := (HB5.out.t.cellH 17).trans g17
  go_wp2_with (refine wpList_load_row rfl 105 _ rfl (w.heap.size + 1 + 1) rfl 105 D0 (0, 0) _ ?hd1 Tryd.underlying105 rfl (by rw [HS0.out]; exact iD) ?_; (case hd1 => exact HB5.out.t.d))
  refine (Tr.out _).mono ?_
  rintro e wt ⟨rfl, Gt⟩
  have HRt : Hid (wt.heap[w.heap.size + 1]? = some (.cells Z 105 (0, 0))) := (HB5.out.t.of Gt).z
  have HGt : Hid (Gr w wt) := HG5.out.trans Gt
  clear Gt Tr
  go_wp2_with (refine wpList_store_row rfl 105 _ _ rfl (w.heap.size + 1) Dt rfl rfl 105 Z ?hd2 (by rw [HSt.out]; exact iD) (by rw [HSt.out, hz]) HOt.out ?_; (case hd2 => exact HRt.out))
  refine bodyPost_ret (v := .agg Dt) (results_cell_row rfl _ _ _ _ _ (0, 0) _ rfl (setRow_heap _ _ _ _ _ (0, 0) HRt.out) Tryd.underlying105 rfl (by rw [HSt.out]; exact iD)) rfl ⟨_, congrArg (fun z => Ending.returned (.agg z)) HDt.out.symm, ⟨Okt.out, rfl, ⟨ao, n, cap, rfl, HM.out.of (gr_setRow HGt.out (by omega) _), .inl rfl⟩, .inl ⟨rfl, rfl⟩, .inl ⟨rfl, rfl, rfl⟩⟩, ?_⟩
  exact gr_setRow HGt.out (by omega) _

theorem rs_callh {h : Hv} {ao : Option Addr} {n cap : Nat} {l : List UInt8} {w : World} {x op rd : Int} {r1 r2 : Nat} {im : Int} (P : Pr h ao n cap l w x op rd r1 r2 im) (ho : op = 58) (hb : rg h 17 = 0) : RStep h ao n cap w ⟨h.halt, l, [], []⟩ := by
  unfold RStep
  obtain ⟨o, M, hn, ok, ex, D, d0, d1, s1, t1, i0, i1⟩ := P
  subst ho
  subst ex
  have HD : Hid (∀ W : World, Calls Tryd.prog 30 #[.int .u32 (ldV l 13 h.pc)] W fun e w' => e = .returned (.tuple #[.agg #[.int .i64 58, .int .i64 rd, .int .i64 r1, .int .i64 r2, .int .i32 im], .bool true]) ∧ Gr W w') := D
  have wp := W.pc o
  have wa := W.reg o r1
  have wb := W.reg o r2
  have wn := W.lo im
  have Fo : Hid (∀ W : World, Calls Tryd.prog 51 #[.int .i64 im] W fun e w' => e = .returned (.int .u32 (Wd.lo im)) ∧ Gr W w') := fun W => (Rw.Of_any im W (by omega) (by omega)).mono fun e w' h => ⟨h.1, by rw [h.2]; exact Gr.refl _⟩
  have S4 : Hid (∀ W : World, Calls Tryd.prog 74 #[.int .u32 h.pc, .int .u32 4] W fun e w' => e = .returned (.int .u32 (Wd.lo (h.pc + 4))) ∧ Gr W w') := fun W => (sum_any h.pc 4 W wp.1 wp.2 (by omega) (by omega)).mono fun e w' h => ⟨h.1, by rw [h.2]; exact Gr.refl _⟩
  have ST : Hid (∀ W : World, Calls Tryd.prog 74 #[.int .u32 (rg h r1), .int .u32 (Wd.lo im)] W fun e w' => e = .returned (.int .u32 (Wd.lo (rg h r1 + Wd.lo im))) ∧ Gr W w') := fun W => (sum_any _ _ W wa.1 wa.2 wn.1 wn.2).mono fun e w' h => ⟨h.1, by rw [h.2]; exact Gr.refl _⟩
  have SP : Hid (∀ W : World, Calls Tryd.prog 74 #[.int .u32 h.pc, .int .u32 (Wd.lo im)] W fun e w' => e = .returned (.int .u32 (Wd.lo (h.pc + Wd.lo im))) ∧ Gr W w') := fun W => (sum_any _ _ W wp.1 wp.2 wn.1 wn.2).mono fun e w' h => ⟨h.1, by rw [h.2]; exact Gr.refl _⟩
  have g1 : (hA h)[r1]? = some (.int .u32 (rg h r1)) := by simp only [hA, List.getElem?_toArray]; exact hL_reg o s1
  have g2 : (hA h)[r2]? = some (.int .u32 (rg h r2)) := by simp only [hA, List.getElem?_toArray]; exact hL_reg o t1
  have HM : Hid (Mem w ao n l) := M
  have L : Hid (∀ W : World, Gr w W → Calls Tryd.prog 29 #[.slice ao n cap, .int .i64 13, .int .u32 h.pc] W fun e w' => e = .returned (.tuple #[.int .u32 (ldV l 13 h.pc), .bool true]) ∧ Gr W w') := fun W G => by
    have := Mr.Load_any cap 13 h.pc (M.of G) hn o.pc0 o.pc1
    rw [ok] at this
    exact this.mono fun e w' h => ⟨h.1, by rw [h.2]; exact Gr.refl _⟩
  have HBu : Hid (Tryd.prog.built 105 [(0, .agg (hA h)), (1, .slice ao n cap)] = some (dA (dv0 h (.slice ao n cap)))) := Hc.built_did o _ rfl
  have HS : Hid ((hA h).size = 37) := hA_size o
  have HS0 : Hid ((dA (dv0 h (.slice ao n cap))).size = 41) := dA_size (d := dv0 _ _) o
  have HO0 : Hid ((dA (dv0 h (.slice ao n cap))).all (·.oneCell') = true) := one_dA (dv0_ok o _ _ _)
  have gpc : (hA h)[32]? = some (.int .u32 h.pc) := by simp only [hA, List.getElem?_toArray]; exact hL_fld o 0
  have g17 : (hA h)[17]? = some (.int .u32 (rg h 17)) := by simp only [hA, List.getElem?_toArray]; exact hL_reg o (by omega)
  rw [hb] at g17
  clear hb
  have okt : ((dv0 h (.slice ao n cap)).setH h.halt).Ok := (dv0_ok o ao n cap).setH o.halt
  have HSt : Hid ((dA ((dv0 h (.slice ao n cap)).setH h.halt)).size = 41) := dA_size okt.h
  have HOt : Hid ((dA ((dv0 h (.slice ao n cap)).setH h.halt)).all (·.oneCell') = true) := one_dA okt
  have Okt : Hid (((dv0 h (.slice ao n cap)).setH h.halt).Ok) := okt
  have HEt : Hid ((dA (dv0 h (.slice ao n cap))).setIfInBounds 35 (.int .i64 1) = dA ((dv0 h (.slice ao n cap)).setH h.halt)) := dA_set (d := (dv0 h (.slice ao n cap))) o (by omega) (set_state o 1)
  have HCt : Hid (∃ y, (dA (dv0 h (.slice ao n cap)))[35]? = some (.int .i64 y)) := ⟨_, (dA_get (d := (dv0 h (.slice ao n cap))) o (by omega)).trans (hL_fld o 3)⟩
  generalize hDt : dA ((dv0 h (.slice ao n cap)).setH h.halt) = Dt at *
  have HDt : Hid (dA ((dv0 h (.slice ao n cap)).setH h.halt) = Dt) := hDt
  clear hDt okt
  generalize dA (dv0 h (.slice ao n cap)) = D0 at *
  generalize hA h = H at *
  generalize hth : (Wd.lo (rg h r1 + Wd.lo im)) = th at *
  generalize hpn : (Wd.lo (h.pc + Wd.lo im)) = pn at *
  generalize hp4 : (Wd.lo (h.pc + 4)) = p4 at *
  generalize hnn : (Wd.lo im) = nn at *
  generalize (rg h r1) = xa at *
  generalize (rg h r2) = xb at *
  generalize ldV l 13 h.pc = lx at *
  generalize h.pc = pc at *
  clear hth hpn hp4 hnn
  clear M ok o D wp wa wb wn
  have kpc : ∀ Z Y : Array Value, ((((w.alloc (.cells H 48)).alloc (.cells Z 105)).alloc (.cells Y 105)).setRow (w.heap.size + 1 + 1) D0).cell? ⟨w.heap.size, 32, none⟩ = some (.int .u32 pc) := fun Z Y => ((three_of (Gr.refl _)).cellH 32).trans gpc
  go_enter Tryd.func41, Tryd.ntmps41
  go_wp2_with (first
    | (refine wpList_load_row rfl 48 _ rfl w.heap.size rfl 48 H (0, 0) _ ?ha1 Tryd.underlying48 rfl (by rw [HS.out]; exact iH) ?_; (case ha1 => exact heap_alloc2_old w _ _))
    | (refine wpList_buildTo rfl 105 _ rfl _ rfl D0 (by have := HBu.out; simp [Act.eval, Act.put]; exact this) ?_)
    | (refine wpList_store_row rfl 105 _ _ rfl (w.heap.size + 1 + 1) D0 rfl rfl 105 _ (third_of w _ _ _) (by rw [HS0.out]; exact iD) (by rw [HS0.out]; rfl) HO0.out ?_))
  refine (L.out _ (gr_three w _ _ _ _)).mono ?_
  rintro e w1 ⟨rfl, G1⟩
  have HZ : Hid (∃ Z : Array Value, Z.size = 41 ∧ Bt w1 w.heap.size H Z D0) := ⟨_, rfl, three_of G1⟩
  obtain ⟨Z, hz, hb⟩ := HZ.out
  have HG1 : Hid (Gr w w1) := (gr_three w _ _ _ _).trans G1
  have HB1 : Hid (Bt w1 w.heap.size H Z D0) := hb
  clear G1 L hb HZ HBu kpc
  go_wp2_with fail
  refine (HD.out _).mono ?_
  rintro e w2 ⟨rfl, G2⟩
  have HB2 : Hid (Bt w2 w.heap.size H Z D0) := HB1.out.of G2
  have HG2 : Hid (Gr w w2) := HG1.out.trans G2
  have hJ : w.heap.size + 1 + 1 < w2.heap.size := HB2.out.lt
  have HBs : Hid (Bs (w2.alloc (.cells #[.int .i64 58, .int .i64 rd, .int .i64 r1, .int .i64 r2, .int .i32 im] 63)) w.heap.size w2.heap.size H Z D0 #[.int .i64 58, .int .i64 rd, .int .i64 r1, .int .i64 r2, .int .i32 im]) := ⟨HB2.out.of ((Gr.refl _).alloc _), heap_alloc_new w2 _⟩
  have kr1 : w2.cell? ⟨w.heap.size, r1, none⟩ = some (.int .u32 xa) := (HB2.out.cellH r1).trans g1
  have kr2 : w2.cell? ⟨w.heap.size, r2, none⟩ = some (.int .u32 xb) := (HB2.out.cellH r2).trans g2
  have hB2 : w.heap.size < w2.heap.size := by omega
  clear G2 HD HB1 HG1
  go_wp2_with fail
  refine (Fo.out _).mono ?_
  rintro e w3 ⟨rfl, G3⟩
  have HB3 : Hid (Bs w3 w.heap.size w2.heap.size H Z D0 #[.int .i64 58, .int .i64 rd, .int .i64 r1, .int .i64 r2, .int .i32 im]) := HBs.out.of G3
  have HG3 : Hid (Gr w w3) := (HG2.out.alloc _).trans G3
  have kpc : w3.cell? ⟨w.heap.size, 32, none⟩ = some (.int .u32 pc) := (HB3.out.t.cellH 32).trans gpc
  clear G3 Fo HB2 HG2 HBs kr1 kr2
  go_wp2_with fail
  refine (S4.out _).mono ?_
  rintro e w4 ⟨rfl, G4⟩
  have HB4 : Hid (Bs w4 w.heap.size w2.heap.size H Z D0 #[.int .i64 58, .int .i64 rd, .int .i64 r1, .int .i64 r2, .int .i32 im]) := HB3.out.of G4
  have HG4 : Hid (Gr w w4) := HG3.out.trans G4
  clear G4 S4 HB3 HG3 kpc
  go_wp2_with fail
  refine (ST.out _).mono ?_
  rintro e w5 ⟨rfl, G5⟩
  have HB5 : Hid (Bs w5 w.heap.size w2.heap.size H Z D0 #[.int .i64 58, .int .i64 rd, .int .i64 r1, .int .i64 r2, .int .i32 im]) := HB4.out.of G5
  have HG5 : Hid (Gr w w5) := HG4.out.trans G5
  have kpc : w5.cell? ⟨w.heap.size, 32, none⟩ = some (.int .u32 pc) := (HB5.out.t.cellH 32).trans gpc
  have kop : w5.cell? ⟨w2.heap.size, 0, none⟩ = some (.int .i64 58) := HB5.out.cellI 0
  have krd : w5.cell? ⟨w2.heap.size, 1, none⟩ = some (.int .i64 rd) := HB5.out.cellI 1
  clear G5 ST HB4 HG4
  have k17 : w5.cell? ⟨w.heap.size, 17, none⟩ = some (.int .u32 0) := (HB5.out.t.cellH 17).trans g17
  obtain ⟨y35, hy35⟩ := HCt.out
  have c35 : w5.cell? ⟨w.heap.size + 1 + 1, 35, none⟩ = some (.int .i64 y35) := (HB5.out.t.cellD 35).trans hy35
  have f35 : w5.frozen? ⟨w.heap.size + 1 + 1, 35, none⟩ = false := HB5.out.t.fz 35
  have HB8 : Hid (Bt (w5.setCell ⟨w.heap.size + 1 + 1, 35, none⟩ (.int .i64 1)) w.heap.size H Z Dt) := by
    have := HB5.out.t.set 35 (.int .i64 1)
    rwa [HEt.out] at this
  have HGt : Hid (Gr w (w5.setCell ⟨w.heap.size + 1 + 1, 35, none⟩ (.int .i64 1))) := HG5.out.setCell (by simp; omega) _
  clear hy35 HCt
  go_wp2_with (first
    | (refine wpList_load_row rfl 105 _ rfl (w.heap.size + 1 + 1) rfl 105 Dt (0, 0) _ ?hl8 Tryd.underlying105 rfl (by rw [HSt.out]; exact iD) ?_; (case hl8 => exact HB8.out.d))
    | (refine wpList_store_row rfl 105 _ _ rfl (w.heap.size + 1) Dt rfl rfl 105 Z ?hs8 (by rw [HSt.out]; exact iD) (by rw [HSt.out, hz]) HOt.out ?_; (case hs8 => exact HB8.out.z)))
  have HRt : Hid ((w5.setCell ⟨w.heap.size + 1 + 1, 35, none⟩ (.int .i64 1)).heap[w.heap.size + 1]? = some (.cells Z 105 (0, 0))) := HB8.out.z
  refine bodyPost_ret (v := .agg Dt) (results_cell_row rfl _ _ _ _ _ (0, 0) _ rfl (setRow_heap _ _ _ _ _ (0, 0) HRt.out) Tryd.underlying105 rfl (by rw [HSt.out]; exact iD)) rfl ⟨_, congrArg (fun z => Ending.returned (.agg z)) HDt.out.symm, ⟨Okt.out, rfl, ⟨ao, n, cap, rfl, HM.out.of (gr_setRow HGt.out (by omega) _), .inl rfl⟩, .inl ⟨rfl, rfl⟩, .inl ⟨rfl, rfl, rfl⟩⟩, ?_⟩
  exact gr_setRow HGt.out (by omega) _

theorem out_e {d : Dv} (o : d.Ok) (v : Value) : (dA d).setIfInBounds 38 v = dA (d.setO v) := by
  have := hL_len o.h
  unfold dA Dv.setO
  simp only [List.setIfInBounds_toArray]
  rw [List.set_append_right _ _ (by omega), this]
  rfl
theorem rs_callo {h : Hv} {ao : Option Addr} {n cap : Nat} {l : List UInt8} {w : World} {x op rd : Int} {r1 r2 : Nat} {im : Int} (P : Pr h ao n cap l w x op rd r1 r2 im) (ho : op = 58) (hb : rg h 17 = 1) : RStep h ao n cap w ⟨h.go (Wd.lo (h.pc + 4)), l, [rg h 10], []⟩ := by
  unfold RStep
  obtain ⟨o, M, hn, ok, ex, D, d0, d1, s1, t1, i0, i1⟩ := P
  subst ho
  subst ex
  have HD : Hid (∀ W : World, Calls Tryd.prog 30 #[.int .u32 (ldV l 13 h.pc)] W fun e w' => e = .returned (.tuple #[.agg #[.int .i64 58, .int .i64 rd, .int .i64 r1, .int .i64 r2, .int .i32 im], .bool true]) ∧ Gr W w') := D
  have wp := W.pc o
  have wa := W.reg o r1
  have wb := W.reg o r2
  have wn := W.lo im
  have Fo : Hid (∀ W : World, Calls Tryd.prog 51 #[.int .i64 im] W fun e w' => e = .returned (.int .u32 (Wd.lo im)) ∧ Gr W w') := fun W => (Rw.Of_any im W (by omega) (by omega)).mono fun e w' h => ⟨h.1, by rw [h.2]; exact Gr.refl _⟩
  have S4 : Hid (∀ W : World, Calls Tryd.prog 74 #[.int .u32 h.pc, .int .u32 4] W fun e w' => e = .returned (.int .u32 (Wd.lo (h.pc + 4))) ∧ Gr W w') := fun W => (sum_any h.pc 4 W wp.1 wp.2 (by omega) (by omega)).mono fun e w' h => ⟨h.1, by rw [h.2]; exact Gr.refl _⟩
  have ST : Hid (∀ W : World, Calls Tryd.prog 74 #[.int .u32 (rg h r1), .int .u32 (Wd.lo im)] W fun e w' => e = .returned (.int .u32 (Wd.lo (rg h r1 + Wd.lo im))) ∧ Gr W w') := fun W => (sum_any _ _ W wa.1 wa.2 wn.1 wn.2).mono fun e w' h => ⟨h.1, by rw [h.2]; exact Gr.refl _⟩
  have SP : Hid (∀ W : World, Calls Tryd.prog 74 #[.int .u32 h.pc, .int .u32 (Wd.lo im)] W fun e w' => e = .returned (.int .u32 (Wd.lo (h.pc + Wd.lo im))) ∧ Gr W w') := fun W => (sum_any _ _ W wp.1 wp.2 wn.1 wn.2).mono fun e w' h => ⟨h.1, by rw [h.2]; exact Gr.refl _⟩
  have g1 : (hA h)[r1]? = some (.int .u32 (rg h r1)) := by simp only [hA, List.getElem?_toArray]; exact hL_reg o s1
  have g2 : (hA h)[r2]? = some (.int .u32 (rg h r2)) := by simp only [hA, List.getElem?_toArray]; exact hL_reg o t1
  have HM : Hid (Mem w ao n l) := M
  have L : Hid (∀ W : World, Gr w W → Calls Tryd.prog 29 #[.slice ao n cap, .int .i64 13, .int .u32 h.pc] W fun e w' => e = .returned (.tuple #[.int .u32 (ldV l 13 h.pc), .bool true]) ∧ Gr W w') := fun W G => by
    have := Mr.Load_any cap 13 h.pc (M.of G) hn o.pc0 o.pc1
    rw [ok] at this
    exact this.mono fun e w' h => ⟨h.1, by rw [h.2]; exact Gr.refl _⟩
  have HBu : Hid (Tryd.prog.built 105 [(0, .agg (hA h)), (1, .slice ao n cap)] = some (dA (dv0 h (.slice ao n cap)))) := Hc.built_did o _ rfl
  have HS : Hid ((hA h).size = 37) := hA_size o
  have HS0 : Hid ((dA (dv0 h (.slice ao n cap))).size = 41) := dA_size (d := dv0 _ _) o
  have HO0 : Hid ((dA (dv0 h (.slice ao n cap))).all (·.oneCell') = true) := one_dA (dv0_ok o _ _ _)
  have gpc : (hA h)[32]? = some (.int .u32 h.pc) := by simp only [hA, List.getElem?_toArray]; exact hL_fld o 0
  have g17 : (hA h)[17]? = some (.int .u32 (rg h 17)) := by simp only [hA, List.getElem?_toArray]; exact hL_reg o (by omega)
  rw [hb] at g17
  clear hb
  have g10 : (hA h)[10]? = some (.int .u32 (rg h 10)) := by simp only [hA, List.getElem?_toArray]; exact hL_reg o (by omega)
  generalize rg h 10 = r10 at *
  have HwN : Hid (W (Wd.lo (h.pc + 4))) := .lo _
  have Hok : Hid (∀ k : Nat, ((dv0 h (.slice ao n cap)).setO (.slice (some ⟨k, 0, none⟩) 1 1)).Ok) := fun k => ⟨o, rfl, rfl⟩
  have HEo : Hid (∀ k : Nat, (dA (dv0 h (.slice ao n cap))).setIfInBounds 38 (.slice (some ⟨k, 0, none⟩) 1 1) = dA ((dv0 h (.slice ao n cap)).setO (.slice (some ⟨k, 0, none⟩) 1 1))) := fun k => out_e (dv0_ok o ao n cap) _
  have HCo : Hid ((dA (dv0 h (.slice ao n cap)))[38]? = some (.slice none 0 0)) := dA_fld (d := (dv0 h (.slice ao n cap))) o 1
  have HC0 : Hid (∃ y, (dA (dv0 h (.slice ao n cap)))[32]? = some (.int .u32 y)) := ⟨_, (dA_get (d := (dv0 h (.slice ao n cap))) o (by omega)).trans (hL_fld o 0)⟩
  generalize dA (dv0 h (.slice ao n cap)) = D0 at *
  generalize hA h = H at *
  generalize hth : (Wd.lo (rg h r1 + Wd.lo im)) = th at *
  generalize hpn : (Wd.lo (h.pc + Wd.lo im)) = pn at *
  generalize hp4 : (Wd.lo (h.pc + 4)) = p4 at *
  generalize hnn : (Wd.lo im) = nn at *
  generalize (rg h r1) = xa at *
  generalize (rg h r2) = xb at *
  generalize ldV l 13 h.pc = lx at *
  generalize h.pc = pc at *
  clear hth hpn hp4 hnn
  clear M ok o D wp wa wb wn
  have kpc : ∀ Z Y : Array Value, ((((w.alloc (.cells H 48)).alloc (.cells Z 105)).alloc (.cells Y 105)).setRow (w.heap.size + 1 + 1) D0).cell? ⟨w.heap.size, 32, none⟩ = some (.int .u32 pc) := fun Z Y => ((three_of (Gr.refl _)).cellH 32).trans gpc
  go_enter Tryd.func41, Tryd.ntmps41
  go_wp2_with (first
    | (refine wpList_load_row rfl 48 _ rfl w.heap.size rfl 48 H (0, 0) _ ?ha1 Tryd.underlying48 rfl (by rw [HS.out]; exact iH) ?_; (case ha1 => exact heap_alloc2_old w _ _))
    | (refine wpList_buildTo rfl 105 _ rfl _ rfl D0 (by have := HBu.out; simp [Act.eval, Act.put]; exact this) ?_)
    | (refine wpList_store_row rfl 105 _ _ rfl (w.heap.size + 1 + 1) D0 rfl rfl 105 _ (third_of w _ _ _) (by rw [HS0.out]; exact iD) (by rw [HS0.out]; rfl) HO0.out ?_))
  refine (L.out _ (gr_three w _ _ _ _)).mono ?_
  rintro e w1 ⟨rfl, G1⟩
  have HZ : Hid (∃ Z : Array Value, Z.size = 41 ∧ Bt w1 w.heap.size H Z D0) := ⟨_, rfl, three_of G1⟩
  obtain ⟨Z, hz, hb⟩ := HZ.out
  have HG1 : Hid (Gr w w1) := (gr_three w _ _ _ _).trans G1
  have HB1 : Hid (Bt w1 w.heap.size H Z D0) := hb
  clear G1 L hb HZ HBu kpc
  go_wp2_with fail
  refine (HD.out _).mono ?_
  rintro e w2 ⟨rfl, G2⟩
  have HB2 : Hid (Bt w2 w.heap.size H Z D0) := HB1.out.of G2
  have HG2 : Hid (Gr w w2) := HG1.out.trans G2
  have hJ : w.heap.size + 1 + 1 < w2.heap.size := HB2.out.lt
  have HBs : Hid (Bs (w2.alloc (.cells #[.int .i64 58, .int .i64 rd, .int .i64 r1, .int .i64 r2, .int .i32 im] 63)) w.heap.size w2.heap.size H Z D0 #[.int .i64 58, .int .i64 rd, .int .i64 r1, .int .i64 r2, .int .i32 im]) := ⟨HB2.out.of ((Gr.refl _).alloc _), heap_alloc_new w2 _⟩
  have kr1 : w2.cell? ⟨w.heap.size, r1, none⟩ = some (.int .u32 xa) := (HB2.out.cellH r1).trans g1
  have kr2 : w2.cell? ⟨w.heap.size, r2, none⟩ = some (.int .u32 xb) := (HB2.out.cellH r2).trans g2
  have hB2 : w.heap.size < w2.heap.size := by omega
  clear G2 HD HB1 HG1
  go_wp2_with fail
  refine (Fo.out _).mono ?_
  rintro e w3 ⟨rfl, G3⟩
  have HB3 : Hid (Bs w3 w.heap.size w2.heap.size H Z D0 #[.int .i64 58, .int .i64 rd, .int .i64 r1, .int .i64 r2, .int .i32 im]) := HBs.out.of G3
  have HG3 : Hid (Gr w w3) := (HG2.out.alloc _).trans G3
  have kpc : w3.cell? ⟨w.heap.size, 32, none⟩ = some (.int .u32 pc) := (HB3.out.t.cellH 32).trans gpc
  clear G3 Fo HB2 HG2 HBs kr1 kr2
  go_wp2_with fail
  refine (S4.out _).mono ?_
  rintro e w4 ⟨rfl, G4⟩
  have HB4 : Hid (Bs w4 w.heap.size w2.heap.size H Z D0 #[.int .i64 58, .int .i64 rd, .int .i64 r1, .int .i64 r2, .int .i32 im]) := HB3.out.of G4
  have HG4 : Hid (Gr w w4) := HG3.out.trans G4
  clear G4 S4 HB3 HG3 kpc
  go_wp2_with fail
  refine (ST.out _).mono ?_
  rintro e w5 ⟨rfl, G5⟩
  have HB5 : Hid (Bs w5 w.heap.size w2.heap.size H Z D0 #[.int .i64 58, .int .i64 rd, .int .i64 r1, .int .i64 r2, .int .i32 im]) := HB4.out.of G5
  have HG5 : Hid (Gr w w5) := HG4.out.trans G5
  have kpc : w5.cell? ⟨w.heap.size, 32, none⟩ = some (.int .u32 pc) := (HB5.out.t.cellH 32).trans gpc
  have kop : w5.cell? ⟨w2.heap.size, 0, none⟩ = some (.int .i64 58) := HB5.out.cellI 0
  have krd : w5.cell? ⟨w2.heap.size, 1, none⟩ = some (.int .i64 rd) := HB5.out.cellI 1
  clear G5 ST HB4 HG4
  have k17 : w5.cell? ⟨w.heap.size, 17, none⟩ = some (.int .u32 1) := (HB5.out.t.cellH 17).trans g17
  have k10 : w5.cell? ⟨w.heap.size, 10, none⟩ = some (.int .u32 r10) := (HB5.out.t.cellH 10).trans g10
  have c38 : w5.cell? ⟨w.heap.size + 1 + 1, 38, none⟩ = some (.slice none 0 0) := (HB5.out.t.cellD 38).trans HCo.out
  have f38 : w5.frozen? ⟨w.heap.size + 1 + 1, 38, none⟩ = false := HB5.out.t.fz 38
  have f32 : w5.frozen? ⟨w.heap.size + 1 + 1, 32, none⟩ = false := HB5.out.t.fz 32
  have hlt5 := HB5.out.t.lt
  have hltB : w.heap.size < w5.heap.size := by omega
  have okS : ((dv0 h (.slice ao n cap)).setO (.slice (some ⟨w5.heap.size, 0, none⟩) 1 1)).Ok := Hok.out _
  have HS1 : Hid ((dA ((dv0 h (.slice ao n cap)).setO (.slice (some ⟨w5.heap.size, 0, none⟩) 1 1))).size = 41) := dA_size okS.h
  have HO1 : Hid ((dA ((dv0 h (.slice ao n cap)).setO (.slice (some ⟨w5.heap.size, 0, none⟩) 1 1))).all (·.oneCell') = true) := one_dA okS
  have wN := HwN.out
  have okF : (((dv0 h (.slice ao n cap)).setO (.slice (some ⟨w5.heap.size, 0, none⟩) 1 1)).setH (((dv0 h (.slice ao n cap)).setO (.slice (some ⟨w5.heap.size, 0, none⟩) 1 1)).h.go p4)).Ok := okS.setH (okS.h.go wN.1 wN.2)
  have HS2 : Hid ((dA (((dv0 h (.slice ao n cap)).setO (.slice (some ⟨w5.heap.size, 0, none⟩) 1 1)).setH (((dv0 h (.slice ao n cap)).setO (.slice (some ⟨w5.heap.size, 0, none⟩) 1 1)).h.go p4))).size = 41) := dA_size okF.h
  have HO2 : Hid ((dA (((dv0 h (.slice ao n cap)).setO (.slice (some ⟨w5.heap.size, 0, none⟩) 1 1)).setH (((dv0 h (.slice ao n cap)).setO (.slice (some ⟨w5.heap.size, 0, none⟩) 1 1)).h.go p4))).all (·.oneCell') = true) := one_dA okF
  have HE2 : Hid ((dA ((dv0 h (.slice ao n cap)).setO (.slice (some ⟨w5.heap.size, 0, none⟩) 1 1))).setIfInBounds 32 (.int .u32 p4) = dA (((dv0 h (.slice ao n cap)).setO (.slice (some ⟨w5.heap.size, 0, none⟩) 1 1)).setH (((dv0 h (.slice ao n cap)).setO (.slice (some ⟨w5.heap.size, 0, none⟩) 1 1)).h.go p4))) := pc_e okS.h p4
  have HC2 : Hid (∃ y, (dA ((dv0 h (.slice ao n cap)).setO (.slice (some ⟨w5.heap.size, 0, none⟩) 1 1)))[32]? = some (.int .u32 y)) := ⟨_, (dA_get okS.h (by omega)).trans (hL_fld okS.h 0)⟩
  have HOK : Hid ((((dv0 h (.slice ao n cap)).setO (.slice (some ⟨w5.heap.size, 0, none⟩) 1 1)).setH (((dv0 h (.slice ao n cap)).setO (.slice (some ⟨w5.heap.size, 0, none⟩) 1 1)).h.go p4)).Ok) := okF
  generalize hD2 : dA (((dv0 h (.slice ao n cap)).setO (.slice (some ⟨w5.heap.size, 0, none⟩) 1 1)).setH (((dv0 h (.slice ao n cap)).setO (.slice (some ⟨w5.heap.size, 0, none⟩) 1 1)).h.go p4)) = D2 at *
  have HD2 : Hid (dA (((dv0 h (.slice ao n cap)).setO (.slice (some ⟨w5.heap.size, 0, none⟩) 1 1)).setH (((dv0 h (.slice ao n cap)).setO (.slice (some ⟨w5.heap.size, 0, none⟩) 1 1)).h.go p4)) = D2) := hD2
  clear hD2 okF
  have HEo2 := HEo.out w5.heap.size
  generalize hD1 : dA ((dv0 h (.slice ao n cap)).setO (.slice (some ⟨w5.heap.size, 0, none⟩) 1 1)) = D1 at *
  clear hD1 okS wN
  have b1 := HB5.out.t.set 38 (.slice (some ⟨w5.heap.size, 0, none⟩) 1 1)
  rw [HEo2] at b1
  have b2 := b1.set 32 (.int .u32 p4)
  rw [HE2.out] at b2
  obtain ⟨y32, hy32⟩ := HC0.out
  have c32 : w5.cell? ⟨w.heap.size + 1 + 1, 32, none⟩ = some (.int .u32 y32) := (HB5.out.t.cellD 32).trans hy32
  have HB8 : Hid (Bt (((w5.setCell ⟨w.heap.size + 1 + 1, 38, none⟩ (.slice (some ⟨w5.heap.size, 0, none⟩) 1 1)).setCell ⟨w.heap.size + 1 + 1, 32, none⟩ (.int .u32 p4)).alloc (.cells #[.int .u32 r10] 38)) w.heap.size H Z D2) := b2.of ((Gr.refl _).alloc _)
  have HG8 : Hid (Gr w (((w5.setCell ⟨w.heap.size + 1 + 1, 38, none⟩ (.slice (some ⟨w5.heap.size, 0, none⟩) 1 1)).setCell ⟨w.heap.size + 1 + 1, 32, none⟩ (.int .u32 p4)).alloc (.cells #[.int .u32 r10] 38))) := (((HG5.out.setCell (by simp; omega) _).setCell (by simp; omega) _).alloc _)
  have HCC : Hid (((((w5.setCell ⟨w.heap.size + 1 + 1, 38, none⟩ (.slice (some ⟨w5.heap.size, 0, none⟩) 1 1)).setCell ⟨w.heap.size + 1 + 1, 32, none⟩ (.int .u32 p4)).alloc (.cells #[.int .u32 r10] 38)).setRow (w.heap.size + 1) D2).heap[w5.heap.size]? = some (.cells #[.int .u32 r10] 38 (0, 0))) := by
    have e0 : ((w5.setCell ⟨w.heap.size + 1 + 1, 38, none⟩ (.slice (some ⟨w5.heap.size, 0, none⟩) 1 1)).setCell ⟨w.heap.size + 1 + 1, 32, none⟩ (.int .u32 p4)).heap.size = w5.heap.size := by simp
    have e1 : ((((w5.setCell ⟨w.heap.size + 1 + 1, 38, none⟩ (.slice (some ⟨w5.heap.size, 0, none⟩) 1 1)).setCell ⟨w.heap.size + 1 + 1, 32, none⟩ (.int .u32 p4)).alloc (.cells #[.int .u32 r10] 38)).setRow (w.heap.size + 1) D2).heap[w5.heap.size]? = some (.cells #[.int .u32 r10] 38 (0, 0)) := by
      rw [setRow_other _ _ _ _ (by omega)]
      have := heap_alloc_new ((w5.setCell ⟨w.heap.size + 1 + 1, 38, none⟩ (.slice (some ⟨w5.heap.size, 0, none⟩) 1 1)).setCell ⟨w.heap.size + 1 + 1, 32, none⟩ (.int .u32 p4)) (.cells #[.int .u32 r10] 38)
      rwa [e0] at this
    exact e1
  clear hy32 HC2 HC0 b1 b2 HEo2 HEo
  go_wp2_with (first
    | (refine wpList_load_row rfl 105 _ rfl (w.heap.size + 1 + 1) rfl 105 D2 (0, 0) _ ?hl8 Tryd.underlying105 rfl (by rw [HS2.out]; exact iD) ?_; (case hl8 => exact HB8.out.d))
    | (refine wpList_store_row rfl 105 _ _ rfl (w.heap.size + 1) D2 rfl rfl 105 Z ?hs8 (by rw [HS2.out]; exact iD) (by rw [HS2.out, hz]) HO2.out ?_; (case hs8 => exact HB8.out.z)))
  have GF : Gr w ((((w5.setCell ⟨w.heap.size + 1 + 1, 38, none⟩ (.slice (some ⟨w5.heap.size, 0, none⟩) 1 1)).setCell ⟨w.heap.size + 1 + 1, 32, none⟩ (.int .u32 p4)).alloc (.cells #[.int .u32 r10] 38)).setRow (w.heap.size + 1) D2) := gr_setRow HG8.out (by omega) _
  refine bodyPost_ret (v := .agg D2) (results_cell_row rfl _ _ _ _ _ (0, 0) _ rfl (setRow_heap _ _ _ _ _ (0, 0) HB8.out.z) Tryd.underlying105 rfl (by rw [HS2.out]; exact iD)) rfl ⟨_, congrArg (fun z => Ending.returned (.agg z)) HD2.out.symm, ⟨HOK.out, rfl, ⟨ao, n, cap, rfl, HM.out.of GF, .inl rfl⟩, .inr ⟨w5.heap.size, r10, rfl, rfl, HCC.out⟩, .inl ⟨rfl, rfl, rfl⟩⟩, GF⟩

end Go.Proofs.YtbihifipemldhabDoor.Hr
