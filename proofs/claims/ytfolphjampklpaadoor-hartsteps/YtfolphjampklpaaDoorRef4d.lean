/-
  What ferrybridgeref4.atom returns: of SCW that is met, of AMOSWAP to AMOMAXU, and all ways in one ('atom_any').
-/
import Derived.Test.YtfolphjampklpaaDoorRef4c
import Derived.Test.YtfolphjampklpaaDoorHb
namespace Go.Proofs.YtfolphjampklpaaDoor.Hr
open Go.ChangeShapes Go.WideShapes Go.ChangeAt Go.RowKit Mm Hh
set_option linter.unusedVariables false
set_option linter.unusedSimpArgs false

theorem Dv.Ok.setM {d : Dv} (o : d.Ok) (ao : Option Addr) (n cap : Nat) (a k : Int) : (d.setM (.slice ao n cap) a k).Ok := ⟨o.h, rfl, o.out⟩
theorem Bl.lt {w : World} {B : Nat} {D I Z : Array Value} (h : Bl w B D I Z) : B + 1 + 1 < w.heap.size := (Array.getElem?_eq_some_iff.1 h.z).1
/-- What atom answers, where it stores: the hart d1, x for Rd, y in memory. -/
def AtomSt (d d1 : Dv) (op rd r1 r2 im a b x y : Int) (l : List UInt8) (w : World) : Prop :=
  Calls Tryd.prog 46 #[.agg (dA d), .agg (iA op rd r1 r2 im), .int .u32 a, .int .u32 b] w fun e w' => ∃ ao' n' cap', e = .returned (.tuple #[.agg (dA ((d1.setM (.slice ao' n' cap') a 4).setH (d1.h.set rd.toNat x))), .bool true]) ∧ Mem w' ao' n' (stL l 18 a y) ∧ Gr w w' ∧ ∀ ad, ao' = some ad → w.heap.size ≤ ad.block

set_option maxHeartbeats 1000000 in
theorem atom_sc_yes {d : Dv} (o : d.Ok) {ao : Option Addr} {n cap : Nat} {l : List UInt8} (hm : d.m = .slice ao n cap) (rd r1 r2 im a b : Int) {w : World} (M : Mem w ao n l) (hn : n ≤ 140737488351232) (h0 : 0 ≤ a) (h1 : a < 4294967296) (hy0 : 0 ≤ b) (hy1 : b < 4294967296) (hr0 : 0 ≤ rd) (hr1 : rd < 32) (ok : ldOk l 13 a = true) (hmine : d.h.held = true ∧ d.h.heldAt = a) :
    AtomSt d (d.setH (d.h.hold false 0)) 47 rd r1 r2 im a b 0 b l w := by
  unfold AtomSt
  have hx0 : (0 : Int) ≤ 0 := by omega
  have hx1 : (0 : Int) < 4294967296 := by omega
  have o1 : (d.setH (d.h.hold false 0)).Ok := o.setH (o.h.hold false (x := 0) (by omega) (by omega))
  have L : Hid (∀ W : World, Gr w W → Calls Tryd.prog 37 #[.slice ao n cap, .int .i64 13, .int .u32 a] W fun e w' => e = .returned (.tuple #[.int .u32 (ldV l 13 a), .bool true]) ∧ Gr W w') := fun W G => by
    have := Mr.Load_any cap 13 a (M.of G) hn h0 h1
    rw [ok] at this
    exact this.mono fun e w' h => ⟨h.1, by rw [h.2]; exact Gr.refl _⟩
  have S : Hid (∀ W : World, Gr w W → Calls Tryd.prog 43 #[.agg (dA (d.setH (d.h.hold false 0))), .int .i64 18, .int .u32 a, .int .u32 b] W fun e w' => ∃ ao' n' cap', e = .returned (.tuple #[.agg (dA ((d.setH (d.h.hold false 0)).setM (.slice ao' n' cap') a 4)), .bool true]) ∧ Mem w' ao' n' (stL l 18 a b) ∧ Gr W w' ∧ ∀ ad, ao' = some ad → W.heap.size ≤ ad.block) := fun W G => store_yes (d := (d.setH (d.h.hold false 0))) o1 hm 18 a b (M.of G) hn h0 h1 hy0 hy1 (st_of_ld ok)
  have T : Hid (∀ (ao' : Option Addr) (n' c' : Nat) (W : World), Calls Tryd.prog 41 #[.agg (dA ((d.setH (d.h.hold false 0)).setM (.slice ao' n' c') a 4)), .int .i64 rd, .int .u32 0] W fun e w' => e = .returned (.agg (dA (((d.setH (d.h.hold false 0)).setM (.slice ao' n' c') a 4).setH ((d.setH (d.h.hold false 0)).h.set rd.toNat 0)))) ∧ Gr W w') := fun ao' n' c' W => set_any (Dv.Ok.setM o1 ao' n' c' a 4) rd 0 W hr0 hr1 hx0 hx1
  have SM : Hid (∀ (ao' : Option Addr) (n' c' : Nat), (dA ((d.setH (d.h.hold false 0)).setM (.slice ao' n' c') a 4)).size = 41 ∧ (dA ((d.setH (d.h.hold false 0)).setM (.slice ao' n' c') a 4)).all (·.oneCell') = true) := fun ao' n' c' => ⟨dA_size (d := (d.setH (d.h.hold false 0)).setM _ _ _) o1.h, one_dA (Dv.Ok.setM o1 ao' n' c' a 4)⟩
  have SF : Hid (∀ (ao' : Option Addr) (n' c' : Nat), (dA (((d.setH (d.h.hold false 0)).setM (.slice ao' n' c') a 4).setH ((d.setH (d.h.hold false 0)).h.set rd.toNat 0))).size = 41 ∧ (dA (((d.setH (d.h.hold false 0)).setM (.slice ao' n' c') a 4).setH ((d.setH (d.h.hold false 0)).h.set rd.toNat 0))).all (·.oneCell') = true) := fun ao' n' c' => ⟨dA_size (d := ((d.setH (d.h.hold false 0)).setM _ _ _).setH _) (o1.h.set _ hx0 hx1), one_dA ((Dv.Ok.setM o1 ao' n' c' a 4).setH (o1.h.set _ hx0 hx1))⟩
  have g37 : (dA d)[37]? = some (.slice ao n cap) := by rw [dA_fld o.h 0]; simp [hm]
  have g33 : (dA d)[33]? = some (.bool true) := by rw [dA_get o.h (by omega), ← hmine.1]; exact hL_fld o.h 1
  have g34 : (dA d)[34]? = some (.int .u32 a) := by rw [dA_get o.h (by omega), ← hmine.2]; exact hL_fld o.h 2
  have HS1 : Hid ((dA (d.setH (d.h.hold false 0))).size = 41) := dA_size o1.h
  obtain ⟨X, sX, e1, e2⟩ := hold_e o false 0
  generalize ldV l 13 a = y at *
  generalize stL l 18 a b = K at *
  generalize hD1 : dA (d.setH (d.h.hold false 0)) = D1 at *
  generalize dA d = D0 at *
  clear M hm ok o o1 hmine hD1
  unfold iA
  go_enter Tryd.func46, Tryd.ntmps46
  go_wp2_with fail
  refine (L.out _ ((((Gr.refl _).alloc _).alloc _).alloc _)).mono ?_
  rintro e w1 ⟨rfl, G1⟩
  have HZ : Hid (∃ Z : Array Value, Z.size = 41 ∧ Bl w1 w.heap.size D0 #[.int .i64 47, .int .i64 rd, .int .i64 r1, .int .i64 r2, .int .i32 im] Z) := ⟨_, rfl, (three_blocks G1).1, (three_blocks G1).2.1, (three_blocks G1).2.2⟩
  obtain ⟨Z, hz, hb⟩ := HZ.out
  have HG : Hid (Gr w w1) := ((((Gr.refl _).alloc _).alloc _).alloc _).trans G1
  have c0 : w1.cell? ⟨w.heap.size + 1, 0, none⟩ = some (.int .i64 47) := hb.cellI 0
  have c33 : w1.cell? ⟨w.heap.size, 33, none⟩ = some (.bool true) := (hb.cellD 33).trans g33
  have c34 : w1.cell? ⟨w.heap.size, 34, none⟩ = some (.int .u32 a) := (hb.cellD 34).trans g34
  have fz := hb.fz
  have HBl : Hid (Bl ((w1.setCell ⟨w.heap.size, 33, none⟩ (.bool false)).setCell ⟨w.heap.size, 34, none⟩ (.int .u32 0)) w.heap.size D1 #[.int .i64 47, .int .i64 rd, .int .i64 r1, .int .i64 r2, .int .i32 im] Z) := by
    have := (hb.set 33 (.bool false)).set 34 (.int .u32 0)
    rw [e1, e2] at this
    exact this
  have HGW : Hid (Gr w ((w1.setCell ⟨w.heap.size, 33, none⟩ (.bool false)).setCell ⟨w.heap.size, 34, none⟩ (.int .u32 0))) := (HG.out.setCell (Nat.le_refl _) _).setCell (Nat.le_refl _) _
  clear G1 L hb HZ e1 e2 sX g33 g34 g37
  go_wp2_with (refine wpList_load_row rfl 41 _ rfl w.heap.size rfl 41 D1 (0, 0) _ ?hb1 Tryd.underlying41 rfl (by rw [HS1.out]; exact iD) ?_; (case hb1 => exact HBl.out.d))
  refine (S.out _ HGW.out).mono ?_
  rintro e w3 ⟨a1, n1, c1, rfl, M3, G3, F3⟩
  have hb3 := HBl.out.of G3
  have hlt := HBl.out.lt
  have HM3 : Hid (Mem w3 a1 n1 K) := M3
  have HF3 : Hid (∀ ad, a1 = some ad → w.heap.size + 1 + 1 < ad.block) := fun ad q => by have := F3 ad q; omega
  have HG3 : Hid (Gr w w3) := HGW.out.trans G3
  have s2 := SM.out a1 n1 c1
  have s3 := SF.out a1 n1 c1
  have T2 := T.out a1 n1 c1
  generalize hD3 : dA (((d.setH (d.h.hold false 0)).setM (.slice a1 n1 c1) a 4).setH ((d.setH (d.h.hold false 0)).h.set rd.toNat 0)) = D3 at *
  have HD3 : Hid (dA (((d.setH (d.h.hold false 0)).setM (.slice a1 n1 c1) a 4).setH ((d.setH (d.h.hold false 0)).h.set rd.toNat 0)) = D3) := hD3
  generalize dA ((d.setH (d.h.hold false 0)).setM (.slice a1 n1 c1) a 4) = D2 at *
  have HT : Hid (∀ W : World, Calls Tryd.prog 41 #[.agg D2, .int .i64 rd, .int .u32 0] W fun e w' => e = .returned (.agg D3) ∧ Gr W w') := T2
  have H2 : Hid (D2.size = 41 ∧ D2.all (·.oneCell') = true) := s2
  have H3 : Hid (D3.size = 41 ∧ D3.all (·.oneCell') = true) := s3
  have HB3 : Hid (Bl w3 w.heap.size D1 #[.int .i64 47, .int .i64 rd, .int .i64 r1, .int .i64 r2, .int .i32 im] Z) := hb3
  have HB4 : Hid (Bl (w3.setRow w.heap.size D2) w.heap.size D2 #[.int .i64 47, .int .i64 rd, .int .i64 r1, .int .i64 r2, .int .i32 im] Z) := hb3.row D2
  have c1' : (w3.setRow w.heap.size D2).cell? ⟨w.heap.size + 1, 1, none⟩ = some (.int .i64 rd) := HB4.out.cellI 1
  have HG4 : Hid (Gr w (w3.setRow w.heap.size D2)) := gr_setRow HG3.out (Nat.le_refl _) _
  have HM4 : Hid (Mem (w3.setRow w.heap.size D2) a1 n1 K) := HM3.out.apart fun ad q => setRow_other _ _ _ _ (by have := HF3.out ad q; omega)
  clear M3 G3 F3 hb3 s2 s3 T2 hD3 S T SM SF HBl HGW HM3 HG3 c0 c33 c34 fz
  go_wp2_with (first
    | (refine wpList_store_row rfl 41 _ _ rfl w.heap.size D2 rfl rfl 41 D1 ?hb5 (by rw [H2.out.1]; exact iD) (by rw [H2.out.1]; exact HS1.out) H2.out.2 ?_; (case hb5 => exact HB3.out.d))
    | (refine wpList_load_row rfl 41 _ rfl w.heap.size rfl 41 D2 (0, 0) _ ?hb6 Tryd.underlying41 rfl (by rw [H2.out.1]; exact iD) ?_; (case hb6 => exact HB4.out.d)))
  refine (HT.out _).mono ?_
  rintro e w5 ⟨rfl, G5⟩
  have HR5 : Hid (w5.heap[w.heap.size + 1 + 1]? = some (.cells Z 41 (0, 0))) := (HB4.out.of G5).z
  have HM5 : Hid (Mem w5 a1 n1 K) := HM4.out.of G5
  have HG5 : Hid (Gr w w5) := HG4.out.trans G5
  clear G5 HT HB3 HB4 HM4 HG4 c1'
  go_wp2_with (refine wpList_store_row rfl 41 _ _ rfl (w.heap.size + 1 + 1) D3 rfl rfl 41 Z ?hb7 (by rw [H3.out.1]; exact iD) (by rw [H3.out.1, hz]) H3.out.2 ?_; (case hb7 => exact HR5.out))
  refine bodyPost_ret (v := .tuple #[.agg D3, .bool true]) (results_cell_tmp' Tryd.results46 _ _ _ _ _ (0, 0) _ _ rfl rfl (setRow_heap _ _ _ _ _ (0, 0) HR5.out) Tryd.underlying41 rfl (by rw [H3.out.1]; exact iD)) rfl ⟨a1, n1, c1, by rw [HD3.out], ?_, ?_, fun ad q => by have := HF3.out ad q; omega⟩
  · exact HM5.out.apart fun ad q => setRow_other _ _ _ _ (by have := HF3.out ad q; omega)
  · exact gr_setRow HG5.out (by omega) _

set_option maxHeartbeats 1000000 in
theorem atom_amo {d : Dv} (o : d.Ok) {ao : Option Addr} {n cap : Nat} {l : List UInt8} (hm : d.m = .slice ao n cap) (op rd r1 r2 im a b : Int) {w : World} (M : Mem w ao n l) (hn : n ≤ 140737488351232) (h0 : 0 ≤ a) (h1 : a < 4294967296) (hb0 : 0 ≤ b) (hb1 : b < 4294967296) (hr0 : 0 ≤ rd) (hr1 : rd < 32) (ok : ldOk l 13 a = true) (h46 : ¬ op = 46) (h47 : ¬ op = 47) :
    AtomSt d d op rd r1 r2 im a b (ldV l 13 a) (Wd.amo op (ldV l 13 a) b) l w := by
  unfold AtomSt
  have wv := W.ldV l 13 a
  have hx0 := wv.1
  have hx1 := wv.2
  have wa := W.amo (op := op) wv ⟨hb0, hb1⟩
  have hy0 := wa.1
  have hy1 := wa.2
  have o1 : d.Ok := o
  have L : Hid (∀ W : World, Gr w W → Calls Tryd.prog 37 #[.slice ao n cap, .int .i64 13, .int .u32 a] W fun e w' => e = .returned (.tuple #[.int .u32 (ldV l 13 a), .bool true]) ∧ Gr W w') := fun W G => by
    have := Mr.Load_any cap 13 a (M.of G) hn h0 h1
    rw [ok] at this
    exact this.mono fun e w' h => ⟨h.1, by rw [h.2]; exact Gr.refl _⟩
  have Am : Hid (∀ W : World, Calls Tryd.prog 69 #[.int .i64 op, .int .u32 (ldV l 13 a), .int .u32 b] W fun e w' => e = .returned (.int .u32 (Wd.amo op (ldV l 13 a) b)) ∧ Gr W w') := fun W => (Rw.amo_any op _ b W hx0 hx1 hb0 hb1).mono fun e w' ⟨h, k, q⟩ => ⟨h, by rw [q]; exact (Gr.refl _).drewN k⟩
  have S : Hid (∀ W : World, Gr w W → Calls Tryd.prog 43 #[.agg (dA d), .int .i64 18, .int .u32 a, .int .u32 (Wd.amo op (ldV l 13 a) b)] W fun e w' => ∃ ao' n' cap', e = .returned (.tuple #[.agg (dA (d.setM (.slice ao' n' cap') a 4)), .bool true]) ∧ Mem w' ao' n' (stL l 18 a (Wd.amo op (ldV l 13 a) b)) ∧ Gr W w' ∧ ∀ ad, ao' = some ad → W.heap.size ≤ ad.block) := fun W G => store_yes (d := d) o1 hm 18 a (Wd.amo op (ldV l 13 a) b) (M.of G) hn h0 h1 hy0 hy1 (st_of_ld ok)
  have T : Hid (∀ (ao' : Option Addr) (n' c' : Nat) (W : World), Calls Tryd.prog 41 #[.agg (dA (d.setM (.slice ao' n' c') a 4)), .int .i64 rd, .int .u32 (ldV l 13 a)] W fun e w' => e = .returned (.agg (dA ((d.setM (.slice ao' n' c') a 4).setH (d.h.set rd.toNat (ldV l 13 a))))) ∧ Gr W w') := fun ao' n' c' W => set_any (Dv.Ok.setM o1 ao' n' c' a 4) rd (ldV l 13 a) W hr0 hr1 hx0 hx1
  have SM : Hid (∀ (ao' : Option Addr) (n' c' : Nat), (dA (d.setM (.slice ao' n' c') a 4)).size = 41 ∧ (dA (d.setM (.slice ao' n' c') a 4)).all (·.oneCell') = true) := fun ao' n' c' => ⟨dA_size (d := d.setM _ _ _) o1.h, one_dA (Dv.Ok.setM o1 ao' n' c' a 4)⟩
  have SF : Hid (∀ (ao' : Option Addr) (n' c' : Nat), (dA ((d.setM (.slice ao' n' c') a 4).setH (d.h.set rd.toNat (ldV l 13 a)))).size = 41 ∧ (dA ((d.setM (.slice ao' n' c') a 4).setH (d.h.set rd.toNat (ldV l 13 a)))).all (·.oneCell') = true) := fun ao' n' c' => ⟨dA_size (d := (d.setM _ _ _).setH _) (o1.h.set _ hx0 hx1), one_dA ((Dv.Ok.setM o1 ao' n' c' a 4).setH (o1.h.set _ hx0 hx1))⟩
  have g37 : (dA d)[37]? = some (.slice ao n cap) := by rw [dA_fld o.h 0]; simp [hm]
  have HS1 : Hid ((dA d).size = 41) := dA_size o1.h
  have b46 : (op == 46) = false := by simp [h46]
  have b47 : (op == 47) = false := by simp [h47]
  generalize stL l 18 a (Wd.amo op (ldV l 13 a) b) = K at *
  generalize Wd.amo op (ldV l 13 a) b = Y at *
  generalize ldV l 13 a = X at *
  generalize hD0 : dA d = D0 at *
  clear M hm ok o o1 wv wa h46 h47 hD0
  unfold iA
  go_enter Tryd.func46, Tryd.ntmps46
  go_wp2_with fail
  refine (L.out _ ((((Gr.refl _).alloc _).alloc _).alloc _)).mono ?_
  rintro e w0 ⟨rfl, G1⟩
  have HZ : Hid (∃ Z : Array Value, Z.size = 41 ∧ Bl w0 w.heap.size D0 #[.int .i64 op, .int .i64 rd, .int .i64 r1, .int .i64 r2, .int .i32 im] Z) := ⟨_, rfl, (three_blocks G1).1, (three_blocks G1).2.1, (three_blocks G1).2.2⟩
  obtain ⟨Z, hz, hb⟩ := HZ.out
  have HG : Hid (Gr w w0) := ((((Gr.refl _).alloc _).alloc _).alloc _).trans G1
  have c0 : w0.cell? ⟨w.heap.size + 1, 0, none⟩ = some (.int .i64 op) := hb.cellI 0
  have HBo : Hid (Bl w0 w.heap.size D0 #[.int .i64 op, .int .i64 rd, .int .i64 r1, .int .i64 r2, .int .i32 im] Z) := hb
  clear G1 L hb HZ g37
  go_wp2_with fail
  refine (Am.out _).mono ?_
  rintro e w1 ⟨rfl, G2⟩
  have HBl : Hid (Bl w1 w.heap.size D0 #[.int .i64 op, .int .i64 rd, .int .i64 r1, .int .i64 r2, .int .i32 im] Z) := HBo.out.of G2
  have HGW : Hid (Gr w w1) := HG.out.trans G2
  clear Am G2 HBo HG c0
  go_wp2_with (refine wpList_load_row rfl 41 _ rfl w.heap.size rfl 41 D0 (0, 0) _ ?hb1 Tryd.underlying41 rfl (by rw [HS1.out]; exact iD) ?_; (case hb1 => exact HBl.out.d))
  refine (S.out _ HGW.out).mono ?_
  rintro e w3 ⟨a1, n1, c1, rfl, M3, G3, F3⟩
  have hb3 := HBl.out.of G3
  have hlt := HBl.out.lt
  have HM3 : Hid (Mem w3 a1 n1 K) := M3
  have HF3 : Hid (∀ ad, a1 = some ad → w.heap.size + 1 + 1 < ad.block) := fun ad q => by have := F3 ad q; omega
  have HG3 : Hid (Gr w w3) := HGW.out.trans G3
  have s2 := SM.out a1 n1 c1
  have s3 := SF.out a1 n1 c1
  have T2 := T.out a1 n1 c1
  generalize hD3 : dA ((d.setM (.slice a1 n1 c1) a 4).setH (d.h.set rd.toNat X)) = D3 at *
  have HD3 : Hid (dA ((d.setM (.slice a1 n1 c1) a 4).setH (d.h.set rd.toNat X)) = D3) := hD3
  generalize dA (d.setM (.slice a1 n1 c1) a 4) = D2 at *
  have HT : Hid (∀ W : World, Calls Tryd.prog 41 #[.agg D2, .int .i64 rd, .int .u32 X] W fun e w' => e = .returned (.agg D3) ∧ Gr W w') := T2
  have H2 : Hid (D2.size = 41 ∧ D2.all (·.oneCell') = true) := s2
  have H3 : Hid (D3.size = 41 ∧ D3.all (·.oneCell') = true) := s3
  have HB3 : Hid (Bl w3 w.heap.size D0 #[.int .i64 op, .int .i64 rd, .int .i64 r1, .int .i64 r2, .int .i32 im] Z) := hb3
  have HB4 : Hid (Bl (w3.setRow w.heap.size D2) w.heap.size D2 #[.int .i64 op, .int .i64 rd, .int .i64 r1, .int .i64 r2, .int .i32 im] Z) := hb3.row D2
  have c1' : (w3.setRow w.heap.size D2).cell? ⟨w.heap.size + 1, 1, none⟩ = some (.int .i64 rd) := HB4.out.cellI 1
  have HG4 : Hid (Gr w (w3.setRow w.heap.size D2)) := gr_setRow HG3.out (Nat.le_refl _) _
  have HM4 : Hid (Mem (w3.setRow w.heap.size D2) a1 n1 K) := HM3.out.apart fun ad q => setRow_other _ _ _ _ (by have := HF3.out ad q; omega)
  clear M3 G3 F3 hb3 s2 s3 T2 hD3 S T SM SF HBl HGW HM3 HG3
  go_wp2_with (first
    | (refine wpList_store_row rfl 41 _ _ rfl w.heap.size D2 rfl rfl 41 D0 ?hb5 (by rw [H2.out.1]; exact iD) (by rw [H2.out.1]; exact HS1.out) H2.out.2 ?_; (case hb5 => exact HB3.out.d))
    | (refine wpList_load_row rfl 41 _ rfl w.heap.size rfl 41 D2 (0, 0) _ ?hb6 Tryd.underlying41 rfl (by rw [H2.out.1]; exact iD) ?_; (case hb6 => exact HB4.out.d)))
  refine (HT.out _).mono ?_
  rintro e w5 ⟨rfl, G5⟩
  have HR5 : Hid (w5.heap[w.heap.size + 1 + 1]? = some (.cells Z 41 (0, 0))) := (HB4.out.of G5).z
  have HM5 : Hid (Mem w5 a1 n1 K) := HM4.out.of G5
  have HG5 : Hid (Gr w w5) := HG4.out.trans G5
  clear G5 HT HB3 HB4 HM4 HG4 c1'
  go_wp2_with (refine wpList_store_row rfl 41 _ _ rfl (w.heap.size + 1 + 1) D3 rfl rfl 41 Z ?hb7 (by rw [H3.out.1]; exact iD) (by rw [H3.out.1, hz]) H3.out.2 ?_; (case hb7 => exact HR5.out))
  refine bodyPost_ret (v := .tuple #[.agg D3, .bool true]) (results_cell_tmp' Tryd.results46 _ _ _ _ _ (0, 0) _ _ rfl rfl (setRow_heap _ _ _ _ _ (0, 0) HR5.out) Tryd.underlying41 rfl (by rw [H3.out.1]; exact iD)) rfl ⟨a1, n1, c1, by rw [HD3.out], ?_, ?_, fun ad q => by have := HF3.out ad q; omega⟩
  · exact HM5.out.apart fun ad q => setRow_other _ _ _ _ (by have := HF3.out ad q; omega)
  · exact gr_setRow HG5.out (by omega) _

end Go.Proofs.YtfolphjampklpaaDoor.Hr
