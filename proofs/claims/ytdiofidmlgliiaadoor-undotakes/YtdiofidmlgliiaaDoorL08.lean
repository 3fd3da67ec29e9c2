/-
  Ref4f5, Ref4g, Ref5p: texts of ours that lie in one file.
-/
import Derived.Test.YtdiofidmlgliiaaDoorL06
import Derived.Test.YtdiofidmlgliiaaDoorL07
import Derived.Test.YtdiofidmlgliiaaDoorRef2c
import Derived.Maps.AppendAt
/-
  What ferrybridgeref4.Step answers, of some instructions.
-/
namespace Go.Proofs.YtdiofidmlgliiaaDoor.Hr
open Go.ChangeShapes Go.WideShapes Go.ChangeAt Go.RowKit Mm Hh
set_option linter.unusedVariables false
set_option linter.unusedSimpArgs false

variable {h : Hv} {ao : Option Addr} {n cap r1 r2 : Nat} {l : List UInt8} {w : World} {x op rd im : Int}
set_option maxHeartbeats 2000000 in
set_option maxRecDepth 100000 in
theorem rs_atf (P : Pr h ao n cap l w x op rd r1 r2 im) (ho : 46 ≤ op ∧ op ≤ 56) (hb : ldOk l 13 (rg h r1) = false) (cc : Int) (hc : cc = if op = 46 then 3 else 4) : RStep h ao n cap w ⟨h.trap cc, l, [], []⟩ := by
  have P0 := P
  obtain ⟨o, M, hn, ok, ex, D, d0, d1, s1, t1, i0, i1⟩ := P
  refine (rsRest P0 _).2 ⟨?_⟩
  unfold rsRest
  dsimp only
  clear P0 D
  intro Z hz w5 J hJ HB HG K1 A1 K2 A2
  obtain ⟨HB5, HG5, HM, ⟨wp, wa, wb, wn⟩, SP, HS0, HO0, gpc, hB2⟩ := atIns o M HB HG hJ (r1 := r1) (r2 := r2) (im := im)
  clear HB HG
  have At : Hid (∀ W : World, Gr w W → Calls Tryd.prog 68 #[.agg (dA (dv0 h (.slice ao n cap))), .agg #[.int .i64 op, .int .i64 rd, .int .i64 r1, .int .i64 r2, .int .i32 im], .int .u32 (rg h r1), .int .u32 (rg h r2)] W fun e w' => e = .returned (.tuple #[.agg (dA ((dv0 h (.slice ao n cap)).setH ((dv0 h (.slice ao n cap)).h.trap cc))), .bool false]) ∧ Gr W w') := fun W G => by
    rw [hc]
    exact atom_fault (dv0_ok o ao n cap) rfl op rd r1 r2 im (rg h r1) (rg h r2) (M.of G) hn wa.1 wa.2 hb
  clear hb hc
  have b1 : (op == 1) = false := by simp; omega
  have b2 : (op == 2) = false := by simp; omega
  have b3 : (op == 3) = false := by simp; omega
  have b4 : (op == 4) = false := by simp; omega
  have Tr0 : Hid (∀ W : World, _) := fun W => trap_any (dv0_ok o ao n cap) cc W
  have HSt : Hid ((dA ((dv0 h (.slice ao n cap)).setH ((dv0 h (.slice ao n cap)).h.trap cc))).size = 41) := dA_size (d := (dv0 h (.slice ao n cap)).setH _) ((dv0_ok o ao n cap).h.trap cc)
  have HOt : Hid ((dA ((dv0 h (.slice ao n cap)).setH ((dv0 h (.slice ao n cap)).h.trap cc))).all (·.oneCell') = true) := one_dA ((dv0_ok o ao n cap).setH ((dv0_ok o ao n cap).h.trap cc))
  have Okt : Hid (((dv0 h (.slice ao n cap)).setH ((dv0 h (.slice ao n cap)).h.trap cc)).Ok) := (dv0_ok o ao n cap).setH ((dv0_ok o ao n cap).h.trap cc)
  generalize hDt : dA ((dv0 h (.slice ao n cap)).setH ((dv0 h (.slice ao n cap)).h.trap cc)) = Dt at *
  have HDt : Hid _ := hDt
  clear hDt
  clear Tr0
  generalize dA (dv0 h (.slice ao n cap)) = D0 at *
  generalize hA h = H at *
  generalize hth : (Wd.lo (rg h r1 + Wd.lo im)) = th at *
  generalize hpn : (Wd.lo (h.pc + Wd.lo im)) = pn at *
  generalize hp4 : (Wd.lo (h.pc + 4)) = p4 at *
  generalize hnn : (Wd.lo im) = nn at *
  generalize (rg h r1) = xa at *
  generalize (rg h r2) = xb at *
  generalize ldV l 13 h.pc = lx at *
  generalize h.pc = pc at *
  clear hth hpn hp4 hnn
  clear M ok o wp wa wb wn
  obtain ⟨kpc, kop, krd⟩ := insAt HB5.out gpc
  have hop1 : 46 ≤ op := ho.1
  have hop2 : op ≤ 56 := ho.2
  have q10 : ¬ op ≤ 10 := by omega
  have q15 : ¬ op ≤ 15 := by omega
  have q18 : ¬ op ≤ 18 := by omega
  have q27 : ¬ op ≤ 27 := by omega
  have q45 : ¬ op ≤ 45 := by omega
  have kj2 : w5.cell? ⟨J, 2, none⟩ = some (.int .i64 r1) := HB5.out.cellI 2
  have kj3 : w5.cell? ⟨J, 3, none⟩ = some (.int .i64 r2) := HB5.out.cellI 3
  have kj4 : w5.cell? ⟨J, 4, none⟩ = some (.int .i32 im) := HB5.out.cellI 4
  go_wp2_with (refine wpList_load_row rfl 81 _ rfl (w.heap.size + 1 + 1) rfl 81 D0 (0, 0) _ ?hl1 Tryd.underlying81 rfl (by rw [HS0.out]; exact iD) ?_; (case hl1 => exact HB5.out.t.d))
  refine (At.out _ HG5.out).mono ?_
  rintro e w7 ⟨rfl, G7⟩
  have HB6 : Hid (Bs w7 w.heap.size J H Z D0 #[.int .i64 op, .int .i64 rd, .int .i64 r1, .int .i64 r2, .int .i32 im]) := HB5.out.of G7
  have HB7 : Hid (Bs (w7.setRow (w.heap.size + 1 + 1) Dt) w.heap.size J H Z Dt #[.int .i64 op, .int .i64 rd, .int .i64 r1, .int .i64 r2, .int .i32 im]) := HB6.out.row Dt
  have HGt : Hid (Gr w (w7.setRow (w.heap.size + 1 + 1) Dt)) := gr_setRow (HG5.out.trans G7) (by omega) _
  clear G7 At kpc kop krd HB5 HG5 kj2 kj3 kj4
  go_wp2_with (first
    | (refine wpList_store_row rfl 81 _ _ rfl (w.heap.size + 1 + 1) Dt rfl rfl 81 D0 ?hs1 (by rw [HSt.out]; exact iD) (by rw [HSt.out]; exact HS0.out) HOt.out ?_; (case hs1 => exact HB6.out.t.d))
    | (refine wpList_load_row rfl 81 _ rfl (w.heap.size + 1 + 1) rfl 81 Dt (0, 0) _ ?hd1 Tryd.underlying81 rfl (by rw [HSt.out]; exact iD) ?_; (case hd1 => exact HB7.out.t.d))
    | (refine wpList_store_row rfl 81 _ _ rfl (w.heap.size + 1) Dt rfl rfl 81 Z ?hd2 (by rw [HSt.out]; exact iD) (by rw [HSt.out, hz]) HOt.out ?_; (case hd2 => exact HB7.out.t.z)))
  have HRt : Hid _ := HB7.out.t.z
  refine bodyPost_ret (v := .agg Dt) (results_cell_row rfl _ _ _ _ _ (0, 0) _ rfl (srh HRt.out) Tryd.underlying81 rfl (by rw [HSt.out]; exact iD)) rfl ⟨_, congrArg (fun z => Ending.returned (.agg z)) HDt.out.symm, ⟨Okt.out, rfl, ⟨ao, n, cap, rfl, HM.out.of (gr_setRow HGt.out (by omega) _), .inl rfl⟩, .inl ⟨rfl, rfl⟩, .inl ⟨rfl, rfl, rfl⟩⟩, ?_⟩
  exact gr_setRow HGt.out (by omega) _

set_option maxHeartbeats 2000000 in
set_option maxRecDepth 100000 in
theorem rs_atlr {h : Hv} {ao : Option Addr} {n cap : Nat} {l : List UInt8} {w : World} {x op rd : Int} {r1 r2 : Nat} {im : Int} (P : Pr h ao n cap l w x op rd r1 r2 im) (ho : op = 46) (hb : ldOk l 13 (rg h r1) = true) : RStep h ao n cap w ⟨((h.hold true (rg h r1)).set rd.toNat (ldV l 13 (rg h r1))).go (Wd.lo (h.pc + 4)), l, [], []⟩ := by
  have P0 := P
  obtain ⟨o, M, hn, ok, ex, D, d0, d1, s1, t1, i0, i1⟩ := P
  subst ho
  refine (rsRest P0 _).2 ⟨?_⟩
  unfold rsRest
  dsimp only
  clear P0 D
  intro Z hz w5 J hJ HB HG K1 A1 K2 A2
  obtain ⟨HB5, HG5, HM, ⟨wp, wa, wb, wn⟩, SP, HS0, HO0, gpc, hB2⟩ := atIns o M HB HG hJ (r1 := r1) (r2 := r2) (im := im)
  clear HB HG
  have wN : W (Wd.lo (h.pc + 4)) := .lo _
  have wX : W (ldV l 13 (rg h r1)) := .ldV _ _ _
  have okH : (h.hold true (rg h r1)).Ok := o.hold true wa.1 wa.2
  have okS : (((dv0 h (.slice ao n cap)).setH (h.hold true (rg h r1))).setH ((h.hold true (rg h r1)).set rd.toNat (ldV l 13 (rg h r1)))).Ok := ((dv0_ok o ao n cap).setH okH).setH (okH.set _ wX.1 wX.2)
  have At : Hid (∀ W : World, Gr w W → Calls Tryd.prog 68 #[.agg (dA (dv0 h (.slice ao n cap))), .agg #[.int .i64 46, .int .i64 rd, .int .i64 r1, .int .i64 r2, .int .i32 im], .int .u32 (rg h r1), .int .u32 (rg h r2)] W fun e w' => e = .returned (.tuple #[.agg (dA (((dv0 h (.slice ao n cap)).setH (h.hold true (rg h r1))).setH ((h.hold true (rg h r1)).set rd.toNat (ldV l 13 (rg h r1))))), .bool true]) ∧ Gr W w') := fun W G => atom_lr (dv0_ok o ao n cap) rfl rd r1 r2 im (rg h r1) (rg h r2) (M.of G) hn wa.1 wa.2 d0 d1 hb wX.1 wX.2
  clear hb
  have HS1 : Hid ((dA (((dv0 h (.slice ao n cap)).setH (h.hold true (rg h r1))).setH ((h.hold true (rg h r1)).set rd.toNat (ldV l 13 (rg h r1))))).size = 41) := dA_size okS.h
  have HO1 : Hid ((dA (((dv0 h (.slice ao n cap)).setH (h.hold true (rg h r1))).setH ((h.hold true (rg h r1)).set rd.toNat (ldV l 13 (rg h r1))))).all (·.oneCell') = true) := one_dA okS
  obtain ⟨D2, HD2, HS2, HO2, HE2, HC2, HOK⟩ := finF okS wN
  generalize hD1 : dA (((dv0 h (.slice ao n cap)).setH (h.hold true (rg h r1))).setH ((h.hold true (rg h r1)).set rd.toNat (ldV l 13 (rg h r1)))) = D1 at *
  clear hD1 okH
  generalize dA (dv0 h (.slice ao n cap)) = D0 at *
  generalize hA h = H at *
  generalize hth : (Wd.lo (rg h r1 + Wd.lo im)) = th at *
  generalize hpn : (Wd.lo (h.pc + Wd.lo im)) = pn at *
  generalize hp4 : (Wd.lo (h.pc + 4)) = p4 at *
  generalize hnn : (Wd.lo im) = nn at *
  generalize (rg h r1) = xa at *
  generalize (rg h r2) = xb at *
  generalize ldV l 13 h.pc = lx at *
  generalize h.pc = pc at *
  clear hth hpn hp4 hnn
  clear M ok o wp wa wb wn okS wN wX
  obtain ⟨kpc, kop, krd⟩ := insAt HB5.out gpc
  have kj2 : w5.cell? ⟨J, 2, none⟩ = some (.int .i64 r1) := HB5.out.cellI 2
  have kj3 : w5.cell? ⟨J, 3, none⟩ = some (.int .i64 r2) := HB5.out.cellI 3
  have kj4 : w5.cell? ⟨J, 4, none⟩ = some (.int .i32 im) := HB5.out.cellI 4
  go_wp2_with (refine wpList_load_row rfl 81 _ rfl (w.heap.size + 1 + 1) rfl 81 D0 (0, 0) _ ?hl1 Tryd.underlying81 rfl (by rw [HS0.out]; exact iD) ?_; (case hl1 => exact HB5.out.t.d))
  refine (At.out _ HG5.out).mono ?_
  rintro e w7 ⟨rfl, G7⟩
  have HB6 : Hid (Bs w7 w.heap.size J H Z D0 #[.int .i64 46, .int .i64 rd, .int .i64 r1, .int .i64 r2, .int .i32 im]) := HB5.out.of G7
  have HB7 : Hid (Bs (w7.setRow (w.heap.size + 1 + 1) D1) w.heap.size J H Z D1 #[.int .i64 46, .int .i64 rd, .int .i64 r1, .int .i64 r2, .int .i32 im]) := HB6.out.row D1
  have HG7 : Hid (Gr w (w7.setRow (w.heap.size + 1 + 1) D1)) := gr_setRow (HG5.out.trans G7) (by omega) _
  clear G7 At kpc kop krd HB5 HG5 kj2 kj3 kj4
  obtain ⟨y32, hy32⟩ := HC2.out
  have c32 : (w7.setRow (w.heap.size + 1 + 1) D1).cell? ⟨w.heap.size + 1 + 1, 32, none⟩ = some (.int .u32 y32) := (HB7.out.t.cellD 32).trans hy32
  have f32 : (w7.setRow (w.heap.size + 1 + 1) D1).frozen? ⟨w.heap.size + 1 + 1, 32, none⟩ = false := HB7.out.t.fz 32
  have HB8 : Hid (Bt ((w7.setRow (w.heap.size + 1 + 1) D1).setCell ⟨w.heap.size + 1 + 1, 32, none⟩ (.int .u32 p4)) w.heap.size H Z D2) := by
    have := HB7.out.t.set 32 (.int .u32 p4)
    rwa [HE2.out] at this
  have HG8 : Hid (Gr w ((w7.setRow (w.heap.size + 1 + 1) D1).setCell ⟨w.heap.size + 1 + 1, 32, none⟩ (.int .u32 p4))) := HG7.out.setCell (by simp; omega) _
  clear hy32 HC2
  go_wp2_with (first
    | (refine wpList_store_row rfl 81 _ _ rfl (w.heap.size + 1 + 1) D1 rfl rfl 81 D0 ?hs1 (by rw [HS1.out]; exact iD) (by rw [HS1.out]; exact HS0.out) HO1.out ?_; (case hs1 => exact HB6.out.t.d))
    | (refine wpList_load_row rfl 81 _ rfl (w.heap.size + 1 + 1) rfl 81 D2 (0, 0) _ ?hl8 Tryd.underlying81 rfl (by rw [HS2.out]; exact iD) ?_; (case hl8 => exact HB8.out.d))
    | (refine wpList_store_row rfl 81 _ _ rfl (w.heap.size + 1) D2 rfl rfl 81 Z ?hs8 (by rw [HS2.out]; exact iD) (by rw [HS2.out, hz]) HO2.out ?_; (case hs8 => exact HB8.out.z)))
  have GF : Gr w (((w7.setRow (w.heap.size + 1 + 1) D1).setCell ⟨w.heap.size + 1 + 1, 32, none⟩ (.int .u32 p4)).setRow (w.heap.size + 1) D2) := gr_setRow HG8.out (by omega) _
  refine bodyPost_ret (v := .agg D2) (results_cell_row rfl _ _ _ _ _ (0, 0) _ rfl (setRow_heap _ _ _ _ _ (0, 0) HB8.out.z) Tryd.underlying81 rfl (by rw [HS2.out]; exact iD)) rfl ⟨_, congrArg (fun z => Ending.returned (.agg z)) HD2.out.symm, ⟨HOK.out, rfl, ⟨ao, n, cap, rfl, HM.out.of GF, .inl rfl⟩, .inl ⟨rfl, rfl⟩, .inl ⟨rfl, rfl, rfl⟩⟩, GF⟩

set_option maxHeartbeats 2000000 in
set_option maxRecDepth 100000 in
theorem rs_atscn {h : Hv} {ao : Option Addr} {n cap : Nat} {l : List UInt8} {w : World} {x op rd : Int} {r1 r2 : Nat} {im : Int} (P : Pr h ao n cap l w x op rd r1 r2 im) (ho : op = 47) (hb : ldOk l 13 (rg h r1) = true) (hmi : ¬ (h.held = true ∧ h.heldAt = (rg h r1))) : RStep h ao n cap w ⟨((h.hold false 0).set rd.toNat 1).go (Wd.lo (h.pc + 4)), l, [], []⟩ := by
  have P0 := P
  obtain ⟨o, M, hn, ok, ex, D, d0, d1, s1, t1, i0, i1⟩ := P
  subst ho
  refine (rsRest P0 _).2 ⟨?_⟩
  unfold rsRest
  dsimp only
  clear P0 D
  intro Z hz w5 J hJ HB HG K1 A1 K2 A2
  obtain ⟨HB5, HG5, HM, ⟨wp, wa, wb, wn⟩, SP, HS0, HO0, gpc, hB2⟩ := atIns o M HB HG hJ (r1 := r1) (r2 := r2) (im := im)
  clear HB HG
  have wN : W (Wd.lo (h.pc + 4)) := .lo _
  have wX : W 1 := .one
  have okH : (h.hold false 0).Ok := o.hold false (x := 0) (by omega) (by omega)
  have okS : (((dv0 h (.slice ao n cap)).setH (h.hold false 0)).setH ((h.hold false 0).set rd.toNat 1)).Ok := ((dv0_ok o ao n cap).setH okH).setH (okH.set _ wX.1 wX.2)
  have At : Hid (∀ W : World, Gr w W → Calls Tryd.prog 68 #[.agg (dA (dv0 h (.slice ao n cap))), .agg #[.int .i64 47, .int .i64 rd, .int .i64 r1, .int .i64 r2, .int .i32 im], .int .u32 (rg h r1), .int .u32 (rg h r2)] W fun e w' => e = .returned (.tuple #[.agg (dA (((dv0 h (.slice ao n cap)).setH (h.hold false 0)).setH ((h.hold false 0).set rd.toNat 1))), .bool true]) ∧ Gr W w') := fun W G => atom_sc_no (dv0_ok o ao n cap) rfl rd r1 r2 im (rg h r1) (rg h r2) (M.of G) hn wa.1 wa.2 d0 d1 hb hmi
  clear hb hmi
  have HS1 : Hid ((dA (((dv0 h (.slice ao n cap)).setH (h.hold false 0)).setH ((h.hold false 0).set rd.toNat 1))).size = 41) := dA_size okS.h
  have HO1 : Hid ((dA (((dv0 h (.slice ao n cap)).setH (h.hold false 0)).setH ((h.hold false 0).set rd.toNat 1))).all (·.oneCell') = true) := one_dA okS
  obtain ⟨D2, HD2, HS2, HO2, HE2, HC2, HOK⟩ := finF okS wN
  generalize hD1 : dA (((dv0 h (.slice ao n cap)).setH (h.hold false 0)).setH ((h.hold false 0).set rd.toNat 1)) = D1 at *
  clear hD1 okH
  generalize dA (dv0 h (.slice ao n cap)) = D0 at *
  generalize hA h = H at *
  generalize hth : (Wd.lo (rg h r1 + Wd.lo im)) = th at *
  generalize hpn : (Wd.lo (h.pc + Wd.lo im)) = pn at *
  generalize hp4 : (Wd.lo (h.pc + 4)) = p4 at *
  generalize hnn : (Wd.lo im) = nn at *
  generalize (rg h r1) = xa at *
  generalize (rg h r2) = xb at *
  generalize ldV l 13 h.pc = lx at *
  generalize h.pc = pc at *
  clear hth hpn hp4 hnn
  clear M ok o wp wa wb wn okS wN wX
  obtain ⟨kpc, kop, krd⟩ := insAt HB5.out gpc
  have kj2 : w5.cell? ⟨J, 2, none⟩ = some (.int .i64 r1) := HB5.out.cellI 2
  have kj3 : w5.cell? ⟨J, 3, none⟩ = some (.int .i64 r2) := HB5.out.cellI 3
  have kj4 : w5.cell? ⟨J, 4, none⟩ = some (.int .i32 im) := HB5.out.cellI 4
  go_wp2_with (refine wpList_load_row rfl 81 _ rfl (w.heap.size + 1 + 1) rfl 81 D0 (0, 0) _ ?hl1 Tryd.underlying81 rfl (by rw [HS0.out]; exact iD) ?_; (case hl1 => exact HB5.out.t.d))
  refine (At.out _ HG5.out).mono ?_
  rintro e w7 ⟨rfl, G7⟩
  have HB6 : Hid (Bs w7 w.heap.size J H Z D0 #[.int .i64 47, .int .i64 rd, .int .i64 r1, .int .i64 r2, .int .i32 im]) := HB5.out.of G7
  have HB7 : Hid (Bs (w7.setRow (w.heap.size + 1 + 1) D1) w.heap.size J H Z D1 #[.int .i64 47, .int .i64 rd, .int .i64 r1, .int .i64 r2, .int .i32 im]) := HB6.out.row D1
  have HG7 : Hid (Gr w (w7.setRow (w.heap.size + 1 + 1) D1)) := gr_setRow (HG5.out.trans G7) (by omega) _
  clear G7 At kpc kop krd HB5 HG5 kj2 kj3 kj4
  obtain ⟨y32, hy32⟩ := HC2.out
  have c32 : (w7.setRow (w.heap.size + 1 + 1) D1).cell? ⟨w.heap.size + 1 + 1, 32, none⟩ = some (.int .u32 y32) := (HB7.out.t.cellD 32).trans hy32
  have f32 : (w7.setRow (w.heap.size + 1 + 1) D1).frozen? ⟨w.heap.size + 1 + 1, 32, none⟩ = false := HB7.out.t.fz 32
  have HB8 : Hid (Bt ((w7.setRow (w.heap.size + 1 + 1) D1).setCell ⟨w.heap.size + 1 + 1, 32, none⟩ (.int .u32 p4)) w.heap.size H Z D2) := by
    have := HB7.out.t.set 32 (.int .u32 p4)
    rwa [HE2.out] at this
  have HG8 : Hid (Gr w ((w7.setRow (w.heap.size + 1 + 1) D1).setCell ⟨w.heap.size + 1 + 1, 32, none⟩ (.int .u32 p4))) := HG7.out.setCell (by simp; omega) _
  clear hy32 HC2
  go_wp2_with (first
    | (refine wpList_store_row rfl 81 _ _ rfl (w.heap.size + 1 + 1) D1 rfl rfl 81 D0 ?hs1 (by rw [HS1.out]; exact iD) (by rw [HS1.out]; exact HS0.out) HO1.out ?_; (case hs1 => exact HB6.out.t.d))
    | (refine wpList_load_row rfl 81 _ rfl (w.heap.size + 1 + 1) rfl 81 D2 (0, 0) _ ?hl8 Tryd.underlying81 rfl (by rw [HS2.out]; exact iD) ?_; (case hl8 => exact HB8.out.d))
    | (refine wpList_store_row rfl 81 _ _ rfl (w.heap.size + 1) D2 rfl rfl 81 Z ?hs8 (by rw [HS2.out]; exact iD) (by rw [HS2.out, hz]) HO2.out ?_; (case hs8 => exact HB8.out.z)))
  have GF : Gr w (((w7.setRow (w.heap.size + 1 + 1) D1).setCell ⟨w.heap.size + 1 + 1, 32, none⟩ (.int .u32 p4)).setRow (w.heap.size + 1) D2) := gr_setRow HG8.out (by omega) _
  refine bodyPost_ret (v := .agg D2) (results_cell_row rfl _ _ _ _ _ (0, 0) _ rfl (setRow_heap _ _ _ _ _ (0, 0) HB8.out.z) Tryd.underlying81 rfl (by rw [HS2.out]; exact iD)) rfl ⟨_, congrArg (fun z => Ending.returned (.agg z)) HD2.out.symm, ⟨HOK.out, rfl, ⟨ao, n, cap, rfl, HM.out.of GF, .inl rfl⟩, .inl ⟨rfl, rfl⟩, .inl ⟨rfl, rfl, rfl⟩⟩, GF⟩

set_option maxHeartbeats 2000000 in
set_option maxRecDepth 100000 in
theorem rs_atscy {h : Hv} {ao : Option Addr} {n cap : Nat} {l : List UInt8} {w : World} {x op rd : Int} {r1 r2 : Nat} {im : Int} (P : Pr h ao n cap l w x op rd r1 r2 im) (ho : op = 47) (hb : ldOk l 13 (rg h r1) = true) (hmi : h.held = true ∧ h.heldAt = (rg h r1)) : RStep h ao n cap w ⟨((h.hold false 0).set rd.toNat 0).go (Wd.lo (h.pc + 4)), stL l 18 (rg h r1) (rg h r2), [], [((rg h r1), 4)]⟩ := by
  have P0 := P
  obtain ⟨o, M, hn, ok, ex, D, d0, d1, s1, t1, i0, i1⟩ := P
  subst ho
  refine (rsRest P0 _).2 ⟨?_⟩
  unfold rsRest
  dsimp only
  clear P0 D
  intro Z hz w5 J hJ HB HG K1 A1 K2 A2
  obtain ⟨HB5, HG5, HM, ⟨wp, wa, wb, wn⟩, SP, HS0, HO0, gpc, hB2⟩ := atIns o M HB HG hJ (r1 := r1) (r2 := r2) (im := im)
  clear HB HG
  have wX : W 0 := .zero
  have At : Hid (∀ W : World, Gr w W → Calls Tryd.prog 68 #[.agg (dA (dv0 h (.slice ao n cap))), .agg #[.int .i64 47, .int .i64 rd, .int .i64 r1, .int .i64 r2, .int .i32 im], .int .u32 (rg h r1), .int .u32 (rg h r2)] W fun e w' => ∃ ao' n' cap', e = .returned (.tuple #[.agg (dA ((((dv0 h (.slice ao n cap)).setH (h.hold false 0)).setM (.slice ao' n' cap') (rg h r1) 4).setH (((dv0 h (.slice ao n cap)).setH (h.hold false 0)).h.set rd.toNat 0))), .bool true]) ∧ Mem w' ao' n' (stL l 18 (rg h r1) (rg h r2)) ∧ Gr W w' ∧ ∀ ad, ao' = some ad → W.heap.size ≤ ad.block) := fun W G => atom_sc_yes (dv0_ok o ao n cap) rfl rd r1 r2 im (rg h r1) (rg h r2) (M.of G) hn wa.1 wa.2 wb.1 wb.2 d0 d1 hb hmi
  have HwN : Hid (W (Wd.lo (h.pc + 4))) := .lo _
  have Hok : Hid (∀ (a1 : Option Addr) (n1 c1 : Nat), ((((dv0 h (.slice ao n cap)).setH (h.hold false 0)).setM (.slice a1 n1 c1) (rg h r1) 4).setH (((dv0 h (.slice ao n cap)).setH (h.hold false 0)).h.set rd.toNat 0)).Ok) := fun a1 n1 c1 => (Dv.Ok.setM ((dv0_ok o ao n cap).setH (o.hold false (x := 0) (by omega) (by omega))) a1 n1 c1 (rg h r1) 4).setH (((dv0_ok o ao n cap).setH (o.hold false (x := 0) (by omega) (by omega))).h.set _ wX.1 wX.2)
  clear hb hmi
  generalize stL l 18 (rg h r1) (rg h r2) = LL at *
  generalize dA (dv0 h (.slice ao n cap)) = D0 at *
  generalize hA h = H at *
  generalize hth : (Wd.lo (rg h r1 + Wd.lo im)) = th at *
  generalize hpn : (Wd.lo (h.pc + Wd.lo im)) = pn at *
  generalize hp4 : (Wd.lo (h.pc + 4)) = p4 at *
  generalize hnn : (Wd.lo im) = nn at *
  generalize (rg h r1) = xa at *
  generalize (rg h r2) = xb at *
  generalize ldV l 13 h.pc = lx at *
  generalize h.pc = pc at *
  clear hth hpn hp4 hnn
  clear M ok o wp wa wb wn wX
  obtain ⟨kpc, kop, krd⟩ := insAt HB5.out gpc
  have kj2 : w5.cell? ⟨J, 2, none⟩ = some (.int .i64 r1) := HB5.out.cellI 2
  have kj3 : w5.cell? ⟨J, 3, none⟩ = some (.int .i64 r2) := HB5.out.cellI 3
  have kj4 : w5.cell? ⟨J, 4, none⟩ = some (.int .i32 im) := HB5.out.cellI 4
  go_wp2_with (refine wpList_load_row rfl 81 _ rfl (w.heap.size + 1 + 1) rfl 81 D0 (0, 0) _ ?hl1 Tryd.underlying81 rfl (by rw [HS0.out]; exact iD) ?_; (case hl1 => exact HB5.out.t.d))
  refine (At.out _ HG5.out).mono ?_
  rintro e w7 ⟨a1, n1, c1, rfl, M7, G7, F7⟩
  have okS : ((((dv0 h (.slice ao n cap)).setH (h.hold false 0)).setM (.slice a1 n1 c1) xa 4).setH (((dv0 h (.slice ao n cap)).setH (h.hold false 0)).h.set rd.toNat 0)).Ok := Hok.out a1 n1 c1
  have HS1 : Hid ((dA ((((dv0 h (.slice ao n cap)).setH (h.hold false 0)).setM (.slice a1 n1 c1) xa 4).setH (((dv0 h (.slice ao n cap)).setH (h.hold false 0)).h.set rd.toNat 0))).size = 41) := dA_size okS.h
  have HO1 : Hid ((dA ((((dv0 h (.slice ao n cap)).setH (h.hold false 0)).setM (.slice a1 n1 c1) xa 4).setH (((dv0 h (.slice ao n cap)).setH (h.hold false 0)).h.set rd.toNat 0))).all (·.oneCell') = true) := one_dA okS
  have wN := HwN.out
  obtain ⟨D2, HD2, HS2, HO2, HE2, HC2, HOK⟩ := finF okS wN
  generalize hD1 : dA ((((dv0 h (.slice ao n cap)).setH (h.hold false 0)).setM (.slice a1 n1 c1) xa 4).setH (((dv0 h (.slice ao n cap)).setH (h.hold false 0)).h.set rd.toNat 0)) = D1 at *
  clear hD1 okS wN
  have HB6 : Hid (Bs w7 w.heap.size J H Z D0 #[.int .i64 47, .int .i64 rd, .int .i64 r1, .int .i64 r2, .int .i32 im]) := HB5.out.of G7
  have hlt5 := HB5.out.t.lt
  have HF7 : Hid (∀ ad, a1 = some ad → w.heap.size + 1 + 1 < ad.block) := fun ad q => by have := F7 ad q; omega
  have HM7 : Hid (Mem w7 a1 n1 LL) := M7
  have HB7 : Hid (Bs (w7.setRow (w.heap.size + 1 + 1) D1) w.heap.size J H Z D1 #[.int .i64 47, .int .i64 rd, .int .i64 r1, .int .i64 r2, .int .i32 im]) := HB6.out.row D1
  have HG7 : Hid (Gr w (w7.setRow (w.heap.size + 1 + 1) D1)) := gr_setRow (HG5.out.trans G7) (by omega) _
  clear G7 M7 F7 At kpc kop krd HB5 HG5 kj2 kj3 kj4
  obtain ⟨y32, hy32⟩ := HC2.out
  have c32 : (w7.setRow (w.heap.size + 1 + 1) D1).cell? ⟨w.heap.size + 1 + 1, 32, none⟩ = some (.int .u32 y32) := (HB7.out.t.cellD 32).trans hy32
  have f32 : (w7.setRow (w.heap.size + 1 + 1) D1).frozen? ⟨w.heap.size + 1 + 1, 32, none⟩ = false := HB7.out.t.fz 32
  have HB8 : Hid (Bt ((w7.setRow (w.heap.size + 1 + 1) D1).setCell ⟨w.heap.size + 1 + 1, 32, none⟩ (.int .u32 p4)) w.heap.size H Z D2) := by
    have := HB7.out.t.set 32 (.int .u32 p4)
    rwa [HE2.out] at this
  have HG8 : Hid (Gr w ((w7.setRow (w.heap.size + 1 + 1) D1).setCell ⟨w.heap.size + 1 + 1, 32, none⟩ (.int .u32 p4))) := HG7.out.setCell (by simp; omega) _
  clear hy32 HC2
  go_wp2_with (first
    | (refine wpList_store_row rfl 81 _ _ rfl (w.heap.size + 1 + 1) D1 rfl rfl 81 D0 ?hs1 (by rw [HS1.out]; exact iD) (by rw [HS1.out]; exact HS0.out) HO1.out ?_; (case hs1 => exact HB6.out.t.d))
    | (refine wpList_load_row rfl 81 _ rfl (w.heap.size + 1 + 1) rfl 81 D2 (0, 0) _ ?hl8 Tryd.underlying81 rfl (by rw [HS2.out]; exact iD) ?_; (case hl8 => exact HB8.out.d))
    | (refine wpList_store_row rfl 81 _ _ rfl (w.heap.size + 1) D2 rfl rfl 81 Z ?hs8 (by rw [HS2.out]; exact iD) (by rw [HS2.out, hz]) HO2.out ?_; (case hs8 => exact HB8.out.z)))
  have MF : Mem (((w7.setRow (w.heap.size + 1 + 1) D1).setCell ⟨w.heap.size + 1 + 1, 32, none⟩ (.int .u32 p4)).setRow (w.heap.size + 1) D2) a1 n1 LL := HM7.out.apart fun ad q => by
    have := HF7.out ad q
    rw [setRow_other _ _ _ _ (by omega), heap_setCell_other _ _ _ _ (by simp; omega), setRow_other _ _ _ _ (by omega)]
  have GF : Gr w (((w7.setRow (w.heap.size + 1 + 1) D1).setCell ⟨w.heap.size + 1 + 1, 32, none⟩ (.int .u32 p4)).setRow (w.heap.size + 1) D2) := gr_setRow HG8.out (by omega) _
  refine bodyPost_ret (v := .agg D2) (results_cell_row rfl _ _ _ _ _ (0, 0) _ rfl (setRow_heap _ _ _ _ _ (0, 0) HB8.out.z) Tryd.underlying81 rfl (by rw [HS2.out]; exact iD)) rfl ⟨_, congrArg (fun z => Ending.returned (.agg z)) HD2.out.symm, ⟨HOK.out, rfl, ⟨a1, n1, c1, rfl, MF, .inr fun ad q => by have := HF7.out ad q; omega⟩, .inl ⟨rfl, rfl⟩, .inr rfl⟩, GF⟩

set_option maxHeartbeats 2000000 in
set_option maxRecDepth 100000 in
theorem rs_atamo {h : Hv} {ao : Option Addr} {n cap : Nat} {l : List UInt8} {w : World} {x op rd : Int} {r1 r2 : Nat} {im : Int} (P : Pr h ao n cap l w x op rd r1 r2 im) (ho : 48 ≤ op ∧ op ≤ 56) (hb : ldOk l 13 (rg h r1) = true) : RStep h ao n cap w ⟨(h.set rd.toNat (ldV l 13 (rg h r1))).go (Wd.lo (h.pc + 4)), stL l 18 (rg h r1) (Wd.amo op (ldV l 13 (rg h r1)) (rg h r2)), [], [((rg h r1), 4)]⟩ := by
  have P0 := P
  obtain ⟨o, M, hn, ok, ex, D, d0, d1, s1, t1, i0, i1⟩ := P
  refine (rsRest P0 _).2 ⟨?_⟩
  unfold rsRest
  dsimp only
  clear P0 D
  intro Z hz w5 J hJ HB HG K1 A1 K2 A2
  obtain ⟨HB5, HG5, HM, ⟨wp, wa, wb, wn⟩, SP, HS0, HO0, gpc, hB2⟩ := atIns o M HB HG hJ (r1 := r1) (r2 := r2) (im := im)
  clear HB HG
  have wX : W (ldV l 13 (rg h r1)) := .ldV _ _ _
  have At : Hid (∀ W : World, Gr w W → Calls Tryd.prog 68 #[.agg (dA (dv0 h (.slice ao n cap))), .agg #[.int .i64 op, .int .i64 rd, .int .i64 r1, .int .i64 r2, .int .i32 im], .int .u32 (rg h r1), .int .u32 (rg h r2)] W fun e w' => ∃ ao' n' cap', e = .returned (.tuple #[.agg (dA (((dv0 h (.slice ao n cap)).setM (.slice ao' n' cap') (rg h r1) 4).setH ((dv0 h (.slice ao n cap)).h.set rd.toNat (ldV l 13 (rg h r1))))), .bool true]) ∧ Mem w' ao' n' (stL l 18 (rg h r1) (Wd.amo op (ldV l 13 (rg h r1)) (rg h r2))) ∧ Gr W w' ∧ ∀ ad, ao' = some ad → W.heap.size ≤ ad.block) := fun W G => atom_amo (dv0_ok o ao n cap) rfl op rd r1 r2 im (rg h r1) (rg h r2) (M.of G) hn wa.1 wa.2 wb.1 wb.2 d0 d1 hb (by omega) (by omega)
  have HwN : Hid (W (Wd.lo (h.pc + 4))) := .lo _
  have Hok : Hid (∀ (a1 : Option Addr) (n1 c1 : Nat), (((dv0 h (.slice ao n cap)).setM (.slice a1 n1 c1) (rg h r1) 4).setH ((dv0 h (.slice ao n cap)).h.set rd.toNat (ldV l 13 (rg h r1)))).Ok) := fun a1 n1 c1 => (Dv.Ok.setM (dv0_ok o ao n cap) a1 n1 c1 (rg h r1) 4).setH ((dv0_ok o ao n cap).h.set _ wX.1 wX.2)
  clear hb
  generalize stL l 18 (rg h r1) (Wd.amo op (ldV l 13 (rg h r1)) (rg h r2)) = LL at *
  generalize (ldV l 13 (rg h r1)) = rx at *
  have b1 : (op == 1) = false := by simp; omega
  have b2 : (op == 2) = false := by simp; omega
  have b3 : (op == 3) = false := by simp; omega
  have b4 : (op == 4) = false := by simp; omega
  have b46 : (op == 46) = false := by simp; omega
  have b47 : (op == 47) = false := by simp; omega
  generalize dA (dv0 h (.slice ao n cap)) = D0 at *
  generalize hA h = H at *
  generalize hth : (Wd.lo (rg h r1 + Wd.lo im)) = th at *
  generalize hpn : (Wd.lo (h.pc + Wd.lo im)) = pn at *
  generalize hp4 : (Wd.lo (h.pc + 4)) = p4 at *
  generalize hnn : (Wd.lo im) = nn at *
  generalize (rg h r1) = xa at *
  generalize (rg h r2) = xb at *
  generalize ldV l 13 h.pc = lx at *
  generalize h.pc = pc at *
  clear hth hpn hp4 hnn
  clear M ok o wp wa wb wn wX
  obtain ⟨kpc, kop, krd⟩ := insAt HB5.out gpc
  have hop1 : 46 ≤ op := by omega
  have hop2 : op ≤ 56 := ho.2
  have q10 : ¬ op ≤ 10 := by omega
  have q15 : ¬ op ≤ 15 := by omega
  have q18 : ¬ op ≤ 18 := by omega
  have q27 : ¬ op ≤ 27 := by omega
  have q45 : ¬ op ≤ 45 := by omega
  have kj2 : w5.cell? ⟨J, 2, none⟩ = some (.int .i64 r1) := HB5.out.cellI 2
  have kj3 : w5.cell? ⟨J, 3, none⟩ = some (.int .i64 r2) := HB5.out.cellI 3
  have kj4 : w5.cell? ⟨J, 4, none⟩ = some (.int .i32 im) := HB5.out.cellI 4
  go_wp2_with (refine wpList_load_row rfl 81 _ rfl (w.heap.size + 1 + 1) rfl 81 D0 (0, 0) _ ?hl1 Tryd.underlying81 rfl (by rw [HS0.out]; exact iD) ?_; (case hl1 => exact HB5.out.t.d))
  refine (At.out _ HG5.out).mono ?_
  rintro e w7 ⟨a1, n1, c1, rfl, M7, G7, F7⟩
  have okS : (((dv0 h (.slice ao n cap)).setM (.slice a1 n1 c1) xa 4).setH ((dv0 h (.slice ao n cap)).h.set rd.toNat rx)).Ok := Hok.out a1 n1 c1
  have HS1 : Hid ((dA (((dv0 h (.slice ao n cap)).setM (.slice a1 n1 c1) xa 4).setH ((dv0 h (.slice ao n cap)).h.set rd.toNat rx))).size = 41) := dA_size okS.h
  have HO1 : Hid ((dA (((dv0 h (.slice ao n cap)).setM (.slice a1 n1 c1) xa 4).setH ((dv0 h (.slice ao n cap)).h.set rd.toNat rx))).all (·.oneCell') = true) := one_dA okS
  have wN := HwN.out
  obtain ⟨D2, HD2, HS2, HO2, HE2, HC2, HOK⟩ := finF okS wN
  generalize hD1 : dA (((dv0 h (.slice ao n cap)).setM (.slice a1 n1 c1) xa 4).setH ((dv0 h (.slice ao n cap)).h.set rd.toNat rx)) = D1 at *
  clear hD1 okS wN
  have HB6 : Hid (Bs w7 w.heap.size J H Z D0 #[.int .i64 op, .int .i64 rd, .int .i64 r1, .int .i64 r2, .int .i32 im]) := HB5.out.of G7
  have hlt5 := HB5.out.t.lt
  have HF7 : Hid (∀ ad, a1 = some ad → w.heap.size + 1 + 1 < ad.block) := fun ad q => by have := F7 ad q; omega
  have HM7 : Hid (Mem w7 a1 n1 LL) := M7
  have HB7 : Hid (Bs (w7.setRow (w.heap.size + 1 + 1) D1) w.heap.size J H Z D1 #[.int .i64 op, .int .i64 rd, .int .i64 r1, .int .i64 r2, .int .i32 im]) := HB6.out.row D1
  have HG7 : Hid (Gr w (w7.setRow (w.heap.size + 1 + 1) D1)) := gr_setRow (HG5.out.trans G7) (by omega) _
  clear G7 M7 F7 At kpc kop krd HB5 HG5 kj2 kj3 kj4
  obtain ⟨y32, hy32⟩ := HC2.out
  have c32 : (w7.setRow (w.heap.size + 1 + 1) D1).cell? ⟨w.heap.size + 1 + 1, 32, none⟩ = some (.int .u32 y32) := (HB7.out.t.cellD 32).trans hy32
  have f32 : (w7.setRow (w.heap.size + 1 + 1) D1).frozen? ⟨w.heap.size + 1 + 1, 32, none⟩ = false := HB7.out.t.fz 32
  have HB8 : Hid (Bt ((w7.setRow (w.heap.size + 1 + 1) D1).setCell ⟨w.heap.size + 1 + 1, 32, none⟩ (.int .u32 p4)) w.heap.size H Z D2) := by
    have := HB7.out.t.set 32 (.int .u32 p4)
    rwa [HE2.out] at this
  have HG8 : Hid (Gr w ((w7.setRow (w.heap.size + 1 + 1) D1).setCell ⟨w.heap.size + 1 + 1, 32, none⟩ (.int .u32 p4))) := HG7.out.setCell (by simp; omega) _
  clear hy32 HC2
  go_wp2_with (first
    | (refine wpList_store_row rfl 81 _ _ rfl (w.heap.size + 1 + 1) D1 rfl rfl 81 D0 ?hs1 (by rw [HS1.out]; exact iD) (by rw [HS1.out]; exact HS0.out) HO1.out ?_; (case hs1 => exact HB6.out.t.d))
    | (refine wpList_load_row rfl 81 _ rfl (w.heap.size + 1 + 1) rfl 81 D2 (0, 0) _ ?hl8 Tryd.underlying81 rfl (by rw [HS2.out]; exact iD) ?_; (case hl8 => exact HB8.out.d))
    | (refine wpList_store_row rfl 81 _ _ rfl (w.heap.size + 1) D2 rfl rfl 81 Z ?hs8 (by rw [HS2.out]; exact iD) (by rw [HS2.out, hz]) HO2.out ?_; (case hs8 => exact HB8.out.z)))
  have MF : Mem (((w7.setRow (w.heap.size + 1 + 1) D1).setCell ⟨w.heap.size + 1 + 1, 32, none⟩ (.int .u32 p4)).setRow (w.heap.size + 1) D2) a1 n1 LL := HM7.out.apart fun ad q => by
    have := HF7.out ad q
    rw [setRow_other _ _ _ _ (by omega), heap_setCell_other _ _ _ _ (by simp; omega), setRow_other _ _ _ _ (by omega)]
  have GF : Gr w (((w7.setRow (w.heap.size + 1 + 1) D1).setCell ⟨w.heap.size + 1 + 1, 32, none⟩ (.int .u32 p4)).setRow (w.heap.size + 1) D2) := gr_setRow HG8.out (by omega) _
  refine bodyPost_ret (v := .agg D2) (results_cell_row rfl _ _ _ _ _ (0, 0) _ rfl (setRow_heap _ _ _ _ _ (0, 0) HB8.out.z) Tryd.underlying81 rfl (by rw [HS2.out]; exact iD)) rfl ⟨_, congrArg (fun z => Ending.returned (.agg z)) HD2.out.symm, ⟨HOK.out, rfl, ⟨a1, n1, c1, rfl, MF, .inr fun ad q => by have := HF7.out ad q; omega⟩, .inl ⟨rfl, rfl⟩, .inr rfl⟩, GF⟩

end Go.Proofs.YtdiofidmlgliiaaDoor.Hr
/-
  What ferrybridgeref4.Step answers, of every hart that runs and every memory: one step ('stp').
-/
namespace Go.Proofs.YtdiofidmlgliiaaDoor.Hr
open Go.ChangeShapes Go.WideShapes Go.ChangeAt Go.RowKit Mm Hh
set_option linter.unusedVariables false
set_option linter.unusedSimpArgs false

variable {h : Hv} {op a b : Int} {n cap : Nat} {ao : Option Addr} {l : List UInt8} {w : World}
theorem on_set (hs : h.state = 0) (r : Nat) (x y : Int) : (h.set r x).on y = (h.set r x).go y := by
  unfold Hv.on; rw [if_pos]; unfold Hv.set; split <;> exact hs
theorem on_of (hs : h.state = 0) (y : Int) : h.on y = h.go y := by unfold Hv.on; rw [if_pos hs]
theorem on_trap (c y : Int) : (h.trap c).on y = h.trap c := if_neg (by show ¬ (2 : Int) = 0; omega)
theorem on_halt (y : Int) : h.halt.on y = h.halt := if_neg (by show ¬ (1 : Int) = 0; omega)
theorem holds_no (h : ¬ (5 ≤ op ∧ op ≤ 10)) : Wd.holds op a b = false := by
  unfold Wd.holds
  repeat' (rw [if_neg (by omega)])
theorem nxt_plain {n : Int} (h3 : ¬ op = 3) (h4 : ¬ op = 4) (hb : ¬ (5 ≤ op ∧ op ≤ 10)) : nxt h op a b n = Wd.lo (h.pc + 4) := by
  unfold nxt; rw [if_neg h4, if_neg]; rw [holds_no hb]; simp [h3]

/-- An instruction, by its kind. -/
theorem rs_ins {x rd : Int} {r1 r2 : Nat} {im : Int} (P : Pr h ao n cap l w x op rd r1 r2 im) (hs : h.state = 0) (h0 : 1 ≤ op) (h1 : op ≤ 59) :
    RStep h ao n cap w (ins h l op rd r1 r2 im) := by
  unfold ins eff
  simp only [Int.toNat_natCast]
  by_cases e1 : op = 1
  · have := rs_1 P e1
    rw [if_pos e1, nxt_plain (by omega) (by omega) (by omega)]
    unfold done Hv.put; simp only; rw [on_set hs]; exact this
  rw [if_neg e1]
  by_cases e2 : op = 2
  · have := rs_2 P e2
    rw [if_pos e2, nxt_plain (by omega) (by omega) (by omega)]
    unfold done Hv.put; simp only; rw [on_set hs]; exact this
  rw [if_neg e2]
  by_cases e3 : op = 3
  · have := rs_3 P e3
    rw [if_pos (.inl e3)]
    unfold done Hv.put nxt; simp only; rw [on_set hs, if_neg (by omega), if_pos (.inl e3)]; exact this
  by_cases e4 : op = 4
  · have := rs_4 P e4
    rw [if_pos (.inr e4)]
    unfold done Hv.put nxt; simp only; rw [on_set hs, if_pos e4]; exact this
  rw [if_neg (by omega)]
  by_cases eb : 5 ≤ op ∧ op ≤ 10
  · rw [if_neg (by omega), if_neg (by omega), if_neg (by omega), if_neg (by omega), if_neg (by omega), if_neg (by omega), if_neg (by omega)]
    unfold done Hv.put nxt; simp only
    rw [on_of hs, if_neg (by omega)]
    cases hb : Wd.holds op (rg h r1) (rg h r2) with
    | true => rw [if_pos (.inr rfl)]; exact rs_bry P eb hb
    | false => rw [if_neg (by simp [e3])]; exact rs_brn P eb hb
  rw [nxt_plain e3 e4 eb]
  by_cases el : 11 ≤ op ∧ op ≤ 15
  · rw [if_pos el]
    unfold efLoad
    cases hb : ldOk l op (Wd.lo (rg h r1 + Wd.lo im)) with
    | true => rw [if_pos rfl]; unfold done Hv.put; simp only; rw [on_set hs]; exact rs_loady P el hb
    | false => rw [if_neg (by simp)]; unfold done Hv.put; simp only; rw [on_trap]; exact rs_loadn P el hb
  rw [if_neg el]
  by_cases es : 16 ≤ op ∧ op ≤ 18
  · rw [if_pos es]
    unfold efStore
    cases hb : stOk l op (Wd.lo (rg h r1 + Wd.lo im)) with
    | true => rw [if_pos rfl]; unfold done Hv.put; simp only; rw [on_of hs]; exact rs_storey P es hb
    | false => rw [if_neg (by simp)]; unfold done Hv.put; simp only; rw [on_trap]; exact rs_storen P es hb
  rw [if_neg es]
  by_cases ei : 19 ≤ op ∧ op ≤ 27
  · rw [if_pos ei]; unfold done Hv.put; simp only; rw [on_set hs]; exact rs_alun P ei
  rw [if_neg ei]
  by_cases ea : 28 ≤ op ∧ op ≤ 45
  · rw [if_pos ea]; unfold done Hv.put; simp only; rw [on_set hs]; exact rs_alu P ea
  rw [if_neg ea]
  by_cases et : 46 ≤ op ∧ op ≤ 56
  · rw [if_pos et]
    unfold efAtom efLr efSc efAmo
    cases hb : ldOk l 13 (rg h r1) with
    | false =>
      have := rs_atf P et hb _ rfl
      by_cases k : op = 46
      · rw [if_pos k] at this ⊢; rw [if_neg (by simp)]; unfold done Hv.put; simp only; rw [on_trap]; exact this
      · rw [if_neg k] at this; rw [if_neg k]; simp only [Bool.false_eq_true, if_false, ite_self]; unfold done Hv.put; simp only; rw [on_trap]; exact this
    | true =>
      by_cases k : op = 46
      · rw [if_pos k, if_pos rfl]; unfold done Hv.put; simp only; rw [on_set (by exact hs)]; exact rs_atlr P k hb
      · rw [if_neg k]
        by_cases k2 : op = 47
        · rw [if_pos k2, if_pos rfl]
          by_cases mi : h.held = true ∧ h.heldAt = rg h r1
          · rw [if_pos mi]; unfold done Hv.put; simp only; rw [on_set (by exact hs)]; exact rs_atscy P k2 hb mi
          · rw [if_neg mi]; unfold done Hv.put; simp only; rw [on_set (by exact hs)]; exact rs_atscn P k2 hb mi
        · rw [if_neg k2, if_pos rfl]; unfold done Hv.put; simp only; rw [on_set hs]; exact rs_atamo P (by omega) hb
  rw [if_neg et]
  by_cases ec : op = 58
  · rw [if_pos ec]
    unfold efCall
    by_cases q0 : rg h 17 = 0
    · rw [if_pos q0]; unfold done Hv.put; simp only; rw [on_halt]; exact rs_callh P ec q0
    · by_cases q1 : rg h 17 = 1
      · rw [if_neg q0, if_pos q1]; unfold done Hv.put; simp only; rw [on_of hs]; exact rs_callo P ec q1
      · rw [if_neg q0, if_neg q1]; unfold done Hv.put; simp only; rw [on_trap]; exact rs_callt P ec ⟨q0, q1⟩
  rw [if_neg ec]
  by_cases ee : op = 59
  · rw [if_pos ee]; unfold done Hv.put; simp only; rw [on_trap]; exact rs_break P ee
  rw [if_neg ee]
  unfold done Hv.put; simp only; rw [on_of hs]; exact rs_fence P (by omega)

theorem r1_bd (f x : Int) : 0 ≤ Dc.rs1F f x ∧ Dc.rs1F f x < 32 := by unfold Dc.rs1F; split <;> omega
theorem r2_bd (f x : Int) : 0 ≤ Dc.rs2F f x ∧ Dc.rs2F f x < 32 := by unfold Dc.rs2F; split <;> omega
theorem rd_bd (f x : Int) : 0 ≤ Dc.rdF f x ∧ Dc.rdF f x < 32 := by unfold Dc.rdF; split <;> omega
theorem imm_bd {v : Int} (f : Int) (h0 : 0 ≤ v) (h1 : v < 4294967296) : -2147483648 ≤ Dc.immF f v ∧ Dc.immF f v < 2147483648 := by
  unfold Dc.immF Wd.sg Dc.sgn
  repeat' split
  all_goals omega
/-- A step of a hart that runs. -/
theorem rstep_any (o : h.Ok) (M : Mem w ao n l) (hn : n ≤ 140737488351232) (hs : h.state = 0) : RStep h ao n cap w (stp h l) := by
  unfold stp
  cases ok : ldOk l 13 h.pc with
  | false => rw [if_neg (by simp)]; exact rs_fetch o M hn ok
  | true =>
    rw [if_pos rfl]
    have wx := W.ldV l 13 h.pc
    have R := Re.RDecode_any (ldV l 13 h.pc) wx.1 wx.2
    unfold Re.RDec at R
    generalize hx : ldV l 13 h.pc = x at *
    unfold insW
    by_cases hd : Dc.dop x = 0
    · rw [if_pos hd]
      obtain ⟨d1, d2⟩ := Dw.dec_none hd
      refine rs_word o M hn ok fun W => ?_
      rw [hx]
      have := R W
      rw [d1, d2] at this
      exact this.mono fun e w' h => ⟨h.1, h.2.1⟩
    · rw [if_neg hd]
      have d2 : Dw.decOk x = true := by unfold Dw.decOk; simp [hd]
      have hb := Re.dop_bd wx.1 wx.2
      have ib := imm_bd (Dc.frm (Dc.dop x)) wx.1 wx.2
      have a1 := r1_bd (Dc.frm (Dc.dop x)) x
      have a2 := r2_bd (Dc.frm (Dc.dop x)) x
      obtain ⟨r1, e1⟩ := Int.eq_ofNat_of_zero_le a1.1
      obtain ⟨r2, e2⟩ := Int.eq_ofNat_of_zero_le a2.1
      rw [e1, e2]
      rw [e1] at a1
      rw [e2] at a2
      refine rs_ins (x := x) ⟨o, M, hn, ok, hx.symm, fun W => ?_, (rd_bd _ _).1, (rd_bd _ _).2, by omega, by omega, ib.1, ib.2⟩ hs (by omega) hb.2
      have := R W
      unfold Dw.decV Dw.insV at this
      rw [d2, e1, e2] at this
      exact this.mono fun e w' h => ⟨h.1, h.2.1⟩
end Go.Proofs.YtdiofidmlgliiaaDoor.Hr
/-
  A run of the document's own, as cells of memory: the struct api.Shown at a block, its harts in a row of its own, what came out; append, and where what is appended to comes to lie.
-/
namespace Go.Proofs.YtdiofidmlgliiaaDoor.Mc
open Go.ChangeShapes Go.WideShapes Go.ChangeAt Go.RowKit Mm Hh Hc
set_option linter.unusedVariables false
set_option linter.unusedSimpArgs false

section
variable {P : Program} {w : World} {base e size bytes n m : Nat} {i : TypeInfo} {z : Value} {t : TypeId}
theorem run_append_src_at (ty : TypeId) (h1 : P.underlying t = some (.slice e)) (h2 : P.info? e = some i) (h3 : i.zero = some z) (h4 : i.size = size) (h5 : i.bytes = bytes) (h6 : z.cells.size = size) (h7 : 0 < size)
    {v vx : Value} {olds news : List Value} (hown : w.ownsRow base e size v n olds) (hsrc : Src w vx m size news) (h1c : ∀ u ∈ news, u.oneCell' = true) (b1 : n + m ≤ maxLen) (b2 : (n + m) * bytes ≤ 140737488355328) (hbase : base ≤ w.heap.size) :
    ∃ v' w', (Builtin.append_ #[t, t] ty #[v, vx]).run P w = .ok v' w' ∧ w'.ownsRow base e size v' (n + m) (olds ++ news) ∧ w.grownBy w' v.ownBlock ∧ (v'.ownBlock = v.ownBlock ∨ v'.ownBlock = some w.heap.size) := by
  rcases hsrc with ⟨rfl, rfl, rfl⟩ | ⟨ad, c, rfl, hl, hc⟩
  · exact ⟨v, w, run_append_owned_none w base t ty e i size h1 h2 v n olds hown, by simpa using hown, ⟨rfl, rfl, rfl, Nat.le_refl _, fun _ _ _ => rfl⟩, .inl rfl⟩
  · obtain ⟨v', w', hrun, r1, r2, _, r4⟩ := run_append_own_at (P := P) w base t ty e i z size bytes h1 h2 h3 h4 h5 h6 h7 v n olds hown ad m c news hl hc h1c b1 b2 hbase
    exact ⟨v', w', hrun, r1, r2, r4⟩
theorem wpList_append_src_at {ops : Array Oper} {rest : List Oper} {o : Oper} {a : Act} {Q : Exit → Act → World → Prop}
    (hg : o.guard = none) (s x : Operand) (hop : o.op = Op.call { callee := Callee.builtin Builtin.append, args := #[s, x], argTypes := #[t, t] })
    (h1 : P.underlying t = some (.slice e)) (h2 : P.info? e = some i) (h3 : i.zero = some z) (h4 : i.size = size) (h5 : i.bytes = bytes) (h6 : z.cells.size = size) (h7 : 0 < size)
    {v vx : Value} {olds news : List Value} (hs : a.eval s = v) (hx : a.eval x = vx) (hown : w.ownsRow base e size v n olds) (hsrc : Src w vx m size news) (h1c : ∀ u ∈ news, u.oneCell' = true) (b1 : n + m ≤ maxLen) (b2 : (n + m) * bytes ≤ 140737488355328) (hbase : base ≤ w.heap.size)
    (hK : ∀ v' w', w'.ownsRow base e size v' (n + m) (olds ++ news) → w.grownBy w' v.ownBlock → (v'.ownBlock = v.ownBlock ∨ v'.ownBlock = some w.heap.size) → wpList P ops Q rest (a.put o.dst v') w') : wpList P ops Q (o :: rest) a w := by
  refine wpList_plain hg fun K hk => ?_
  obtain ⟨v', w', hrun, r1, r2, r3⟩ := run_append_src_at (P := P) o.type h1 h2 h3 h4 h5 h6 h7 hown hsrc h1c b1 b2 hbase
  unfold Oper.wp
  simp [execOp, hop, resolve, invoke, builtin, hs, hx, hrun, Result.andThen]
  exact hk _ _ (hK v' w' r1 r2 r3)
end
/-- Bytes stay as they are where their block does. -/
theorem mem_keep {w w' : World} {ma : Option Addr} {mn : Nat} {l : List UInt8} (M : Mem w ma mn l) (h : ∀ ad, ma = some ad → 0 < mn → ad.block < w.heap.size → w'.heap[ad.block]? = w.heap[ad.block]?) : Mem w' ma mn l := by
  by_cases h0 : mn = 0
  · exact ⟨M.len, M.nil, fun ad e t ht => absurd ht (by omega)⟩
  · refine M.apart fun ad e => h ad e (by omega) ?_
    have := World.block_lt_of_cell? w _ (M.cell ad e 0 (by omega))
    rwa [add_block] at this
/-- A run at block g (api.Shown): its memory is a slice that lies apart from what the run itself writes over. -/
structure Pb (w : World) (base g : Nat) (ma : Option Addr) (mn mc gh hc : Nat) (O : Value) (s : Sh) : Prop where
  bg : base ≤ g
  blk : w.heap[g]? = some (.cells #[.slice ma mn mc, .slice (some ⟨gh, 0, none⟩) s.hs.length hc, O, .int .i64 s.steps] 40 (0, 0))
  mem : Mem w ma mn s.m
  far : ∀ ad, ma = some ad → 0 < mn → ad.block ≠ g ∧ ad.block ≠ gh ∧ O.ownBlock ≠ some ad.block
  bh : base ≤ gh
  row : HRow w gh s.hs
  out : w.ownsRow base 59 1 O s.out.length (s.out.map (Value.int .u32))
theorem Pb.glt {w : World} {base g : Nat} {ma : Option Addr} {mn mc gh hc : Nat} {O : Value} {s : Sh} (B : Pb w base g ma mn mc gh hc O s) : g < w.heap.size := (gs B.blk).1
theorem Pb.base_le {w : World} {base g : Nat} {ma : Option Addr} {mn mc gh hc : Nat} {O : Value} {s : Sh} (B : Pb w base g ma mn mc gh hc O s) : base ≤ w.heap.size := Nat.le_trans B.bg (Nat.le_of_lt B.glt)
theorem Pb.of {w w' : World} {base g : Nat} {ma : Option Addr} {mn mc gh hc : Nat} {O : Value} {s : Sh} (B : Pb w base g ma mn mc gh hc O s) (G : Gr w w') : Pb w' base g ma mn mc gh hc O s :=
  ⟨B.bg, Hr.heap_of_gr G B.blk, B.mem.of G, B.far, B.bh, B.row.of G, owns_gr B.out G⟩
theorem Pb.cell {w : World} {base g : Nat} {ma : Option Addr} {mn mc gh hc : Nat} {O : Value} {s : Sh} (B : Pb w base g ma mn mc gh hc O s) (i : Nat) : w.cell? ⟨g, i, none⟩ = (#[.slice ma mn mc, .slice (some ⟨gh, 0, none⟩) s.hs.length hc, O, .int .i64 s.steps] : Array Value)[i]? := cr B.blk
theorem Pb.fz {w : World} {base g : Nat} {ma : Option Addr} {mn mc gh hc : Nat} {O : Value} {s : Sh} (B : Pb w base g ma mn mc gh hc O s) (i : Nat) : w.frozen? ⟨g, i, none⟩ = false := fzr B.blk
/-- Its harts turned. -/
theorem Pb.ch {w w' : World} {base g : Nat} {ma : Option Addr} {mn mc gh hc : Nat} {O : Value} {s : Sh} (B : Pb w base g ma mn mc gh hc O s) (q : Ch gh w w') {hs : List Hv} (R : HRow w' gh hs) (hl : hs.length = s.hs.length) : Pb w' base g ma mn mc gh hc O ⟨hs, s.m, s.out, s.steps⟩ :=
  ⟨B.bg, by show w'.heap[g]? = some (.cells #[.slice ma mn mc, .slice (some ⟨gh, 0, none⟩) hs.length hc, O, .int .i64 s.steps] _ _); rw [hl]; exact (ch_keep B.row q (by decide) B.blk).trans B.blk,
    mem_keep B.mem fun ad e h0 hb => q.block _ hb (fun x => (B.far ad e h0).2.1 (by injection x)), B.far, B.bh, R, owns_to B.out fun k o f hk => ch_keep B.row q (by decide) hk⟩
/-- A cell of its own block set. -/
theorem Pb.setC {w : World} {base g : Nat} {ma : Option Addr} {mn mc gh hc : Nat} {O : Value} {s : Sh} (B : Pb w base g ma mn mc gh hc O s) (i : Nat) (v : Value) :
    Mem (w.setCell ⟨g, i, none⟩ v) ma mn s.m ∧ HRow (w.setCell ⟨g, i, none⟩ v) gh s.hs ∧ (w.setCell ⟨g, i, none⟩ v).ownsRow base 59 1 O s.out.length (s.out.map (Value.int .u32)) := by
  have ne : ∀ {t : Nat}, t ≠ 40 → ∀ {k : Nat} {o : Array Value} {f : Nat × Nat}, w.heap[k]? = some (.cells o t f) → (w.setCell ⟨g, i, none⟩ v).heap[k]? = w.heap[k]? := fun ht _ _ _ hk => hso (by exact ne_of_types hk B.blk ht)
  exact ⟨mem_keep B.mem fun ad e h0 _ => hso (by exact (B.far ad e h0).1), B.row.to fun k o f hk => ne (by decide) hk, owns_to B.out fun k o f hk => ne (by decide) hk⟩
theorem Pb.setN {w : World} {base g : Nat} {ma : Option Addr} {mn mc gh hc : Nat} {O : Value} {s : Sh} (B : Pb w base g ma mn mc gh hc O s) (n' : Nat) : Pb (w.setCell ⟨g, 3, none⟩ (.int .i64 n')) base g ma mn mc gh hc O ⟨s.hs, s.m, s.out, n'⟩ :=
  ⟨B.bg, by rw [hss B.blk]; rfl, (B.setC _ _).1, B.far, B.bh, (B.setC _ _).2.1, (B.setC _ _).2.2⟩
/-- Another memory. -/
theorem Pb.setM {w : World} {base g : Nat} {ma : Option Addr} {mn mc gh hc : Nat} {O : Value} {s : Sh} (B : Pb w base g ma mn mc gh hc O s) {ma' : Option Addr} {mn' : Nat} (mc' : Nat) {m' : List UInt8} (M : Mem w ma' mn' m') (far : ∀ ad, ma' = some ad → 0 < mn' → ad.block ≠ g ∧ ad.block ≠ gh ∧ O.ownBlock ≠ some ad.block) :
    Pb (w.setCell ⟨g, 0, none⟩ (.slice ma' mn' mc')) base g ma' mn' mc' gh hc O ⟨s.hs, m', s.out, s.steps⟩ :=
  ⟨B.bg, by rw [hss B.blk]; rfl, mem_keep M fun ad e h0 _ => hso (by exact (far ad e h0).1), far, B.bh, (B.setC _ _).2.1, (B.setC _ _).2.2⟩
/-- What came out, appended to. -/
theorem Pb.grown {w w' : World} {base g : Nat} {ma : Option Addr} {mn mc gh hc : Nat} {O : Value} {s : Sh} (B : Pb w base g ma mn mc gh hc O s) (q : w.grownBy w' O.ownBlock) {v : Value} {os : List Int} (ho : w'.ownsRow base 59 1 v os.length (os.map (Value.int .u32))) (hv : v.ownBlock = O.ownBlock ∨ v.ownBlock = some w.heap.size) :
    w'.cell? ⟨g, 2, none⟩ = some O ∧ w'.frozen? ⟨g, 2, none⟩ = false ∧ Pb (w'.setCell ⟨g, 2, none⟩ v) base g ma mn mc gh hc v ⟨s.hs, s.m, os, s.steps⟩ ∧ Below base w (w'.setCell ⟨g, 2, none⟩ v) := by
  have st : ∀ {t : Nat}, t ≠ 59 → ∀ {k : Nat} {o : Array Value} {f : Nat × Nat}, w.heap[k]? = some (.cells o t f) → w'.heap[k]? = w.heap[k]? := fun ht _ _ _ hk => grown_keep B.out q ht hk
  have hb := (st (by decide) B.blk).trans B.blk
  have ne : ∀ {t : Nat}, t ≠ 40 → ∀ {k : Nat} {o : Array Value} {f : Nat × Nat}, w'.heap[k]? = some (.cells o t f) → (w'.setCell ⟨g, 2, none⟩ v).heap[k]? = w'.heap[k]? := fun ht _ _ _ hk => hso (by exact ne_of_types hk hb ht)
  have two : ∀ {t : Nat}, t ≠ 40 → t ≠ 59 → ∀ {k : Nat} {o : Array Value} {f : Nat × Nat}, w.heap[k]? = some (.cells o t f) → (w'.setCell ⟨g, 2, none⟩ v).heap[k]? = w.heap[k]? := fun h1 h2 _ _ _ hk => by
    have e := st h2 hk
    exact (ne h1 (e.trans hk)).trans e
  have M1 : Mem w' ma mn s.m := mem_keep B.mem fun ad e h0 hb => q.block _ hb (fun x => (B.far ad e h0).2.2 x.symm)
  refine ⟨cr hb, fzr hb, ⟨B.bg, by rw [hss hb]; rfl, mem_keep M1 fun ad e h0 _ => hso (by exact (B.far ad e h0).1), fun ad e h0 => ?_, B.bh, B.row.to fun k o f hk => two (by decide) (by decide) hk, owns_to ho fun k o f hk => ne (by decide) hk⟩, ?_⟩
  · refine ⟨(B.far ad e h0).1, (B.far ad e h0).2.1, ?_⟩
    rcases hv with h | h
    · rw [h]; exact (B.far ad e h0).2.2
    · rw [h]
      intro x
      have h1 := World.block_lt_of_cell? w _ (B.mem.cell ad e 0 h0)
      rw [add_block] at h1
      injection x with x
      omega
  · refine Below.setCell ((Below.refl base w).grown q B.base_le fun k e => (B.out.lt k e).1) (by exact B.bg) _
/-- The harts, of the first j, that have lost what they had reserved. -/
def loseU (k : Nat) (ss : List (Int × Int)) (hs : List Hv) (j : Nat) : List Hv := hs.mapIdx fun i h => if i < j ∧ i ≠ k then lose1 ss h else h
theorem loseU_get (k : Nat) (ss : List (Int × Int)) (hs : List Hv) (j i : Nat) : (loseU k ss hs j)[i]? = hs[i]?.map fun h => if i < j ∧ i ≠ k then lose1 ss h else h := by
  simp [loseU, List.getElem?_mapIdx]
theorem loseU_len (k : Nat) (ss : List (Int × Int)) (hs : List Hv) (j : Nat) : (loseU k ss hs j).length = hs.length := by simp [loseU]
theorem loseU_zero (k : Nat) (ss : List (Int × Int)) (hs : List Hv) : loseU k ss hs 0 = hs := by
  apply List.ext_getElem?
  intro i
  rw [loseU_get]
  cases hs[i]? <;> simp
theorem loseU_all (k : Nat) (ss : List (Int × Int)) (hs : List Hv) : loseU k ss hs hs.length = lose k ss hs := by
  apply List.ext_getElem?
  intro i
  rw [loseU_get, lose_get]
  cases h : hs[i]? with
  | none => rfl
  | some q =>
    have := (List.getElem?_eq_some_iff.1 h).1
    by_cases e : i = k
    · simp [e]
    · simp [e, this]
theorem loseU_succ (k : Nat) (ss : List (Int × Int)) {hs : List Hv} {j : Nat} {h : Hv} (hj : hs[j]? = some h) : loseU k ss hs (j + 1) = (loseU k ss hs j).set j (if j ≠ k then lose1 ss h else h) := by
  have hl := (List.getElem?_eq_some_iff.1 hj).1
  apply List.ext_getElem?
  intro i
  rw [loseU_get, List.getElem?_set, loseU_len, loseU_get]
  by_cases e : j = i
  · subst e
    rw [hj]
    simp [hl]
  · rw [if_neg e]
    congr 1
    funext q
    have : (i < j + 1 ∧ i ≠ k) ↔ (i < j ∧ i ≠ k) := by omega
    simp only [this]
end Go.Proofs.YtdiofidmlgliiaaDoor.Mc
