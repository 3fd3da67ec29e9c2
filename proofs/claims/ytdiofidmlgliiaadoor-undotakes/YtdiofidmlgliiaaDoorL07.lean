/-
  Ref4f1, Ref4f2, Ref4f3, Ref4f4: texts of ours that lie in one file.
-/
import Derived.Test.YtdiofidmlgliiaaDoorL06
/-
  What ferrybridgeref4.Step answers, of some instructions.
-/
namespace Go.Proofs.YtdiofidmlgliiaaDoor.Hr
open Go.ChangeShapes Go.WideShapes Go.ChangeAt Go.RowKit Mm Hh
set_option linter.unusedVariables false
set_option linter.unusedSimpArgs false

set_option maxHeartbeats 2000000 in
set_option maxRecDepth 100000 in
theorem rs_1 {h : Hv} {ao : Option Addr} {n cap : Nat} {l : List UInt8} {w : World} {x op rd : Int} {r1 r2 : Nat} {im : Int} (P : Pr h ao n cap l w x op rd r1 r2 im) (ho : op = 1) : RStep h ao n cap w ⟨(h.set rd.toNat (Wd.lo im)).go (Wd.lo (h.pc + 4)), l, [], []⟩ := by
  have P0 := P
  obtain ⟨o, M, hn, ok, ex, D, d0, d1, s1, t1, i0, i1⟩ := P
  subst ho
  refine (rsRest P0 _).2 ⟨?_⟩
  unfold rsRest
  dsimp only
  clear P0 D
  intro Z hz w5 J hJ HB HG K1 A1 K2 A2
  obtain ⟨HB5, HG5, HM, ⟨wp, wa, wb, wn⟩, SP, HS0, HO0, gpc, hB2⟩ := atIns o M HB HG hJ (r1 := r1) (r2 := r2) (im := im)
  clear HB HG
  have wX : W (Wd.lo im) := wn
  have wN : W (Wd.lo (h.pc + 4)) := .lo _
  obtain ⟨Ts, okS, HS1, HO1⟩ := setF (dv0_ok o ao n cap) d0 d1 wX
  obtain ⟨D2, HD2, HS2, HO2, HE2, HC2, HOK⟩ := finF okS wN
  generalize hD1 : dA ((dv0 h (.slice ao n cap)).setH ((dv0 h (.slice ao n cap)).h.set rd.toNat (Wd.lo im))) = D1 at *
  clear hD1
  generalize dA (dv0 h (.slice ao n cap)) = D0 at *
  generalize hA h = H at *
  generalize hth : (Wd.lo (rg h r1 + Wd.lo im)) = th at *
  generalize hpn : (Wd.lo (h.pc + Wd.lo im)) = pn at *
  generalize hp4 : (Wd.lo (h.pc + 4)) = p4 at *
  generalize hnn : (Wd.lo im) = nn at *
  generalize (rg h r1) = xa at *
  generalize (rg h r2) = xb at *
  generalize ldV l 13 h.pc = lx at *
  generalize h.pc = pc at *
  clear hth hpn hp4 hnn
  clear M ok o wp wa wb wn okS wX wN
  obtain ⟨kpc, kop, krd⟩ := insAt HB5.out gpc
  go_wp2_with (refine wpList_load_row rfl 81 _ rfl (w.heap.size + 1 + 1) rfl 81 D0 (0, 0) _ ?hl1 Tryd.underlying81 rfl (by rw [HS0.out]; exact iD) ?_; (case hl1 => exact HB5.out.t.d))
  refine (Ts.out _).mono ?_
  rintro e w6 ⟨rfl, G6⟩
  have HB6 : Hid (Bs w6 w.heap.size J H Z D0 #[.int .i64 1, .int .i64 rd, .int .i64 r1, .int .i64 r2, .int .i32 im]) := HB5.out.of G6
  have HB7 : Hid (Bs (w6.setRow (w.heap.size + 1 + 1) D1) w.heap.size J H Z D1 #[.int .i64 1, .int .i64 rd, .int .i64 r1, .int .i64 r2, .int .i32 im]) := HB6.out.row D1
  have HG7 : Hid (Gr w (w6.setRow (w.heap.size + 1 + 1) D1)) := gr_setRow (HG5.out.trans G6) (by omega) _
  have k7pc : (w6.setRow (w.heap.size + 1 + 1) D1).cell? ⟨w.heap.size, 32, none⟩ = some (.int .u32 pc) := (HB7.out.t.cellH 32).trans gpc
  clear G6 Ts HB5 HG5 kpc kop krd
  obtain ⟨y32, hy32⟩ := HC2.out
  have c32 : (w6.setRow (w.heap.size + 1 + 1) D1).cell? ⟨w.heap.size + 1 + 1, 32, none⟩ = some (.int .u32 y32) := (HB7.out.t.cellD 32).trans hy32
  have f32 : (w6.setRow (w.heap.size + 1 + 1) D1).frozen? ⟨w.heap.size + 1 + 1, 32, none⟩ = false := HB7.out.t.fz 32
  have HB8 : Hid (Bt ((w6.setRow (w.heap.size + 1 + 1) D1).setCell ⟨w.heap.size + 1 + 1, 32, none⟩ (.int .u32 p4)) w.heap.size H Z D2) := by
    have := HB7.out.t.set 32 (.int .u32 p4)
    rwa [HE2.out] at this
  have HG8 : Hid (Gr w ((w6.setRow (w.heap.size + 1 + 1) D1).setCell ⟨w.heap.size + 1 + 1, 32, none⟩ (.int .u32 p4))) := HG7.out.setCell (by simp; omega) _
  clear hy32 HC2
  go_wp2_with (first
    | (refine wpList_store_row rfl 81 _ _ rfl (w.heap.size + 1 + 1) D1 rfl rfl 81 D0 ?hs1 (by rw [HS1.out]; exact iD) (by rw [HS1.out]; exact HS0.out) HO1.out ?_; (case hs1 => exact HB6.out.t.d))
    | (refine wpList_load_row rfl 81 _ rfl (w.heap.size + 1 + 1) rfl 81 D2 (0, 0) _ ?hl8 Tryd.underlying81 rfl (by rw [HS2.out]; exact iD) ?_; (case hl8 => exact HB8.out.d))
    | (refine wpList_store_row rfl 81 _ _ rfl (w.heap.size + 1) D2 rfl rfl 81 Z ?hs8 (by rw [HS2.out]; exact iD) (by rw [HS2.out, hz]) HO2.out ?_; (case hs8 => exact HB8.out.z)))
  have GF : Gr w (((w6.setRow (w.heap.size + 1 + 1) D1).setCell ⟨w.heap.size + 1 + 1, 32, none⟩ (.int .u32 p4)).setRow (w.heap.size + 1) D2) := gr_setRow HG8.out (by omega) _
  refine bodyPost_ret (v := .agg D2) (results_cell_row rfl _ _ _ _ _ (0, 0) _ rfl (setRow_heap _ _ _ _ _ (0, 0) HB8.out.z) Tryd.underlying81 rfl (by rw [HS2.out]; exact iD)) rfl ⟨_, congrArg (fun z => Ending.returned (.agg z)) HD2.out.symm, ⟨HOK.out, rfl, ⟨ao, n, cap, rfl, HM.out.of GF, .inl rfl⟩, .inl ⟨rfl, rfl⟩, .inl ⟨rfl, rfl, rfl⟩⟩, GF⟩

set_option maxHeartbeats 2000000 in
set_option maxRecDepth 100000 in
theorem rs_3 {h : Hv} {ao : Option Addr} {n cap : Nat} {l : List UInt8} {w : World} {x op rd : Int} {r1 r2 : Nat} {im : Int} (P : Pr h ao n cap l w x op rd r1 r2 im) (ho : op = 3) : RStep h ao n cap w ⟨(h.set rd.toNat (Wd.lo (h.pc + 4))).go (Wd.lo (h.pc + Wd.lo im)), l, [], []⟩ := by
  have P0 := P
  obtain ⟨o, M, hn, ok, ex, D, d0, d1, s1, t1, i0, i1⟩ := P
  subst ho
  refine (rsRest P0 _).2 ⟨?_⟩
  unfold rsRest
  dsimp only
  clear P0 D
  intro Z hz w5 J hJ HB HG K1 A1 K2 A2
  obtain ⟨HB5, HG5, HM, ⟨wp, wa, wb, wn⟩, SP, HS0, HO0, gpc, hB2⟩ := atIns o M HB HG hJ (r1 := r1) (r2 := r2) (im := im)
  clear HB HG
  have wX : W (Wd.lo (h.pc + 4)) := .lo _
  have wN : W (Wd.lo (h.pc + Wd.lo im)) := .lo _
  obtain ⟨Ts, okS, HS1, HO1⟩ := setF (dv0_ok o ao n cap) d0 d1 wX
  obtain ⟨D2, HD2, HS2, HO2, HE2, HC2, HOK⟩ := finF okS wN
  generalize hD1 : dA ((dv0 h (.slice ao n cap)).setH ((dv0 h (.slice ao n cap)).h.set rd.toNat (Wd.lo (h.pc + 4)))) = D1 at *
  clear hD1
  generalize dA (dv0 h (.slice ao n cap)) = D0 at *
  generalize hA h = H at *
  generalize hth : (Wd.lo (rg h r1 + Wd.lo im)) = th at *
  generalize hpn : (Wd.lo (h.pc + Wd.lo im)) = pn at *
  generalize hp4 : (Wd.lo (h.pc + 4)) = p4 at *
  generalize hnn : (Wd.lo im) = nn at *
  generalize (rg h r1) = xa at *
  generalize (rg h r2) = xb at *
  generalize ldV l 13 h.pc = lx at *
  generalize h.pc = pc at *
  clear hth hpn hp4 hnn
  clear M ok o wp wa wb wn okS wX wN
  obtain ⟨kpc, kop, krd⟩ := insAt HB5.out gpc
  go_wp2_with (refine wpList_load_row rfl 81 _ rfl (w.heap.size + 1 + 1) rfl 81 D0 (0, 0) _ ?hl1 Tryd.underlying81 rfl (by rw [HS0.out]; exact iD) ?_; (case hl1 => exact HB5.out.t.d))
  refine (Ts.out _).mono ?_
  rintro e w6 ⟨rfl, G6⟩
  have HB6 : Hid (Bs w6 w.heap.size J H Z D0 #[.int .i64 3, .int .i64 rd, .int .i64 r1, .int .i64 r2, .int .i32 im]) := HB5.out.of G6
  have HB7 : Hid (Bs (w6.setRow (w.heap.size + 1 + 1) D1) w.heap.size J H Z D1 #[.int .i64 3, .int .i64 rd, .int .i64 r1, .int .i64 r2, .int .i32 im]) := HB6.out.row D1
  have HG7 : Hid (Gr w (w6.setRow (w.heap.size + 1 + 1) D1)) := gr_setRow (HG5.out.trans G6) (by omega) _
  have k7pc : (w6.setRow (w.heap.size + 1 + 1) D1).cell? ⟨w.heap.size, 32, none⟩ = some (.int .u32 pc) := (HB7.out.t.cellH 32).trans gpc
  clear G6 Ts HB5 HG5 kpc kop krd
  go_wp2_with (refine wpList_store_row rfl 81 _ _ rfl (w.heap.size + 1 + 1) D1 rfl rfl 81 D0 ?hs1 (by rw [HS1.out]; exact iD) (by rw [HS1.out]; exact HS0.out) HO1.out ?_; (case hs1 => exact HB6.out.t.d))
  refine (SP.out _).mono ?_
  rintro e w8 ⟨rfl, G8⟩
  have HB9 : Hid (Bs w8 w.heap.size J H Z D1 #[.int .i64 3, .int .i64 rd, .int .i64 r1, .int .i64 r2, .int .i32 im]) := HB7.out.of G8
  have HG9 : Hid (Gr w w8) := HG7.out.trans G8
  clear G8 SP HB6 HB7 HG7 k7pc
  obtain ⟨y32, hy32⟩ := HC2.out
  have c32 : (w8).cell? ⟨w.heap.size + 1 + 1, 32, none⟩ = some (.int .u32 y32) := (HB9.out.t.cellD 32).trans hy32
  have f32 : (w8).frozen? ⟨w.heap.size + 1 + 1, 32, none⟩ = false := HB9.out.t.fz 32
  have HB8 : Hid (Bt ((w8).setCell ⟨w.heap.size + 1 + 1, 32, none⟩ (.int .u32 pn)) w.heap.size H Z D2) := by
    have := HB9.out.t.set 32 (.int .u32 pn)
    rwa [HE2.out] at this
  have HG8 : Hid (Gr w ((w8).setCell ⟨w.heap.size + 1 + 1, 32, none⟩ (.int .u32 pn))) := HG9.out.setCell (by simp; omega) _
  clear hy32 HC2
  go_wp2_with (first
    | (refine wpList_load_row rfl 81 _ rfl (w.heap.size + 1 + 1) rfl 81 D2 (0, 0) _ ?hl8 Tryd.underlying81 rfl (by rw [HS2.out]; exact iD) ?_; (case hl8 => exact HB8.out.d))
    | (refine wpList_store_row rfl 81 _ _ rfl (w.heap.size + 1) D2 rfl rfl 81 Z ?hs8 (by rw [HS2.out]; exact iD) (by rw [HS2.out, hz]) HO2.out ?_; (case hs8 => exact HB8.out.z)))
  have GF : Gr w (((w8).setCell ⟨w.heap.size + 1 + 1, 32, none⟩ (.int .u32 pn)).setRow (w.heap.size + 1) D2) := gr_setRow HG8.out (by omega) _
  refine bodyPost_ret (v := .agg D2) (results_cell_row rfl _ _ _ _ _ (0, 0) _ rfl (setRow_heap _ _ _ _ _ (0, 0) HB8.out.z) Tryd.underlying81 rfl (by rw [HS2.out]; exact iD)) rfl ⟨_, congrArg (fun z => Ending.returned (.agg z)) HD2.out.symm, ⟨HOK.out, rfl, ⟨ao, n, cap, rfl, HM.out.of GF, .inl rfl⟩, .inl ⟨rfl, rfl⟩, .inl ⟨rfl, rfl, rfl⟩⟩, GF⟩

set_option maxHeartbeats 2000000 in
set_option maxRecDepth 100000 in
theorem rs_4 {h : Hv} {ao : Option Addr} {n cap : Nat} {l : List UInt8} {w : World} {x op rd : Int} {r1 r2 : Nat} {im : Int} (P : Pr h ao n cap l w x op rd r1 r2 im) (ho : op = 4) : RStep h ao n cap w ⟨(h.set rd.toNat (Wd.lo (h.pc + 4))).go (Wd.lo (rg h r1 + Wd.lo im) - Wd.lo (rg h r1 + Wd.lo im) % 2), l, [], []⟩ := by
  have P0 := P
  obtain ⟨o, M, hn, ok, ex, D, d0, d1, s1, t1, i0, i1⟩ := P
  subst ho
  refine (rsRest P0 _).2 ⟨?_⟩
  unfold rsRest
  dsimp only
  clear P0 D
  intro Z hz w5 J hJ HB HG K1 A1 K2 A2
  obtain ⟨HB5, HG5, HM, ⟨wp, wa, wb, wn⟩, SP, HS0, HO0, gpc, hB2⟩ := atIns o M HB HG hJ (r1 := r1) (r2 := r2) (im := im)
  clear HB HG
  have wX : W (Wd.lo (h.pc + 4)) := .lo _
  have wN : W (Wd.lo (rg h r1 + Wd.lo im) - Wd.lo (rg h r1 + Wd.lo im) % 2) := by have := Wd.lo_bd (rg h r1 + Wd.lo im); unfold W; omega
  have th0 := (Wd.lo_bd (rg h r1 + Wd.lo im)).1
  have th1 := (Wd.lo_bd (rg h r1 + Wd.lo im)).2
  obtain ⟨Ts, okS, HS1, HO1⟩ := setF (dv0_ok o ao n cap) d0 d1 wX
  obtain ⟨D2, HD2, HS2, HO2, HE2, HC2, HOK⟩ := finF okS wN
  generalize hD1 : dA ((dv0 h (.slice ao n cap)).setH ((dv0 h (.slice ao n cap)).h.set rd.toNat (Wd.lo (h.pc + 4)))) = D1 at *
  clear hD1
  generalize dA (dv0 h (.slice ao n cap)) = D0 at *
  generalize hA h = H at *
  generalize hth : (Wd.lo (rg h r1 + Wd.lo im)) = th at *
  generalize hpn : (Wd.lo (h.pc + Wd.lo im)) = pn at *
  generalize hp4 : (Wd.lo (h.pc + 4)) = p4 at *
  generalize hnn : (Wd.lo im) = nn at *
  generalize (rg h r1) = xa at *
  generalize (rg h r2) = xb at *
  generalize ldV l 13 h.pc = lx at *
  generalize h.pc = pc at *
  clear hth hpn hp4 hnn
  clear M ok o wp wa wb wn okS wX wN
  obtain ⟨kpc, kop, krd⟩ := insAt HB5.out gpc
  go_wp2_with (refine wpList_load_row rfl 81 _ rfl (w.heap.size + 1 + 1) rfl 81 D0 (0, 0) _ ?hl1 Tryd.underlying81 rfl (by rw [HS0.out]; exact iD) ?_; (case hl1 => exact HB5.out.t.d))
  refine (Ts.out _).mono ?_
  rintro e w6 ⟨rfl, G6⟩
  have HB6 : Hid (Bs w6 w.heap.size J H Z D0 #[.int .i64 4, .int .i64 rd, .int .i64 r1, .int .i64 r2, .int .i32 im]) := HB5.out.of G6
  have HB7 : Hid (Bs (w6.setRow (w.heap.size + 1 + 1) D1) w.heap.size J H Z D1 #[.int .i64 4, .int .i64 rd, .int .i64 r1, .int .i64 r2, .int .i32 im]) := HB6.out.row D1
  have HG7 : Hid (Gr w (w6.setRow (w.heap.size + 1 + 1) D1)) := gr_setRow (HG5.out.trans G6) (by omega) _
  have k7pc : (w6.setRow (w.heap.size + 1 + 1) D1).cell? ⟨w.heap.size, 32, none⟩ = some (.int .u32 pc) := (HB7.out.t.cellH 32).trans gpc
  clear G6 Ts HB5 HG5 kpc kop krd
  obtain ⟨y32, hy32⟩ := HC2.out
  have c32 : (w6.setRow (w.heap.size + 1 + 1) D1).cell? ⟨w.heap.size + 1 + 1, 32, none⟩ = some (.int .u32 y32) := (HB7.out.t.cellD 32).trans hy32
  have f32 : (w6.setRow (w.heap.size + 1 + 1) D1).frozen? ⟨w.heap.size + 1 + 1, 32, none⟩ = false := HB7.out.t.fz 32
  have HB8 : Hid (Bt ((w6.setRow (w.heap.size + 1 + 1) D1).setCell ⟨w.heap.size + 1 + 1, 32, none⟩ (.int .u32 (th - th % 2))) w.heap.size H Z D2) := by
    have := HB7.out.t.set 32 (.int .u32 (th - th % 2))
    rwa [HE2.out] at this
  have HG8 : Hid (Gr w ((w6.setRow (w.heap.size + 1 + 1) D1).setCell ⟨w.heap.size + 1 + 1, 32, none⟩ (.int .u32 (th - th % 2)))) := HG7.out.setCell (by simp; omega) _
  clear hy32 HC2
  go_wp2_with (first
    | (refine wpList_store_row rfl 81 _ _ rfl (w.heap.size + 1 + 1) D1 rfl rfl 81 D0 ?hs1 (by rw [HS1.out]; exact iD) (by rw [HS1.out]; exact HS0.out) HO1.out ?_; (case hs1 => exact HB6.out.t.d))
    | (refine wpList_load_row rfl 81 _ rfl (w.heap.size + 1 + 1) rfl 81 D2 (0, 0) _ ?hl8 Tryd.underlying81 rfl (by rw [HS2.out]; exact iD) ?_; (case hl8 => exact HB8.out.d))
    | (refine wpList_store_row rfl 81 _ _ rfl (w.heap.size + 1) D2 rfl rfl 81 Z ?hs8 (by rw [HS2.out]; exact iD) (by rw [HS2.out, hz]) HO2.out ?_; (case hs8 => exact HB8.out.z)))
  have GF : Gr w (((w6.setRow (w.heap.size + 1 + 1) D1).setCell ⟨w.heap.size + 1 + 1, 32, none⟩ (.int .u32 (th - th % 2))).setRow (w.heap.size + 1) D2) := gr_setRow HG8.out (by omega) _
  refine bodyPost_ret (v := .agg D2) (results_cell_row rfl _ _ _ _ _ (0, 0) _ rfl (setRow_heap _ _ _ _ _ (0, 0) HB8.out.z) Tryd.underlying81 rfl (by rw [HS2.out]; exact iD)) rfl ⟨_, congrArg (fun z => Ending.returned (.agg z)) HD2.out.symm, ⟨HOK.out, rfl, ⟨ao, n, cap, rfl, HM.out.of GF, .inl rfl⟩, .inl ⟨rfl, rfl⟩, .inl ⟨rfl, rfl, rfl⟩⟩, GF⟩

set_option maxHeartbeats 2000000 in
set_option maxRecDepth 100000 in
theorem rs_bry {h : Hv} {ao : Option Addr} {n cap : Nat} {l : List UInt8} {w : World} {x op rd : Int} {r1 r2 : Nat} {im : Int} (P : Pr h ao n cap l w x op rd r1 r2 im) (ho : 5 ≤ op ∧ op ≤ 10) (hb : Wd.holds op (rg h r1) (rg h r2) = true) : RStep h ao n cap w ⟨h.go (Wd.lo (h.pc + Wd.lo im)), l, [], []⟩ := by
  have P0 := P
  obtain ⟨o, M, hn, ok, ex, D, d0, d1, s1, t1, i0, i1⟩ := P
  refine (rsRest P0 _).2 ⟨?_⟩
  unfold rsRest
  dsimp only
  clear P0 D
  intro Z hz w5 J hJ HB HG K1 A1 K2 A2
  obtain ⟨HB5, HG5, HM, ⟨wp, wa, wb, wn⟩, SP, HS0, HO0, gpc, hB2⟩ := atIns o M HB HG hJ (r1 := r1) (r2 := r2) (im := im)
  clear HB HG
  have wN : W (Wd.lo (h.pc + Wd.lo im)) := .lo _
  have Ho : Hid (∀ W : World, Calls Tryd.prog 64 #[.int .i64 op, .int .u32 (rg h r1), .int .u32 (rg h r2)] W fun e w' => e = .returned (.bool true) ∧ Gr W w') := fun W => by
    have := Rw.holds_any op (rg h r1) (rg h r2) W wa.1 wa.2 wb.1 wb.2
    rw [hb] at this
    exact this.mono fun e w' h => ⟨h.1, by rw [h.2]; exact Gr.refl _⟩
  obtain ⟨D2, HD2, HS2, HO2, HE2, HC2, HOK⟩ := finF (dv0_ok o ao n cap) wN
  clear hb
  have b1 : (op == 1) = false := by simp; omega
  have b2 : (op == 2) = false := by simp; omega
  have b3 : (op == 3) = false := by simp; omega
  have b4 : (op == 4) = false := by simp; omega
  generalize dA (dv0 h (.slice ao n cap)) = D0 at *
  generalize hA h = H at *
  generalize hth : (Wd.lo (rg h r1 + Wd.lo im)) = th at *
  generalize hpn : (Wd.lo (h.pc + Wd.lo im)) = pn at *
  generalize hp4 : (Wd.lo (h.pc + 4)) = p4 at *
  generalize hnn : (Wd.lo im) = nn at *
  generalize (rg h r1) = xa at *
  generalize (rg h r2) = xb at *
  generalize ldV l 13 h.pc = lx at *
  generalize h.pc = pc at *
  clear hth hpn hp4 hnn
  clear M ok o wp wa wb wn wN
  obtain ⟨kpc, kop, krd⟩ := insAt HB5.out gpc
  have hop1 : 5 ≤ op := ho.1
  have hop2 : op ≤ 10 := ho.2
  go_wp2_with fail
  refine (Ho.out _).mono ?_
  rintro e w7 ⟨rfl, G7⟩
  have HB7 : Hid (Bs w7 w.heap.size J H Z D0 #[.int .i64 op, .int .i64 rd, .int .i64 r1, .int .i64 r2, .int .i32 im]) := HB5.out.of G7
  have HG7 : Hid (Gr w w7) := HG5.out.trans G7
  have k7pc : w7.cell? ⟨w.heap.size, 32, none⟩ = some (.int .u32 pc) := (HB7.out.t.cellH 32).trans gpc
  clear G7 Ho kpc kop krd HB5 HG5
  go_wp2_with fail
  refine (SP.out _).mono ?_
  rintro e w8 ⟨rfl, G8⟩
  have HB9 : Hid (Bs w8 w.heap.size J H Z D0 #[.int .i64 op, .int .i64 rd, .int .i64 r1, .int .i64 r2, .int .i32 im]) := HB7.out.of G8
  have HG9 : Hid (Gr w w8) := HG7.out.trans G8
  clear G8 SP HB7 HG7 k7pc
  obtain ⟨y32, hy32⟩ := HC2.out
  have c32 : (w8).cell? ⟨w.heap.size + 1 + 1, 32, none⟩ = some (.int .u32 y32) := (HB9.out.t.cellD 32).trans hy32
  have f32 : (w8).frozen? ⟨w.heap.size + 1 + 1, 32, none⟩ = false := HB9.out.t.fz 32
  have HB8 : Hid (Bt ((w8).setCell ⟨w.heap.size + 1 + 1, 32, none⟩ (.int .u32 pn)) w.heap.size H Z D2) := by
    have := HB9.out.t.set 32 (.int .u32 pn)
    rwa [HE2.out] at this
  have HG8 : Hid (Gr w ((w8).setCell ⟨w.heap.size + 1 + 1, 32, none⟩ (.int .u32 pn))) := HG9.out.setCell (by simp; omega) _
  clear hy32 HC2
  go_wp2_with (first
    | (refine wpList_load_row rfl 81 _ rfl (w.heap.size + 1 + 1) rfl 81 D2 (0, 0) _ ?hl8 Tryd.underlying81 rfl (by rw [HS2.out]; exact iD) ?_; (case hl8 => exact HB8.out.d))
    | (refine wpList_store_row rfl 81 _ _ rfl (w.heap.size + 1) D2 rfl rfl 81 Z ?hs8 (by rw [HS2.out]; exact iD) (by rw [HS2.out, hz]) HO2.out ?_; (case hs8 => exact HB8.out.z)))
  have GF : Gr w (((w8).setCell ⟨w.heap.size + 1 + 1, 32, none⟩ (.int .u32 pn)).setRow (w.heap.size + 1) D2) := gr_setRow HG8.out (by omega) _
  refine bodyPost_ret (v := .agg D2) (results_cell_row rfl _ _ _ _ _ (0, 0) _ rfl (setRow_heap _ _ _ _ _ (0, 0) HB8.out.z) Tryd.underlying81 rfl (by rw [HS2.out]; exact iD)) rfl ⟨_, congrArg (fun z => Ending.returned (.agg z)) HD2.out.symm, ⟨HOK.out, rfl, ⟨ao, n, cap, rfl, HM.out.of GF, .inl rfl⟩, .inl ⟨rfl, rfl⟩, .inl ⟨rfl, rfl, rfl⟩⟩, GF⟩

set_option maxHeartbeats 2000000 in
set_option maxRecDepth 100000 in
theorem rs_brn {h : Hv} {ao : Option Addr} {n cap : Nat} {l : List UInt8} {w : World} {x op rd : Int} {r1 r2 : Nat} {im : Int} (P : Pr h ao n cap l w x op rd r1 r2 im) (ho : 5 ≤ op ∧ op ≤ 10) (hb : Wd.holds op (rg h r1) (rg h r2) = false) : RStep h ao n cap w ⟨h.go (Wd.lo (h.pc + 4)), l, [], []⟩ := by
  have P0 := P
  obtain ⟨o, M, hn, ok, ex, D, d0, d1, s1, t1, i0, i1⟩ := P
  refine (rsRest P0 _).2 ⟨?_⟩
  unfold rsRest
  dsimp only
  clear P0 D
  intro Z hz w5 J hJ HB HG K1 A1 K2 A2
  obtain ⟨HB5, HG5, HM, ⟨wp, wa, wb, wn⟩, SP, HS0, HO0, gpc, hB2⟩ := atIns o M HB HG hJ (r1 := r1) (r2 := r2) (im := im)
  clear HB HG
  have wN : W (Wd.lo (h.pc + 4)) := .lo _
  have Ho : Hid (∀ W : World, Calls Tryd.prog 64 #[.int .i64 op, .int .u32 (rg h r1), .int .u32 (rg h r2)] W fun e w' => e = .returned (.bool false) ∧ Gr W w') := fun W => by
    have := Rw.holds_any op (rg h r1) (rg h r2) W wa.1 wa.2 wb.1 wb.2
    rw [hb] at this
    exact this.mono fun e w' h => ⟨h.1, by rw [h.2]; exact Gr.refl _⟩
  obtain ⟨D2, HD2, HS2, HO2, HE2, HC2, HOK⟩ := finF (dv0_ok o ao n cap) wN
  clear hb
  have b1 : (op == 1) = false := by simp; omega
  have b2 : (op == 2) = false := by simp; omega
  have b3 : (op == 3) = false := by simp; omega
  have b4 : (op == 4) = false := by simp; omega
  generalize dA (dv0 h (.slice ao n cap)) = D0 at *
  generalize hA h = H at *
  generalize hth : (Wd.lo (rg h r1 + Wd.lo im)) = th at *
  generalize hpn : (Wd.lo (h.pc + Wd.lo im)) = pn at *
  generalize hp4 : (Wd.lo (h.pc + 4)) = p4 at *
  generalize hnn : (Wd.lo im) = nn at *
  generalize (rg h r1) = xa at *
  generalize (rg h r2) = xb at *
  generalize ldV l 13 h.pc = lx at *
  generalize h.pc = pc at *
  clear hth hpn hp4 hnn
  clear M ok o wp wa wb wn wN
  obtain ⟨kpc, kop, krd⟩ := insAt HB5.out gpc
  have hop1 : 5 ≤ op := ho.1
  have hop2 : op ≤ 10 := ho.2
  go_wp2_with fail
  refine (Ho.out _).mono ?_
  rintro e w7 ⟨rfl, G7⟩
  have HB7 : Hid (Bs w7 w.heap.size J H Z D0 #[.int .i64 op, .int .i64 rd, .int .i64 r1, .int .i64 r2, .int .i32 im]) := HB5.out.of G7
  have HG7 : Hid (Gr w w7) := HG5.out.trans G7
  have k7pc : w7.cell? ⟨w.heap.size, 32, none⟩ = some (.int .u32 pc) := (HB7.out.t.cellH 32).trans gpc
  clear G7 Ho kpc kop krd HB5 HG5
  obtain ⟨y32, hy32⟩ := HC2.out
  have c32 : (w7).cell? ⟨w.heap.size + 1 + 1, 32, none⟩ = some (.int .u32 y32) := (HB7.out.t.cellD 32).trans hy32
  have f32 : (w7).frozen? ⟨w.heap.size + 1 + 1, 32, none⟩ = false := HB7.out.t.fz 32
  have HB8 : Hid (Bt ((w7).setCell ⟨w.heap.size + 1 + 1, 32, none⟩ (.int .u32 p4)) w.heap.size H Z D2) := by
    have := HB7.out.t.set 32 (.int .u32 p4)
    rwa [HE2.out] at this
  have HG8 : Hid (Gr w ((w7).setCell ⟨w.heap.size + 1 + 1, 32, none⟩ (.int .u32 p4))) := HG7.out.setCell (by simp; omega) _
  clear hy32 HC2
  go_wp2_with (first
    | (refine wpList_load_row rfl 81 _ rfl (w.heap.size + 1 + 1) rfl 81 D2 (0, 0) _ ?hl8 Tryd.underlying81 rfl (by rw [HS2.out]; exact iD) ?_; (case hl8 => exact HB8.out.d))
    | (refine wpList_store_row rfl 81 _ _ rfl (w.heap.size + 1) D2 rfl rfl 81 Z ?hs8 (by rw [HS2.out]; exact iD) (by rw [HS2.out, hz]) HO2.out ?_; (case hs8 => exact HB8.out.z)))
  have GF : Gr w (((w7).setCell ⟨w.heap.size + 1 + 1, 32, none⟩ (.int .u32 p4)).setRow (w.heap.size + 1) D2) := gr_setRow HG8.out (by omega) _
  refine bodyPost_ret (v := .agg D2) (results_cell_row rfl _ _ _ _ _ (0, 0) _ rfl (setRow_heap _ _ _ _ _ (0, 0) HB8.out.z) Tryd.underlying81 rfl (by rw [HS2.out]; exact iD)) rfl ⟨_, congrArg (fun z => Ending.returned (.agg z)) HD2.out.symm, ⟨HOK.out, rfl, ⟨ao, n, cap, rfl, HM.out.of GF, .inl rfl⟩, .inl ⟨rfl, rfl⟩, .inl ⟨rfl, rfl, rfl⟩⟩, GF⟩

end Go.Proofs.YtdiofidmlgliiaaDoor.Hr
/-
  What ferrybridgeref4.Step answers, of some instructions.
-/
namespace Go.Proofs.YtdiofidmlgliiaaDoor.Hr
open Go.ChangeShapes Go.WideShapes Go.ChangeAt Go.RowKit Mm Hh
set_option linter.unusedVariables false
set_option linter.unusedSimpArgs false

set_option maxHeartbeats 2000000 in
set_option maxRecDepth 100000 in
theorem rs_2 {h : Hv} {ao : Option Addr} {n cap : Nat} {l : List UInt8} {w : World} {x op rd : Int} {r1 r2 : Nat} {im : Int} (P : Pr h ao n cap l w x op rd r1 r2 im) (ho : op = 2) : RStep h ao n cap w ⟨(h.set rd.toNat (Wd.lo (h.pc + Wd.lo im))).go (Wd.lo (h.pc + 4)), l, [], []⟩ := by
  have P0 := P
  obtain ⟨o, M, hn, ok, ex, D, d0, d1, s1, t1, i0, i1⟩ := P
  subst ho
  refine (rsRest P0 _).2 ⟨?_⟩
  unfold rsRest
  dsimp only
  clear P0 D
  intro Z hz w5 J hJ HB HG K1 A1 K2 A2
  obtain ⟨HB5, HG5, HM, ⟨wp, wa, wb, wn⟩, SP, HS0, HO0, gpc, hB2⟩ := atIns o M HB HG hJ (r1 := r1) (r2 := r2) (im := im)
  clear HB HG
  have wX : W (Wd.lo (h.pc + Wd.lo im)) := .lo _
  have wN : W (Wd.lo (h.pc + 4)) := .lo _
  have SPq : Hid (∀ W : World, Calls Tryd.prog 62 #[.int .u32 h.pc, .int .u32 (Wd.lo im)] W fun e w' => e = .returned (.int .u32 (Wd.lo (h.pc + Wd.lo im))) ∧ w' = W) := fun W => sum_any _ _ W wp.1 wp.2 wn.1 wn.2
  clear SP
  obtain ⟨Ts, okS, HS1, HO1⟩ := setF (dv0_ok o ao n cap) d0 d1 wX
  obtain ⟨D2, HD2, HS2, HO2, HE2, HC2, HOK⟩ := finF okS wN
  generalize hD1 : dA ((dv0 h (.slice ao n cap)).setH ((dv0 h (.slice ao n cap)).h.set rd.toNat (Wd.lo (h.pc + Wd.lo im)))) = D1 at *
  clear hD1
  generalize dA (dv0 h (.slice ao n cap)) = D0 at *
  generalize hA h = H at *
  generalize hth : (Wd.lo (rg h r1 + Wd.lo im)) = th at *
  generalize hpn : (Wd.lo (h.pc + Wd.lo im)) = pn at *
  generalize hp4 : (Wd.lo (h.pc + 4)) = p4 at *
  generalize hnn : (Wd.lo im) = nn at *
  generalize (rg h r1) = xa at *
  generalize (rg h r2) = xb at *
  generalize ldV l 13 h.pc = lx at *
  generalize h.pc = pc at *
  clear hth hpn hp4 hnn
  clear M ok o wp wa wb wn okS wX wN
  obtain ⟨kpc, kop, krd⟩ := insAt HB5.out gpc
  go_wp2_with fail
  apply rshare
  · intro CONT
    refine wp_region_any (by kernel_rfl) ?_
    change wpAny _ _ _ _ _ _ _ (World.drew _)
    refine wpAny_take (i := 1) (v := .pointer (some ⟨J, 1, none⟩)) rfl (by kernel_rfl) (by kernel_rfl) (by kernel_rfl) (fun _ _ _ h => h) (Or.inl ⟨by rfl, fun w => by go_simp⟩) ?_
    refine wpAny_take (i := 3) (v := .pointer (some ⟨w.heap.size, 32, none⟩)) rfl (by kernel_rfl) (by kernel_rfl) (by kernel_rfl) (fun _ _ _ h => h) (Or.inl ⟨by rfl, fun w => by go_simp⟩) ?_
    refine wpAny_take (i := 5) (v := .int .u32 nn) rfl (by kernel_rfl) (by kernel_rfl) (by kernel_rfl) (fun _ _ _ h => h) (Or.inl ⟨by rfl, fun w => by go_simp⟩) ?_
    refine wpAny_ready (rs := [0, 2, 4]) (by kernel_rfl) (by simp) ?_
    refine AllReady.cons rfl (fun K hK => ?_) (AllReady.cons rfl (fun K hK => ?_) (AllReady.cons rfl (fun K hK => ?_) AllReady.nil))
    · refine Hc.step_load_row rfl 81 _ rfl (w.heap.size + 1 + 1) (by simp [Act.eval, Act.put]) 81 D0 (0, 0) _ HB5.out.t.d Tryd.underlying81 rfl (by rw [HS0.out]; exact iD) ?_
      refine hK _ _ ?_
      clear hK K
      refine wpAny_ready (rs := [2, 4]) (by kernel_rfl) (by simp) ?_
      refine AllReady.cons rfl (fun K hK => ?_) (AllReady.cons rfl (fun K hK => ?_) AllReady.nil)
      · go_simp
        refine hK _ _ ?_
        clear hK K
        refine wpAny_ready (rs := [4]) (by kernel_rfl) (by simp) ?_
        refine AllReady.cons rfl (fun K hK => ?_) AllReady.nil
        go_simp
        refine hK _ _ ?_
        clear hK K
        refine wpAny_ready (rs := [6]) (by kernel_rfl) (by simp) ?_
        refine AllReady.cons rfl (fun K hK => ?_) AllReady.nil
        go_simp
        refine (SPq.out _).mono ?_
        rintro e w9 ⟨rfl, rfl⟩
        simp only []
        refine hK _ _ ?_
        clear hK K
        exact CONT.out
      · go_simp
        refine hK _ _ ?_
        clear hK K
        refine wpAny_ready (rs := [2, 6]) (by kernel_rfl) (by simp) ?_
        refine AllReady.cons rfl (fun K hK => ?_) (AllReady.cons rfl (fun K hK => ?_) AllReady.nil)
        · go_simp
          refine hK _ _ ?_
          clear hK K
          refine wpAny_ready (rs := [6]) (by kernel_rfl) (by simp) ?_
          refine AllReady.cons rfl (fun K hK => ?_) AllReady.nil
          go_simp
          refine (SPq.out _).mono ?_
          rintro e w9 ⟨rfl, rfl⟩
          simp only []
          refine hK _ _ ?_
          clear hK K
          exact CONT.out
        · go_simp
          refine (SPq.out _).mono ?_
          rintro e w9 ⟨rfl, rfl⟩
          simp only []
          refine hK _ _ ?_
          clear hK K
          refine wpAny_ready (rs := [2]) (by kernel_rfl) (by simp) ?_
          refine AllReady.cons rfl (fun K hK => ?_) AllReady.nil
          go_simp
          refine hK _ _ ?_
          clear hK K
          exact CONT.out
    · go_simp
      refine hK _ _ ?_
      clear hK K
      refine wpAny_ready (rs := [0, 4]) (by kernel_rfl) (by simp) ?_
      refine AllReady.cons rfl (fun K hK => ?_) (AllReady.cons rfl (fun K hK => ?_) AllReady.nil)
      · refine Hc.step_load_row rfl 81 _ rfl (w.heap.size + 1 + 1) (by simp [Act.eval, Act.put]) 81 D0 (0, 0) _ HB5.out.t.d Tryd.underlying81 rfl (by rw [HS0.out]; exact iD) ?_
        refine hK _ _ ?_
        clear hK K
        refine wpAny_ready (rs := [4]) (by kernel_rfl) (by simp) ?_
        refine AllReady.cons rfl (fun K hK => ?_) AllReady.nil
        go_simp
        refine hK _ _ ?_
        clear hK K
        refine wpAny_ready (rs := [6]) (by kernel_rfl) (by simp) ?_
        refine AllReady.cons rfl (fun K hK => ?_) AllReady.nil
        go_simp
        refine (SPq.out _).mono ?_
        rintro e w9 ⟨rfl, rfl⟩
        simp only []
        refine hK _ _ ?_
        clear hK K
        exact CONT.out
      · go_simp
        refine hK _ _ ?_
        clear hK K
        refine wpAny_ready (rs := [0, 6]) (by kernel_rfl) (by simp) ?_
        refine AllReady.cons rfl (fun K hK => ?_) (AllReady.cons rfl (fun K hK => ?_) AllReady.nil)
        · refine Hc.step_load_row rfl 81 _ rfl (w.heap.size + 1 + 1) (by simp [Act.eval, Act.put]) 81 D0 (0, 0) _ HB5.out.t.d Tryd.underlying81 rfl (by rw [HS0.out]; exact iD) ?_
          refine hK _ _ ?_
          clear hK K
          refine wpAny_ready (rs := [6]) (by kernel_rfl) (by simp) ?_
          refine AllReady.cons rfl (fun K hK => ?_) AllReady.nil
          go_simp
          refine (SPq.out _).mono ?_
          rintro e w9 ⟨rfl, rfl⟩
          simp only []
          refine hK _ _ ?_
          clear hK K
          exact CONT.out
        · go_simp
          refine (SPq.out _).mono ?_
          rintro e w9 ⟨rfl, rfl⟩
          simp only []
          refine hK _ _ ?_
          clear hK K
          refine wpAny_ready (rs := [0]) (by kernel_rfl) (by simp) ?_
          refine AllReady.cons rfl (fun K hK => ?_) AllReady.nil
          refine Hc.step_load_row rfl 81 _ rfl (w.heap.size + 1 + 1) (by simp [Act.eval, Act.put]) 81 D0 (0, 0) _ HB5.out.t.d Tryd.underlying81 rfl (by rw [HS0.out]; exact iD) ?_
          refine hK _ _ ?_
          clear hK K
          exact CONT.out
    · go_simp
      refine hK _ _ ?_
      clear hK K
      refine wpAny_ready (rs := [0, 2, 6]) (by kernel_rfl) (by simp) ?_
      refine AllReady.cons rfl (fun K hK => ?_) (AllReady.cons rfl (fun K hK => ?_) (AllReady.cons rfl (fun K hK => ?_) AllReady.nil))
      · refine Hc.step_load_row rfl 81 _ rfl (w.heap.size + 1 + 1) (by simp [Act.eval, Act.put]) 81 D0 (0, 0) _ HB5.out.t.d Tryd.underlying81 rfl (by rw [HS0.out]; exact iD) ?_
        refine hK _ _ ?_
        clear hK K
        refine wpAny_ready (rs := [2, 6]) (by kernel_rfl) (by simp) ?_
        refine AllReady.cons rfl (fun K hK => ?_) (AllReady.cons rfl (fun K hK => ?_) AllReady.nil)
        · go_simp
          refine hK _ _ ?_
          clear hK K
          refine wpAny_ready (rs := [6]) (by kernel_rfl) (by simp) ?_
          refine AllReady.cons rfl (fun K hK => ?_) AllReady.nil
          go_simp
          refine (SPq.out _).mono ?_
          rintro e w9 ⟨rfl, rfl⟩
          simp only []
          refine hK _ _ ?_
          clear hK K
          exact CONT.out
        · go_simp
          refine (SPq.out _).mono ?_
          rintro e w9 ⟨rfl, rfl⟩
          simp only []
          refine hK _ _ ?_
          clear hK K
          refine wpAny_ready (rs := [2]) (by kernel_rfl) (by simp) ?_
          refine AllReady.cons rfl (fun K hK => ?_) AllReady.nil
          go_simp
          refine hK _ _ ?_
          clear hK K
          exact CONT.out
      · go_simp
        refine hK _ _ ?_
        clear hK K
        refine wpAny_ready (rs := [0, 6]) (by kernel_rfl) (by simp) ?_
        refine AllReady.cons rfl (fun K hK => ?_) (AllReady.cons rfl (fun K hK => ?_) AllReady.nil)
        · refine Hc.step_load_row rfl 81 _ rfl (w.heap.size + 1 + 1) (by simp [Act.eval, Act.put]) 81 D0 (0, 0) _ HB5.out.t.d Tryd.underlying81 rfl (by rw [HS0.out]; exact iD) ?_
          refine hK _ _ ?_
          clear hK K
          refine wpAny_ready (rs := [6]) (by kernel_rfl) (by simp) ?_
          refine AllReady.cons rfl (fun K hK => ?_) AllReady.nil
          go_simp
          refine (SPq.out _).mono ?_
          rintro e w9 ⟨rfl, rfl⟩
          simp only []
          refine hK _ _ ?_
          clear hK K
          exact CONT.out
        · go_simp
          refine (SPq.out _).mono ?_
          rintro e w9 ⟨rfl, rfl⟩
          simp only []
          refine hK _ _ ?_
          clear hK K
          refine wpAny_ready (rs := [0]) (by kernel_rfl) (by simp) ?_
          refine AllReady.cons rfl (fun K hK => ?_) AllReady.nil
          refine Hc.step_load_row rfl 81 _ rfl (w.heap.size + 1 + 1) (by simp [Act.eval, Act.put]) 81 D0 (0, 0) _ HB5.out.t.d Tryd.underlying81 rfl (by rw [HS0.out]; exact iD) ?_
          refine hK _ _ ?_
          clear hK K
          exact CONT.out
      · go_simp
        refine (SPq.out _).mono ?_
        rintro e w9 ⟨rfl, rfl⟩
        simp only []
        refine hK _ _ ?_
        clear hK K
        refine wpAny_ready (rs := [0, 2]) (by kernel_rfl) (by simp) ?_
        refine AllReady.cons rfl (fun K hK => ?_) (AllReady.cons rfl (fun K hK => ?_) AllReady.nil)
        · refine Hc.step_load_row rfl 81 _ rfl (w.heap.size + 1 + 1) (by simp [Act.eval, Act.put]) 81 D0 (0, 0) _ HB5.out.t.d Tryd.underlying81 rfl (by rw [HS0.out]; exact iD) ?_
          refine hK _ _ ?_
          clear hK K
          refine wpAny_ready (rs := [2]) (by kernel_rfl) (by simp) ?_
          refine AllReady.cons rfl (fun K hK => ?_) AllReady.nil
          go_simp
          refine hK _ _ ?_
          clear hK K
          exact CONT.out
        · go_simp
          refine hK _ _ ?_
          clear hK K
          refine wpAny_ready (rs := [0]) (by kernel_rfl) (by simp) ?_
          refine AllReady.cons rfl (fun K hK => ?_) AllReady.nil
          refine Hc.step_load_row rfl 81 _ rfl (w.heap.size + 1 + 1) (by simp [Act.eval, Act.put]) 81 D0 (0, 0) _ HB5.out.t.d Tryd.underlying81 rfl (by rw [HS0.out]; exact iD) ?_
          refine hK _ _ ?_
          clear hK K
          exact CONT.out
  refine wpAny_ready (rs := [7]) (by kernel_rfl) (by simp) ?_
  refine AllReady.cons rfl (fun K hK => ?_) AllReady.nil
  go_simp
  refine (Ts.out _).mono ?_
  rintro e w6 ⟨rfl, G6⟩
  simp only []
  refine hK _ _ ?_
  clear hK K
  have HB6 : Hid (Bs w6 w.heap.size J H Z D0 #[.int .i64 2, .int .i64 rd, .int .i64 r1, .int .i64 r2, .int .i32 im]) := HB5.out.of ((Gr.refl _).drew.trans G6)
  have HB7 : Hid (Bs (w6.setRow (w.heap.size + 1 + 1) D1) w.heap.size J H Z D1 #[.int .i64 2, .int .i64 rd, .int .i64 r1, .int .i64 r2, .int .i32 im]) := HB6.out.row D1
  have HG7 : Hid (Gr w (w6.setRow (w.heap.size + 1 + 1) D1)) := gr_setRow (HG5.out.trans ((Gr.refl _).drew.trans G6)) (by omega) _
  have k7pc : (w6.setRow (w.heap.size + 1 + 1) D1).cell? ⟨w.heap.size, 32, none⟩ = some (.int .u32 pc) := (HB7.out.t.cellH 32).trans gpc
  clear G6 Ts HB5 HG5 kpc kop krd

  refine wpAny_ready (rs := [8]) (by kernel_rfl) (by simp) ?_
  refine AllReady.cons rfl (fun K hK => ?_) AllReady.nil
  refine Hc.step_store rfl 81 (.tmp 5) (.tmp 82) rfl (w.heap.size + 1 + 1) D1 (by simp [Act.eval, Act.put]) (by simp [Act.eval, Act.put]) 81 D0 HB6.out.t.d (by rw [HS1.out]; exact iD) (by rw [HS1.out]; exact HS0.out) HO1.out ?_
  refine hK _ _ ?_
  clear hK K
  refine wpAny_done (by kernel_rfl) ?_ _
  obtain ⟨y32, hy32⟩ := HC2.out
  have c32 : (w6.setRow (w.heap.size + 1 + 1) D1).cell? ⟨w.heap.size + 1 + 1, 32, none⟩ = some (.int .u32 y32) := (HB7.out.t.cellD 32).trans hy32
  have f32 : (w6.setRow (w.heap.size + 1 + 1) D1).frozen? ⟨w.heap.size + 1 + 1, 32, none⟩ = false := HB7.out.t.fz 32
  have HB8 : Hid (Bt ((w6.setRow (w.heap.size + 1 + 1) D1).setCell ⟨w.heap.size + 1 + 1, 32, none⟩ (.int .u32 p4)) w.heap.size H Z D2) := by
    have := HB7.out.t.set 32 (.int .u32 p4)
    rwa [HE2.out] at this
  have HG8 : Hid (Gr w ((w6.setRow (w.heap.size + 1 + 1) D1).setCell ⟨w.heap.size + 1 + 1, 32, none⟩ (.int .u32 p4))) := HG7.out.setCell (by simp; omega) _
  clear hy32 HC2
  go_wp2_with (first
    | (refine wpList_load_row rfl 81 _ rfl (w.heap.size + 1 + 1) rfl 81 D2 (0, 0) _ ?hl8 Tryd.underlying81 rfl (by rw [HS2.out]; exact iD) ?_; (case hl8 => exact HB8.out.d))
    | (refine wpList_store_row rfl 81 _ _ rfl (w.heap.size + 1) D2 rfl rfl 81 Z ?hs8 (by rw [HS2.out]; exact iD) (by rw [HS2.out, hz]) HO2.out ?_; (case hs8 => exact HB8.out.z)))
  have GF : Gr w (((w6.setRow (w.heap.size + 1 + 1) D1).setCell ⟨w.heap.size + 1 + 1, 32, none⟩ (.int .u32 p4)).setRow (w.heap.size + 1) D2) := gr_setRow HG8.out (by omega) _
  refine bodyPost_ret (v := .agg D2) (results_cell_row rfl _ _ _ _ _ (0, 0) _ rfl (setRow_heap _ _ _ _ _ (0, 0) HB8.out.z) Tryd.underlying81 rfl (by rw [HS2.out]; exact iD)) rfl ⟨_, congrArg (fun z => Ending.returned (.agg z)) HD2.out.symm, ⟨HOK.out, rfl, ⟨ao, n, cap, rfl, HM.out.of GF, .inl rfl⟩, .inl ⟨rfl, rfl⟩, .inl ⟨rfl, rfl, rfl⟩⟩, GF⟩

end Go.Proofs.YtdiofidmlgliiaaDoor.Hr
/-
  What ferrybridgeref4.Step answers, of some instructions.
-/
namespace Go.Proofs.YtdiofidmlgliiaaDoor.Hr
open Go.ChangeShapes Go.WideShapes Go.ChangeAt Go.RowKit Mm Hh
set_option linter.unusedVariables false
set_option linter.unusedSimpArgs false

variable {h : Hv} {ao : Option Addr} {n cap r1 r2 : Nat} {l : List UInt8} {w : World} {x op rd im : Int}
set_option maxHeartbeats 2000000 in
set_option maxRecDepth 100000 in
theorem rs_fence {h : Hv} {ao : Option Addr} {n cap : Nat} {l : List UInt8} {w : World} {x op rd : Int} {r1 r2 : Nat} {im : Int} (P : Pr h ao n cap l w x op rd r1 r2 im) (ho : op = 57) : RStep h ao n cap w ⟨h.go (Wd.lo (h.pc + 4)), l, [], []⟩ := by
  have P0 := P
  obtain ⟨o, M, hn, ok, ex, D, d0, d1, s1, t1, i0, i1⟩ := P
  subst ho
  refine (rsRest P0 _).2 ⟨?_⟩
  unfold rsRest
  dsimp only
  clear P0 D
  intro Z hz w5 J hJ HB HG K1 A1 K2 A2
  obtain ⟨HB5, HG5, HM, ⟨wp, wa, wb, wn⟩, SP, HS0, HO0, gpc, hB2⟩ := atIns o M HB HG hJ (r1 := r1) (r2 := r2) (im := im)
  clear HB HG
  have wN : W (Wd.lo (h.pc + 4)) := .lo _
  obtain ⟨D2, HD2, HS2, HO2, HE2, HC2, HOK⟩ := finF (dv0_ok o ao n cap) wN
  generalize dA (dv0 h (.slice ao n cap)) = D0 at *
  generalize hA h = H at *
  generalize hth : (Wd.lo (rg h r1 + Wd.lo im)) = th at *
  generalize hpn : (Wd.lo (h.pc + Wd.lo im)) = pn at *
  generalize hp4 : (Wd.lo (h.pc + 4)) = p4 at *
  generalize hnn : (Wd.lo im) = nn at *
  generalize (rg h r1) = xa at *
  generalize (rg h r2) = xb at *
  generalize ldV l 13 h.pc = lx at *
  generalize h.pc = pc at *
  clear hth hpn hp4 hnn
  clear M ok o wp wa wb wn wN
  obtain ⟨kpc, kop, krd⟩ := insAt HB5.out gpc
  obtain ⟨y32, hy32⟩ := HC2.out
  have c32 : (w5).cell? ⟨w.heap.size + 1 + 1, 32, none⟩ = some (.int .u32 y32) := (HB5.out.t.cellD 32).trans hy32
  have f32 : (w5).frozen? ⟨w.heap.size + 1 + 1, 32, none⟩ = false := HB5.out.t.fz 32
  have HB8 : Hid (Bt ((w5).setCell ⟨w.heap.size + 1 + 1, 32, none⟩ (.int .u32 p4)) w.heap.size H Z D2) := by
    have := HB5.out.t.set 32 (.int .u32 p4)
    rwa [HE2.out] at this
  have HG8 : Hid (Gr w ((w5).setCell ⟨w.heap.size + 1 + 1, 32, none⟩ (.int .u32 p4))) := HG5.out.setCell (by simp; omega) _
  clear hy32 HC2
  go_wp2_with (first
    | (refine wpList_load_row rfl 81 _ rfl (w.heap.size + 1 + 1) rfl 81 D2 (0, 0) _ ?hl8 Tryd.underlying81 rfl (by rw [HS2.out]; exact iD) ?_; (case hl8 => exact HB8.out.d))
    | (refine wpList_store_row rfl 81 _ _ rfl (w.heap.size + 1) D2 rfl rfl 81 Z ?hs8 (by rw [HS2.out]; exact iD) (by rw [HS2.out, hz]) HO2.out ?_; (case hs8 => exact HB8.out.z)))
  have GF : Gr w (((w5).setCell ⟨w.heap.size + 1 + 1, 32, none⟩ (.int .u32 p4)).setRow (w.heap.size + 1) D2) := gr_setRow HG8.out (by omega) _
  refine bodyPost_ret (v := .agg D2) (results_cell_row rfl _ _ _ _ _ (0, 0) _ rfl (setRow_heap _ _ _ _ _ (0, 0) HB8.out.z) Tryd.underlying81 rfl (by rw [HS2.out]; exact iD)) rfl ⟨_, congrArg (fun z => Ending.returned (.agg z)) HD2.out.symm, ⟨HOK.out, rfl, ⟨ao, n, cap, rfl, HM.out.of GF, .inl rfl⟩, .inl ⟨rfl, rfl⟩, .inl ⟨rfl, rfl, rfl⟩⟩, GF⟩

set_option maxHeartbeats 2000000 in
set_option maxRecDepth 100000 in
theorem rs_alun {h : Hv} {ao : Option Addr} {n cap : Nat} {l : List UInt8} {w : World} {x op rd : Int} {r1 r2 : Nat} {im : Int} (P : Pr h ao n cap l w x op rd r1 r2 im) (ho : 19 ≤ op ∧ op ≤ 27) : RStep h ao n cap w ⟨(h.set rd.toNat (Wd.alu (opn op) (rg h r1) (Wd.lo im))).go (Wd.lo (h.pc + 4)), l, [], []⟩ := by
  have P0 := P
  obtain ⟨o, M, hn, ok, ex, D, d0, d1, s1, t1, i0, i1⟩ := P
  refine (rsRest P0 _).2 ⟨?_⟩
  unfold rsRest
  dsimp only
  clear P0 D
  intro Z hz w5 J hJ HB HG K1 A1 K2 A2
  obtain ⟨HB5, HG5, HM, ⟨wp, wa, wb, wn⟩, SP, HS0, HO0, gpc, hB2⟩ := atIns o M HB HG hJ (r1 := r1) (r2 := r2) (im := im)
  clear HB HG
  have wX : W (Wd.alu (opn op) (rg h r1) (Wd.lo im)) := wa.alu wn
  have wN : W (Wd.lo (h.pc + 4)) := .lo _
  have Al : Hid (∀ W : World, Calls Tryd.prog 66 #[.int .i64 (opn op), .int .u32 (rg h r1), .int .u32 (Wd.lo im)] W fun e w' => e = .returned (.int .u32 (Wd.alu (opn op) (rg h r1) (Wd.lo im))) ∧ Gr W w') := fun W => (Rw.alu_any _ _ _ W wa.1 wa.2 wn.1 wn.2).mono fun e w' ⟨q, k, r⟩ => ⟨q, by rw [r]; exact (Gr.refl _).drewN k⟩
  have Op : Hid (∀ W : World, Calls Tryd.prog 67 #[.int .i64 op] W fun e w' => e = .returned (.int .i64 (opn op)) ∧ Gr W w') := fun W => (operation_any op W).mono fun e w' h => ⟨h.1, by rw [h.2]; exact Gr.refl _⟩
  have b1 : (op == 1) = false := by simp; omega
  have b2 : (op == 2) = false := by simp; omega
  have b3 : (op == 3) = false := by simp; omega
  have b4 : (op == 4) = false := by simp; omega
  obtain ⟨Ts, okS, HS1, HO1⟩ := setF (dv0_ok o ao n cap) d0 d1 wX
  obtain ⟨D2, HD2, HS2, HO2, HE2, HC2, HOK⟩ := finF okS wN
  generalize hD1 : dA ((dv0 h (.slice ao n cap)).setH ((dv0 h (.slice ao n cap)).h.set rd.toNat (Wd.alu (opn op) (rg h r1) (Wd.lo im)))) = D1 at *
  clear hD1
  generalize dA (dv0 h (.slice ao n cap)) = D0 at *
  generalize (Wd.alu (opn op) (rg h r1) (Wd.lo im)) = rx at *
  generalize hA h = H at *
  generalize hth : (Wd.lo (rg h r1 + Wd.lo im)) = th at *
  generalize hpn : (Wd.lo (h.pc + Wd.lo im)) = pn at *
  generalize hp4 : (Wd.lo (h.pc + 4)) = p4 at *
  generalize hnn : (Wd.lo im) = nn at *
  generalize (rg h r1) = xa at *
  generalize (rg h r2) = xb at *
  generalize ldV l 13 h.pc = lx at *
  generalize h.pc = pc at *
  clear hth hpn hp4 hnn
  clear M ok o wp wa wb wn okS wX wN
  obtain ⟨kpc, kop, krd⟩ := insAt HB5.out gpc
  have hop1 : 19 ≤ op := ho.1
  have hop2 : op ≤ 27 := ho.2
  have q10 : ¬ op ≤ 10 := by omega
  have q15 : ¬ op ≤ 15 := by omega
  have q18 : ¬ op ≤ 18 := by omega
  have kop' := kop
  go_wp2_with fail
  refine (Op.out _).mono ?_
  rintro e wo ⟨rfl, Go'⟩
  have HBo : Hid (Bs wo w.heap.size J H Z D0 #[.int .i64 op, .int .i64 rd, .int .i64 r1, .int .i64 r2, .int .i32 im]) := HB5.out.of Go'
  have HGo : Hid (Gr w wo) := HG5.out.trans Go'
  clear Go' Op
  go_wp2_with fail
  refine (Al.out _).mono ?_
  rintro e w7 ⟨rfl, G7⟩
  have HBx : Hid (Bs w7 w.heap.size J H Z D0 #[.int .i64 op, .int .i64 rd, .int .i64 r1, .int .i64 r2, .int .i32 im]) := HBo.out.of G7
  have HGx : Hid (Gr w w7) := HGo.out.trans G7
  have k7rd : w7.cell? ⟨J, 1, none⟩ = some (.int .i64 rd) := HBx.out.cellI 1
  clear G7 Al kpc kop krd HB5 HG5 HBo HGo kop'
  go_wp2_with (refine wpList_load_row rfl 81 _ rfl (w.heap.size + 1 + 1) rfl 81 D0 (0, 0) _ ?hl1 Tryd.underlying81 rfl (by rw [HS0.out]; exact iD) ?_; (case hl1 => exact HBx.out.t.d))
  refine (Ts.out _).mono ?_
  rintro e w6 ⟨rfl, G6⟩
  have HB6 : Hid (Bs w6 w.heap.size J H Z D0 #[.int .i64 op, .int .i64 rd, .int .i64 r1, .int .i64 r2, .int .i32 im]) := HBx.out.of G6
  have HB7 : Hid (Bs (w6.setRow (w.heap.size + 1 + 1) D1) w.heap.size J H Z D1 #[.int .i64 op, .int .i64 rd, .int .i64 r1, .int .i64 r2, .int .i32 im]) := HB6.out.row D1
  have HG7 : Hid (Gr w (w6.setRow (w.heap.size + 1 + 1) D1)) := gr_setRow (HGx.out.trans G6) (by omega) _
  have k7pc : (w6.setRow (w.heap.size + 1 + 1) D1).cell? ⟨w.heap.size, 32, none⟩ = some (.int .u32 pc) := (HB7.out.t.cellH 32).trans gpc
  clear G6 Ts HBx HGx k7rd
  obtain ⟨y32, hy32⟩ := HC2.out
  have c32 : (w6.setRow (w.heap.size + 1 + 1) D1).cell? ⟨w.heap.size + 1 + 1, 32, none⟩ = some (.int .u32 y32) := (HB7.out.t.cellD 32).trans hy32
  have f32 : (w6.setRow (w.heap.size + 1 + 1) D1).frozen? ⟨w.heap.size + 1 + 1, 32, none⟩ = false := HB7.out.t.fz 32
  have HB8 : Hid (Bt ((w6.setRow (w.heap.size + 1 + 1) D1).setCell ⟨w.heap.size + 1 + 1, 32, none⟩ (.int .u32 p4)) w.heap.size H Z D2) := by
    have := HB7.out.t.set 32 (.int .u32 p4)
    rwa [HE2.out] at this
  have HG8 : Hid (Gr w ((w6.setRow (w.heap.size + 1 + 1) D1).setCell ⟨w.heap.size + 1 + 1, 32, none⟩ (.int .u32 p4))) := HG7.out.setCell (by simp; omega) _
  clear hy32 HC2
  go_wp2_with (first
    | (refine wpList_store_row rfl 81 _ _ rfl (w.heap.size + 1 + 1) D1 rfl rfl 81 D0 ?hs1 (by rw [HS1.out]; exact iD) (by rw [HS1.out]; exact HS0.out) HO1.out ?_; (case hs1 => exact HB6.out.t.d))
    | (refine wpList_load_row rfl 81 _ rfl (w.heap.size + 1 + 1) rfl 81 D2 (0, 0) _ ?hl8 Tryd.underlying81 rfl (by rw [HS2.out]; exact iD) ?_; (case hl8 => exact HB8.out.d))
    | (refine wpList_store_row rfl 81 _ _ rfl (w.heap.size + 1) D2 rfl rfl 81 Z ?hs8 (by rw [HS2.out]; exact iD) (by rw [HS2.out, hz]) HO2.out ?_; (case hs8 => exact HB8.out.z)))
  have GF : Gr w (((w6.setRow (w.heap.size + 1 + 1) D1).setCell ⟨w.heap.size + 1 + 1, 32, none⟩ (.int .u32 p4)).setRow (w.heap.size + 1) D2) := gr_setRow HG8.out (by omega) _
  refine bodyPost_ret (v := .agg D2) (results_cell_row rfl _ _ _ _ _ (0, 0) _ rfl (setRow_heap _ _ _ _ _ (0, 0) HB8.out.z) Tryd.underlying81 rfl (by rw [HS2.out]; exact iD)) rfl ⟨_, congrArg (fun z => Ending.returned (.agg z)) HD2.out.symm, ⟨HOK.out, rfl, ⟨ao, n, cap, rfl, HM.out.of GF, .inl rfl⟩, .inl ⟨rfl, rfl⟩, .inl ⟨rfl, rfl, rfl⟩⟩, GF⟩

set_option maxHeartbeats 2000000 in
set_option maxRecDepth 100000 in
theorem rs_alu {h : Hv} {ao : Option Addr} {n cap : Nat} {l : List UInt8} {w : World} {x op rd : Int} {r1 r2 : Nat} {im : Int} (P : Pr h ao n cap l w x op rd r1 r2 im) (ho : 28 ≤ op ∧ op ≤ 45) : RStep h ao n cap w ⟨(h.set rd.toNat (Wd.alu op (rg h r1) (rg h r2))).go (Wd.lo (h.pc + 4)), l, [], []⟩ := by
  have P0 := P
  obtain ⟨o, M, hn, ok, ex, D, d0, d1, s1, t1, i0, i1⟩ := P
  refine (rsRest P0 _).2 ⟨?_⟩
  unfold rsRest
  dsimp only
  clear P0 D
  intro Z hz w5 J hJ HB HG K1 A1 K2 A2
  obtain ⟨HB5, HG5, HM, ⟨wp, wa, wb, wn⟩, SP, HS0, HO0, gpc, hB2⟩ := atIns o M HB HG hJ (r1 := r1) (r2 := r2) (im := im)
  clear HB HG
  have wX : W (Wd.alu op (rg h r1) (rg h r2)) := wa.alu wb
  have wN : W (Wd.lo (h.pc + 4)) := .lo _
  have Al : Hid (∀ W : World, Calls Tryd.prog 66 #[.int .i64 op, .int .u32 (rg h r1), .int .u32 (rg h r2)] W fun e w' => e = .returned (.int .u32 (Wd.alu op (rg h r1) (rg h r2))) ∧ Gr W w') := fun W => (Rw.alu_any _ _ _ W wa.1 wa.2 wb.1 wb.2).mono fun e w' ⟨q, k, r⟩ => ⟨q, by rw [r]; exact (Gr.refl _).drewN k⟩
  have b1 : (op == 1) = false := by simp; omega
  have b2 : (op == 2) = false := by simp; omega
  have b3 : (op == 3) = false := by simp; omega
  have b4 : (op == 4) = false := by simp; omega
  obtain ⟨Ts, okS, HS1, HO1⟩ := setF (dv0_ok o ao n cap) d0 d1 wX
  obtain ⟨D2, HD2, HS2, HO2, HE2, HC2, HOK⟩ := finF okS wN
  generalize hD1 : dA ((dv0 h (.slice ao n cap)).setH ((dv0 h (.slice ao n cap)).h.set rd.toNat (Wd.alu op (rg h r1) (rg h r2)))) = D1 at *
  clear hD1
  generalize dA (dv0 h (.slice ao n cap)) = D0 at *
  generalize (Wd.alu op (rg h r1) (rg h r2)) = rx at *
  generalize hA h = H at *
  generalize hth : (Wd.lo (rg h r1 + Wd.lo im)) = th at *
  generalize hpn : (Wd.lo (h.pc + Wd.lo im)) = pn at *
  generalize hp4 : (Wd.lo (h.pc + 4)) = p4 at *
  generalize hnn : (Wd.lo im) = nn at *
  generalize (rg h r1) = xa at *
  generalize (rg h r2) = xb at *
  generalize ldV l 13 h.pc = lx at *
  generalize h.pc = pc at *
  clear hth hpn hp4 hnn
  clear M ok o wp wa wb wn okS wX wN
  obtain ⟨kpc, kop, krd⟩ := insAt HB5.out gpc
  have hop1 : 28 ≤ op := ho.1
  have hop2 : op ≤ 45 := ho.2
  have q10 : ¬ op ≤ 10 := by omega
  have q15 : ¬ op ≤ 15 := by omega
  have q18 : ¬ op ≤ 18 := by omega
  have q27 : ¬ op ≤ 27 := by omega
  have kop' := kop
  have HBo := HB5
  have HGo := HG5
  go_wp2_with fail
  refine (Al.out _).mono ?_
  rintro e w7 ⟨rfl, G7⟩
  have HBx : Hid (Bs w7 w.heap.size J H Z D0 #[.int .i64 op, .int .i64 rd, .int .i64 r1, .int .i64 r2, .int .i32 im]) := HBo.out.of G7
  have HGx : Hid (Gr w w7) := HGo.out.trans G7
  have k7rd : w7.cell? ⟨J, 1, none⟩ = some (.int .i64 rd) := HBx.out.cellI 1
  clear G7 Al kpc kop krd HB5 HG5 HBo HGo kop'
  go_wp2_with (refine wpList_load_row rfl 81 _ rfl (w.heap.size + 1 + 1) rfl 81 D0 (0, 0) _ ?hl1 Tryd.underlying81 rfl (by rw [HS0.out]; exact iD) ?_; (case hl1 => exact HBx.out.t.d))
  refine (Ts.out _).mono ?_
  rintro e w6 ⟨rfl, G6⟩
  have HB6 : Hid (Bs w6 w.heap.size J H Z D0 #[.int .i64 op, .int .i64 rd, .int .i64 r1, .int .i64 r2, .int .i32 im]) := HBx.out.of G6
  have HB7 : Hid (Bs (w6.setRow (w.heap.size + 1 + 1) D1) w.heap.size J H Z D1 #[.int .i64 op, .int .i64 rd, .int .i64 r1, .int .i64 r2, .int .i32 im]) := HB6.out.row D1
  have HG7 : Hid (Gr w (w6.setRow (w.heap.size + 1 + 1) D1)) := gr_setRow (HGx.out.trans G6) (by omega) _
  have k7pc : (w6.setRow (w.heap.size + 1 + 1) D1).cell? ⟨w.heap.size, 32, none⟩ = some (.int .u32 pc) := (HB7.out.t.cellH 32).trans gpc
  clear G6 Ts HBx HGx k7rd
  obtain ⟨y32, hy32⟩ := HC2.out
  have c32 : (w6.setRow (w.heap.size + 1 + 1) D1).cell? ⟨w.heap.size + 1 + 1, 32, none⟩ = some (.int .u32 y32) := (HB7.out.t.cellD 32).trans hy32
  have f32 : (w6.setRow (w.heap.size + 1 + 1) D1).frozen? ⟨w.heap.size + 1 + 1, 32, none⟩ = false := HB7.out.t.fz 32
  have HB8 : Hid (Bt ((w6.setRow (w.heap.size + 1 + 1) D1).setCell ⟨w.heap.size + 1 + 1, 32, none⟩ (.int .u32 p4)) w.heap.size H Z D2) := by
    have := HB7.out.t.set 32 (.int .u32 p4)
    rwa [HE2.out] at this
  have HG8 : Hid (Gr w ((w6.setRow (w.heap.size + 1 + 1) D1).setCell ⟨w.heap.size + 1 + 1, 32, none⟩ (.int .u32 p4))) := HG7.out.setCell (by simp; omega) _
  clear hy32 HC2
  go_wp2_with (first
    | (refine wpList_store_row rfl 81 _ _ rfl (w.heap.size + 1 + 1) D1 rfl rfl 81 D0 ?hs1 (by rw [HS1.out]; exact iD) (by rw [HS1.out]; exact HS0.out) HO1.out ?_; (case hs1 => exact HB6.out.t.d))
    | (refine wpList_load_row rfl 81 _ rfl (w.heap.size + 1 + 1) rfl 81 D2 (0, 0) _ ?hl8 Tryd.underlying81 rfl (by rw [HS2.out]; exact iD) ?_; (case hl8 => exact HB8.out.d))
    | (refine wpList_store_row rfl 81 _ _ rfl (w.heap.size + 1) D2 rfl rfl 81 Z ?hs8 (by rw [HS2.out]; exact iD) (by rw [HS2.out, hz]) HO2.out ?_; (case hs8 => exact HB8.out.z)))
  have GF : Gr w (((w6.setRow (w.heap.size + 1 + 1) D1).setCell ⟨w.heap.size + 1 + 1, 32, none⟩ (.int .u32 p4)).setRow (w.heap.size + 1) D2) := gr_setRow HG8.out (by omega) _
  refine bodyPost_ret (v := .agg D2) (results_cell_row rfl _ _ _ _ _ (0, 0) _ rfl (setRow_heap _ _ _ _ _ (0, 0) HB8.out.z) Tryd.underlying81 rfl (by rw [HS2.out]; exact iD)) rfl ⟨_, congrArg (fun z => Ending.returned (.agg z)) HD2.out.symm, ⟨HOK.out, rfl, ⟨ao, n, cap, rfl, HM.out.of GF, .inl rfl⟩, .inl ⟨rfl, rfl⟩, .inl ⟨rfl, rfl, rfl⟩⟩, GF⟩

set_option maxHeartbeats 2000000 in
set_option maxRecDepth 100000 in
theorem rs_loady {h : Hv} {ao : Option Addr} {n cap : Nat} {l : List UInt8} {w : World} {x op rd : Int} {r1 r2 : Nat} {im : Int} (P : Pr h ao n cap l w x op rd r1 r2 im) (ho : 11 ≤ op ∧ op ≤ 15) (hb : ldOk l op (Wd.lo (rg h r1 + Wd.lo im)) = true) : RStep h ao n cap w ⟨(h.set rd.toNat (ldV l op (Wd.lo (rg h r1 + Wd.lo im)))).go (Wd.lo (h.pc + 4)), l, [], []⟩ := by
  have P0 := P
  obtain ⟨o, M, hn, ok, ex, D, d0, d1, s1, t1, i0, i1⟩ := P
  refine (rsRest P0 _).2 ⟨?_⟩
  unfold rsRest
  dsimp only
  clear P0 D
  intro Z hz w5 J hJ HB HG K1 A1 K2 A2
  obtain ⟨HB5, HG5, HM, ⟨wp, wa, wb, wn⟩, SP, HS0, HO0, gpc, hB2⟩ := atIns o M HB HG hJ (r1 := r1) (r2 := r2) (im := im)
  clear HB HG
  have wX : W (ldV l op (Wd.lo (rg h r1 + Wd.lo im))) := .ldV _ _ _
  have wN : W (Wd.lo (h.pc + 4)) := .lo _
  have Lo : Hid (∀ W : World, Gr w W → Calls Tryd.prog 58 #[.slice ao n cap, .int .i64 op, .int .u32 (Wd.lo (rg h r1 + Wd.lo im))] W fun e w' => e = .returned (.tuple #[.int .u32 (ldV l op (Wd.lo (rg h r1 + Wd.lo im))), .bool true]) ∧ Gr W w') := fun W G => by
    have := Mr.Load_any cap op (Wd.lo (rg h r1 + Wd.lo im)) (M.of G) hn (Wd.lo_bd _).1 (Wd.lo_bd _).2
    rw [hb] at this
    exact this.mono fun e w' h => ⟨h.1, by rw [h.2]; exact Gr.refl _⟩
  clear hb
  have b1 : (op == 1) = false := by simp; omega
  have b2 : (op == 2) = false := by simp; omega
  have b3 : (op == 3) = false := by simp; omega
  have b4 : (op == 4) = false := by simp; omega
  obtain ⟨Ts, okS, HS1, HO1⟩ := setF (dv0_ok o ao n cap) d0 d1 wX
  obtain ⟨D2, HD2, HS2, HO2, HE2, HC2, HOK⟩ := finF okS wN
  generalize hD1 : dA ((dv0 h (.slice ao n cap)).setH ((dv0 h (.slice ao n cap)).h.set rd.toNat (ldV l op (Wd.lo (rg h r1 + Wd.lo im))))) = D1 at *
  clear hD1
  generalize dA (dv0 h (.slice ao n cap)) = D0 at *
  generalize (ldV l op (Wd.lo (rg h r1 + Wd.lo im))) = rx at *
  generalize hA h = H at *
  generalize hth : (Wd.lo (rg h r1 + Wd.lo im)) = th at *
  generalize hpn : (Wd.lo (h.pc + Wd.lo im)) = pn at *
  generalize hp4 : (Wd.lo (h.pc + 4)) = p4 at *
  generalize hnn : (Wd.lo im) = nn at *
  generalize (rg h r1) = xa at *
  generalize (rg h r2) = xb at *
  generalize ldV l 13 h.pc = lx at *
  generalize h.pc = pc at *
  clear hth hpn hp4 hnn
  clear M ok o wp wa wb wn okS wX wN
  obtain ⟨kpc, kop, krd⟩ := insAt HB5.out gpc
  have hop1 : 11 ≤ op := ho.1
  have hop2 : op ≤ 15 := ho.2
  have q10 : ¬ op ≤ 10 := by omega
  go_wp2_with fail
  refine (Lo.out _ HG5.out).mono ?_
  rintro e w7 ⟨rfl, G7⟩
  have HBx : Hid (Bs w7 w.heap.size J H Z D0 #[.int .i64 op, .int .i64 rd, .int .i64 r1, .int .i64 r2, .int .i32 im]) := HB5.out.of G7
  have HGx : Hid (Gr w w7) := HG5.out.trans G7
  have k7rd : w7.cell? ⟨J, 1, none⟩ = some (.int .i64 rd) := HBx.out.cellI 1
  clear G7 Lo kpc kop krd HB5 HG5
  go_wp2_with (refine wpList_load_row rfl 81 _ rfl (w.heap.size + 1 + 1) rfl 81 D0 (0, 0) _ ?hl1 Tryd.underlying81 rfl (by rw [HS0.out]; exact iD) ?_; (case hl1 => exact HBx.out.t.d))
  refine (Ts.out _).mono ?_
  rintro e w6 ⟨rfl, G6⟩
  have HB6 : Hid (Bs w6 w.heap.size J H Z D0 #[.int .i64 op, .int .i64 rd, .int .i64 r1, .int .i64 r2, .int .i32 im]) := HBx.out.of G6
  have HB7 : Hid (Bs (w6.setRow (w.heap.size + 1 + 1) D1) w.heap.size J H Z D1 #[.int .i64 op, .int .i64 rd, .int .i64 r1, .int .i64 r2, .int .i32 im]) := HB6.out.row D1
  have HG7 : Hid (Gr w (w6.setRow (w.heap.size + 1 + 1) D1)) := gr_setRow (HGx.out.trans G6) (by omega) _
  have k7pc : (w6.setRow (w.heap.size + 1 + 1) D1).cell? ⟨w.heap.size, 32, none⟩ = some (.int .u32 pc) := (HB7.out.t.cellH 32).trans gpc
  clear G6 Ts HBx HGx k7rd
  obtain ⟨y32, hy32⟩ := HC2.out
  have c32 : (w6.setRow (w.heap.size + 1 + 1) D1).cell? ⟨w.heap.size + 1 + 1, 32, none⟩ = some (.int .u32 y32) := (HB7.out.t.cellD 32).trans hy32
  have f32 : (w6.setRow (w.heap.size + 1 + 1) D1).frozen? ⟨w.heap.size + 1 + 1, 32, none⟩ = false := HB7.out.t.fz 32
  have HB8 : Hid (Bt ((w6.setRow (w.heap.size + 1 + 1) D1).setCell ⟨w.heap.size + 1 + 1, 32, none⟩ (.int .u32 p4)) w.heap.size H Z D2) := by
    have := HB7.out.t.set 32 (.int .u32 p4)
    rwa [HE2.out] at this
  have HG8 : Hid (Gr w ((w6.setRow (w.heap.size + 1 + 1) D1).setCell ⟨w.heap.size + 1 + 1, 32, none⟩ (.int .u32 p4))) := HG7.out.setCell (by simp; omega) _
  clear hy32 HC2
  go_wp2_with (first
    | (refine wpList_store_row rfl 81 _ _ rfl (w.heap.size + 1 + 1) D1 rfl rfl 81 D0 ?hs1 (by rw [HS1.out]; exact iD) (by rw [HS1.out]; exact HS0.out) HO1.out ?_; (case hs1 => exact HB6.out.t.d))
    | (refine wpList_load_row rfl 81 _ rfl (w.heap.size + 1 + 1) rfl 81 D2 (0, 0) _ ?hl8 Tryd.underlying81 rfl (by rw [HS2.out]; exact iD) ?_; (case hl8 => exact HB8.out.d))
    | (refine wpList_store_row rfl 81 _ _ rfl (w.heap.size + 1) D2 rfl rfl 81 Z ?hs8 (by rw [HS2.out]; exact iD) (by rw [HS2.out, hz]) HO2.out ?_; (case hs8 => exact HB8.out.z)))
  have GF : Gr w (((w6.setRow (w.heap.size + 1 + 1) D1).setCell ⟨w.heap.size + 1 + 1, 32, none⟩ (.int .u32 p4)).setRow (w.heap.size + 1) D2) := gr_setRow HG8.out (by omega) _
  refine bodyPost_ret (v := .agg D2) (results_cell_row rfl _ _ _ _ _ (0, 0) _ rfl (setRow_heap _ _ _ _ _ (0, 0) HB8.out.z) Tryd.underlying81 rfl (by rw [HS2.out]; exact iD)) rfl ⟨_, congrArg (fun z => Ending.returned (.agg z)) HD2.out.symm, ⟨HOK.out, rfl, ⟨ao, n, cap, rfl, HM.out.of GF, .inl rfl⟩, .inl ⟨rfl, rfl⟩, .inl ⟨rfl, rfl, rfl⟩⟩, GF⟩

set_option maxHeartbeats 2000000 in
set_option maxRecDepth 100000 in
theorem rs_loadn (P : Pr h ao n cap l w x op rd r1 r2 im) (ho : 11 ≤ op ∧ op ≤ 15) (hb : ldOk l op (Wd.lo (rg h r1 + Wd.lo im)) = false) : RStep h ao n cap w ⟨h.trap 3, l, [], []⟩ := by
  have P0 := P
  obtain ⟨o, M, hn, ok, ex, D, d0, d1, s1, t1, i0, i1⟩ := P
  refine (rsRest P0 _).2 ⟨?_⟩
  unfold rsRest
  dsimp only
  clear P0 D
  intro Z hz w5 J hJ HB HG K1 A1 K2 A2
  obtain ⟨HB5, HG5, HM, ⟨wp, wa, wb, wn⟩, SP, HS0, HO0, gpc, hB2⟩ := atIns o M HB HG hJ (r1 := r1) (r2 := r2) (im := im)
  clear HB HG
  have Lo : Hid (∀ W : World, Gr w W → Calls Tryd.prog 58 #[.slice ao n cap, .int .i64 op, .int .u32 (Wd.lo (rg h r1 + Wd.lo im))] W fun e w' => e = .returned (.tuple #[.int .u32 (ldV l op (Wd.lo (rg h r1 + Wd.lo im))), .bool false]) ∧ Gr W w') := fun W G => by
    have := Mr.Load_any cap op (Wd.lo (rg h r1 + Wd.lo im)) (M.of G) hn (Wd.lo_bd _).1 (Wd.lo_bd _).2
    rw [hb] at this
    exact this.mono fun e w' h => ⟨h.1, by rw [h.2]; exact Gr.refl _⟩
  clear hb
  generalize ldV l op (Wd.lo (rg h r1 + Wd.lo im)) = rx at *
  have b1 : (op == 1) = false := by simp; omega
  have b2 : (op == 2) = false := by simp; omega
  have b3 : (op == 3) = false := by simp; omega
  have b4 : (op == 4) = false := by simp; omega
  obtain ⟨Dt, Tr, HSt, HOt, Okt, HDt⟩ := trapF (dv0_ok o ao n cap) 3
  generalize dA (dv0 h (.slice ao n cap)) = D0 at *
  generalize hA h = H at *
  generalize hth : (Wd.lo (rg h r1 + Wd.lo im)) = th at *
  generalize hpn : (Wd.lo (h.pc + Wd.lo im)) = pn at *
  generalize hp4 : (Wd.lo (h.pc + 4)) = p4 at *
  generalize hnn : (Wd.lo im) = nn at *
  generalize (rg h r1) = xa at *
  generalize (rg h r2) = xb at *
  generalize ldV l 13 h.pc = lx at *
  generalize h.pc = pc at *
  clear hth hpn hp4 hnn
  clear M ok o wp wa wb wn
  obtain ⟨kpc, kop, krd⟩ := insAt HB5.out gpc
  have hop1 : 11 ≤ op := ho.1
  have hop2 : op ≤ 15 := ho.2
  have q10 : ¬ op ≤ 10 := by omega
  go_wp2_with fail
  refine (Lo.out _ HG5.out).mono ?_
  rintro e w7 ⟨rfl, G7⟩
  have HBx : Hid (Bs w7 w.heap.size J H Z D0 #[.int .i64 op, .int .i64 rd, .int .i64 r1, .int .i64 r2, .int .i32 im]) := HB5.out.of G7
  have HGx : Hid (Gr w w7) := HG5.out.trans G7
  clear G7 Lo kpc kop krd HB5 HG5
  go_wp2_with (refine wpList_load_row rfl 81 _ rfl (w.heap.size + 1 + 1) rfl 81 D0 (0, 0) _ ?hd1 Tryd.underlying81 rfl (by rw [HS0.out]; exact iD) ?_; (case hd1 => exact HBx.out.t.d))
  refine (Tr.out _).mono ?_
  rintro e wt ⟨rfl, Gt⟩
  have HRt : Hid (wt.heap[w.heap.size + 1]? = some (.cells Z 81 (0, 0))) := (HBx.out.t.of Gt).z
  have HGt : Hid (Gr w wt) := HGx.out.trans Gt
  clear Gt Tr
  go_wp2_with (refine wpList_store_row rfl 81 _ _ rfl (w.heap.size + 1) Dt rfl rfl 81 Z ?hd2 (by rw [HSt.out]; exact iD) (by rw [HSt.out, hz]) HOt.out ?_; (case hd2 => exact HRt.out))
  refine bodyPost_ret (v := .agg Dt) (results_cell_row rfl _ _ _ _ _ (0, 0) _ rfl (srh HRt.out) Tryd.underlying81 rfl (by rw [HSt.out]; exact iD)) rfl ⟨_, congrArg (fun z => Ending.returned (.agg z)) HDt.out.symm, ⟨Okt.out, rfl, ⟨ao, n, cap, rfl, HM.out.of (gr_setRow HGt.out (by omega) _), .inl rfl⟩, .inl ⟨rfl, rfl⟩, .inl ⟨rfl, rfl, rfl⟩⟩, ?_⟩
  exact gr_setRow HGt.out (by omega) _

set_option maxHeartbeats 2000000 in
set_option maxRecDepth 100000 in
theorem rs_break (P : Pr h ao n cap l w x op rd r1 r2 im) (ho : op = 59) : RStep h ao n cap w ⟨h.trap 6, l, [], []⟩ := by
  have P0 := P
  obtain ⟨o, M, hn, ok, ex, D, d0, d1, s1, t1, i0, i1⟩ := P
  subst ho
  refine (rsRest P0 _).2 ⟨?_⟩
  unfold rsRest
  dsimp only
  clear P0 D
  intro Z hz w5 J hJ HB HG K1 A1 K2 A2
  obtain ⟨HB5, HG5, HM, ⟨wp, wa, wb, wn⟩, SP, HS0, HO0, gpc, hB2⟩ := atIns o M HB HG hJ (r1 := r1) (r2 := r2) (im := im)
  clear HB HG
  obtain ⟨Dt, Tr, HSt, HOt, Okt, HDt⟩ := trapF (dv0_ok o ao n cap) 6
  generalize dA (dv0 h (.slice ao n cap)) = D0 at *
  generalize hA h = H at *
  generalize hth : (Wd.lo (rg h r1 + Wd.lo im)) = th at *
  generalize hpn : (Wd.lo (h.pc + Wd.lo im)) = pn at *
  generalize hp4 : (Wd.lo (h.pc + 4)) = p4 at *
  generalize hnn : (Wd.lo im) = nn at *
  generalize (rg h r1) = xa at *
  generalize (rg h r2) = xb at *
  generalize ldV l 13 h.pc = lx at *
  generalize h.pc = pc at *
  clear hth hpn hp4 hnn
  clear M ok o wp wa wb wn
  obtain ⟨kpc, kop, krd⟩ := insAt HB5.out gpc
  go_wp2_with (refine wpList_load_row rfl 81 _ rfl (w.heap.size + 1 + 1) rfl 81 D0 (0, 0) _ ?hd1 Tryd.underlying81 rfl (by rw [HS0.out]; exact iD) ?_; (case hd1 => exact HB5.out.t.d))
  refine (Tr.out _).mono ?_
  rintro e wt ⟨rfl, Gt⟩
  have HRt : Hid (wt.heap[w.heap.size + 1]? = some (.cells Z 81 (0, 0))) := (HB5.out.t.of Gt).z
  have HGt : Hid (Gr w wt) := HG5.out.trans Gt
  clear Gt Tr
  go_wp2_with (refine wpList_store_row rfl 81 _ _ rfl (w.heap.size + 1) Dt rfl rfl 81 Z ?hd2 (by rw [HSt.out]; exact iD) (by rw [HSt.out, hz]) HOt.out ?_; (case hd2 => exact HRt.out))
  refine bodyPost_ret (v := .agg Dt) (results_cell_row rfl _ _ _ _ _ (0, 0) _ rfl (srh HRt.out) Tryd.underlying81 rfl (by rw [HSt.out]; exact iD)) rfl ⟨_, congrArg (fun z => Ending.returned (.agg z)) HDt.out.symm, ⟨Okt.out, rfl, ⟨ao, n, cap, rfl, HM.out.of (gr_setRow HGt.out (by omega) _), .inl rfl⟩, .inl ⟨rfl, rfl⟩, .inl ⟨rfl, rfl, rfl⟩⟩, ?_⟩
  exact gr_setRow HGt.out (by omega) _

end Go.Proofs.YtdiofidmlgliiaaDoor.Hr
/-
  What ferrybridgeref4.Step answers, of some instructions.
-/
namespace Go.Proofs.YtdiofidmlgliiaaDoor.Hr
open Go.ChangeShapes Go.WideShapes Go.ChangeAt Go.RowKit Mm Hh
set_option linter.unusedVariables false
set_option linter.unusedSimpArgs false

variable {h : Hv} {ao : Option Addr} {n cap r1 r2 : Nat} {l : List UInt8} {w : World} {x op rd im : Int}
set_option maxHeartbeats 2000000 in
set_option maxRecDepth 100000 in
theorem rs_storey {h : Hv} {ao : Option Addr} {n cap : Nat} {l : List UInt8} {w : World} {x op rd : Int} {r1 r2 : Nat} {im : Int} (P : Pr h ao n cap l w x op rd r1 r2 im) (ho : 16 ≤ op ∧ op ≤ 18) (hb : stOk l op (Wd.lo (rg h r1 + Wd.lo im)) = true) : RStep h ao n cap w ⟨h.go (Wd.lo (h.pc + 4)), stL l op (Wd.lo (rg h r1 + Wd.lo im)) (rg h r2), [], [((Wd.lo (rg h r1 + Wd.lo im)), ((ssz op : Nat) : Int))]⟩ := by
  have P0 := P
  obtain ⟨o, M, hn, ok, ex, D, d0, d1, s1, t1, i0, i1⟩ := P
  refine (rsRest P0 _).2 ⟨?_⟩
  unfold rsRest
  dsimp only
  clear P0 D
  intro Z hz w5 J hJ HB HG K1 A1 K2 A2
  obtain ⟨HB5, HG5, HM, ⟨wp, wa, wb, wn⟩, SP, HS0, HO0, gpc, hB2⟩ := atIns o M HB HG hJ (r1 := r1) (r2 := r2) (im := im)
  clear HB HG
  have St : Hid (∀ W : World, Gr w W → Calls Tryd.prog 65 #[.agg (dA (dv0 h (.slice ao n cap))), .int .i64 op, .int .u32 (Wd.lo (rg h r1 + Wd.lo im)), .int .u32 (rg h r2)] W fun e w' => ∃ ao' n' cap', e = .returned (.tuple #[.agg (dA ((dv0 h (.slice ao n cap)).setM (.slice ao' n' cap') (Wd.lo (rg h r1 + Wd.lo im)) ((ssz op : Nat) : Int))), .bool true]) ∧ Mem w' ao' n' (stL l op (Wd.lo (rg h r1 + Wd.lo im)) (rg h r2)) ∧ Gr W w' ∧ ∀ ad, ao' = some ad → W.heap.size ≤ ad.block) := fun W G => store_yes (dv0_ok o ao n cap) rfl op (Wd.lo (rg h r1 + Wd.lo im)) (rg h r2) (M.of G) hn (Wd.lo_bd _).1 (Wd.lo_bd _).2 wb.1 wb.2 hb
  have HwN : Hid (W (Wd.lo (h.pc + 4))) := .lo _
  have Hok : Hid (Dv.Ok (dv0 h (.slice ao n cap))) := dv0_ok o ao n cap
  clear hb
  generalize stL l op (Wd.lo (rg h r1 + Wd.lo im)) (rg h r2) = LL at *
  have b1 : (op == 1) = false := by simp; omega
  have b2 : (op == 2) = false := by simp; omega
  have b3 : (op == 3) = false := by simp; omega
  have b4 : (op == 4) = false := by simp; omega
  generalize dA (dv0 h (.slice ao n cap)) = D0 at *
  generalize hA h = H at *
  generalize hth : (Wd.lo (rg h r1 + Wd.lo im)) = th at *
  generalize hpn : (Wd.lo (h.pc + Wd.lo im)) = pn at *
  generalize hp4 : (Wd.lo (h.pc + 4)) = p4 at *
  generalize hnn : (Wd.lo im) = nn at *
  generalize (rg h r1) = xa at *
  generalize (rg h r2) = xb at *
  generalize ldV l 13 h.pc = lx at *
  generalize h.pc = pc at *
  clear hth hpn hp4 hnn
  clear M ok o wp wa wb wn
  obtain ⟨kpc, kop, krd⟩ := insAt HB5.out gpc
  have hop1 : 16 ≤ op := ho.1
  have hop2 : op ≤ 18 := ho.2
  have q10 : ¬ op ≤ 10 := by omega
  have q15 : ¬ op ≤ 15 := by omega
  go_wp2_with (refine wpList_load_row rfl 81 _ rfl (w.heap.size + 1 + 1) rfl 81 D0 (0, 0) _ ?hl1 Tryd.underlying81 rfl (by rw [HS0.out]; exact iD) ?_; (case hl1 => exact HB5.out.t.d))
  refine (St.out _ HG5.out).mono ?_
  rintro e w7 ⟨a1, n1, c1, rfl, M7, G7, F7⟩
  have okS : ((dv0 h (.slice ao n cap)).setM (.slice a1 n1 c1) th ((ssz op : Nat) : Int)).Ok := Dv.Ok.setM Hok.out a1 n1 c1 th ((ssz op : Nat) : Int)
  have HS1 : Hid ((dA ((dv0 h (.slice ao n cap)).setM (.slice a1 n1 c1) th ((ssz op : Nat) : Int))).size = 41) := dA_size okS.h
  have HO1 : Hid ((dA ((dv0 h (.slice ao n cap)).setM (.slice a1 n1 c1) th ((ssz op : Nat) : Int))).all (·.oneCell') = true) := one_dA okS
  have wN := HwN.out
  obtain ⟨D2, HD2, HS2, HO2, HE2, HC2, HOK⟩ := finF okS wN
  generalize hD1 : dA ((dv0 h (.slice ao n cap)).setM (.slice a1 n1 c1) th ((ssz op : Nat) : Int)) = D1 at *
  clear hD1 okS wN
  have HB6 : Hid (Bs w7 w.heap.size J H Z D0 #[.int .i64 op, .int .i64 rd, .int .i64 r1, .int .i64 r2, .int .i32 im]) := HB5.out.of G7
  have hlt5 := HB5.out.t.lt
  have HF7 : Hid (∀ ad, a1 = some ad → w.heap.size + 1 + 1 < ad.block) := fun ad q => by have := F7 ad q; omega
  have HM7 : Hid (Mem w7 a1 n1 LL) := M7
  have HB7 : Hid (Bs (w7.setRow (w.heap.size + 1 + 1) D1) w.heap.size J H Z D1 #[.int .i64 op, .int .i64 rd, .int .i64 r1, .int .i64 r2, .int .i32 im]) := HB6.out.row D1
  have HG7 : Hid (Gr w (w7.setRow (w.heap.size + 1 + 1) D1)) := gr_setRow (HG5.out.trans G7) (by omega) _
  clear G7 M7 F7 St kpc kop krd HB5 HG5
  obtain ⟨y32, hy32⟩ := HC2.out
  have c32 : (w7.setRow (w.heap.size + 1 + 1) D1).cell? ⟨w.heap.size + 1 + 1, 32, none⟩ = some (.int .u32 y32) := (HB7.out.t.cellD 32).trans hy32
  have f32 : (w7.setRow (w.heap.size + 1 + 1) D1).frozen? ⟨w.heap.size + 1 + 1, 32, none⟩ = false := HB7.out.t.fz 32
  have HB8 : Hid (Bt ((w7.setRow (w.heap.size + 1 + 1) D1).setCell ⟨w.heap.size + 1 + 1, 32, none⟩ (.int .u32 p4)) w.heap.size H Z D2) := by
    have := HB7.out.t.set 32 (.int .u32 p4)
    rwa [HE2.out] at this
  have HG8 : Hid (Gr w ((w7.setRow (w.heap.size + 1 + 1) D1).setCell ⟨w.heap.size + 1 + 1, 32, none⟩ (.int .u32 p4))) := HG7.out.setCell (by simp; omega) _
  clear hy32 HC2
  go_wp2_with (first
    | (refine wpList_store_row rfl 81 _ _ rfl (w.heap.size + 1 + 1) D1 rfl rfl 81 D0 ?hs1 (by rw [HS1.out]; exact iD) (by rw [HS1.out]; exact HS0.out) HO1.out ?_; (case hs1 => exact HB6.out.t.d))
    | (refine wpList_load_row rfl 81 _ rfl (w.heap.size + 1 + 1) rfl 81 D2 (0, 0) _ ?hl8 Tryd.underlying81 rfl (by rw [HS2.out]; exact iD) ?_; (case hl8 => exact HB8.out.d))
    | (refine wpList_store_row rfl 81 _ _ rfl (w.heap.size + 1) D2 rfl rfl 81 Z ?hs8 (by rw [HS2.out]; exact iD) (by rw [HS2.out, hz]) HO2.out ?_; (case hs8 => exact HB8.out.z)))
  have MF : Mem (((w7.setRow (w.heap.size + 1 + 1) D1).setCell ⟨w.heap.size + 1 + 1, 32, none⟩ (.int .u32 p4)).setRow (w.heap.size + 1) D2) a1 n1 LL := HM7.out.apart fun ad q => by
    have := HF7.out ad q
    rw [setRow_other _ _ _ _ (by omega), heap_setCell_other _ _ _ _ (by simp; omega), setRow_other _ _ _ _ (by omega)]
  have GF : Gr w (((w7.setRow (w.heap.size + 1 + 1) D1).setCell ⟨w.heap.size + 1 + 1, 32, none⟩ (.int .u32 p4)).setRow (w.heap.size + 1) D2) := gr_setRow HG8.out (by omega) _
  refine bodyPost_ret (v := .agg D2) (results_cell_row rfl _ _ _ _ _ (0, 0) _ rfl (setRow_heap _ _ _ _ _ (0, 0) HB8.out.z) Tryd.underlying81 rfl (by rw [HS2.out]; exact iD)) rfl ⟨_, congrArg (fun z => Ending.returned (.agg z)) HD2.out.symm, ⟨HOK.out, rfl, ⟨a1, n1, c1, rfl, MF, .inr fun ad q => by have := HF7.out ad q; omega⟩, .inl ⟨rfl, rfl⟩, .inr rfl⟩, GF⟩

set_option maxHeartbeats 2000000 in
set_option maxRecDepth 100000 in
theorem rs_storen (P : Pr h ao n cap l w x op rd r1 r2 im) (ho : 16 ≤ op ∧ op ≤ 18) (hb : stOk l op (Wd.lo (rg h r1 + Wd.lo im)) = false) : RStep h ao n cap w ⟨h.trap 4, l, [], []⟩ := by
  have P0 := P
  obtain ⟨o, M, hn, ok, ex, D, d0, d1, s1, t1, i0, i1⟩ := P
  refine (rsRest P0 _).2 ⟨?_⟩
  unfold rsRest
  dsimp only
  clear P0 D
  intro Z hz w5 J hJ HB HG K1 A1 K2 A2
  obtain ⟨HB5, HG5, HM, ⟨wp, wa, wb, wn⟩, SP, HS0, HO0, gpc, hB2⟩ := atIns o M HB HG hJ (r1 := r1) (r2 := r2) (im := im)
  clear HB HG
  have St : Hid (∀ W : World, Gr w W → _) := fun W G => store_no (dv0_ok o ao n cap) rfl op (Wd.lo (rg h r1 + Wd.lo im)) (rg h r2) (M.of G) hn (Wd.lo_bd _).1 (Wd.lo_bd _).2 wb.1 wb.2 hb
  clear hb
  have b1 : (op == 1) = false := by simp; omega
  have b2 : (op == 2) = false := by simp; omega
  have b3 : (op == 3) = false := by simp; omega
  have b4 : (op == 4) = false := by simp; omega
  obtain ⟨Dt, Tr, HSt, HOt, Okt, HDt⟩ := trapF (dv0_ok o ao n cap) 4
  generalize dA (dv0 h (.slice ao n cap)) = D0 at *
  generalize hA h = H at *
  generalize hth : (Wd.lo (rg h r1 + Wd.lo im)) = th at *
  generalize hpn : (Wd.lo (h.pc + Wd.lo im)) = pn at *
  generalize hp4 : (Wd.lo (h.pc + 4)) = p4 at *
  generalize hnn : (Wd.lo im) = nn at *
  generalize (rg h r1) = xa at *
  generalize (rg h r2) = xb at *
  generalize ldV l 13 h.pc = lx at *
  generalize h.pc = pc at *
  clear hth hpn hp4 hnn
  clear M ok o wp wa wb wn
  obtain ⟨kpc, kop, krd⟩ := insAt HB5.out gpc
  have hop1 : 16 ≤ op := ho.1
  have hop2 : op ≤ 18 := ho.2
  have q10 : ¬ op ≤ 10 := by omega
  have q15 : ¬ op ≤ 15 := by omega
  go_wp2_with (refine wpList_load_row rfl 81 _ rfl (w.heap.size + 1 + 1) rfl 81 D0 (0, 0) _ ?hl1 Tryd.underlying81 rfl (by rw [HS0.out]; exact iD) ?_; (case hl1 => exact HB5.out.t.d))
  refine (St.out _ HG5.out).mono ?_
  rintro e w7 ⟨rfl, G7⟩
  have HB6 : Hid (Bs w7 w.heap.size J H Z D0 #[.int .i64 op, .int .i64 rd, .int .i64 r1, .int .i64 r2, .int .i32 im]) := HB5.out.of G7
  have HB7 : Hid (Bs (w7.setRow (w.heap.size + 1 + 1) D0) w.heap.size J H Z D0 #[.int .i64 op, .int .i64 rd, .int .i64 r1, .int .i64 r2, .int .i32 im]) := HB6.out.row D0
  have HG7 : Hid (Gr w (w7.setRow (w.heap.size + 1 + 1) D0)) := gr_setRow (HG5.out.trans G7) (by omega) _
  clear G7 St kpc kop krd HB5 HG5
  go_wp2_with (first
    | (refine wpList_store_row rfl 81 _ _ rfl (w.heap.size + 1 + 1) D0 rfl rfl 81 D0 ?hs1 (by rw [HS0.out]; exact iD) rfl HO0.out ?_; (case hs1 => exact HB6.out.t.d))
    | (refine wpList_load_row rfl 81 _ rfl (w.heap.size + 1 + 1) rfl 81 D0 (0, 0) _ ?hd1 Tryd.underlying81 rfl (by rw [HS0.out]; exact iD) ?_; (case hd1 => exact HB7.out.t.d)))
  refine (Tr.out _).mono ?_
  rintro e wt ⟨rfl, Gt⟩
  have HRt : Hid (wt.heap[w.heap.size + 1]? = some (.cells Z 81 (0, 0))) := (HB7.out.t.of Gt).z
  have HGt : Hid (Gr w wt) := HG7.out.trans Gt
  clear Gt Tr
  go_wp2_with (refine wpList_store_row rfl 81 _ _ rfl (w.heap.size + 1) Dt rfl rfl 81 Z ?hd2 (by rw [HSt.out]; exact iD) (by rw [HSt.out, hz]) HOt.out ?_; (case hd2 => exact HRt.out))
  refine bodyPost_ret (v := .agg Dt) (results_cell_row rfl _ _ _ _ _ (0, 0) _ rfl (srh HRt.out) Tryd.underlying81 rfl (by rw [HSt.out]; exact iD)) rfl ⟨_, congrArg (fun z => Ending.returned (.agg z)) HDt.out.symm, ⟨Okt.out, rfl, ⟨ao, n, cap, rfl, HM.out.of (gr_setRow HGt.out (by omega) _), .inl rfl⟩, .inl ⟨rfl, rfl⟩, .inl ⟨rfl, rfl, rfl⟩⟩, ?_⟩
  exact gr_setRow HGt.out (by omega) _

set_option maxHeartbeats 2000000 in
set_option maxRecDepth 100000 in
theorem rs_callt (P : Pr h ao n cap l w x op rd r1 r2 im) (ho : op = 58) (hb : ¬ rg h 17 = 0 ∧ ¬ rg h 17 = 1) : RStep h ao n cap w ⟨h.trap 5, l, [], []⟩ := by
  have P0 := P
  obtain ⟨o, M, hn, ok, ex, D, d0, d1, s1, t1, i0, i1⟩ := P
  subst ho
  refine (rsRest P0 _).2 ⟨?_⟩
  unfold rsRest
  dsimp only
  clear P0 D
  intro Z hz w5 J hJ HB HG K1 A1 K2 A2
  obtain ⟨HB5, HG5, HM, ⟨wp, wa, wb, wn⟩, SP, HS0, HO0, gpc, hB2⟩ := atIns o M HB HG hJ (r1 := r1) (r2 := r2) (im := im)
  clear HB HG
  have g17 : (hA h)[17]? = some (.int .u32 (rg h 17)) := by simp only [hA, List.getElem?_toArray]; exact hL_reg o (by omega)
  have b0 : (rg h 17 == 0) = false := by simp [hb.1]
  have b1 : (rg h 17 != 1) = true := by simp [hb.2]
  clear hb
  generalize rg h 17 = r17 at *
  obtain ⟨Dt, Tr, HSt, HOt, Okt, HDt⟩ := trapF (dv0_ok o ao n cap) 5
  generalize dA (dv0 h (.slice ao n cap)) = D0 at *
  generalize hA h = H at *
  generalize hth : (Wd.lo (rg h r1 + Wd.lo im)) = th at *
  generalize hpn : (Wd.lo (h.pc + Wd.lo im)) = pn at *
  generalize hp4 : (Wd.lo (h.pc + 4)) = p4 at *
  generalize hnn : (Wd.lo im) = nn at *
  generalize (rg h r1) = xa at *
  generalize (rg h r2) = xb at *
  generalize ldV l 13 h.pc = lx at *
  generalize h.pc = pc at *
  clear hth hpn hp4 hnn
  clear M ok o wp wa wb wn
  obtain ⟨kpc, kop, krd⟩ := insAt HB5.out gpc
  have k17 : w5.cell? ⟨w.heap.size, 17, none⟩ = some (.int .u32 r17) := (HB5.out.t.cellH 17).trans g17
  go_wp2_with (refine wpList_load_row rfl 81 _ rfl (w.heap.size + 1 + 1) rfl 81 D0 (0, 0) _ ?hd1 Tryd.underlying81 rfl (by rw [HS0.out]; exact iD) ?_; (case hd1 => exact HB5.out.t.d))
  refine (Tr.out _).mono ?_
  rintro e wt ⟨rfl, Gt⟩
  have HRt : Hid (wt.heap[w.heap.size + 1]? = some (.cells Z 81 (0, 0))) := (HB5.out.t.of Gt).z
  have HGt : Hid (Gr w wt) := HG5.out.trans Gt
  clear Gt Tr
  go_wp2_with (refine wpList_store_row rfl 81 _ _ rfl (w.heap.size + 1) Dt rfl rfl 81 Z ?hd2 (by rw [HSt.out]; exact iD) (by rw [HSt.out, hz]) HOt.out ?_; (case hd2 => exact HRt.out))
  refine bodyPost_ret (v := .agg Dt) (results_cell_row rfl _ _ _ _ _ (0, 0) _ rfl (srh HRt.out) Tryd.underlying81 rfl (by rw [HSt.out]; exact iD)) rfl ⟨_, congrArg (fun z => Ending.returned (.agg z)) HDt.out.symm, ⟨Okt.out, rfl, ⟨ao, n, cap, rfl, HM.out.of (gr_setRow HGt.out (by omega) _), .inl rfl⟩, .inl ⟨rfl, rfl⟩, .inl ⟨rfl, rfl, rfl⟩⟩, ?_⟩
  exact gr_setRow HGt.out (by omega) _

set_option maxHeartbeats 2000000 in
set_option maxRecDepth 100000 in
theorem rs_callh {h : Hv} {ao : Option Addr} {n cap : Nat} {l : List UInt8} {w : World} {x op rd : Int} {r1 r2 : Nat} {im : Int} (P : Pr h ao n cap l w x op rd r1 r2 im) (ho : op = 58) (hb : rg h 17 = 0) : RStep h ao n cap w ⟨h.halt, l, [], []⟩ := by
  have P0 := P
  obtain ⟨o, M, hn, ok, ex, D, d0, d1, s1, t1, i0, i1⟩ := P
  subst ho
  refine (rsRest P0 _).2 ⟨?_⟩
  unfold rsRest
  dsimp only
  clear P0 D
  intro Z hz w5 J hJ HB HG K1 A1 K2 A2
  obtain ⟨HB5, HG5, HM, ⟨wp, wa, wb, wn⟩, SP, HS0, HO0, gpc, hB2⟩ := atIns o M HB HG hJ (r1 := r1) (r2 := r2) (im := im)
  clear HB HG
  have g17 : (hA h)[17]? = some (.int .u32 (rg h 17)) := by simp only [hA, List.getElem?_toArray]; exact hL_reg o (by omega)
  rw [hb] at g17
  clear hb
  have okt : ((dv0 h (.slice ao n cap)).setH h.halt).Ok := (dv0_ok o ao n cap).setH o.halt
  have HSt : Hid ((dA ((dv0 h (.slice ao n cap)).setH h.halt)).size = 41) := dA_size okt.h
  have HOt : Hid ((dA ((dv0 h (.slice ao n cap)).setH h.halt)).all (·.oneCell') = true) := one_dA okt
  have Okt : Hid (((dv0 h (.slice ao n cap)).setH h.halt).Ok) := okt
  have HEt : Hid ((dA (dv0 h (.slice ao n cap))).setIfInBounds 35 (.int .i64 1) = dA ((dv0 h (.slice ao n cap)).setH h.halt)) := dA_set (d := (dv0 h (.slice ao n cap))) o (by omega) (set_state o 1)
  have HCt : Hid (∃ y, (dA (dv0 h (.slice ao n cap)))[35]? = some (.int .i64 y)) := ⟨_, (dA_get (d := (dv0 h (.slice ao n cap))) o (by omega)).trans (hL_fld o 3)⟩
  generalize hDt : dA ((dv0 h (.slice ao n cap)).setH h.halt) = Dt at *
  have HDt : Hid (dA ((dv0 h (.slice ao n cap)).setH h.halt) = Dt) := hDt
  clear hDt okt
  generalize dA (dv0 h (.slice ao n cap)) = D0 at *
  generalize hA h = H at *
  generalize hth : (Wd.lo (rg h r1 + Wd.lo im)) = th at *
  generalize hpn : (Wd.lo (h.pc + Wd.lo im)) = pn at *
  generalize hp4 : (Wd.lo (h.pc + 4)) = p4 at *
  generalize hnn : (Wd.lo im) = nn at *
  generalize (rg h r1) = xa at *
  generalize (rg h r2) = xb at *
  generalize ldV l 13 h.pc = lx at *
  generalize h.pc = pc at *
  clear hth hpn hp4 hnn
  clear M ok o wp wa wb wn
  obtain ⟨kpc, kop, krd⟩ := insAt HB5.out gpc
  have k17 : w5.cell? ⟨w.heap.size, 17, none⟩ = some (.int .u32 0) := (HB5.out.t.cellH 17).trans g17
  obtain ⟨y35, hy35⟩ := HCt.out
  have c35 : w5.cell? ⟨w.heap.size + 1 + 1, 35, none⟩ = some (.int .i64 y35) := (HB5.out.t.cellD 35).trans hy35
  have f35 : w5.frozen? ⟨w.heap.size + 1 + 1, 35, none⟩ = false := HB5.out.t.fz 35
  have HB8 : Hid (Bt (w5.setCell ⟨w.heap.size + 1 + 1, 35, none⟩ (.int .i64 1)) w.heap.size H Z Dt) := by
    have := HB5.out.t.set 35 (.int .i64 1)
    rwa [HEt.out] at this
  have HGt : Hid (Gr w (w5.setCell ⟨w.heap.size + 1 + 1, 35, none⟩ (.int .i64 1))) := HG5.out.setCell (by simp; omega) _
  clear hy35 HCt
  go_wp2_with (first
    | (refine wpList_load_row rfl 81 _ rfl (w.heap.size + 1 + 1) rfl 81 Dt (0, 0) _ ?hl8 Tryd.underlying81 rfl (by rw [HSt.out]; exact iD) ?_; (case hl8 => exact HB8.out.d))
    | (refine wpList_store_row rfl 81 _ _ rfl (w.heap.size + 1) Dt rfl rfl 81 Z ?hs8 (by rw [HSt.out]; exact iD) (by rw [HSt.out, hz]) HOt.out ?_; (case hs8 => exact HB8.out.z)))
  have HRt : Hid ((w5.setCell ⟨w.heap.size + 1 + 1, 35, none⟩ (.int .i64 1)).heap[w.heap.size + 1]? = some (.cells Z 81 (0, 0))) := HB8.out.z
  refine bodyPost_ret (v := .agg Dt) (results_cell_row rfl _ _ _ _ _ (0, 0) _ rfl (setRow_heap _ _ _ _ _ (0, 0) HRt.out) Tryd.underlying81 rfl (by rw [HSt.out]; exact iD)) rfl ⟨_, congrArg (fun z => Ending.returned (.agg z)) HDt.out.symm, ⟨Okt.out, rfl, ⟨ao, n, cap, rfl, HM.out.of (gr_setRow HGt.out (by omega) _), .inl rfl⟩, .inl ⟨rfl, rfl⟩, .inl ⟨rfl, rfl, rfl⟩⟩, ?_⟩
  exact gr_setRow HGt.out (by omega) _

theorem out_e {d : Dv} (o : d.Ok) (v : Value) : (dA d).setIfInBounds 38 v = dA (d.setO v) := by
  have := hL_len o.h
  unfold dA Dv.setO
  simp only [List.setIfInBounds_toArray]
  rw [List.set_append_right _ _ (by omega), this]
  rfl
set_option maxHeartbeats 2000000 in
set_option maxRecDepth 100000 in
theorem rs_callo {h : Hv} {ao : Option Addr} {n cap : Nat} {l : List UInt8} {w : World} {x op rd : Int} {r1 r2 : Nat} {im : Int} (P : Pr h ao n cap l w x op rd r1 r2 im) (ho : op = 58) (hb : rg h 17 = 1) : RStep h ao n cap w ⟨h.go (Wd.lo (h.pc + 4)), l, [rg h 10], []⟩ := by
  have P0 := P
  obtain ⟨o, M, hn, ok, ex, D, d0, d1, s1, t1, i0, i1⟩ := P
  subst ho
  refine (rsRest P0 _).2 ⟨?_⟩
  unfold rsRest
  dsimp only
  clear P0 D
  intro Z hz w5 J hJ HB HG K1 A1 K2 A2
  obtain ⟨HB5, HG5, HM, ⟨wp, wa, wb, wn⟩, SP, HS0, HO0, gpc, hB2⟩ := atIns o M HB HG hJ (r1 := r1) (r2 := r2) (im := im)
  clear HB HG
  have g17 : (hA h)[17]? = some (.int .u32 (rg h 17)) := by simp only [hA, List.getElem?_toArray]; exact hL_reg o (by omega)
  rw [hb] at g17
  clear hb
  have g10 : (hA h)[10]? = some (.int .u32 (rg h 10)) := by simp only [hA, List.getElem?_toArray]; exact hL_reg o (by omega)
  generalize rg h 10 = r10 at *
  have HwN : Hid (W (Wd.lo (h.pc + 4))) := .lo _
  have Hok : Hid (∀ k : Nat, ((dv0 h (.slice ao n cap)).setO (.slice (some ⟨k, 0, none⟩) 1 1)).Ok) := fun k => ⟨o, rfl, rfl⟩
  have HEo : Hid (∀ k : Nat, (dA (dv0 h (.slice ao n cap))).setIfInBounds 38 (.slice (some ⟨k, 0, none⟩) 1 1) = dA ((dv0 h (.slice ao n cap)).setO (.slice (some ⟨k, 0, none⟩) 1 1))) := fun k => out_e (dv0_ok o ao n cap) _
  have HCo : Hid ((dA (dv0 h (.slice ao n cap)))[38]? = some (.slice none 0 0)) := dA_fld (d := (dv0 h (.slice ao n cap))) o 1
  have HC0 : Hid (∃ y, (dA (dv0 h (.slice ao n cap)))[32]? = some (.int .u32 y)) := ⟨_, (dA_get (d := (dv0 h (.slice ao n cap))) o (by omega)).trans (hL_fld o 0)⟩
  generalize dA (dv0 h (.slice ao n cap)) = D0 at *
  generalize hA h = H at *
  generalize hth : (Wd.lo (rg h r1 + Wd.lo im)) = th at *
  generalize hpn : (Wd.lo (h.pc + Wd.lo im)) = pn at *
  generalize hp4 : (Wd.lo (h.pc + 4)) = p4 at *
  generalize hnn : (Wd.lo im) = nn at *
  generalize (rg h r1) = xa at *
  generalize (rg h r2) = xb at *
  generalize ldV l 13 h.pc = lx at *
  generalize h.pc = pc at *
  clear hth hpn hp4 hnn
  clear M ok o wp wa wb wn
  obtain ⟨kpc, kop, krd⟩ := insAt HB5.out gpc
  have k17 : w5.cell? ⟨w.heap.size, 17, none⟩ = some (.int .u32 1) := (HB5.out.t.cellH 17).trans g17
  have k10 : w5.cell? ⟨w.heap.size, 10, none⟩ = some (.int .u32 r10) := (HB5.out.t.cellH 10).trans g10
  have c38 : w5.cell? ⟨w.heap.size + 1 + 1, 38, none⟩ = some (.slice none 0 0) := (HB5.out.t.cellD 38).trans HCo.out
  have f38 : w5.frozen? ⟨w.heap.size + 1 + 1, 38, none⟩ = false := HB5.out.t.fz 38
  have f32 : w5.frozen? ⟨w.heap.size + 1 + 1, 32, none⟩ = false := HB5.out.t.fz 32
  have hlt5 := HB5.out.t.lt
  have hltB : w.heap.size < w5.heap.size := by omega
  have okS : ((dv0 h (.slice ao n cap)).setO (.slice (some ⟨w5.heap.size, 0, none⟩) 1 1)).Ok := Hok.out _
  have HS1 : Hid ((dA ((dv0 h (.slice ao n cap)).setO (.slice (some ⟨w5.heap.size, 0, none⟩) 1 1))).size = 41) := dA_size okS.h
  have HO1 : Hid ((dA ((dv0 h (.slice ao n cap)).setO (.slice (some ⟨w5.heap.size, 0, none⟩) 1 1))).all (·.oneCell') = true) := one_dA okS
  have wN := HwN.out
  obtain ⟨D2, HD2, HS2, HO2, HE2, HC2, HOK⟩ := finF okS wN
  have HEo2 := HEo.out w5.heap.size
  generalize hD1 : dA ((dv0 h (.slice ao n cap)).setO (.slice (some ⟨w5.heap.size, 0, none⟩) 1 1)) = D1 at *
  clear hD1 okS wN
  have b1 := HB5.out.t.set 38 (.slice (some ⟨w5.heap.size, 0, none⟩) 1 1)
  rw [HEo2] at b1
  have b2 := b1.set 32 (.int .u32 p4)
  rw [HE2.out] at b2
  obtain ⟨y32, hy32⟩ := HC0.out
  have c32 : w5.cell? ⟨w.heap.size + 1 + 1, 32, none⟩ = some (.int .u32 y32) := (HB5.out.t.cellD 32).trans hy32
  have HB8 : Hid (Bt (((w5.setCell ⟨w.heap.size + 1 + 1, 38, none⟩ (.slice (some ⟨w5.heap.size, 0, none⟩) 1 1)).setCell ⟨w.heap.size + 1 + 1, 32, none⟩ (.int .u32 p4)).alloc (.cells #[.int .u32 r10] 59)) w.heap.size H Z D2) := b2.of ((Gr.refl _).alloc _)
  have HG8 : Hid (Gr w (((w5.setCell ⟨w.heap.size + 1 + 1, 38, none⟩ (.slice (some ⟨w5.heap.size, 0, none⟩) 1 1)).setCell ⟨w.heap.size + 1 + 1, 32, none⟩ (.int .u32 p4)).alloc (.cells #[.int .u32 r10] 59))) := (((HG5.out.setCell (by simp; omega) _).setCell (by simp; omega) _).alloc _)
  have HCC : Hid (((((w5.setCell ⟨w.heap.size + 1 + 1, 38, none⟩ (.slice (some ⟨w5.heap.size, 0, none⟩) 1 1)).setCell ⟨w.heap.size + 1 + 1, 32, none⟩ (.int .u32 p4)).alloc (.cells #[.int .u32 r10] 59)).setRow (w.heap.size + 1) D2).heap[w5.heap.size]? = some (.cells #[.int .u32 r10] 59 (0, 0))) := by
    have e0 : ((w5.setCell ⟨w.heap.size + 1 + 1, 38, none⟩ (.slice (some ⟨w5.heap.size, 0, none⟩) 1 1)).setCell ⟨w.heap.size + 1 + 1, 32, none⟩ (.int .u32 p4)).heap.size = w5.heap.size := by simp
    have e1 : ((((w5.setCell ⟨w.heap.size + 1 + 1, 38, none⟩ (.slice (some ⟨w5.heap.size, 0, none⟩) 1 1)).setCell ⟨w.heap.size + 1 + 1, 32, none⟩ (.int .u32 p4)).alloc (.cells #[.int .u32 r10] 59)).setRow (w.heap.size + 1) D2).heap[w5.heap.size]? = some (.cells #[.int .u32 r10] 59 (0, 0)) := by
      rw [setRow_other _ _ _ _ (by omega)]
      have := heap_alloc_new ((w5.setCell ⟨w.heap.size + 1 + 1, 38, none⟩ (.slice (some ⟨w5.heap.size, 0, none⟩) 1 1)).setCell ⟨w.heap.size + 1 + 1, 32, none⟩ (.int .u32 p4)) (.cells #[.int .u32 r10] 59)
      rwa [e0] at this
    exact e1
  clear hy32 HC2 HC0 b1 b2 HEo2 HEo
  go_wp2_with (first
    | (refine wpList_load_row rfl 81 _ rfl (w.heap.size + 1 + 1) rfl 81 D2 (0, 0) _ ?hl8 Tryd.underlying81 rfl (by rw [HS2.out]; exact iD) ?_; (case hl8 => exact HB8.out.d))
    | (refine wpList_store_row rfl 81 _ _ rfl (w.heap.size + 1) D2 rfl rfl 81 Z ?hs8 (by rw [HS2.out]; exact iD) (by rw [HS2.out, hz]) HO2.out ?_; (case hs8 => exact HB8.out.z)))
  have GF : Gr w ((((w5.setCell ⟨w.heap.size + 1 + 1, 38, none⟩ (.slice (some ⟨w5.heap.size, 0, none⟩) 1 1)).setCell ⟨w.heap.size + 1 + 1, 32, none⟩ (.int .u32 p4)).alloc (.cells #[.int .u32 r10] 59)).setRow (w.heap.size + 1) D2) := gr_setRow HG8.out (by omega) _
  refine bodyPost_ret (v := .agg D2) (results_cell_row rfl _ _ _ _ _ (0, 0) _ rfl (setRow_heap _ _ _ _ _ (0, 0) HB8.out.z) Tryd.underlying81 rfl (by rw [HS2.out]; exact iD)) rfl ⟨_, congrArg (fun z => Ending.returned (.agg z)) HD2.out.symm, ⟨HOK.out, rfl, ⟨ao, n, cap, rfl, HM.out.of GF, .inl rfl⟩, .inr ⟨w5.heap.size, r10, rfl, rfl, HCC.out⟩, .inl ⟨rfl, rfl, rfl⟩⟩, GF⟩

end Go.Proofs.YtdiofidmlgliiaaDoor.Hr
