/-
  Ref4f1, Ref4f2: texts of ours that lie in one file.
-/
import Derived.Test.YtchllaeembmioaaGreatDoorK34
set_option linter.unusedVariables false
set_option linter.unusedSimpArgs false
set_option maxHeartbeats 8000000
set_option maxRecDepth 100000
namespace Go.Proofs.YtchllaeembmioaaGreatDoor.Hr
open Go.ChangeShapes Go.WideShapes Go.ChangeAt Go.RowKit Mm Hh

theorem rs_1 {h:Hv}{ao:Option Addr}{n cap:Nat}{l:List UInt8}{w:World}{x op rd:Int}{r1 r2:Nat}{im:Int}(P:Pr h ao n cap l w x op rd r1 r2 im)(ho:op=1):RStep h ao n cap w ⟨(h.set rd.toNat (Wd.lo im)).go (Wd.lo (h.pc+4)),l,[],[]⟩:=by
 have P0:=P
 obtain ⟨o,M,hn,ok,ex,D,d0,d1,s1,t1,i0,i1⟩:=P
 subst ho
 refine (rsRest P0 _).2 ⟨?_⟩
 unfold rsRest
 dsimp only
 clear P0 D
 intro Z hz w5 J hJ HB HG K1 A1 K2 A2
 obtain ⟨HB5,HG5,HM,⟨wp,wa,wb,wn⟩,SP,HS0,HO0,gpc,hB2⟩:=atIns o M HB HG hJ (r1:=r1) (r2:=r2) (im:=im)
 clear HB HG
 have wX:W (Wd.lo im):=wn
 have wN:W (Wd.lo (h.pc+4)):=.lo _
 obtain ⟨Ts,okS,HS1,HO1⟩:=setF (dv0_ok o ao n cap) d0 d1 wX
 obtain ⟨D2,HD2,HS2,HO2,HE2,HC2,HOK⟩:=finF okS wN
 generalize hD1:dA ((dv0 h (.slice ao n cap)).setH ((dv0 h (.slice ao n cap)).h.set rd.toNat (Wd.lo im)))=D1 at *
 clear hD1
 generalize dA (dv0 h (.slice ao n cap))=D0 at *
 generalize hA h=H at *
 generalize hth:(Wd.lo (rg h r1+Wd.lo im))=th at *
 generalize hpn:(Wd.lo (h.pc+Wd.lo im))=pn at *
 generalize hp4:(Wd.lo (h.pc+4))=p4 at *
 generalize hnn:(Wd.lo im)=nn at *
 generalize (rg h r1)=xa at *
 generalize (rg h r2)=xb at *
 generalize ldV l 13 h.pc=lx at *
 generalize h.pc=pc at *
 clear hth hpn hp4 hnn
 clear M ok o wp wa wb wn okS wX wN
 obtain ⟨kpc,kop,krd⟩:=insAt HB5.out gpc
 go_wp2_with (refine wpList_load_row rfl 71 _ rfl (w.heap.size+1+1) rfl 71 D0 (0,0) _ ?hl1 Tryz.underlying71 rfl (by rw [HS0.out];exact iD) ?_;(case hl1=>exact HB5.out.t.d))
 refine (Ts.out _).mono ?_
 rintro e w6 ⟨rfl,G6⟩
 have HB6:Hid (Bs w6 w.heap.size J H Z D0 #[.int .i64 1,.int .i64 rd,.int .i64 r1,.int .i64 r2,.int .i32 im]):=HB5.out.of G6
 have HB7:Hid (Bs (w6.setRow (w.heap.size+1+1) D1) w.heap.size J H Z D1 #[.int .i64 1,.int .i64 rd,.int .i64 r1,.int .i64 r2,.int .i32 im]):=HB6.out.row D1
 have HG7:Hid (Gr w (w6.setRow (w.heap.size+1+1) D1)):=gr_setRow (HG5.out.trans G6) (by omega) _
 have k7pc:(w6.setRow (w.heap.size+1+1) D1).cell? ⟨w.heap.size,32,none⟩=some (.int .u32 pc):=(HB7.out.t.cellH 32).trans gpc
 clear G6 Ts HB5 HG5 kpc kop krd
 obtain ⟨y32,hy32⟩:=HC2.out
 have c32:(w6.setRow (w.heap.size+1+1) D1).cell? ⟨w.heap.size+1+1,32,none⟩=some (.int .u32 y32):=(HB7.out.t.cellD 32).trans hy32
 have f32:(w6.setRow (w.heap.size+1+1) D1).frozen? ⟨w.heap.size+1+1,32,none⟩=false:=HB7.out.t.fz 32
 have HB8:Hid (Bt ((w6.setRow (w.heap.size+1+1) D1).setCell ⟨w.heap.size+1+1,32,none⟩ (.int .u32 p4)) w.heap.size H Z D2):=by
  have:=HB7.out.t.set 32 (.int .u32 p4)
  rwa [HE2.out] at this
 have HG8:Hid (Gr w ((w6.setRow (w.heap.size+1+1) D1).setCell ⟨w.heap.size+1+1,32,none⟩ (.int .u32 p4))):=HG7.out.setCell (by simp;omega) _
 clear hy32 HC2
 go_wp2_with (first
  | (refine wpList_store_row rfl 71 _ _ rfl (w.heap.size+1+1) D1 rfl rfl 71 D0 ?hs1 (by rw [HS1.out];exact iD) (by rw [HS1.out];exact HS0.out) HO1.out ?_;(case hs1=>exact HB6.out.t.d))
  | (refine wpList_load_row rfl 71 _ rfl (w.heap.size+1+1) rfl 71 D2 (0,0) _ ?hl8 Tryz.underlying71 rfl (by rw [HS2.out];exact iD) ?_;(case hl8=>exact HB8.out.d))
  | (refine wpList_store_row rfl 71 _ _ rfl (w.heap.size+1) D2 rfl rfl 71 Z ?hs8 (by rw [HS2.out];exact iD) (by rw [HS2.out,hz]) HO2.out ?_;(case hs8=>exact HB8.out.z)))
 have GF:Gr w (((w6.setRow (w.heap.size+1+1) D1).setCell ⟨w.heap.size+1+1,32,none⟩ (.int .u32 p4)).setRow (w.heap.size+1) D2):=gr_setRow HG8.out (by omega) _
 refine bodyPost_ret (v:=.agg D2) (results_cell_row rfl _ _ _ _ _ (0,0) _ rfl (setRow_heap _ _ _ _ _ (0,0) HB8.out.z) Tryz.underlying71 rfl (by rw [HS2.out];exact iD)) rfl ⟨_,congrArg (fun z=>Ending.returned (.agg z)) HD2.out.symm,⟨HOK.out,rfl,⟨ao,n,cap,rfl,HM.out.of GF,.inl rfl⟩,.inl ⟨rfl,rfl⟩,.inl ⟨rfl,rfl,rfl⟩⟩,GF⟩
theorem rs_3 {h:Hv}{ao:Option Addr}{n cap:Nat}{l:List UInt8}{w:World}{x op rd:Int}{r1 r2:Nat}{im:Int}(P:Pr h ao n cap l w x op rd r1 r2 im)(ho:op=3):RStep h ao n cap w ⟨(h.set rd.toNat (Wd.lo (h.pc+4))).go (Wd.lo (h.pc+Wd.lo im)),l,[],[]⟩:=by
 have P0:=P
 obtain ⟨o,M,hn,ok,ex,D,d0,d1,s1,t1,i0,i1⟩:=P
 subst ho
 refine (rsRest P0 _).2 ⟨?_⟩
 unfold rsRest
 dsimp only
 clear P0 D
 intro Z hz w5 J hJ HB HG K1 A1 K2 A2
 obtain ⟨HB5,HG5,HM,⟨wp,wa,wb,wn⟩,SP,HS0,HO0,gpc,hB2⟩:=atIns o M HB HG hJ (r1:=r1) (r2:=r2) (im:=im)
 clear HB HG
 have wX:W (Wd.lo (h.pc+4)):=.lo _
 have wN:W (Wd.lo (h.pc+Wd.lo im)):=.lo _
 obtain ⟨Ts,okS,HS1,HO1⟩:=setF (dv0_ok o ao n cap) d0 d1 wX
 obtain ⟨D2,HD2,HS2,HO2,HE2,HC2,HOK⟩:=finF okS wN
 generalize hD1:dA ((dv0 h (.slice ao n cap)).setH ((dv0 h (.slice ao n cap)).h.set rd.toNat (Wd.lo (h.pc+4))))=D1 at *
 clear hD1
 generalize dA (dv0 h (.slice ao n cap))=D0 at *
 generalize hA h=H at *
 generalize hth:(Wd.lo (rg h r1+Wd.lo im))=th at *
 generalize hpn:(Wd.lo (h.pc+Wd.lo im))=pn at *
 generalize hp4:(Wd.lo (h.pc+4))=p4 at *
 generalize hnn:(Wd.lo im)=nn at *
 generalize (rg h r1)=xa at *
 generalize (rg h r2)=xb at *
 generalize ldV l 13 h.pc=lx at *
 generalize h.pc=pc at *
 clear hth hpn hp4 hnn
 clear M ok o wp wa wb wn okS wX wN
 obtain ⟨kpc,kop,krd⟩:=insAt HB5.out gpc
 go_wp2_with (refine wpList_load_row rfl 71 _ rfl (w.heap.size+1+1) rfl 71 D0 (0,0) _ ?hl1 Tryz.underlying71 rfl (by rw [HS0.out];exact iD) ?_;(case hl1=>exact HB5.out.t.d))
 refine (Ts.out _).mono ?_
 rintro e w6 ⟨rfl,G6⟩
 have HB6:Hid (Bs w6 w.heap.size J H Z D0 #[.int .i64 3,.int .i64 rd,.int .i64 r1,.int .i64 r2,.int .i32 im]):=HB5.out.of G6
 have HB7:Hid (Bs (w6.setRow (w.heap.size+1+1) D1) w.heap.size J H Z D1 #[.int .i64 3,.int .i64 rd,.int .i64 r1,.int .i64 r2,.int .i32 im]):=HB6.out.row D1
 have HG7:Hid (Gr w (w6.setRow (w.heap.size+1+1) D1)):=gr_setRow (HG5.out.trans G6) (by omega) _
 have k7pc:(w6.setRow (w.heap.size+1+1) D1).cell? ⟨w.heap.size,32,none⟩=some (.int .u32 pc):=(HB7.out.t.cellH 32).trans gpc
 clear G6 Ts HB5 HG5 kpc kop krd
 go_wp2_with (refine wpList_store_row rfl 71 _ _ rfl (w.heap.size+1+1) D1 rfl rfl 71 D0 ?hs1 (by rw [HS1.out];exact iD) (by rw [HS1.out];exact HS0.out) HO1.out ?_;(case hs1=>exact HB6.out.t.d))
 refine (SP.out _).mono ?_
 rintro e w8 ⟨rfl,G8⟩
 have HB9:Hid (Bs w8 w.heap.size J H Z D1 #[.int .i64 3,.int .i64 rd,.int .i64 r1,.int .i64 r2,.int .i32 im]):=HB7.out.of G8
 have HG9:Hid (Gr w w8):=HG7.out.trans G8
 clear G8 SP HB6 HB7 HG7 k7pc
 obtain ⟨y32,hy32⟩:=HC2.out
 have c32:(w8).cell? ⟨w.heap.size+1+1,32,none⟩=some (.int .u32 y32):=(HB9.out.t.cellD 32).trans hy32
 have f32:(w8).frozen? ⟨w.heap.size+1+1,32,none⟩=false:=HB9.out.t.fz 32
 have HB8:Hid (Bt ((w8).setCell ⟨w.heap.size+1+1,32,none⟩ (.int .u32 pn)) w.heap.size H Z D2):=by
  have:=HB9.out.t.set 32 (.int .u32 pn)
  rwa [HE2.out] at this
 have HG8:Hid (Gr w ((w8).setCell ⟨w.heap.size+1+1,32,none⟩ (.int .u32 pn))):=HG9.out.setCell (by simp;omega) _
 clear hy32 HC2
 go_wp2_with (first
  | (refine wpList_load_row rfl 71 _ rfl (w.heap.size+1+1) rfl 71 D2 (0,0) _ ?hl8 Tryz.underlying71 rfl (by rw [HS2.out];exact iD) ?_;(case hl8=>exact HB8.out.d))
  | (refine wpList_store_row rfl 71 _ _ rfl (w.heap.size+1) D2 rfl rfl 71 Z ?hs8 (by rw [HS2.out];exact iD) (by rw [HS2.out,hz]) HO2.out ?_;(case hs8=>exact HB8.out.z)))
 have GF:Gr w (((w8).setCell ⟨w.heap.size+1+1,32,none⟩ (.int .u32 pn)).setRow (w.heap.size+1) D2):=gr_setRow HG8.out (by omega) _
 refine bodyPost_ret (v:=.agg D2) (results_cell_row rfl _ _ _ _ _ (0,0) _ rfl (setRow_heap _ _ _ _ _ (0,0) HB8.out.z) Tryz.underlying71 rfl (by rw [HS2.out];exact iD)) rfl ⟨_,congrArg (fun z=>Ending.returned (.agg z)) HD2.out.symm,⟨HOK.out,rfl,⟨ao,n,cap,rfl,HM.out.of GF,.inl rfl⟩,.inl ⟨rfl,rfl⟩,.inl ⟨rfl,rfl,rfl⟩⟩,GF⟩
theorem rs_4 {h:Hv}{ao:Option Addr}{n cap:Nat}{l:List UInt8}{w:World}{x op rd:Int}{r1 r2:Nat}{im:Int}(P:Pr h ao n cap l w x op rd r1 r2 im)(ho:op=4):RStep h ao n cap w ⟨(h.set rd.toNat (Wd.lo (h.pc+4))).go (Wd.lo (rg h r1+Wd.lo im)-Wd.lo (rg h r1+Wd.lo im)%2),l,[],[]⟩:=by
 have P0:=P
 obtain ⟨o,M,hn,ok,ex,D,d0,d1,s1,t1,i0,i1⟩:=P
 subst ho
 refine (rsRest P0 _).2 ⟨?_⟩
 unfold rsRest
 dsimp only
 clear P0 D
 intro Z hz w5 J hJ HB HG K1 A1 K2 A2
 obtain ⟨HB5,HG5,HM,⟨wp,wa,wb,wn⟩,SP,HS0,HO0,gpc,hB2⟩:=atIns o M HB HG hJ (r1:=r1) (r2:=r2) (im:=im)
 clear HB HG
 have wX:W (Wd.lo (h.pc+4)):=.lo _
 have wN:W (Wd.lo (rg h r1+Wd.lo im)-Wd.lo (rg h r1+Wd.lo im)%2):=by have:=Wd.lo_bd (rg h r1+Wd.lo im);unfold W;omega
 have th0:=(Wd.lo_bd (rg h r1+Wd.lo im)).1
 have th1:=(Wd.lo_bd (rg h r1+Wd.lo im)).2
 obtain ⟨Ts,okS,HS1,HO1⟩:=setF (dv0_ok o ao n cap) d0 d1 wX
 obtain ⟨D2,HD2,HS2,HO2,HE2,HC2,HOK⟩:=finF okS wN
 generalize hD1:dA ((dv0 h (.slice ao n cap)).setH ((dv0 h (.slice ao n cap)).h.set rd.toNat (Wd.lo (h.pc+4))))=D1 at *
 clear hD1
 generalize dA (dv0 h (.slice ao n cap))=D0 at *
 generalize hA h=H at *
 generalize hth:(Wd.lo (rg h r1+Wd.lo im))=th at *
 generalize hpn:(Wd.lo (h.pc+Wd.lo im))=pn at *
 generalize hp4:(Wd.lo (h.pc+4))=p4 at *
 generalize hnn:(Wd.lo im)=nn at *
 generalize (rg h r1)=xa at *
 generalize (rg h r2)=xb at *
 generalize ldV l 13 h.pc=lx at *
 generalize h.pc=pc at *
 clear hth hpn hp4 hnn
 clear M ok o wp wa wb wn okS wX wN
 obtain ⟨kpc,kop,krd⟩:=insAt HB5.out gpc
 go_wp2_with (refine wpList_load_row rfl 71 _ rfl (w.heap.size+1+1) rfl 71 D0 (0,0) _ ?hl1 Tryz.underlying71 rfl (by rw [HS0.out];exact iD) ?_;(case hl1=>exact HB5.out.t.d))
 refine (Ts.out _).mono ?_
 rintro e w6 ⟨rfl,G6⟩
 have HB6:Hid (Bs w6 w.heap.size J H Z D0 #[.int .i64 4,.int .i64 rd,.int .i64 r1,.int .i64 r2,.int .i32 im]):=HB5.out.of G6
 have HB7:Hid (Bs (w6.setRow (w.heap.size+1+1) D1) w.heap.size J H Z D1 #[.int .i64 4,.int .i64 rd,.int .i64 r1,.int .i64 r2,.int .i32 im]):=HB6.out.row D1
 have HG7:Hid (Gr w (w6.setRow (w.heap.size+1+1) D1)):=gr_setRow (HG5.out.trans G6) (by omega) _
 have k7pc:(w6.setRow (w.heap.size+1+1) D1).cell? ⟨w.heap.size,32,none⟩=some (.int .u32 pc):=(HB7.out.t.cellH 32).trans gpc
 clear G6 Ts HB5 HG5 kpc kop krd
 obtain ⟨y32,hy32⟩:=HC2.out
 have c32:(w6.setRow (w.heap.size+1+1) D1).cell? ⟨w.heap.size+1+1,32,none⟩=some (.int .u32 y32):=(HB7.out.t.cellD 32).trans hy32
 have f32:(w6.setRow (w.heap.size+1+1) D1).frozen? ⟨w.heap.size+1+1,32,none⟩=false:=HB7.out.t.fz 32
 have HB8:Hid (Bt ((w6.setRow (w.heap.size+1+1) D1).setCell ⟨w.heap.size+1+1,32,none⟩ (.int .u32 (th-th%2))) w.heap.size H Z D2):=by
  have:=HB7.out.t.set 32 (.int .u32 (th-th%2))
  rwa [HE2.out] at this
 have HG8:Hid (Gr w ((w6.setRow (w.heap.size+1+1) D1).setCell ⟨w.heap.size+1+1,32,none⟩ (.int .u32 (th-th%2)))):=HG7.out.setCell (by simp;omega) _
 clear hy32 HC2
 go_wp2_with (first
  | (refine wpList_store_row rfl 71 _ _ rfl (w.heap.size+1+1) D1 rfl rfl 71 D0 ?hs1 (by rw [HS1.out];exact iD) (by rw [HS1.out];exact HS0.out) HO1.out ?_;(case hs1=>exact HB6.out.t.d))
  | (refine wpList_load_row rfl 71 _ rfl (w.heap.size+1+1) rfl 71 D2 (0,0) _ ?hl8 Tryz.underlying71 rfl (by rw [HS2.out];exact iD) ?_;(case hl8=>exact HB8.out.d))
  | (refine wpList_store_row rfl 71 _ _ rfl (w.heap.size+1) D2 rfl rfl 71 Z ?hs8 (by rw [HS2.out];exact iD) (by rw [HS2.out,hz]) HO2.out ?_;(case hs8=>exact HB8.out.z)))
 have GF:Gr w (((w6.setRow (w.heap.size+1+1) D1).setCell ⟨w.heap.size+1+1,32,none⟩ (.int .u32 (th-th%2))).setRow (w.heap.size+1) D2):=gr_setRow HG8.out (by omega) _
 refine bodyPost_ret (v:=.agg D2) (results_cell_row rfl _ _ _ _ _ (0,0) _ rfl (setRow_heap _ _ _ _ _ (0,0) HB8.out.z) Tryz.underlying71 rfl (by rw [HS2.out];exact iD)) rfl ⟨_,congrArg (fun z=>Ending.returned (.agg z)) HD2.out.symm,⟨HOK.out,rfl,⟨ao,n,cap,rfl,HM.out.of GF,.inl rfl⟩,.inl ⟨rfl,rfl⟩,.inl ⟨rfl,rfl,rfl⟩⟩,GF⟩
theorem rs_bry {h:Hv}{ao:Option Addr}{n cap:Nat}{l:List UInt8}{w:World}{x op rd:Int}{r1 r2:Nat}{im:Int}(P:Pr h ao n cap l w x op rd r1 r2 im)(ho:5≤op∧op≤10)(hb:Wd.holds op (rg h r1) (rg h r2)=true):RStep h ao n cap w ⟨h.go (Wd.lo (h.pc+Wd.lo im)),l,[],[]⟩:=by
 have P0:=P
 obtain ⟨o,M,hn,ok,ex,D,d0,d1,s1,t1,i0,i1⟩:=P
 refine (rsRest P0 _).2 ⟨?_⟩
 unfold rsRest
 dsimp only
 clear P0 D
 intro Z hz w5 J hJ HB HG K1 A1 K2 A2
 obtain ⟨HB5,HG5,HM,⟨wp,wa,wb,wn⟩,SP,HS0,HO0,gpc,hB2⟩:=atIns o M HB HG hJ (r1:=r1) (r2:=r2) (im:=im)
 clear HB HG
 have wN:W (Wd.lo (h.pc+Wd.lo im)):=.lo _
 have Ho:Hid (∀W:World,Calls Tryz.prog 38 #[.int .i64 op,.int .u32 (rg h r1),.int .u32 (rg h r2)] W fun e w'=>e=.returned (.bool true)∧Gr W w'):=fun W=>by
  have:=Rw.holds_any op (rg h r1) (rg h r2) W wa.1 wa.2 wb.1 wb.2
  rw [hb] at this
  exact this.mono fun e w' h=>⟨h.1,by rw [h.2];exact Gr.refl _⟩
 obtain ⟨D2,HD2,HS2,HO2,HE2,HC2,HOK⟩:=finF (dv0_ok o ao n cap) wN
 clear hb
 have b1:(op == 1)=false:=by simp;omega
 have b2:(op == 2)=false:=by simp;omega
 have b3:(op == 3)=false:=by simp;omega
 have b4:(op == 4)=false:=by simp;omega
 generalize dA (dv0 h (.slice ao n cap))=D0 at *
 generalize hA h=H at *
 generalize hth:(Wd.lo (rg h r1+Wd.lo im))=th at *
 generalize hpn:(Wd.lo (h.pc+Wd.lo im))=pn at *
 generalize hp4:(Wd.lo (h.pc+4))=p4 at *
 generalize hnn:(Wd.lo im)=nn at *
 generalize (rg h r1)=xa at *
 generalize (rg h r2)=xb at *
 generalize ldV l 13 h.pc=lx at *
 generalize h.pc=pc at *
 clear hth hpn hp4 hnn
 clear M ok o wp wa wb wn wN
 obtain ⟨kpc,kop,krd⟩:=insAt HB5.out gpc
 have hop1:5≤op:=ho.1
 have hop2:op≤10:=ho.2
 go_wp2_with fail
 refine (Ho.out _).mono ?_
 rintro e w7 ⟨rfl,G7⟩
 have HB7:Hid (Bs w7 w.heap.size J H Z D0 #[.int .i64 op,.int .i64 rd,.int .i64 r1,.int .i64 r2,.int .i32 im]):=HB5.out.of G7
 have HG7:Hid (Gr w w7):=HG5.out.trans G7
 have k7pc:w7.cell? ⟨w.heap.size,32,none⟩=some (.int .u32 pc):=(HB7.out.t.cellH 32).trans gpc
 clear G7 Ho kpc kop krd HB5 HG5
 go_wp2_with fail
 refine (SP.out _).mono ?_
 rintro e w8 ⟨rfl,G8⟩
 have HB9:Hid (Bs w8 w.heap.size J H Z D0 #[.int .i64 op,.int .i64 rd,.int .i64 r1,.int .i64 r2,.int .i32 im]):=HB7.out.of G8
 have HG9:Hid (Gr w w8):=HG7.out.trans G8
 clear G8 SP HB7 HG7 k7pc
 obtain ⟨y32,hy32⟩:=HC2.out
 have c32:(w8).cell? ⟨w.heap.size+1+1,32,none⟩=some (.int .u32 y32):=(HB9.out.t.cellD 32).trans hy32
 have f32:(w8).frozen? ⟨w.heap.size+1+1,32,none⟩=false:=HB9.out.t.fz 32
 have HB8:Hid (Bt ((w8).setCell ⟨w.heap.size+1+1,32,none⟩ (.int .u32 pn)) w.heap.size H Z D2):=by
  have:=HB9.out.t.set 32 (.int .u32 pn)
  rwa [HE2.out] at this
 have HG8:Hid (Gr w ((w8).setCell ⟨w.heap.size+1+1,32,none⟩ (.int .u32 pn))):=HG9.out.setCell (by simp;omega) _
 clear hy32 HC2
 go_wp2_with (first
  | (refine wpList_load_row rfl 71 _ rfl (w.heap.size+1+1) rfl 71 D2 (0,0) _ ?hl8 Tryz.underlying71 rfl (by rw [HS2.out];exact iD) ?_;(case hl8=>exact HB8.out.d))
  | (refine wpList_store_row rfl 71 _ _ rfl (w.heap.size+1) D2 rfl rfl 71 Z ?hs8 (by rw [HS2.out];exact iD) (by rw [HS2.out,hz]) HO2.out ?_;(case hs8=>exact HB8.out.z)))
 have GF:Gr w (((w8).setCell ⟨w.heap.size+1+1,32,none⟩ (.int .u32 pn)).setRow (w.heap.size+1) D2):=gr_setRow HG8.out (by omega) _
 refine bodyPost_ret (v:=.agg D2) (results_cell_row rfl _ _ _ _ _ (0,0) _ rfl (setRow_heap _ _ _ _ _ (0,0) HB8.out.z) Tryz.underlying71 rfl (by rw [HS2.out];exact iD)) rfl ⟨_,congrArg (fun z=>Ending.returned (.agg z)) HD2.out.symm,⟨HOK.out,rfl,⟨ao,n,cap,rfl,HM.out.of GF,.inl rfl⟩,.inl ⟨rfl,rfl⟩,.inl ⟨rfl,rfl,rfl⟩⟩,GF⟩
theorem rs_brn {h:Hv}{ao:Option Addr}{n cap:Nat}{l:List UInt8}{w:World}{x op rd:Int}{r1 r2:Nat}{im:Int}(P:Pr h ao n cap l w x op rd r1 r2 im)(ho:5≤op∧op≤10)(hb:Wd.holds op (rg h r1) (rg h r2)=false):RStep h ao n cap w ⟨h.go (Wd.lo (h.pc+4)),l,[],[]⟩:=by
 have P0:=P
 obtain ⟨o,M,hn,ok,ex,D,d0,d1,s1,t1,i0,i1⟩:=P
 refine (rsRest P0 _).2 ⟨?_⟩
 unfold rsRest
 dsimp only
 clear P0 D
 intro Z hz w5 J hJ HB HG K1 A1 K2 A2
 obtain ⟨HB5,HG5,HM,⟨wp,wa,wb,wn⟩,SP,HS0,HO0,gpc,hB2⟩:=atIns o M HB HG hJ (r1:=r1) (r2:=r2) (im:=im)
 clear HB HG
 have wN:W (Wd.lo (h.pc+4)):=.lo _
 have Ho:Hid (∀W:World,Calls Tryz.prog 38 #[.int .i64 op,.int .u32 (rg h r1),.int .u32 (rg h r2)] W fun e w'=>e=.returned (.bool false)∧Gr W w'):=fun W=>by
  have:=Rw.holds_any op (rg h r1) (rg h r2) W wa.1 wa.2 wb.1 wb.2
  rw [hb] at this
  exact this.mono fun e w' h=>⟨h.1,by rw [h.2];exact Gr.refl _⟩
 obtain ⟨D2,HD2,HS2,HO2,HE2,HC2,HOK⟩:=finF (dv0_ok o ao n cap) wN
 clear hb
 have b1:(op == 1)=false:=by simp;omega
 have b2:(op == 2)=false:=by simp;omega
 have b3:(op == 3)=false:=by simp;omega
 have b4:(op == 4)=false:=by simp;omega
 generalize dA (dv0 h (.slice ao n cap))=D0 at *
 generalize hA h=H at *
 generalize hth:(Wd.lo (rg h r1+Wd.lo im))=th at *
 generalize hpn:(Wd.lo (h.pc+Wd.lo im))=pn at *
 generalize hp4:(Wd.lo (h.pc+4))=p4 at *
 generalize hnn:(Wd.lo im)=nn at *
 generalize (rg h r1)=xa at *
 generalize (rg h r2)=xb at *
 generalize ldV l 13 h.pc=lx at *
 generalize h.pc=pc at *
 clear hth hpn hp4 hnn
 clear M ok o wp wa wb wn wN
 obtain ⟨kpc,kop,krd⟩:=insAt HB5.out gpc
 have hop1:5≤op:=ho.1
 have hop2:op≤10:=ho.2
 go_wp2_with fail
 refine (Ho.out _).mono ?_
 rintro e w7 ⟨rfl,G7⟩
 have HB7:Hid (Bs w7 w.heap.size J H Z D0 #[.int .i64 op,.int .i64 rd,.int .i64 r1,.int .i64 r2,.int .i32 im]):=HB5.out.of G7
 have HG7:Hid (Gr w w7):=HG5.out.trans G7
 have k7pc:w7.cell? ⟨w.heap.size,32,none⟩=some (.int .u32 pc):=(HB7.out.t.cellH 32).trans gpc
 clear G7 Ho kpc kop krd HB5 HG5
 obtain ⟨y32,hy32⟩:=HC2.out
 have c32:(w7).cell? ⟨w.heap.size+1+1,32,none⟩=some (.int .u32 y32):=(HB7.out.t.cellD 32).trans hy32
 have f32:(w7).frozen? ⟨w.heap.size+1+1,32,none⟩=false:=HB7.out.t.fz 32
 have HB8:Hid (Bt ((w7).setCell ⟨w.heap.size+1+1,32,none⟩ (.int .u32 p4)) w.heap.size H Z D2):=by
  have:=HB7.out.t.set 32 (.int .u32 p4)
  rwa [HE2.out] at this
 have HG8:Hid (Gr w ((w7).setCell ⟨w.heap.size+1+1,32,none⟩ (.int .u32 p4))):=HG7.out.setCell (by simp;omega) _
 clear hy32 HC2
 go_wp2_with (first
  | (refine wpList_load_row rfl 71 _ rfl (w.heap.size+1+1) rfl 71 D2 (0,0) _ ?hl8 Tryz.underlying71 rfl (by rw [HS2.out];exact iD) ?_;(case hl8=>exact HB8.out.d))
  | (refine wpList_store_row rfl 71 _ _ rfl (w.heap.size+1) D2 rfl rfl 71 Z ?hs8 (by rw [HS2.out];exact iD) (by rw [HS2.out,hz]) HO2.out ?_;(case hs8=>exact HB8.out.z)))
 have GF:Gr w (((w7).setCell ⟨w.heap.size+1+1,32,none⟩ (.int .u32 p4)).setRow (w.heap.size+1) D2):=gr_setRow HG8.out (by omega) _
 refine bodyPost_ret (v:=.agg D2) (results_cell_row rfl _ _ _ _ _ (0,0) _ rfl (setRow_heap _ _ _ _ _ (0,0) HB8.out.z) Tryz.underlying71 rfl (by rw [HS2.out];exact iD)) rfl ⟨_,congrArg (fun z=>Ending.returned (.agg z)) HD2.out.symm,⟨HOK.out,rfl,⟨ao,n,cap,rfl,HM.out.of GF,.inl rfl⟩,.inl ⟨rfl,rfl⟩,.inl ⟨rfl,rfl,rfl⟩⟩,GF⟩
end Go.Proofs.YtchllaeembmioaaGreatDoor.Hr
namespace Go.Proofs.YtchllaeembmioaaGreatDoor.Hr
open Go.ChangeShapes Go.WideShapes Go.ChangeAt Go.RowKit Mm Hh

theorem rs_2 {h:Hv}{ao:Option Addr}{n cap:Nat}{l:List UInt8}{w:World}{x op rd:Int}{r1 r2:Nat}{im:Int}(P:Pr h ao n cap l w x op rd r1 r2 im)(ho:op=2):RStep h ao n cap w ⟨(h.set rd.toNat (Wd.lo (h.pc+Wd.lo im))).go (Wd.lo (h.pc+4)),l,[],[]⟩:=by
 have P0:=P
 obtain ⟨o,M,hn,ok,ex,D,d0,d1,s1,t1,i0,i1⟩:=P
 subst ho
 refine (rsRest P0 _).2 ⟨?_⟩
 unfold rsRest
 dsimp only
 clear P0 D
 intro Z hz w5 J hJ HB HG K1 A1 K2 A2
 obtain ⟨HB5,HG5,HM,⟨wp,wa,wb,wn⟩,SP,HS0,HO0,gpc,hB2⟩:=atIns o M HB HG hJ (r1:=r1) (r2:=r2) (im:=im)
 clear HB HG
 have wX:W (Wd.lo (h.pc+Wd.lo im)):=.lo _
 have wN:W (Wd.lo (h.pc+4)):=.lo _
 have SPq:Hid (∀W:World,Calls Tryz.prog 36 #[.int .u32 h.pc,.int .u32 (Wd.lo im)] W fun e w'=>e=.returned (.int .u32 (Wd.lo (h.pc+Wd.lo im)))∧w'=W):=fun W=>sum_any _ _ W wp.1 wp.2 wn.1 wn.2
 clear SP
 obtain ⟨Ts,okS,HS1,HO1⟩:=setF (dv0_ok o ao n cap) d0 d1 wX
 obtain ⟨D2,HD2,HS2,HO2,HE2,HC2,HOK⟩:=finF okS wN
 generalize hD1:dA ((dv0 h (.slice ao n cap)).setH ((dv0 h (.slice ao n cap)).h.set rd.toNat (Wd.lo (h.pc+Wd.lo im))))=D1 at *
 clear hD1
 generalize dA (dv0 h (.slice ao n cap))=D0 at *
 generalize hA h=H at *
 generalize hth:(Wd.lo (rg h r1+Wd.lo im))=th at *
 generalize hpn:(Wd.lo (h.pc+Wd.lo im))=pn at *
 generalize hp4:(Wd.lo (h.pc+4))=p4 at *
 generalize hnn:(Wd.lo im)=nn at *
 generalize (rg h r1)=xa at *
 generalize (rg h r2)=xb at *
 generalize ldV l 13 h.pc=lx at *
 generalize h.pc=pc at *
 clear hth hpn hp4 hnn
 clear M ok o wp wa wb wn okS wX wN
 obtain ⟨kpc,kop,krd⟩:=insAt HB5.out gpc
 go_wp2_with fail
 apply rshare
 ·intro CONT
  refine wp_region_any (by kernel_rfl) ?_
  change wpAny _ _ _ _ _ _ _ (World.drew _)
  refine wpAny_take (i:=1) (v:=.pointer (some ⟨J,1,none⟩)) rfl (by kernel_rfl) (by kernel_rfl) (by kernel_rfl) (fun _ _ _ h=>h) (Or.inl ⟨by rfl,fun w=>by go_simp⟩) ?_
  refine wpAny_take (i:=3) (v:=.pointer (some ⟨w.heap.size,32,none⟩)) rfl (by kernel_rfl) (by kernel_rfl) (by kernel_rfl) (fun _ _ _ h=>h) (Or.inl ⟨by rfl,fun w=>by go_simp⟩) ?_
  refine wpAny_take (i:=5) (v:=.int .u32 nn) rfl (by kernel_rfl) (by kernel_rfl) (by kernel_rfl) (fun _ _ _ h=>h) (Or.inl ⟨by rfl,fun w=>by go_simp⟩) ?_
  refine wpAny_ready (rs:=[0,2,4]) (by kernel_rfl) (by simp) ?_
  refine AllReady.cons rfl (fun K hK=>?_) (AllReady.cons rfl (fun K hK=>?_) (AllReady.cons rfl (fun K hK=>?_) AllReady.nil))
  ·refine Hc.step_load_row rfl 71 _ rfl (w.heap.size+1+1) (by simp [Act.eval,Act.put]) 71 D0 (0,0) _ HB5.out.t.d Tryz.underlying71 rfl (by rw [HS0.out];exact iD) ?_
   refine hK _ _ ?_
   clear hK K
   refine wpAny_ready (rs:=[2,4]) (by kernel_rfl) (by simp) ?_
   refine AllReady.cons rfl (fun K hK=>?_) (AllReady.cons rfl (fun K hK=>?_) AllReady.nil)
   ·go_simp
    refine hK _ _ ?_
    clear hK K
    refine wpAny_ready (rs:=[4]) (by kernel_rfl) (by simp) ?_
    refine AllReady.cons rfl (fun K hK=>?_) AllReady.nil
    go_simp
    refine hK _ _ ?_
    clear hK K
    refine wpAny_ready (rs:=[6]) (by kernel_rfl) (by simp) ?_
    refine AllReady.cons rfl (fun K hK=>?_) AllReady.nil
    go_simp
    refine (SPq.out _).mono ?_
    rintro e w9 ⟨rfl,rfl⟩
    simp only []
    refine hK _ _ ?_
    clear hK K
    exact CONT.out
   ·go_simp
    refine hK _ _ ?_
    clear hK K
    refine wpAny_ready (rs:=[2,6]) (by kernel_rfl) (by simp) ?_
    refine AllReady.cons rfl (fun K hK=>?_) (AllReady.cons rfl (fun K hK=>?_) AllReady.nil)
    ·go_simp
     refine hK _ _ ?_
     clear hK K
     refine wpAny_ready (rs:=[6]) (by kernel_rfl) (by simp) ?_
     refine AllReady.cons rfl (fun K hK=>?_) AllReady.nil
     go_simp
     refine (SPq.out _).mono ?_
     rintro e w9 ⟨rfl,rfl⟩
     simp only []
     refine hK _ _ ?_
     clear hK K
     exact CONT.out
    ·go_simp
     refine (SPq.out _).mono ?_
     rintro e w9 ⟨rfl,rfl⟩
     simp only []
     refine hK _ _ ?_
     clear hK K
     refine wpAny_ready (rs:=[2]) (by kernel_rfl) (by simp) ?_
     refine AllReady.cons rfl (fun K hK=>?_) AllReady.nil
     go_simp
     refine hK _ _ ?_
     clear hK K
     exact CONT.out
  ·go_simp
   refine hK _ _ ?_
   clear hK K
   refine wpAny_ready (rs:=[0,4]) (by kernel_rfl) (by simp) ?_
   refine AllReady.cons rfl (fun K hK=>?_) (AllReady.cons rfl (fun K hK=>?_) AllReady.nil)
   ·refine Hc.step_load_row rfl 71 _ rfl (w.heap.size+1+1) (by simp [Act.eval,Act.put]) 71 D0 (0,0) _ HB5.out.t.d Tryz.underlying71 rfl (by rw [HS0.out];exact iD) ?_
    refine hK _ _ ?_
    clear hK K
    refine wpAny_ready (rs:=[4]) (by kernel_rfl) (by simp) ?_
    refine AllReady.cons rfl (fun K hK=>?_) AllReady.nil
    go_simp
    refine hK _ _ ?_
    clear hK K
    refine wpAny_ready (rs:=[6]) (by kernel_rfl) (by simp) ?_
    refine AllReady.cons rfl (fun K hK=>?_) AllReady.nil
    go_simp
    refine (SPq.out _).mono ?_
    rintro e w9 ⟨rfl,rfl⟩
    simp only []
    refine hK _ _ ?_
    clear hK K
    exact CONT.out
   ·go_simp
    refine hK _ _ ?_
    clear hK K
    refine wpAny_ready (rs:=[0,6]) (by kernel_rfl) (by simp) ?_
    refine AllReady.cons rfl (fun K hK=>?_) (AllReady.cons rfl (fun K hK=>?_) AllReady.nil)
    ·refine Hc.step_load_row rfl 71 _ rfl (w.heap.size+1+1) (by simp [Act.eval,Act.put]) 71 D0 (0,0) _ HB5.out.t.d Tryz.underlying71 rfl (by rw [HS0.out];exact iD) ?_
     refine hK _ _ ?_
     clear hK K
     refine wpAny_ready (rs:=[6]) (by kernel_rfl) (by simp) ?_
     refine AllReady.cons rfl (fun K hK=>?_) AllReady.nil
     go_simp
     refine (SPq.out _).mono ?_
     rintro e w9 ⟨rfl,rfl⟩
     simp only []
     refine hK _ _ ?_
     clear hK K
     exact CONT.out
    ·go_simp
     refine (SPq.out _).mono ?_
     rintro e w9 ⟨rfl,rfl⟩
     simp only []
     refine hK _ _ ?_
     clear hK K
     refine wpAny_ready (rs:=[0]) (by kernel_rfl) (by simp) ?_
     refine AllReady.cons rfl (fun K hK=>?_) AllReady.nil
     refine Hc.step_load_row rfl 71 _ rfl (w.heap.size+1+1) (by simp [Act.eval,Act.put]) 71 D0 (0,0) _ HB5.out.t.d Tryz.underlying71 rfl (by rw [HS0.out];exact iD) ?_
     refine hK _ _ ?_
     clear hK K
     exact CONT.out
  ·go_simp
   refine hK _ _ ?_
   clear hK K
   refine wpAny_ready (rs:=[0,2,6]) (by kernel_rfl) (by simp) ?_
   refine AllReady.cons rfl (fun K hK=>?_) (AllReady.cons rfl (fun K hK=>?_) (AllReady.cons rfl (fun K hK=>?_) AllReady.nil))
   ·refine Hc.step_load_row rfl 71 _ rfl (w.heap.size+1+1) (by simp [Act.eval,Act.put]) 71 D0 (0,0) _ HB5.out.t.d Tryz.underlying71 rfl (by rw [HS0.out];exact iD) ?_
    refine hK _ _ ?_
    clear hK K
    refine wpAny_ready (rs:=[2,6]) (by kernel_rfl) (by simp) ?_
    refine AllReady.cons rfl (fun K hK=>?_) (AllReady.cons rfl (fun K hK=>?_) AllReady.nil)
    ·go_simp
     refine hK _ _ ?_
     clear hK K
     refine wpAny_ready (rs:=[6]) (by kernel_rfl) (by simp) ?_
     refine AllReady.cons rfl (fun K hK=>?_) AllReady.nil
     go_simp
     refine (SPq.out _).mono ?_
     rintro e w9 ⟨rfl,rfl⟩
     simp only []
     refine hK _ _ ?_
     clear hK K
     exact CONT.out
    ·go_simp
     refine (SPq.out _).mono ?_
     rintro e w9 ⟨rfl,rfl⟩
     simp only []
     refine hK _ _ ?_
     clear hK K
     refine wpAny_ready (rs:=[2]) (by kernel_rfl) (by simp) ?_
     refine AllReady.cons rfl (fun K hK=>?_) AllReady.nil
     go_simp
     refine hK _ _ ?_
     clear hK K
     exact CONT.out
   ·go_simp
    refine hK _ _ ?_
    clear hK K
    refine wpAny_ready (rs:=[0,6]) (by kernel_rfl) (by simp) ?_
    refine AllReady.cons rfl (fun K hK=>?_) (AllReady.cons rfl (fun K hK=>?_) AllReady.nil)
    ·refine Hc.step_load_row rfl 71 _ rfl (w.heap.size+1+1) (by simp [Act.eval,Act.put]) 71 D0 (0,0) _ HB5.out.t.d Tryz.underlying71 rfl (by rw [HS0.out];exact iD) ?_
     refine hK _ _ ?_
     clear hK K
     refine wpAny_ready (rs:=[6]) (by kernel_rfl) (by simp) ?_
     refine AllReady.cons rfl (fun K hK=>?_) AllReady.nil
     go_simp
     refine (SPq.out _).mono ?_
     rintro e w9 ⟨rfl,rfl⟩
     simp only []
     refine hK _ _ ?_
     clear hK K
     exact CONT.out
    ·go_simp
     refine (SPq.out _).mono ?_
     rintro e w9 ⟨rfl,rfl⟩
     simp only []
     refine hK _ _ ?_
     clear hK K
     refine wpAny_ready (rs:=[0]) (by kernel_rfl) (by simp) ?_
     refine AllReady.cons rfl (fun K hK=>?_) AllReady.nil
     refine Hc.step_load_row rfl 71 _ rfl (w.heap.size+1+1) (by simp [Act.eval,Act.put]) 71 D0 (0,0) _ HB5.out.t.d Tryz.underlying71 rfl (by rw [HS0.out];exact iD) ?_
     refine hK _ _ ?_
     clear hK K
     exact CONT.out
   ·go_simp
    refine (SPq.out _).mono ?_
    rintro e w9 ⟨rfl,rfl⟩
    simp only []
    refine hK _ _ ?_
    clear hK K
    refine wpAny_ready (rs:=[0,2]) (by kernel_rfl) (by simp) ?_
    refine AllReady.cons rfl (fun K hK=>?_) (AllReady.cons rfl (fun K hK=>?_) AllReady.nil)
    ·refine Hc.step_load_row rfl 71 _ rfl (w.heap.size+1+1) (by simp [Act.eval,Act.put]) 71 D0 (0,0) _ HB5.out.t.d Tryz.underlying71 rfl (by rw [HS0.out];exact iD) ?_
     refine hK _ _ ?_
     clear hK K
     refine wpAny_ready (rs:=[2]) (by kernel_rfl) (by simp) ?_
     refine AllReady.cons rfl (fun K hK=>?_) AllReady.nil
     go_simp
     refine hK _ _ ?_
     clear hK K
     exact CONT.out
    ·go_simp
     refine hK _ _ ?_
     clear hK K
     refine wpAny_ready (rs:=[0]) (by kernel_rfl) (by simp) ?_
     refine AllReady.cons rfl (fun K hK=>?_) AllReady.nil
     refine Hc.step_load_row rfl 71 _ rfl (w.heap.size+1+1) (by simp [Act.eval,Act.put]) 71 D0 (0,0) _ HB5.out.t.d Tryz.underlying71 rfl (by rw [HS0.out];exact iD) ?_
     refine hK _ _ ?_
     clear hK K
     exact CONT.out
 refine wpAny_ready (rs:=[7]) (by kernel_rfl) (by simp) ?_
 refine AllReady.cons rfl (fun K hK=>?_) AllReady.nil
 go_simp
 refine (Ts.out _).mono ?_
 rintro e w6 ⟨rfl,G6⟩
 simp only []
 refine hK _ _ ?_
 clear hK K
 have HB6:Hid (Bs w6 w.heap.size J H Z D0 #[.int .i64 2,.int .i64 rd,.int .i64 r1,.int .i64 r2,.int .i32 im]):=HB5.out.of ((Gr.refl _).drew.trans G6)
 have HB7:Hid (Bs (w6.setRow (w.heap.size+1+1) D1) w.heap.size J H Z D1 #[.int .i64 2,.int .i64 rd,.int .i64 r1,.int .i64 r2,.int .i32 im]):=HB6.out.row D1
 have HG7:Hid (Gr w (w6.setRow (w.heap.size+1+1) D1)):=gr_setRow (HG5.out.trans ((Gr.refl _).drew.trans G6)) (by omega) _
 have k7pc:(w6.setRow (w.heap.size+1+1) D1).cell? ⟨w.heap.size,32,none⟩=some (.int .u32 pc):=(HB7.out.t.cellH 32).trans gpc
 clear G6 Ts HB5 HG5 kpc kop krd
 refine wpAny_ready (rs:=[8]) (by kernel_rfl) (by simp) ?_
 refine AllReady.cons rfl (fun K hK=>?_) AllReady.nil
 refine Hc.step_store rfl 71 (.tmp 5) (.tmp 82) rfl (w.heap.size+1+1) D1 (by simp [Act.eval,Act.put]) (by simp [Act.eval,Act.put]) 71 D0 HB6.out.t.d (by rw [HS1.out];exact iD) (by rw [HS1.out];exact HS0.out) HO1.out ?_
 refine hK _ _ ?_
 clear hK K
 refine wpAny_done (by kernel_rfl) ?_ _
 obtain ⟨y32,hy32⟩:=HC2.out
 have c32:(w6.setRow (w.heap.size+1+1) D1).cell? ⟨w.heap.size+1+1,32,none⟩=some (.int .u32 y32):=(HB7.out.t.cellD 32).trans hy32
 have f32:(w6.setRow (w.heap.size+1+1) D1).frozen? ⟨w.heap.size+1+1,32,none⟩=false:=HB7.out.t.fz 32
 have HB8:Hid (Bt ((w6.setRow (w.heap.size+1+1) D1).setCell ⟨w.heap.size+1+1,32,none⟩ (.int .u32 p4)) w.heap.size H Z D2):=by
  have:=HB7.out.t.set 32 (.int .u32 p4)
  rwa [HE2.out] at this
 have HG8:Hid (Gr w ((w6.setRow (w.heap.size+1+1) D1).setCell ⟨w.heap.size+1+1,32,none⟩ (.int .u32 p4))):=HG7.out.setCell (by simp;omega) _
 clear hy32 HC2
 go_wp2_with (first
  | (refine wpList_load_row rfl 71 _ rfl (w.heap.size+1+1) rfl 71 D2 (0,0) _ ?hl8 Tryz.underlying71 rfl (by rw [HS2.out];exact iD) ?_;(case hl8=>exact HB8.out.d))
  | (refine wpList_store_row rfl 71 _ _ rfl (w.heap.size+1) D2 rfl rfl 71 Z ?hs8 (by rw [HS2.out];exact iD) (by rw [HS2.out,hz]) HO2.out ?_;(case hs8=>exact HB8.out.z)))
 have GF:Gr w (((w6.setRow (w.heap.size+1+1) D1).setCell ⟨w.heap.size+1+1,32,none⟩ (.int .u32 p4)).setRow (w.heap.size+1) D2):=gr_setRow HG8.out (by omega) _
 refine bodyPost_ret (v:=.agg D2) (results_cell_row rfl _ _ _ _ _ (0,0) _ rfl (setRow_heap _ _ _ _ _ (0,0) HB8.out.z) Tryz.underlying71 rfl (by rw [HS2.out];exact iD)) rfl ⟨_,congrArg (fun z=>Ending.returned (.agg z)) HD2.out.symm,⟨HOK.out,rfl,⟨ao,n,cap,rfl,HM.out.of GF,.inl rfl⟩,.inl ⟨rfl,rfl⟩,.inl ⟨rfl,rfl,rfl⟩⟩,GF⟩
end Go.Proofs.YtchllaeembmioaaGreatDoor.Hr
