/-
  Ref4f5: texts of ours that lie in one file.
-/
import Derived.Test.YtkdghgiajifbdaaDoorQ18
set_option linter.unusedVariables false
set_option linter.unusedSimpArgs false
set_option maxHeartbeats 8000000
set_option maxRecDepth 100000
namespace Go.Proofs.YtkdghgiajifbdaaDoor.Hr
open Go.ChangeShapes Go.WideShapes Go.ChangeAt Go.RowKit Mm Hh

variable {h : Hv} {ao : Option Addr} {n cap r1 r2 : Nat} {l : List UInt8} {w : World} {x op rd im : Int}
theorem rs_atf (P:Pr h ao n cap l w x op rd r1 r2 im)(ho:46≤op∧op≤56)(hb:ldOk l 13 (rg h r1)=false)(cc:Int)(hc:cc=if op=46 then 3 else 4):RStep h ao n cap w ⟨h.trap cc,l,[],[]⟩:=by
 have P0:=P
 obtain ⟨o,M,hn,ok,ex,D,d0,d1,s1,t1,i0,i1⟩:=P
 refine (rsRest P0 _).2 ⟨?_⟩
 unfold rsRest
 dsimp only
 clear P0 D
 intro Z hz w5 J hJ HB HG K1 A1 K2 A2
 obtain ⟨HB5,HG5,HM,⟨wp,wa,wb,wn⟩,SP,HS0,HO0,gpc,hB2⟩:=atIns o M HB HG hJ (r1:=r1) (r2:=r2) (im:=im)
 clear HB HG
 have At:Hid (∀W:World,Gr w W→Calls Tryd.prog 82 #[.agg (dA (dv0 h (.slice ao n cap))),.agg #[.int .i64 op,.int .i64 rd,.int .i64 r1,.int .i64 r2,.int .i32 im],.int .u32 (rg h r1),.int .u32 (rg h r2)] W fun e w'=>e=.returned (.tuple #[.agg (dA ((dv0 h (.slice ao n cap)).setH ((dv0 h (.slice ao n cap)).h.trap cc))),.bool false])∧Gr W w'):=fun W G=>by
  rw [hc]
  exact atom_fault (dv0_ok o ao n cap) rfl op rd r1 r2 im (rg h r1) (rg h r2) (M.of G) hn wa.1 wa.2 hb
 clear hb hc
 have b1:(op == 1)=false:=by simp;omega
 have b2:(op == 2)=false:=by simp;omega
 have b3:(op == 3)=false:=by simp;omega
 have b4:(op == 4)=false:=by simp;omega
 have Tr0:Hid (∀W:World,_):=fun W=>trap_any (dv0_ok o ao n cap) cc W
 have HSt:Hid ((dA ((dv0 h (.slice ao n cap)).setH ((dv0 h (.slice ao n cap)).h.trap cc))).size=41):=dA_size (d:=(dv0 h (.slice ao n cap)).setH _) ((dv0_ok o ao n cap).h.trap cc)
 have HOt:Hid ((dA ((dv0 h (.slice ao n cap)).setH ((dv0 h (.slice ao n cap)).h.trap cc))).all (·.oneCell')=true):=one_dA ((dv0_ok o ao n cap).setH ((dv0_ok o ao n cap).h.trap cc))
 have Okt:Hid (((dv0 h (.slice ao n cap)).setH ((dv0 h (.slice ao n cap)).h.trap cc)).Ok):=(dv0_ok o ao n cap).setH ((dv0_ok o ao n cap).h.trap cc)
 generalize hDt:dA ((dv0 h (.slice ao n cap)).setH ((dv0 h (.slice ao n cap)).h.trap cc))=Dt at *
 have HDt:Hid _:=hDt
 clear hDt
 clear Tr0
 generalize dA (dv0 h (.slice ao n cap))=D0 at *
 generalize hA h=H at *
 generalize hth:(Wd.lo (rg h r1+Wd.lo im))=th at *
 generalize hpn:(Wd.lo (h.pc+Wd.lo im))=pn at *
 generalize hp4:(Wd.lo (h.pc+4))=p4 at *
 generalize hnn:(Wd.lo im)=nn at *
 generalize (rg h r1)=xa at *
 generalize (rg h r2)=xb at *
 generalize ldV l 13 h.pc=lx at *
 generalize h.pc=pc at *
 clear hth hpn hp4 hnn
 clear M ok o wp wa wb wn
 obtain ⟨kpc,kop,krd⟩:=insAt HB5.out gpc
 have hop1:46≤op:=ho.1
 have hop2:op≤56:=ho.2
 have q10:¬op≤10:=by omega
 have q15:¬op≤15:=by omega
 have q18:¬op≤18:=by omega
 have q27:¬op≤27:=by omega
 have q45:¬op≤45:=by omega
 have kj2:w5.cell? ⟨J,2,none⟩=some (.int .i64 r1):=HB5.out.cellI 2
 have kj3:w5.cell? ⟨J,3,none⟩=some (.int .i64 r2):=HB5.out.cellI 3
 have kj4:w5.cell? ⟨J,4,none⟩=some (.int .i32 im):=HB5.out.cellI 4
 go_wp2_with (refine wpList_load_row rfl 95 _ rfl (w.heap.size+1+1) rfl 95 D0 (0,0) _ ?hl1 Tryd.underlying95 rfl (by rw [HS0.out];exact iD) ?_;(case hl1=>exact HB5.out.t.d))
 refine (At.out _ HG5.out).mono ?_
 rintro e w7 ⟨rfl,G7⟩
 have HB6:Hid (Bs w7 w.heap.size J H Z D0 #[.int .i64 op,.int .i64 rd,.int .i64 r1,.int .i64 r2,.int .i32 im]):=HB5.out.of G7
 have HB7:Hid (Bs (w7.setRow (w.heap.size+1+1) Dt) w.heap.size J H Z Dt #[.int .i64 op,.int .i64 rd,.int .i64 r1,.int .i64 r2,.int .i32 im]):=HB6.out.row Dt
 have HGt:Hid (Gr w (w7.setRow (w.heap.size+1+1) Dt)):=gr_setRow (HG5.out.trans G7) (by omega) _
 clear G7 At kpc kop krd HB5 HG5 kj2 kj3 kj4
 go_wp2_with (first
  | (refine wpList_store_row rfl 95 _ _ rfl (w.heap.size+1+1) Dt rfl rfl 95 D0 ?hs1 (by rw [HSt.out];exact iD) (by rw [HSt.out];exact HS0.out) HOt.out ?_;(case hs1=>exact HB6.out.t.d))
  | (refine wpList_load_row rfl 95 _ rfl (w.heap.size+1+1) rfl 95 Dt (0,0) _ ?hd1 Tryd.underlying95 rfl (by rw [HSt.out];exact iD) ?_;(case hd1=>exact HB7.out.t.d))
  | (refine wpList_store_row rfl 95 _ _ rfl (w.heap.size+1) Dt rfl rfl 95 Z ?hd2 (by rw [HSt.out];exact iD) (by rw [HSt.out,hz]) HOt.out ?_;(case hd2=>exact HB7.out.t.z)))
 have HRt:Hid _:=HB7.out.t.z
 refine bodyPost_ret (v:=.agg Dt) (results_cell_row rfl _ _ _ _ _ (0,0) _ rfl (srh HRt.out) Tryd.underlying95 rfl (by rw [HSt.out];exact iD)) rfl ⟨_,congrArg (fun z=>Ending.returned (.agg z)) HDt.out.symm,⟨Okt.out,rfl,⟨ao,n,cap,rfl,HM.out.of (gr_setRow HGt.out (by omega) _),.inl rfl⟩,.inl ⟨rfl,rfl⟩,.inl ⟨rfl,rfl,rfl⟩⟩,?_⟩
 exact gr_setRow HGt.out (by omega) _
theorem rs_atlr {h:Hv}{ao:Option Addr}{n cap:Nat}{l:List UInt8}{w:World}{x op rd:Int}{r1 r2:Nat}{im:Int}(P:Pr h ao n cap l w x op rd r1 r2 im)(ho:op=46)(hb:ldOk l 13 (rg h r1)=true):RStep h ao n cap w ⟨((h.hold true (rg h r1)).set rd.toNat (ldV l 13 (rg h r1))).go (Wd.lo (h.pc+4)),l,[],[]⟩:=by
 have P0:=P
 obtain ⟨o,M,hn,ok,ex,D,d0,d1,s1,t1,i0,i1⟩:=P
 subst ho
 refine (rsRest P0 _).2 ⟨?_⟩
 unfold rsRest
 dsimp only
 clear P0 D
 intro Z hz w5 J hJ HB HG K1 A1 K2 A2
 obtain ⟨HB5,HG5,HM,⟨wp,wa,wb,wn⟩,SP,HS0,HO0,gpc,hB2⟩:=atIns o M HB HG hJ (r1:=r1) (r2:=r2) (im:=im)
 clear HB HG
 have wN:W (Wd.lo (h.pc+4)):=.lo _
 have wX:W (ldV l 13 (rg h r1)):=.ldV _ _ _
 have okH:(h.hold true (rg h r1)).Ok:=o.hold true wa.1 wa.2
 have okS:(((dv0 h (.slice ao n cap)).setH (h.hold true (rg h r1))).setH ((h.hold true (rg h r1)).set rd.toNat (ldV l 13 (rg h r1)))).Ok:=((dv0_ok o ao n cap).setH okH).setH (okH.set _ wX.1 wX.2)
 have At:Hid (∀W:World,Gr w W→Calls Tryd.prog 82 #[.agg (dA (dv0 h (.slice ao n cap))),.agg #[.int .i64 46,.int .i64 rd,.int .i64 r1,.int .i64 r2,.int .i32 im],.int .u32 (rg h r1),.int .u32 (rg h r2)] W fun e w'=>e=.returned (.tuple #[.agg (dA (((dv0 h (.slice ao n cap)).setH (h.hold true (rg h r1))).setH ((h.hold true (rg h r1)).set rd.toNat (ldV l 13 (rg h r1))))),.bool true])∧Gr W w'):=fun W G=>atom_lr (dv0_ok o ao n cap) rfl rd r1 r2 im (rg h r1) (rg h r2) (M.of G) hn wa.1 wa.2 d0 d1 hb wX.1 wX.2
 clear hb
 have HS1:Hid ((dA (((dv0 h (.slice ao n cap)).setH (h.hold true (rg h r1))).setH ((h.hold true (rg h r1)).set rd.toNat (ldV l 13 (rg h r1))))).size=41):=dA_size okS.h
 have HO1:Hid ((dA (((dv0 h (.slice ao n cap)).setH (h.hold true (rg h r1))).setH ((h.hold true (rg h r1)).set rd.toNat (ldV l 13 (rg h r1))))).all (·.oneCell')=true):=one_dA okS
 obtain ⟨D2,HD2,HS2,HO2,HE2,HC2,HOK⟩:=finF okS wN
 generalize hD1:dA (((dv0 h (.slice ao n cap)).setH (h.hold true (rg h r1))).setH ((h.hold true (rg h r1)).set rd.toNat (ldV l 13 (rg h r1))))=D1 at *
 clear hD1 okH
 generalize dA (dv0 h (.slice ao n cap))=D0 at *
 generalize hA h=H at *
 generalize hth:(Wd.lo (rg h r1+Wd.lo im))=th at *
 generalize hpn:(Wd.lo (h.pc+Wd.lo im))=pn at *
 generalize hp4:(Wd.lo (h.pc+4))=p4 at *
 generalize hnn:(Wd.lo im)=nn at *
 generalize (rg h r1)=xa at *
 generalize (rg h r2)=xb at *
 generalize ldV l 13 h.pc=lx at *
 generalize h.pc=pc at *
 clear hth hpn hp4 hnn
 clear M ok o wp wa wb wn okS wN wX
 obtain ⟨kpc,kop,krd⟩:=insAt HB5.out gpc
 have kj2:w5.cell? ⟨J,2,none⟩=some (.int .i64 r1):=HB5.out.cellI 2
 have kj3:w5.cell? ⟨J,3,none⟩=some (.int .i64 r2):=HB5.out.cellI 3
 have kj4:w5.cell? ⟨J,4,none⟩=some (.int .i32 im):=HB5.out.cellI 4
 go_wp2_with (refine wpList_load_row rfl 95 _ rfl (w.heap.size+1+1) rfl 95 D0 (0,0) _ ?hl1 Tryd.underlying95 rfl (by rw [HS0.out];exact iD) ?_;(case hl1=>exact HB5.out.t.d))
 refine (At.out _ HG5.out).mono ?_
 rintro e w7 ⟨rfl,G7⟩
 have HB6:Hid (Bs w7 w.heap.size J H Z D0 #[.int .i64 46,.int .i64 rd,.int .i64 r1,.int .i64 r2,.int .i32 im]):=HB5.out.of G7
 have HB7:Hid (Bs (w7.setRow (w.heap.size+1+1) D1) w.heap.size J H Z D1 #[.int .i64 46,.int .i64 rd,.int .i64 r1,.int .i64 r2,.int .i32 im]):=HB6.out.row D1
 have HG7:Hid (Gr w (w7.setRow (w.heap.size+1+1) D1)):=gr_setRow (HG5.out.trans G7) (by omega) _
 clear G7 At kpc kop krd HB5 HG5 kj2 kj3 kj4
 obtain ⟨y32,hy32⟩:=HC2.out
 have c32:(w7.setRow (w.heap.size+1+1) D1).cell? ⟨w.heap.size+1+1,32,none⟩=some (.int .u32 y32):=(HB7.out.t.cellD 32).trans hy32
 have f32:(w7.setRow (w.heap.size+1+1) D1).frozen? ⟨w.heap.size+1+1,32,none⟩=false:=HB7.out.t.fz 32
 have HB8:Hid (Bt ((w7.setRow (w.heap.size+1+1) D1).setCell ⟨w.heap.size+1+1,32,none⟩ (.int .u32 p4)) w.heap.size H Z D2):=by
  have:=HB7.out.t.set 32 (.int .u32 p4)
  rwa [HE2.out] at this
 have HG8:Hid (Gr w ((w7.setRow (w.heap.size+1+1) D1).setCell ⟨w.heap.size+1+1,32,none⟩ (.int .u32 p4))):=HG7.out.setCell (by simp;omega) _
 clear hy32 HC2
 go_wp2_with (first
  | (refine wpList_store_row rfl 95 _ _ rfl (w.heap.size+1+1) D1 rfl rfl 95 D0 ?hs1 (by rw [HS1.out];exact iD) (by rw [HS1.out];exact HS0.out) HO1.out ?_;(case hs1=>exact HB6.out.t.d))
  | (refine wpList_load_row rfl 95 _ rfl (w.heap.size+1+1) rfl 95 D2 (0,0) _ ?hl8 Tryd.underlying95 rfl (by rw [HS2.out];exact iD) ?_;(case hl8=>exact HB8.out.d))
  | (refine wpList_store_row rfl 95 _ _ rfl (w.heap.size+1) D2 rfl rfl 95 Z ?hs8 (by rw [HS2.out];exact iD) (by rw [HS2.out,hz]) HO2.out ?_;(case hs8=>exact HB8.out.z)))
 have GF:Gr w (((w7.setRow (w.heap.size+1+1) D1).setCell ⟨w.heap.size+1+1,32,none⟩ (.int .u32 p4)).setRow (w.heap.size+1) D2):=gr_setRow HG8.out (by omega) _
 refine bodyPost_ret (v:=.agg D2) (results_cell_row rfl _ _ _ _ _ (0,0) _ rfl (setRow_heap _ _ _ _ _ (0,0) HB8.out.z) Tryd.underlying95 rfl (by rw [HS2.out];exact iD)) rfl ⟨_,congrArg (fun z=>Ending.returned (.agg z)) HD2.out.symm,⟨HOK.out,rfl,⟨ao,n,cap,rfl,HM.out.of GF,.inl rfl⟩,.inl ⟨rfl,rfl⟩,.inl ⟨rfl,rfl,rfl⟩⟩,GF⟩
theorem rs_atscn {h:Hv}{ao:Option Addr}{n cap:Nat}{l:List UInt8}{w:World}{x op rd:Int}{r1 r2:Nat}{im:Int}(P:Pr h ao n cap l w x op rd r1 r2 im)(ho:op=47)(hb:ldOk l 13 (rg h r1)=true)(hmi:¬(h.held=true∧h.heldAt=(rg h r1))):RStep h ao n cap w ⟨((h.hold false 0).set rd.toNat 1).go (Wd.lo (h.pc+4)),l,[],[]⟩:=by
 have P0:=P
 obtain ⟨o,M,hn,ok,ex,D,d0,d1,s1,t1,i0,i1⟩:=P
 subst ho
 refine (rsRest P0 _).2 ⟨?_⟩
 unfold rsRest
 dsimp only
 clear P0 D
 intro Z hz w5 J hJ HB HG K1 A1 K2 A2
 obtain ⟨HB5,HG5,HM,⟨wp,wa,wb,wn⟩,SP,HS0,HO0,gpc,hB2⟩:=atIns o M HB HG hJ (r1:=r1) (r2:=r2) (im:=im)
 clear HB HG
 have wN:W (Wd.lo (h.pc+4)):=.lo _
 have wX:W 1:=.one
 have okH:(h.hold false 0).Ok:=o.hold false (x:=0) (by omega) (by omega)
 have okS:(((dv0 h (.slice ao n cap)).setH (h.hold false 0)).setH ((h.hold false 0).set rd.toNat 1)).Ok:=((dv0_ok o ao n cap).setH okH).setH (okH.set _ wX.1 wX.2)
 have At:Hid (∀W:World,Gr w W→Calls Tryd.prog 82 #[.agg (dA (dv0 h (.slice ao n cap))),.agg #[.int .i64 47,.int .i64 rd,.int .i64 r1,.int .i64 r2,.int .i32 im],.int .u32 (rg h r1),.int .u32 (rg h r2)] W fun e w'=>e=.returned (.tuple #[.agg (dA (((dv0 h (.slice ao n cap)).setH (h.hold false 0)).setH ((h.hold false 0).set rd.toNat 1))),.bool true])∧Gr W w'):=fun W G=>atom_sc_no (dv0_ok o ao n cap) rfl rd r1 r2 im (rg h r1) (rg h r2) (M.of G) hn wa.1 wa.2 d0 d1 hb hmi
 clear hb hmi
 have HS1:Hid ((dA (((dv0 h (.slice ao n cap)).setH (h.hold false 0)).setH ((h.hold false 0).set rd.toNat 1))).size=41):=dA_size okS.h
 have HO1:Hid ((dA (((dv0 h (.slice ao n cap)).setH (h.hold false 0)).setH ((h.hold false 0).set rd.toNat 1))).all (·.oneCell')=true):=one_dA okS
 obtain ⟨D2,HD2,HS2,HO2,HE2,HC2,HOK⟩:=finF okS wN
 generalize hD1:dA (((dv0 h (.slice ao n cap)).setH (h.hold false 0)).setH ((h.hold false 0).set rd.toNat 1))=D1 at *
 clear hD1 okH
 generalize dA (dv0 h (.slice ao n cap))=D0 at *
 generalize hA h=H at *
 generalize hth:(Wd.lo (rg h r1+Wd.lo im))=th at *
 generalize hpn:(Wd.lo (h.pc+Wd.lo im))=pn at *
 generalize hp4:(Wd.lo (h.pc+4))=p4 at *
 generalize hnn:(Wd.lo im)=nn at *
 generalize (rg h r1)=xa at *
 generalize (rg h r2)=xb at *
 generalize ldV l 13 h.pc=lx at *
 generalize h.pc=pc at *
 clear hth hpn hp4 hnn
 clear M ok o wp wa wb wn okS wN wX
 obtain ⟨kpc,kop,krd⟩:=insAt HB5.out gpc
 have kj2:w5.cell? ⟨J,2,none⟩=some (.int .i64 r1):=HB5.out.cellI 2
 have kj3:w5.cell? ⟨J,3,none⟩=some (.int .i64 r2):=HB5.out.cellI 3
 have kj4:w5.cell? ⟨J,4,none⟩=some (.int .i32 im):=HB5.out.cellI 4
 go_wp2_with (refine wpList_load_row rfl 95 _ rfl (w.heap.size+1+1) rfl 95 D0 (0,0) _ ?hl1 Tryd.underlying95 rfl (by rw [HS0.out];exact iD) ?_;(case hl1=>exact HB5.out.t.d))
 refine (At.out _ HG5.out).mono ?_
 rintro e w7 ⟨rfl,G7⟩
 have HB6:Hid (Bs w7 w.heap.size J H Z D0 #[.int .i64 47,.int .i64 rd,.int .i64 r1,.int .i64 r2,.int .i32 im]):=HB5.out.of G7
 have HB7:Hid (Bs (w7.setRow (w.heap.size+1+1) D1) w.heap.size J H Z D1 #[.int .i64 47,.int .i64 rd,.int .i64 r1,.int .i64 r2,.int .i32 im]):=HB6.out.row D1
 have HG7:Hid (Gr w (w7.setRow (w.heap.size+1+1) D1)):=gr_setRow (HG5.out.trans G7) (by omega) _
 clear G7 At kpc kop krd HB5 HG5 kj2 kj3 kj4
 obtain ⟨y32,hy32⟩:=HC2.out
 have c32:(w7.setRow (w.heap.size+1+1) D1).cell? ⟨w.heap.size+1+1,32,none⟩=some (.int .u32 y32):=(HB7.out.t.cellD 32).trans hy32
 have f32:(w7.setRow (w.heap.size+1+1) D1).frozen? ⟨w.heap.size+1+1,32,none⟩=false:=HB7.out.t.fz 32
 have HB8:Hid (Bt ((w7.setRow (w.heap.size+1+1) D1).setCell ⟨w.heap.size+1+1,32,none⟩ (.int .u32 p4)) w.heap.size H Z D2):=by
  have:=HB7.out.t.set 32 (.int .u32 p4)
  rwa [HE2.out] at this
 have HG8:Hid (Gr w ((w7.setRow (w.heap.size+1+1) D1).setCell ⟨w.heap.size+1+1,32,none⟩ (.int .u32 p4))):=HG7.out.setCell (by simp;omega) _
 clear hy32 HC2
 go_wp2_with (first
  | (refine wpList_store_row rfl 95 _ _ rfl (w.heap.size+1+1) D1 rfl rfl 95 D0 ?hs1 (by rw [HS1.out];exact iD) (by rw [HS1.out];exact HS0.out) HO1.out ?_;(case hs1=>exact HB6.out.t.d))
  | (refine wpList_load_row rfl 95 _ rfl (w.heap.size+1+1) rfl 95 D2 (0,0) _ ?hl8 Tryd.underlying95 rfl (by rw [HS2.out];exact iD) ?_;(case hl8=>exact HB8.out.d))
  | (refine wpList_store_row rfl 95 _ _ rfl (w.heap.size+1) D2 rfl rfl 95 Z ?hs8 (by rw [HS2.out];exact iD) (by rw [HS2.out,hz]) HO2.out ?_;(case hs8=>exact HB8.out.z)))
 have GF:Gr w (((w7.setRow (w.heap.size+1+1) D1).setCell ⟨w.heap.size+1+1,32,none⟩ (.int .u32 p4)).setRow (w.heap.size+1) D2):=gr_setRow HG8.out (by omega) _
 refine bodyPost_ret (v:=.agg D2) (results_cell_row rfl _ _ _ _ _ (0,0) _ rfl (setRow_heap _ _ _ _ _ (0,0) HB8.out.z) Tryd.underlying95 rfl (by rw [HS2.out];exact iD)) rfl ⟨_,congrArg (fun z=>Ending.returned (.agg z)) HD2.out.symm,⟨HOK.out,rfl,⟨ao,n,cap,rfl,HM.out.of GF,.inl rfl⟩,.inl ⟨rfl,rfl⟩,.inl ⟨rfl,rfl,rfl⟩⟩,GF⟩
theorem rs_atscy {h:Hv}{ao:Option Addr}{n cap:Nat}{l:List UInt8}{w:World}{x op rd:Int}{r1 r2:Nat}{im:Int}(P:Pr h ao n cap l w x op rd r1 r2 im)(ho:op=47)(hb:ldOk l 13 (rg h r1)=true)(hmi:h.held=true∧h.heldAt=(rg h r1)):RStep h ao n cap w ⟨((h.hold false 0).set rd.toNat 0).go (Wd.lo (h.pc+4)),stL l 18 (rg h r1) (rg h r2),[],[((rg h r1),4)]⟩:=by
 have P0:=P
 obtain ⟨o,M,hn,ok,ex,D,d0,d1,s1,t1,i0,i1⟩:=P
 subst ho
 refine (rsRest P0 _).2 ⟨?_⟩
 unfold rsRest
 dsimp only
 clear P0 D
 intro Z hz w5 J hJ HB HG K1 A1 K2 A2
 obtain ⟨HB5,HG5,HM,⟨wp,wa,wb,wn⟩,SP,HS0,HO0,gpc,hB2⟩:=atIns o M HB HG hJ (r1:=r1) (r2:=r2) (im:=im)
 clear HB HG
 have wX:W 0:=.zero
 have At:Hid (∀W:World,Gr w W→Calls Tryd.prog 82 #[.agg (dA (dv0 h (.slice ao n cap))),.agg #[.int .i64 47,.int .i64 rd,.int .i64 r1,.int .i64 r2,.int .i32 im],.int .u32 (rg h r1),.int .u32 (rg h r2)] W fun e w'=>∃ao' n' cap',e=.returned (.tuple #[.agg (dA ((((dv0 h (.slice ao n cap)).setH (h.hold false 0)).setM (.slice ao' n' cap') (rg h r1) 4).setH (((dv0 h (.slice ao n cap)).setH (h.hold false 0)).h.set rd.toNat 0))),.bool true])∧Mem w' ao' n' (stL l 18 (rg h r1) (rg h r2))∧Gr W w'∧∀ad,ao'=some ad→W.heap.size≤ad.block∧n'≤cap'):=fun W G=>atom_sc_yes (dv0_ok o ao n cap) rfl rd r1 r2 im (rg h r1) (rg h r2) (M.of G) hn wa.1 wa.2 wb.1 wb.2 d0 d1 hb hmi
 have HwN:Hid (W (Wd.lo (h.pc+4))):=.lo _
 have Hok:Hid (∀(a1:Option Addr) (n1 c1:Nat),((((dv0 h (.slice ao n cap)).setH (h.hold false 0)).setM (.slice a1 n1 c1) (rg h r1) 4).setH (((dv0 h (.slice ao n cap)).setH (h.hold false 0)).h.set rd.toNat 0)).Ok):=fun a1 n1 c1=>(Dv.Ok.setM ((dv0_ok o ao n cap).setH (o.hold false (x:=0) (by omega) (by omega))) a1 n1 c1 (rg h r1) 4).setH (((dv0_ok o ao n cap).setH (o.hold false (x:=0) (by omega) (by omega))).h.set _ wX.1 wX.2)
 clear hb hmi
 generalize stL l 18 (rg h r1) (rg h r2)=LL at *
 generalize dA (dv0 h (.slice ao n cap))=D0 at *
 generalize hA h=H at *
 generalize hth:(Wd.lo (rg h r1+Wd.lo im))=th at *
 generalize hpn:(Wd.lo (h.pc+Wd.lo im))=pn at *
 generalize hp4:(Wd.lo (h.pc+4))=p4 at *
 generalize hnn:(Wd.lo im)=nn at *
 generalize (rg h r1)=xa at *
 generalize (rg h r2)=xb at *
 generalize ldV l 13 h.pc=lx at *
 generalize h.pc=pc at *
 clear hth hpn hp4 hnn
 clear M ok o wp wa wb wn wX
 obtain ⟨kpc,kop,krd⟩:=insAt HB5.out gpc
 have kj2:w5.cell? ⟨J,2,none⟩=some (.int .i64 r1):=HB5.out.cellI 2
 have kj3:w5.cell? ⟨J,3,none⟩=some (.int .i64 r2):=HB5.out.cellI 3
 have kj4:w5.cell? ⟨J,4,none⟩=some (.int .i32 im):=HB5.out.cellI 4
 go_wp2_with (refine wpList_load_row rfl 95 _ rfl (w.heap.size+1+1) rfl 95 D0 (0,0) _ ?hl1 Tryd.underlying95 rfl (by rw [HS0.out];exact iD) ?_;(case hl1=>exact HB5.out.t.d))
 refine (At.out _ HG5.out).mono ?_
 rintro e w7 ⟨a1,n1,c1,rfl,M7,G7,F7⟩
 have okS:((((dv0 h (.slice ao n cap)).setH (h.hold false 0)).setM (.slice a1 n1 c1) xa 4).setH (((dv0 h (.slice ao n cap)).setH (h.hold false 0)).h.set rd.toNat 0)).Ok:=Hok.out a1 n1 c1
 have HS1:Hid ((dA ((((dv0 h (.slice ao n cap)).setH (h.hold false 0)).setM (.slice a1 n1 c1) xa 4).setH (((dv0 h (.slice ao n cap)).setH (h.hold false 0)).h.set rd.toNat 0))).size=41):=dA_size okS.h
 have HO1:Hid ((dA ((((dv0 h (.slice ao n cap)).setH (h.hold false 0)).setM (.slice a1 n1 c1) xa 4).setH (((dv0 h (.slice ao n cap)).setH (h.hold false 0)).h.set rd.toNat 0))).all (·.oneCell')=true):=one_dA okS
 have wN:=HwN.out
 obtain ⟨D2,HD2,HS2,HO2,HE2,HC2,HOK⟩:=finF okS wN
 generalize hD1:dA ((((dv0 h (.slice ao n cap)).setH (h.hold false 0)).setM (.slice a1 n1 c1) xa 4).setH (((dv0 h (.slice ao n cap)).setH (h.hold false 0)).h.set rd.toNat 0))=D1 at *
 clear hD1 okS wN
 have HB6:Hid (Bs w7 w.heap.size J H Z D0 #[.int .i64 47,.int .i64 rd,.int .i64 r1,.int .i64 r2,.int .i32 im]):=HB5.out.of G7
 have hlt5:=HB5.out.t.lt
 have HF7:Hid (∀ad,a1=some ad→w.heap.size+1+1<ad.block∧n1≤c1):=fun ad q=>by have:=F7 ad q;omega
 have HM7:Hid (Mem w7 a1 n1 LL):=M7
 have HB7:Hid (Bs (w7.setRow (w.heap.size+1+1) D1) w.heap.size J H Z D1 #[.int .i64 47,.int .i64 rd,.int .i64 r1,.int .i64 r2,.int .i32 im]):=HB6.out.row D1
 have HG7:Hid (Gr w (w7.setRow (w.heap.size+1+1) D1)):=gr_setRow (HG5.out.trans G7) (by omega) _
 clear G7 M7 F7 At kpc kop krd HB5 HG5 kj2 kj3 kj4
 obtain ⟨y32,hy32⟩:=HC2.out
 have c32:(w7.setRow (w.heap.size+1+1) D1).cell? ⟨w.heap.size+1+1,32,none⟩=some (.int .u32 y32):=(HB7.out.t.cellD 32).trans hy32
 have f32:(w7.setRow (w.heap.size+1+1) D1).frozen? ⟨w.heap.size+1+1,32,none⟩=false:=HB7.out.t.fz 32
 have HB8:Hid (Bt ((w7.setRow (w.heap.size+1+1) D1).setCell ⟨w.heap.size+1+1,32,none⟩ (.int .u32 p4)) w.heap.size H Z D2):=by
  have:=HB7.out.t.set 32 (.int .u32 p4)
  rwa [HE2.out] at this
 have HG8:Hid (Gr w ((w7.setRow (w.heap.size+1+1) D1).setCell ⟨w.heap.size+1+1,32,none⟩ (.int .u32 p4))):=HG7.out.setCell (by simp;omega) _
 clear hy32 HC2
 go_wp2_with (first
  | (refine wpList_store_row rfl 95 _ _ rfl (w.heap.size+1+1) D1 rfl rfl 95 D0 ?hs1 (by rw [HS1.out];exact iD) (by rw [HS1.out];exact HS0.out) HO1.out ?_;(case hs1=>exact HB6.out.t.d))
  | (refine wpList_load_row rfl 95 _ rfl (w.heap.size+1+1) rfl 95 D2 (0,0) _ ?hl8 Tryd.underlying95 rfl (by rw [HS2.out];exact iD) ?_;(case hl8=>exact HB8.out.d))
  | (refine wpList_store_row rfl 95 _ _ rfl (w.heap.size+1) D2 rfl rfl 95 Z ?hs8 (by rw [HS2.out];exact iD) (by rw [HS2.out,hz]) HO2.out ?_;(case hs8=>exact HB8.out.z)))
 have MF:Mem (((w7.setRow (w.heap.size+1+1) D1).setCell ⟨w.heap.size+1+1,32,none⟩ (.int .u32 p4)).setRow (w.heap.size+1) D2) a1 n1 LL:=HM7.out.apart fun ad q=>by
  have:=HF7.out ad q
  rw [setRow_other _ _ _ _ (by omega),heap_setCell_other _ _ _ _ (by simp;omega),setRow_other _ _ _ _ (by omega)]
 have GF:Gr w (((w7.setRow (w.heap.size+1+1) D1).setCell ⟨w.heap.size+1+1,32,none⟩ (.int .u32 p4)).setRow (w.heap.size+1) D2):=gr_setRow HG8.out (by omega) _
 refine bodyPost_ret (v:=.agg D2) (results_cell_row rfl _ _ _ _ _ (0,0) _ rfl (setRow_heap _ _ _ _ _ (0,0) HB8.out.z) Tryd.underlying95 rfl (by rw [HS2.out];exact iD)) rfl ⟨_,congrArg (fun z=>Ending.returned (.agg z)) HD2.out.symm,⟨HOK.out,rfl,⟨a1,n1,c1,rfl,MF,.inr fun ad q=>by have:=HF7.out ad q;omega⟩,.inl ⟨rfl,rfl⟩,.inr rfl⟩,GF⟩
theorem rs_atamo {h:Hv}{ao:Option Addr}{n cap:Nat}{l:List UInt8}{w:World}{x op rd:Int}{r1 r2:Nat}{im:Int}(P:Pr h ao n cap l w x op rd r1 r2 im)(ho:48≤op∧op≤56)(hb:ldOk l 13 (rg h r1)=true):RStep h ao n cap w ⟨(h.set rd.toNat (ldV l 13 (rg h r1))).go (Wd.lo (h.pc+4)),stL l 18 (rg h r1) (Wd.amo op (ldV l 13 (rg h r1)) (rg h r2)),[],[((rg h r1),4)]⟩:=by
 have P0:=P
 obtain ⟨o,M,hn,ok,ex,D,d0,d1,s1,t1,i0,i1⟩:=P
 refine (rsRest P0 _).2 ⟨?_⟩
 unfold rsRest
 dsimp only
 clear P0 D
 intro Z hz w5 J hJ HB HG K1 A1 K2 A2
 obtain ⟨HB5,HG5,HM,⟨wp,wa,wb,wn⟩,SP,HS0,HO0,gpc,hB2⟩:=atIns o M HB HG hJ (r1:=r1) (r2:=r2) (im:=im)
 clear HB HG
 have wX:W (ldV l 13 (rg h r1)):=.ldV _ _ _
 have At:Hid (∀W:World,Gr w W→Calls Tryd.prog 82 #[.agg (dA (dv0 h (.slice ao n cap))),.agg #[.int .i64 op,.int .i64 rd,.int .i64 r1,.int .i64 r2,.int .i32 im],.int .u32 (rg h r1),.int .u32 (rg h r2)] W fun e w'=>∃ao' n' cap',e=.returned (.tuple #[.agg (dA (((dv0 h (.slice ao n cap)).setM (.slice ao' n' cap') (rg h r1) 4).setH ((dv0 h (.slice ao n cap)).h.set rd.toNat (ldV l 13 (rg h r1))))),.bool true])∧Mem w' ao' n' (stL l 18 (rg h r1) (Wd.amo op (ldV l 13 (rg h r1)) (rg h r2)))∧Gr W w'∧∀ad,ao'=some ad→W.heap.size≤ad.block∧n'≤cap'):=fun W G=>atom_amo (dv0_ok o ao n cap) rfl op rd r1 r2 im (rg h r1) (rg h r2) (M.of G) hn wa.1 wa.2 wb.1 wb.2 d0 d1 hb (by omega) (by omega)
 have HwN:Hid (W (Wd.lo (h.pc+4))):=.lo _
 have Hok:Hid (∀(a1:Option Addr) (n1 c1:Nat),(((dv0 h (.slice ao n cap)).setM (.slice a1 n1 c1) (rg h r1) 4).setH ((dv0 h (.slice ao n cap)).h.set rd.toNat (ldV l 13 (rg h r1)))).Ok):=fun a1 n1 c1=>(Dv.Ok.setM (dv0_ok o ao n cap) a1 n1 c1 (rg h r1) 4).setH ((dv0_ok o ao n cap).h.set _ wX.1 wX.2)
 clear hb
 generalize stL l 18 (rg h r1) (Wd.amo op (ldV l 13 (rg h r1)) (rg h r2))=LL at *
 generalize (ldV l 13 (rg h r1))=rx at *
 have b1:(op == 1)=false:=by simp;omega
 have b2:(op == 2)=false:=by simp;omega
 have b3:(op == 3)=false:=by simp;omega
 have b4:(op == 4)=false:=by simp;omega
 have b46:(op == 46)=false:=by simp;omega
 have b47:(op == 47)=false:=by simp;omega
 generalize dA (dv0 h (.slice ao n cap))=D0 at *
 generalize hA h=H at *
 generalize hth:(Wd.lo (rg h r1+Wd.lo im))=th at *
 generalize hpn:(Wd.lo (h.pc+Wd.lo im))=pn at *
 generalize hp4:(Wd.lo (h.pc+4))=p4 at *
 generalize hnn:(Wd.lo im)=nn at *
 generalize (rg h r1)=xa at *
 generalize (rg h r2)=xb at *
 generalize ldV l 13 h.pc=lx at *
 generalize h.pc=pc at *
 clear hth hpn hp4 hnn
 clear M ok o wp wa wb wn wX
 obtain ⟨kpc,kop,krd⟩:=insAt HB5.out gpc
 have hop1:46≤op:=by omega
 have hop2:op≤56:=ho.2
 have q10:¬op≤10:=by omega
 have q15:¬op≤15:=by omega
 have q18:¬op≤18:=by omega
 have q27:¬op≤27:=by omega
 have q45:¬op≤45:=by omega
 have kj2:w5.cell? ⟨J,2,none⟩=some (.int .i64 r1):=HB5.out.cellI 2
 have kj3:w5.cell? ⟨J,3,none⟩=some (.int .i64 r2):=HB5.out.cellI 3
 have kj4:w5.cell? ⟨J,4,none⟩=some (.int .i32 im):=HB5.out.cellI 4
 go_wp2_with (refine wpList_load_row rfl 95 _ rfl (w.heap.size+1+1) rfl 95 D0 (0,0) _ ?hl1 Tryd.underlying95 rfl (by rw [HS0.out];exact iD) ?_;(case hl1=>exact HB5.out.t.d))
 refine (At.out _ HG5.out).mono ?_
 rintro e w7 ⟨a1,n1,c1,rfl,M7,G7,F7⟩
 have okS:(((dv0 h (.slice ao n cap)).setM (.slice a1 n1 c1) xa 4).setH ((dv0 h (.slice ao n cap)).h.set rd.toNat rx)).Ok:=Hok.out a1 n1 c1
 have HS1:Hid ((dA (((dv0 h (.slice ao n cap)).setM (.slice a1 n1 c1) xa 4).setH ((dv0 h (.slice ao n cap)).h.set rd.toNat rx))).size=41):=dA_size okS.h
 have HO1:Hid ((dA (((dv0 h (.slice ao n cap)).setM (.slice a1 n1 c1) xa 4).setH ((dv0 h (.slice ao n cap)).h.set rd.toNat rx))).all (·.oneCell')=true):=one_dA okS
 have wN:=HwN.out
 obtain ⟨D2,HD2,HS2,HO2,HE2,HC2,HOK⟩:=finF okS wN
 generalize hD1:dA (((dv0 h (.slice ao n cap)).setM (.slice a1 n1 c1) xa 4).setH ((dv0 h (.slice ao n cap)).h.set rd.toNat rx))=D1 at *
 clear hD1 okS wN
 have HB6:Hid (Bs w7 w.heap.size J H Z D0 #[.int .i64 op,.int .i64 rd,.int .i64 r1,.int .i64 r2,.int .i32 im]):=HB5.out.of G7
 have hlt5:=HB5.out.t.lt
 have HF7:Hid (∀ad,a1=some ad→w.heap.size+1+1<ad.block∧n1≤c1):=fun ad q=>by have:=F7 ad q;omega
 have HM7:Hid (Mem w7 a1 n1 LL):=M7
 have HB7:Hid (Bs (w7.setRow (w.heap.size+1+1) D1) w.heap.size J H Z D1 #[.int .i64 op,.int .i64 rd,.int .i64 r1,.int .i64 r2,.int .i32 im]):=HB6.out.row D1
 have HG7:Hid (Gr w (w7.setRow (w.heap.size+1+1) D1)):=gr_setRow (HG5.out.trans G7) (by omega) _
 clear G7 M7 F7 At kpc kop krd HB5 HG5 kj2 kj3 kj4
 obtain ⟨y32,hy32⟩:=HC2.out
 have c32:(w7.setRow (w.heap.size+1+1) D1).cell? ⟨w.heap.size+1+1,32,none⟩=some (.int .u32 y32):=(HB7.out.t.cellD 32).trans hy32
 have f32:(w7.setRow (w.heap.size+1+1) D1).frozen? ⟨w.heap.size+1+1,32,none⟩=false:=HB7.out.t.fz 32
 have HB8:Hid (Bt ((w7.setRow (w.heap.size+1+1) D1).setCell ⟨w.heap.size+1+1,32,none⟩ (.int .u32 p4)) w.heap.size H Z D2):=by
  have:=HB7.out.t.set 32 (.int .u32 p4)
  rwa [HE2.out] at this
 have HG8:Hid (Gr w ((w7.setRow (w.heap.size+1+1) D1).setCell ⟨w.heap.size+1+1,32,none⟩ (.int .u32 p4))):=HG7.out.setCell (by simp;omega) _
 clear hy32 HC2
 go_wp2_with (first
  | (refine wpList_store_row rfl 95 _ _ rfl (w.heap.size+1+1) D1 rfl rfl 95 D0 ?hs1 (by rw [HS1.out];exact iD) (by rw [HS1.out];exact HS0.out) HO1.out ?_;(case hs1=>exact HB6.out.t.d))
  | (refine wpList_load_row rfl 95 _ rfl (w.heap.size+1+1) rfl 95 D2 (0,0) _ ?hl8 Tryd.underlying95 rfl (by rw [HS2.out];exact iD) ?_;(case hl8=>exact HB8.out.d))
  | (refine wpList_store_row rfl 95 _ _ rfl (w.heap.size+1) D2 rfl rfl 95 Z ?hs8 (by rw [HS2.out];exact iD) (by rw [HS2.out,hz]) HO2.out ?_;(case hs8=>exact HB8.out.z)))
 have MF:Mem (((w7.setRow (w.heap.size+1+1) D1).setCell ⟨w.heap.size+1+1,32,none⟩ (.int .u32 p4)).setRow (w.heap.size+1) D2) a1 n1 LL:=HM7.out.apart fun ad q=>by
  have:=HF7.out ad q
  rw [setRow_other _ _ _ _ (by omega),heap_setCell_other _ _ _ _ (by simp;omega),setRow_other _ _ _ _ (by omega)]
 have GF:Gr w (((w7.setRow (w.heap.size+1+1) D1).setCell ⟨w.heap.size+1+1,32,none⟩ (.int .u32 p4)).setRow (w.heap.size+1) D2):=gr_setRow HG8.out (by omega) _
 refine bodyPost_ret (v:=.agg D2) (results_cell_row rfl _ _ _ _ _ (0,0) _ rfl (setRow_heap _ _ _ _ _ (0,0) HB8.out.z) Tryd.underlying95 rfl (by rw [HS2.out];exact iD)) rfl ⟨_,congrArg (fun z=>Ending.returned (.agg z)) HD2.out.symm,⟨HOK.out,rfl,⟨a1,n1,c1,rfl,MF,.inr fun ad q=>by have:=HF7.out ad q;omega⟩,.inl ⟨rfl,rfl⟩,.inr rfl⟩,GF⟩
end Go.Proofs.YtkdghgiajifbdaaDoor.Hr
