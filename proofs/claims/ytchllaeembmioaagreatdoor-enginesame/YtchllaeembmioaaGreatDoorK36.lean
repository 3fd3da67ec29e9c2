/-
  Ref4f3: texts of ours that lie in one file.
-/
import Derived.Test.YtchllaeembmioaaGreatDoorK34
set_option linter.unusedVariables false
set_option linter.unusedSimpArgs false
set_option maxHeartbeats 8000000
set_option maxRecDepth 100000
namespace Go.Proofs.YtchllaeembmioaaGreatDoor.Hr
open Go.ChangeShapes Go.WideShapes Go.ChangeAt Go.RowKit Mm Hh

variable {h : Hv} {ao : Option Addr} {n cap r1 r2 : Nat} {l : List UInt8} {w : World} {x op rd im : Int}
theorem rs_fence {h:Hv}{ao:Option Addr}{n cap:Nat}{l:List UInt8}{w:World}{x op rd:Int}{r1 r2:Nat}{im:Int}(P:Pr h ao n cap l w x op rd r1 r2 im)(ho:op=57):RStep h ao n cap w ⟨h.go (Wd.lo (h.pc+4)),l,[],[]⟩:=by
 have P0:=P
 obtain ⟨o,M,hn,ok,ex,D,d0,d1,s1,t1,i0,i1⟩:=P
 subst ho
 refine (rsRest P0 _).2 ⟨?_⟩
 unfold rsRest
 dsimp only
 clear P0 D
 intro Z hz w5 J hJ HB HG K1 A1 K2 A2
 obtain ⟨HB5,HG5,HM,⟨wp,wa,wb,wn⟩,SP,HS0,HO0,gpc,hB2⟩:=atIns o M HB HG hJ (r1:=r1) (r2:=r2) (im:=im)
 clear HB HG
 have wN:W (Wd.lo (h.pc+4)):=.lo _
 obtain ⟨D2,HD2,HS2,HO2,HE2,HC2,HOK⟩:=finF (dv0_ok o ao n cap) wN
 generalize dA (dv0 h (.slice ao n cap))=D0 at *
 generalize hA h=H at *
 generalize hth:(Wd.lo (rg h r1+Wd.lo im))=th at *
 generalize hpn:(Wd.lo (h.pc+Wd.lo im))=pn at *
 generalize hp4:(Wd.lo (h.pc+4))=p4 at *
 generalize hnn:(Wd.lo im)=nn at *
 generalize (rg h r1)=xa at *
 generalize (rg h r2)=xb at *
 generalize ldV l 13 h.pc=lx at *
 generalize h.pc=pc at *
 clear hth hpn hp4 hnn
 clear M ok o wp wa wb wn wN
 obtain ⟨kpc,kop,krd⟩:=insAt HB5.out gpc
 obtain ⟨y32,hy32⟩:=HC2.out
 have c32:(w5).cell? ⟨w.heap.size+1+1,32,none⟩=some (.int .u32 y32):=(HB5.out.t.cellD 32).trans hy32
 have f32:(w5).frozen? ⟨w.heap.size+1+1,32,none⟩=false:=HB5.out.t.fz 32
 have HB8:Hid (Bt ((w5).setCell ⟨w.heap.size+1+1,32,none⟩ (.int .u32 p4)) w.heap.size H Z D2):=by
  have:=HB5.out.t.set 32 (.int .u32 p4)
  rwa [HE2.out] at this
 have HG8:Hid (Gr w ((w5).setCell ⟨w.heap.size+1+1,32,none⟩ (.int .u32 p4))):=HG5.out.setCell (by simp;omega) _
 clear hy32 HC2
 go_wp2_with (first
  | (refine wpList_load_row rfl 71 _ rfl (w.heap.size+1+1) rfl 71 D2 (0,0) _ ?hl8 Tryz.underlying71 rfl (by rw [HS2.out];exact iD) ?_;(case hl8=>exact HB8.out.d))
  | (refine wpList_store_row rfl 71 _ _ rfl (w.heap.size+1) D2 rfl rfl 71 Z ?hs8 (by rw [HS2.out];exact iD) (by rw [HS2.out,hz]) HO2.out ?_;(case hs8=>exact HB8.out.z)))
 have GF:Gr w (((w5).setCell ⟨w.heap.size+1+1,32,none⟩ (.int .u32 p4)).setRow (w.heap.size+1) D2):=gr_setRow HG8.out (by omega) _
 refine bodyPost_ret (v:=.agg D2) (results_cell_row rfl _ _ _ _ _ (0,0) _ rfl (setRow_heap _ _ _ _ _ (0,0) HB8.out.z) Tryz.underlying71 rfl (by rw [HS2.out];exact iD)) rfl ⟨_,congrArg (fun z=>Ending.returned (.agg z)) HD2.out.symm,⟨HOK.out,rfl,⟨ao,n,cap,rfl,HM.out.of GF,.inl rfl⟩,.inl ⟨rfl,rfl⟩,.inl ⟨rfl,rfl,rfl⟩⟩,GF⟩
theorem rs_alun {h:Hv}{ao:Option Addr}{n cap:Nat}{l:List UInt8}{w:World}{x op rd:Int}{r1 r2:Nat}{im:Int}(P:Pr h ao n cap l w x op rd r1 r2 im)(ho:19≤op∧op≤27):RStep h ao n cap w ⟨(h.set rd.toNat (Wd.alu (opn op) (rg h r1) (Wd.lo im))).go (Wd.lo (h.pc+4)),l,[],[]⟩:=by
 have P0:=P
 obtain ⟨o,M,hn,ok,ex,D,d0,d1,s1,t1,i0,i1⟩:=P
 refine (rsRest P0 _).2 ⟨?_⟩
 unfold rsRest
 dsimp only
 clear P0 D
 intro Z hz w5 J hJ HB HG K1 A1 K2 A2
 obtain ⟨HB5,HG5,HM,⟨wp,wa,wb,wn⟩,SP,HS0,HO0,gpc,hB2⟩:=atIns o M HB HG hJ (r1:=r1) (r2:=r2) (im:=im)
 clear HB HG
 have wX:W (Wd.alu (opn op) (rg h r1) (Wd.lo im)):=wa.alu wn
 have wN:W (Wd.lo (h.pc+4)):=.lo _
 have Al:Hid (∀W:World,Calls Tryz.prog 40 #[.int .i64 (opn op),.int .u32 (rg h r1),.int .u32 (Wd.lo im)] W fun e w'=>e=.returned (.int .u32 (Wd.alu (opn op) (rg h r1) (Wd.lo im)))∧Gr W w'):=fun W=>(Rw.alu_any _ _ _ W wa.1 wa.2 wn.1 wn.2).mono fun e w' ⟨q,k,r⟩=>⟨q,by rw [r];exact (Gr.refl _).drewN k⟩
 have Op:Hid (∀W:World,Calls Tryz.prog 41 #[.int .i64 op] W fun e w'=>e=.returned (.int .i64 (opn op))∧Gr W w'):=fun W=>(operation_any op W).mono fun e w' h=>⟨h.1,by rw [h.2];exact Gr.refl _⟩
 have b1:(op == 1)=false:=by simp;omega
 have b2:(op == 2)=false:=by simp;omega
 have b3:(op == 3)=false:=by simp;omega
 have b4:(op == 4)=false:=by simp;omega
 obtain ⟨Ts,okS,HS1,HO1⟩:=setF (dv0_ok o ao n cap) d0 d1 wX
 obtain ⟨D2,HD2,HS2,HO2,HE2,HC2,HOK⟩:=finF okS wN
 generalize hD1:dA ((dv0 h (.slice ao n cap)).setH ((dv0 h (.slice ao n cap)).h.set rd.toNat (Wd.alu (opn op) (rg h r1) (Wd.lo im))))=D1 at *
 clear hD1
 generalize dA (dv0 h (.slice ao n cap))=D0 at *
 generalize (Wd.alu (opn op) (rg h r1) (Wd.lo im))=rx at *
 generalize hA h=H at *
 generalize hth:(Wd.lo (rg h r1+Wd.lo im))=th at *
 generalize hpn:(Wd.lo (h.pc+Wd.lo im))=pn at *
 generalize hp4:(Wd.lo (h.pc+4))=p4 at *
 generalize hnn:(Wd.lo im)=nn at *
 generalize (rg h r1)=xa at *
 generalize (rg h r2)=xb at *
 generalize ldV l 13 h.pc=lx at *
 generalize h.pc=pc at *
 clear hth hpn hp4 hnn
 clear M ok o wp wa wb wn okS wX wN
 obtain ⟨kpc,kop,krd⟩:=insAt HB5.out gpc
 have hop1:19≤op:=ho.1
 have hop2:op≤27:=ho.2
 have q10:¬op≤10:=by omega
 have q15:¬op≤15:=by omega
 have q18:¬op≤18:=by omega
 have kop':=kop
 go_wp2_with fail
 refine (Op.out _).mono ?_
 rintro e wo ⟨rfl,Go'⟩
 have HBo:Hid (Bs wo w.heap.size J H Z D0 #[.int .i64 op,.int .i64 rd,.int .i64 r1,.int .i64 r2,.int .i32 im]):=HB5.out.of Go'
 have HGo:Hid (Gr w wo):=HG5.out.trans Go'
 clear Go' Op
 go_wp2_with fail
 refine (Al.out _).mono ?_
 rintro e w7 ⟨rfl,G7⟩
 have HBx:Hid (Bs w7 w.heap.size J H Z D0 #[.int .i64 op,.int .i64 rd,.int .i64 r1,.int .i64 r2,.int .i32 im]):=HBo.out.of G7
 have HGx:Hid (Gr w w7):=HGo.out.trans G7
 have k7rd:w7.cell? ⟨J,1,none⟩=some (.int .i64 rd):=HBx.out.cellI 1
 clear G7 Al kpc kop krd HB5 HG5 HBo HGo kop'
 go_wp2_with (refine wpList_load_row rfl 71 _ rfl (w.heap.size+1+1) rfl 71 D0 (0,0) _ ?hl1 Tryz.underlying71 rfl (by rw [HS0.out];exact iD) ?_;(case hl1=>exact HBx.out.t.d))
 refine (Ts.out _).mono ?_
 rintro e w6 ⟨rfl,G6⟩
 have HB6:Hid (Bs w6 w.heap.size J H Z D0 #[.int .i64 op,.int .i64 rd,.int .i64 r1,.int .i64 r2,.int .i32 im]):=HBx.out.of G6
 have HB7:Hid (Bs (w6.setRow (w.heap.size+1+1) D1) w.heap.size J H Z D1 #[.int .i64 op,.int .i64 rd,.int .i64 r1,.int .i64 r2,.int .i32 im]):=HB6.out.row D1
 have HG7:Hid (Gr w (w6.setRow (w.heap.size+1+1) D1)):=gr_setRow (HGx.out.trans G6) (by omega) _
 have k7pc:(w6.setRow (w.heap.size+1+1) D1).cell? ⟨w.heap.size,32,none⟩=some (.int .u32 pc):=(HB7.out.t.cellH 32).trans gpc
 clear G6 Ts HBx HGx k7rd
 obtain ⟨y32,hy32⟩:=HC2.out
 have c32:(w6.setRow (w.heap.size+1+1) D1).cell? ⟨w.heap.size+1+1,32,none⟩=some (.int .u32 y32):=(HB7.out.t.cellD 32).trans hy32
 have f32:(w6.setRow (w.heap.size+1+1) D1).frozen? ⟨w.heap.size+1+1,32,none⟩=false:=HB7.out.t.fz 32
 have HB8:Hid (Bt ((w6.setRow (w.heap.size+1+1) D1).setCell ⟨w.heap.size+1+1,32,none⟩ (.int .u32 p4)) w.heap.size H Z D2):=by
  have:=HB7.out.t.set 32 (.int .u32 p4)
  rwa [HE2.out] at this
 have HG8:Hid (Gr w ((w6.setRow (w.heap.size+1+1) D1).setCell ⟨w.heap.size+1+1,32,none⟩ (.int .u32 p4))):=HG7.out.setCell (by simp;omega) _
 clear hy32 HC2
 go_wp2_with (first
  | (refine wpList_store_row rfl 71 _ _ rfl (w.heap.size+1+1) D1 rfl rfl 71 D0 ?hs1 (by rw [HS1.out];exact iD) (by rw [HS1.out];exact HS0.out) HO1.out ?_;(case hs1=>exact HB6.out.t.d))
  | (refine wpList_load_row rfl 71 _ rfl (w.heap.size+1+1) rfl 71 D2 (0,0) _ ?hl8 Tryz.underlying71 rfl (by rw [HS2.out];exact iD) ?_;(case hl8=>exact HB8.out.d))
  | (refine wpList_store_row rfl 71 _ _ rfl (w.heap.size+1) D2 rfl rfl 71 Z ?hs8 (by rw [HS2.out];exact iD) (by rw [HS2.out,hz]) HO2.out ?_;(case hs8=>exact HB8.out.z)))
 have GF:Gr w (((w6.setRow (w.heap.size+1+1) D1).setCell ⟨w.heap.size+1+1,32,none⟩ (.int .u32 p4)).setRow (w.heap.size+1) D2):=gr_setRow HG8.out (by omega) _
 refine bodyPost_ret (v:=.agg D2) (results_cell_row rfl _ _ _ _ _ (0,0) _ rfl (setRow_heap _ _ _ _ _ (0,0) HB8.out.z) Tryz.underlying71 rfl (by rw [HS2.out];exact iD)) rfl ⟨_,congrArg (fun z=>Ending.returned (.agg z)) HD2.out.symm,⟨HOK.out,rfl,⟨ao,n,cap,rfl,HM.out.of GF,.inl rfl⟩,.inl ⟨rfl,rfl⟩,.inl ⟨rfl,rfl,rfl⟩⟩,GF⟩
theorem rs_alu {h:Hv}{ao:Option Addr}{n cap:Nat}{l:List UInt8}{w:World}{x op rd:Int}{r1 r2:Nat}{im:Int}(P:Pr h ao n cap l w x op rd r1 r2 im)(ho:28≤op∧op≤45):RStep h ao n cap w ⟨(h.set rd.toNat (Wd.alu op (rg h r1) (rg h r2))).go (Wd.lo (h.pc+4)),l,[],[]⟩:=by
 have P0:=P
 obtain ⟨o,M,hn,ok,ex,D,d0,d1,s1,t1,i0,i1⟩:=P
 refine (rsRest P0 _).2 ⟨?_⟩
 unfold rsRest
 dsimp only
 clear P0 D
 intro Z hz w5 J hJ HB HG K1 A1 K2 A2
 obtain ⟨HB5,HG5,HM,⟨wp,wa,wb,wn⟩,SP,HS0,HO0,gpc,hB2⟩:=atIns o M HB HG hJ (r1:=r1) (r2:=r2) (im:=im)
 clear HB HG
 have wX:W (Wd.alu op (rg h r1) (rg h r2)):=wa.alu wb
 have wN:W (Wd.lo (h.pc+4)):=.lo _
 have Al:Hid (∀W:World,Calls Tryz.prog 40 #[.int .i64 op,.int .u32 (rg h r1),.int .u32 (rg h r2)] W fun e w'=>e=.returned (.int .u32 (Wd.alu op (rg h r1) (rg h r2)))∧Gr W w'):=fun W=>(Rw.alu_any _ _ _ W wa.1 wa.2 wb.1 wb.2).mono fun e w' ⟨q,k,r⟩=>⟨q,by rw [r];exact (Gr.refl _).drewN k⟩
 have b1:(op == 1)=false:=by simp;omega
 have b2:(op == 2)=false:=by simp;omega
 have b3:(op == 3)=false:=by simp;omega
 have b4:(op == 4)=false:=by simp;omega
 obtain ⟨Ts,okS,HS1,HO1⟩:=setF (dv0_ok o ao n cap) d0 d1 wX
 obtain ⟨D2,HD2,HS2,HO2,HE2,HC2,HOK⟩:=finF okS wN
 generalize hD1:dA ((dv0 h (.slice ao n cap)).setH ((dv0 h (.slice ao n cap)).h.set rd.toNat (Wd.alu op (rg h r1) (rg h r2))))=D1 at *
 clear hD1
 generalize dA (dv0 h (.slice ao n cap))=D0 at *
 generalize (Wd.alu op (rg h r1) (rg h r2))=rx at *
 generalize hA h=H at *
 generalize hth:(Wd.lo (rg h r1+Wd.lo im))=th at *
 generalize hpn:(Wd.lo (h.pc+Wd.lo im))=pn at *
 generalize hp4:(Wd.lo (h.pc+4))=p4 at *
 generalize hnn:(Wd.lo im)=nn at *
 generalize (rg h r1)=xa at *
 generalize (rg h r2)=xb at *
 generalize ldV l 13 h.pc=lx at *
 generalize h.pc=pc at *
 clear hth hpn hp4 hnn
 clear M ok o wp wa wb wn okS wX wN
 obtain ⟨kpc,kop,krd⟩:=insAt HB5.out gpc
 have hop1:28≤op:=ho.1
 have hop2:op≤45:=ho.2
 have q10:¬op≤10:=by omega
 have q15:¬op≤15:=by omega
 have q18:¬op≤18:=by omega
 have q27:¬op≤27:=by omega
 have kop':=kop
 have HBo:=HB5
 have HGo:=HG5
 go_wp2_with fail
 refine (Al.out _).mono ?_
 rintro e w7 ⟨rfl,G7⟩
 have HBx:Hid (Bs w7 w.heap.size J H Z D0 #[.int .i64 op,.int .i64 rd,.int .i64 r1,.int .i64 r2,.int .i32 im]):=HBo.out.of G7
 have HGx:Hid (Gr w w7):=HGo.out.trans G7
 have k7rd:w7.cell? ⟨J,1,none⟩=some (.int .i64 rd):=HBx.out.cellI 1
 clear G7 Al kpc kop krd HB5 HG5 HBo HGo kop'
 go_wp2_with (refine wpList_load_row rfl 71 _ rfl (w.heap.size+1+1) rfl 71 D0 (0,0) _ ?hl1 Tryz.underlying71 rfl (by rw [HS0.out];exact iD) ?_;(case hl1=>exact HBx.out.t.d))
 refine (Ts.out _).mono ?_
 rintro e w6 ⟨rfl,G6⟩
 have HB6:Hid (Bs w6 w.heap.size J H Z D0 #[.int .i64 op,.int .i64 rd,.int .i64 r1,.int .i64 r2,.int .i32 im]):=HBx.out.of G6
 have HB7:Hid (Bs (w6.setRow (w.heap.size+1+1) D1) w.heap.size J H Z D1 #[.int .i64 op,.int .i64 rd,.int .i64 r1,.int .i64 r2,.int .i32 im]):=HB6.out.row D1
 have HG7:Hid (Gr w (w6.setRow (w.heap.size+1+1) D1)):=gr_setRow (HGx.out.trans G6) (by omega) _
 have k7pc:(w6.setRow (w.heap.size+1+1) D1).cell? ⟨w.heap.size,32,none⟩=some (.int .u32 pc):=(HB7.out.t.cellH 32).trans gpc
 clear G6 Ts HBx HGx k7rd
 obtain ⟨y32,hy32⟩:=HC2.out
 have c32:(w6.setRow (w.heap.size+1+1) D1).cell? ⟨w.heap.size+1+1,32,none⟩=some (.int .u32 y32):=(HB7.out.t.cellD 32).trans hy32
 have f32:(w6.setRow (w.heap.size+1+1) D1).frozen? ⟨w.heap.size+1+1,32,none⟩=false:=HB7.out.t.fz 32
 have HB8:Hid (Bt ((w6.setRow (w.heap.size+1+1) D1).setCell ⟨w.heap.size+1+1,32,none⟩ (.int .u32 p4)) w.heap.size H Z D2):=by
  have:=HB7.out.t.set 32 (.int .u32 p4)
  rwa [HE2.out] at this
 have HG8:Hid (Gr w ((w6.setRow (w.heap.size+1+1) D1).setCell ⟨w.heap.size+1+1,32,none⟩ (.int .u32 p4))):=HG7.out.setCell (by simp;omega) _
 clear hy32 HC2
 go_wp2_with (first
  | (refine wpList_store_row rfl 71 _ _ rfl (w.heap.size+1+1) D1 rfl rfl 71 D0 ?hs1 (by rw [HS1.out];exact iD) (by rw [HS1.out];exact HS0.out) HO1.out ?_;(case hs1=>exact HB6.out.t.d))
  | (refine wpList_load_row rfl 71 _ rfl (w.heap.size+1+1) rfl 71 D2 (0,0) _ ?hl8 Tryz.underlying71 rfl (by rw [HS2.out];exact iD) ?_;(case hl8=>exact HB8.out.d))
  | (refine wpList_store_row rfl 71 _ _ rfl (w.heap.size+1) D2 rfl rfl 71 Z ?hs8 (by rw [HS2.out];exact iD) (by rw [HS2.out,hz]) HO2.out ?_;(case hs8=>exact HB8.out.z)))
 have GF:Gr w (((w6.setRow (w.heap.size+1+1) D1).setCell ⟨w.heap.size+1+1,32,none⟩ (.int .u32 p4)).setRow (w.heap.size+1) D2):=gr_setRow HG8.out (by omega) _
 refine bodyPost_ret (v:=.agg D2) (results_cell_row rfl _ _ _ _ _ (0,0) _ rfl (setRow_heap _ _ _ _ _ (0,0) HB8.out.z) Tryz.underlying71 rfl (by rw [HS2.out];exact iD)) rfl ⟨_,congrArg (fun z=>Ending.returned (.agg z)) HD2.out.symm,⟨HOK.out,rfl,⟨ao,n,cap,rfl,HM.out.of GF,.inl rfl⟩,.inl ⟨rfl,rfl⟩,.inl ⟨rfl,rfl,rfl⟩⟩,GF⟩
theorem rs_loady {h:Hv}{ao:Option Addr}{n cap:Nat}{l:List UInt8}{w:World}{x op rd:Int}{r1 r2:Nat}{im:Int}(P:Pr h ao n cap l w x op rd r1 r2 im)(ho:11≤op∧op≤15)(hb:ldOk l op (Wd.lo (rg h r1+Wd.lo im))=true):RStep h ao n cap w ⟨(h.set rd.toNat (ldV l op (Wd.lo (rg h r1+Wd.lo im)))).go (Wd.lo (h.pc+4)),l,[],[]⟩:=by
 have P0:=P
 obtain ⟨o,M,hn,ok,ex,D,d0,d1,s1,t1,i0,i1⟩:=P
 refine (rsRest P0 _).2 ⟨?_⟩
 unfold rsRest
 dsimp only
 clear P0 D
 intro Z hz w5 J hJ HB HG K1 A1 K2 A2
 obtain ⟨HB5,HG5,HM,⟨wp,wa,wb,wn⟩,SP,HS0,HO0,gpc,hB2⟩:=atIns o M HB HG hJ (r1:=r1) (r2:=r2) (im:=im)
 clear HB HG
 have wX:W (ldV l op (Wd.lo (rg h r1+Wd.lo im))):=.ldV _ _ _
 have wN:W (Wd.lo (h.pc+4)):=.lo _
 have Lo:Hid (∀W:World,Gr w W→Calls Tryz.prog 24 #[.slice ao n cap,.int .i64 op,.int .u32 (Wd.lo (rg h r1+Wd.lo im))] W fun e w'=>e=.returned (.tuple #[.int .u32 (ldV l op (Wd.lo (rg h r1+Wd.lo im))),.bool true])∧Gr W w'):=fun W G=>by
  have:=Mr.Load_any cap op (Wd.lo (rg h r1+Wd.lo im)) (M.of G) hn (Wd.lo_bd _).1 (Wd.lo_bd _).2
  rw [hb] at this
  exact this.mono fun e w' h=>⟨h.1,by rw [h.2];exact Gr.refl _⟩
 clear hb
 have b1:(op == 1)=false:=by simp;omega
 have b2:(op == 2)=false:=by simp;omega
 have b3:(op == 3)=false:=by simp;omega
 have b4:(op == 4)=false:=by simp;omega
 obtain ⟨Ts,okS,HS1,HO1⟩:=setF (dv0_ok o ao n cap) d0 d1 wX
 obtain ⟨D2,HD2,HS2,HO2,HE2,HC2,HOK⟩:=finF okS wN
 generalize hD1:dA ((dv0 h (.slice ao n cap)).setH ((dv0 h (.slice ao n cap)).h.set rd.toNat (ldV l op (Wd.lo (rg h r1+Wd.lo im)))))=D1 at *
 clear hD1
 generalize dA (dv0 h (.slice ao n cap))=D0 at *
 generalize (ldV l op (Wd.lo (rg h r1+Wd.lo im)))=rx at *
 generalize hA h=H at *
 generalize hth:(Wd.lo (rg h r1+Wd.lo im))=th at *
 generalize hpn:(Wd.lo (h.pc+Wd.lo im))=pn at *
 generalize hp4:(Wd.lo (h.pc+4))=p4 at *
 generalize hnn:(Wd.lo im)=nn at *
 generalize (rg h r1)=xa at *
 generalize (rg h r2)=xb at *
 generalize ldV l 13 h.pc=lx at *
 generalize h.pc=pc at *
 clear hth hpn hp4 hnn
 clear M ok o wp wa wb wn okS wX wN
 obtain ⟨kpc,kop,krd⟩:=insAt HB5.out gpc
 have hop1:11≤op:=ho.1
 have hop2:op≤15:=ho.2
 have q10:¬op≤10:=by omega
 go_wp2_with fail
 refine (Lo.out _ HG5.out).mono ?_
 rintro e w7 ⟨rfl,G7⟩
 have HBx:Hid (Bs w7 w.heap.size J H Z D0 #[.int .i64 op,.int .i64 rd,.int .i64 r1,.int .i64 r2,.int .i32 im]):=HB5.out.of G7
 have HGx:Hid (Gr w w7):=HG5.out.trans G7
 have k7rd:w7.cell? ⟨J,1,none⟩=some (.int .i64 rd):=HBx.out.cellI 1
 clear G7 Lo kpc kop krd HB5 HG5
 go_wp2_with (refine wpList_load_row rfl 71 _ rfl (w.heap.size+1+1) rfl 71 D0 (0,0) _ ?hl1 Tryz.underlying71 rfl (by rw [HS0.out];exact iD) ?_;(case hl1=>exact HBx.out.t.d))
 refine (Ts.out _).mono ?_
 rintro e w6 ⟨rfl,G6⟩
 have HB6:Hid (Bs w6 w.heap.size J H Z D0 #[.int .i64 op,.int .i64 rd,.int .i64 r1,.int .i64 r2,.int .i32 im]):=HBx.out.of G6
 have HB7:Hid (Bs (w6.setRow (w.heap.size+1+1) D1) w.heap.size J H Z D1 #[.int .i64 op,.int .i64 rd,.int .i64 r1,.int .i64 r2,.int .i32 im]):=HB6.out.row D1
 have HG7:Hid (Gr w (w6.setRow (w.heap.size+1+1) D1)):=gr_setRow (HGx.out.trans G6) (by omega) _
 have k7pc:(w6.setRow (w.heap.size+1+1) D1).cell? ⟨w.heap.size,32,none⟩=some (.int .u32 pc):=(HB7.out.t.cellH 32).trans gpc
 clear G6 Ts HBx HGx k7rd
 obtain ⟨y32,hy32⟩:=HC2.out
 have c32:(w6.setRow (w.heap.size+1+1) D1).cell? ⟨w.heap.size+1+1,32,none⟩=some (.int .u32 y32):=(HB7.out.t.cellD 32).trans hy32
 have f32:(w6.setRow (w.heap.size+1+1) D1).frozen? ⟨w.heap.size+1+1,32,none⟩=false:=HB7.out.t.fz 32
 have HB8:Hid (Bt ((w6.setRow (w.heap.size+1+1) D1).setCell ⟨w.heap.size+1+1,32,none⟩ (.int .u32 p4)) w.heap.size H Z D2):=by
  have:=HB7.out.t.set 32 (.int .u32 p4)
  rwa [HE2.out] at this
 have HG8:Hid (Gr w ((w6.setRow (w.heap.size+1+1) D1).setCell ⟨w.heap.size+1+1,32,none⟩ (.int .u32 p4))):=HG7.out.setCell (by simp;omega) _
 clear hy32 HC2
 go_wp2_with (first
  | (refine wpList_store_row rfl 71 _ _ rfl (w.heap.size+1+1) D1 rfl rfl 71 D0 ?hs1 (by rw [HS1.out];exact iD) (by rw [HS1.out];exact HS0.out) HO1.out ?_;(case hs1=>exact HB6.out.t.d))
  | (refine wpList_load_row rfl 71 _ rfl (w.heap.size+1+1) rfl 71 D2 (0,0) _ ?hl8 Tryz.underlying71 rfl (by rw [HS2.out];exact iD) ?_;(case hl8=>exact HB8.out.d))
  | (refine wpList_store_row rfl 71 _ _ rfl (w.heap.size+1) D2 rfl rfl 71 Z ?hs8 (by rw [HS2.out];exact iD) (by rw [HS2.out,hz]) HO2.out ?_;(case hs8=>exact HB8.out.z)))
 have GF:Gr w (((w6.setRow (w.heap.size+1+1) D1).setCell ⟨w.heap.size+1+1,32,none⟩ (.int .u32 p4)).setRow (w.heap.size+1) D2):=gr_setRow HG8.out (by omega) _
 refine bodyPost_ret (v:=.agg D2) (results_cell_row rfl _ _ _ _ _ (0,0) _ rfl (setRow_heap _ _ _ _ _ (0,0) HB8.out.z) Tryz.underlying71 rfl (by rw [HS2.out];exact iD)) rfl ⟨_,congrArg (fun z=>Ending.returned (.agg z)) HD2.out.symm,⟨HOK.out,rfl,⟨ao,n,cap,rfl,HM.out.of GF,.inl rfl⟩,.inl ⟨rfl,rfl⟩,.inl ⟨rfl,rfl,rfl⟩⟩,GF⟩
theorem rs_loadn (P:Pr h ao n cap l w x op rd r1 r2 im)(ho:11≤op∧op≤15)(hb:ldOk l op (Wd.lo (rg h r1+Wd.lo im))=false):RStep h ao n cap w ⟨h.trap 3,l,[],[]⟩:=by
 have P0:=P
 obtain ⟨o,M,hn,ok,ex,D,d0,d1,s1,t1,i0,i1⟩:=P
 refine (rsRest P0 _).2 ⟨?_⟩
 unfold rsRest
 dsimp only
 clear P0 D
 intro Z hz w5 J hJ HB HG K1 A1 K2 A2
 obtain ⟨HB5,HG5,HM,⟨wp,wa,wb,wn⟩,SP,HS0,HO0,gpc,hB2⟩:=atIns o M HB HG hJ (r1:=r1) (r2:=r2) (im:=im)
 clear HB HG
 have Lo:Hid (∀W:World,Gr w W→Calls Tryz.prog 24 #[.slice ao n cap,.int .i64 op,.int .u32 (Wd.lo (rg h r1+Wd.lo im))] W fun e w'=>e=.returned (.tuple #[.int .u32 (ldV l op (Wd.lo (rg h r1+Wd.lo im))),.bool false])∧Gr W w'):=fun W G=>by
  have:=Mr.Load_any cap op (Wd.lo (rg h r1+Wd.lo im)) (M.of G) hn (Wd.lo_bd _).1 (Wd.lo_bd _).2
  rw [hb] at this
  exact this.mono fun e w' h=>⟨h.1,by rw [h.2];exact Gr.refl _⟩
 clear hb
 generalize ldV l op (Wd.lo (rg h r1+Wd.lo im))=rx at *
 have b1:(op == 1)=false:=by simp;omega
 have b2:(op == 2)=false:=by simp;omega
 have b3:(op == 3)=false:=by simp;omega
 have b4:(op == 4)=false:=by simp;omega
 obtain ⟨Dt,Tr,HSt,HOt,Okt,HDt⟩:=trapF (dv0_ok o ao n cap) 3
 generalize dA (dv0 h (.slice ao n cap))=D0 at *
 generalize hA h=H at *
 generalize hth:(Wd.lo (rg h r1+Wd.lo im))=th at *
 generalize hpn:(Wd.lo (h.pc+Wd.lo im))=pn at *
 generalize hp4:(Wd.lo (h.pc+4))=p4 at *
 generalize hnn:(Wd.lo im)=nn at *
 generalize (rg h r1)=xa at *
 generalize (rg h r2)=xb at *
 generalize ldV l 13 h.pc=lx at *
 generalize h.pc=pc at *
 clear hth hpn hp4 hnn
 clear M ok o wp wa wb wn
 obtain ⟨kpc,kop,krd⟩:=insAt HB5.out gpc
 have hop1:11≤op:=ho.1
 have hop2:op≤15:=ho.2
 have q10:¬op≤10:=by omega
 go_wp2_with fail
 refine (Lo.out _ HG5.out).mono ?_
 rintro e w7 ⟨rfl,G7⟩
 have HBx:Hid (Bs w7 w.heap.size J H Z D0 #[.int .i64 op,.int .i64 rd,.int .i64 r1,.int .i64 r2,.int .i32 im]):=HB5.out.of G7
 have HGx:Hid (Gr w w7):=HG5.out.trans G7
 clear G7 Lo kpc kop krd HB5 HG5
 go_wp2_with (refine wpList_load_row rfl 71 _ rfl (w.heap.size+1+1) rfl 71 D0 (0,0) _ ?hd1 Tryz.underlying71 rfl (by rw [HS0.out];exact iD) ?_;(case hd1=>exact HBx.out.t.d))
 refine (Tr.out _).mono ?_
 rintro e wt ⟨rfl,Gt⟩
 have HRt:Hid (wt.heap[w.heap.size+1]?=some (.cells Z 71 (0,0))):=(HBx.out.t.of Gt).z
 have HGt:Hid (Gr w wt):=HGx.out.trans Gt
 clear Gt Tr
 go_wp2_with (refine wpList_store_row rfl 71 _ _ rfl (w.heap.size+1) Dt rfl rfl 71 Z ?hd2 (by rw [HSt.out];exact iD) (by rw [HSt.out,hz]) HOt.out ?_;(case hd2=>exact HRt.out))
 refine bodyPost_ret (v:=.agg Dt) (results_cell_row rfl _ _ _ _ _ (0,0) _ rfl (srh HRt.out) Tryz.underlying71 rfl (by rw [HSt.out];exact iD)) rfl ⟨_,congrArg (fun z=>Ending.returned (.agg z)) HDt.out.symm,⟨Okt.out,rfl,⟨ao,n,cap,rfl,HM.out.of (gr_setRow HGt.out (by omega) _),.inl rfl⟩,.inl ⟨rfl,rfl⟩,.inl ⟨rfl,rfl,rfl⟩⟩,?_⟩
 exact gr_setRow HGt.out (by omega) _
theorem rs_break (P:Pr h ao n cap l w x op rd r1 r2 im)(ho:op=59):RStep h ao n cap w ⟨h.trap 6,l,[],[]⟩:=by
 have P0:=P
 obtain ⟨o,M,hn,ok,ex,D,d0,d1,s1,t1,i0,i1⟩:=P
 subst ho
 refine (rsRest P0 _).2 ⟨?_⟩
 unfold rsRest
 dsimp only
 clear P0 D
 intro Z hz w5 J hJ HB HG K1 A1 K2 A2
 obtain ⟨HB5,HG5,HM,⟨wp,wa,wb,wn⟩,SP,HS0,HO0,gpc,hB2⟩:=atIns o M HB HG hJ (r1:=r1) (r2:=r2) (im:=im)
 clear HB HG
 obtain ⟨Dt,Tr,HSt,HOt,Okt,HDt⟩:=trapF (dv0_ok o ao n cap) 6
 generalize dA (dv0 h (.slice ao n cap))=D0 at *
 generalize hA h=H at *
 generalize hth:(Wd.lo (rg h r1+Wd.lo im))=th at *
 generalize hpn:(Wd.lo (h.pc+Wd.lo im))=pn at *
 generalize hp4:(Wd.lo (h.pc+4))=p4 at *
 generalize hnn:(Wd.lo im)=nn at *
 generalize (rg h r1)=xa at *
 generalize (rg h r2)=xb at *
 generalize ldV l 13 h.pc=lx at *
 generalize h.pc=pc at *
 clear hth hpn hp4 hnn
 clear M ok o wp wa wb wn
 obtain ⟨kpc,kop,krd⟩:=insAt HB5.out gpc
 go_wp2_with (refine wpList_load_row rfl 71 _ rfl (w.heap.size+1+1) rfl 71 D0 (0,0) _ ?hd1 Tryz.underlying71 rfl (by rw [HS0.out];exact iD) ?_;(case hd1=>exact HB5.out.t.d))
 refine (Tr.out _).mono ?_
 rintro e wt ⟨rfl,Gt⟩
 have HRt:Hid (wt.heap[w.heap.size+1]?=some (.cells Z 71 (0,0))):=(HB5.out.t.of Gt).z
 have HGt:Hid (Gr w wt):=HG5.out.trans Gt
 clear Gt Tr
 go_wp2_with (refine wpList_store_row rfl 71 _ _ rfl (w.heap.size+1) Dt rfl rfl 71 Z ?hd2 (by rw [HSt.out];exact iD) (by rw [HSt.out,hz]) HOt.out ?_;(case hd2=>exact HRt.out))
 refine bodyPost_ret (v:=.agg Dt) (results_cell_row rfl _ _ _ _ _ (0,0) _ rfl (srh HRt.out) Tryz.underlying71 rfl (by rw [HSt.out];exact iD)) rfl ⟨_,congrArg (fun z=>Ending.returned (.agg z)) HDt.out.symm,⟨Okt.out,rfl,⟨ao,n,cap,rfl,HM.out.of (gr_setRow HGt.out (by omega) _),.inl rfl⟩,.inl ⟨rfl,rfl⟩,.inl ⟨rfl,rfl,rfl⟩⟩,?_⟩
 exact gr_setRow HGt.out (by omega) _
end Go.Proofs.YtchllaeembmioaaGreatDoor.Hr
