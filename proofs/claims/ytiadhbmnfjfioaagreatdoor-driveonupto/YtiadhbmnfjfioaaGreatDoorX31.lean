/- ours -/
import Derived.Test.YtiadhbmnfjfioaaGreatDoorX30
set_option linter.unusedVariables false
set_option linter.unusedSimpArgs false
set_option maxHeartbeats 8000000
set_option maxRecDepth 100000
set_option linter.unusedSectionVars false
namespace Go.Proofs.YtiadhbmnfjfioaaGreatDoor
open Go.Proofs.Tryz hiding t0 t1
open Go.ChangeShapes Go.WideShapes Go.ChangeAt Go.RowKit
variable [Inhabited Hc.bN]
namespace Vp
open Go.Sort Mm As

variable {w w' :World}
theorem aea:prog.arrayLen 225=24:=by kernel_rfl
theorem aat {n:Nat}(h1:n<18446744073709551616)(T:gz w):Calls prog 106 #[.int .u64 n,.int .i64 10] w fun e w'=>e=.returned (str (dg n))/\Gr w w':=by
 have hd:(⟨(Lib.decDigits n).toArray⟩:ByteArray)=bs (dg n):=by rw[CZ];rfl
 by_cases hs:n<100
 ·have H:Hid (Calls prog 130 #[.int .i64 n] w fun e w'=>e=.returned (str (dg n))/\w=w'):=(Tryz.internal_strconv_small n hs w).mono fun e w' ⟨he,hw⟩=>⟨by rw[he,hd];rfl,hw.symm⟩
  go_enter func106,ntmps106;go_wp2_with fail;refine H.out.mono ?_;rintro e w1 ⟨rfl,rfl⟩;go_wp2_with fail;go_ret;exact⟨rfl,Gr.refl _⟩
 ·have hu1:1<=n:=by omega
  have hnd20:Lib.nDigits n<=20:=by have:=Lib.numDigits_eq n hu1 h1;split at this<;>omega
  have htab:=T.pw;have hH0:=Lib.holds_zero0 w 225 (Lib.nDigits n) (by omega);have hfmt:=Tryz.internal_strconv_formatBase10 w.heap.size 0 24 n (Array.replicate (Lib.nDigits n) 0) (w.alloc (.cells Lib.zeros24 225)) hH0 (by rw[aqS];exact Lib.lt_pow_nDigits n) h1 (by rw[aqS];omega);rw[aqS]at hfmt;have HF:=kH hfmt;have HN:Hid (Calls prog 131 #[.int .u64 n] (w.alloc (.cells Lib.zeros24 225)) fun e w'=>e=.returned (.int .i64 (Lib.nDigits n))/\(w.alloc (.cells Lib.zeros24 225))=w'):=(Tryz.internal_strconv_numDigits n hu1 h1 _ (Lib.tabIs_alloc htab _)).mono fun e w' ⟨he,hw⟩=>⟨he,hw.symm⟩
  have HH0:=kH hH0;have HD:=kH hd;have hdl:=kH (Lib.decDigits_length n);have HRN:Hid (∀(v':Nat) (dk:Array UInt8),Lib.FmtInv (Lib.nDigits n) n 0 v' dk->∀j (hj:j<(Lib.decDigits n).length),_):=fun v' dk h j hj=>Lib.row_is_numeral h j hj
  have hsl:∀W,(Instr.sliceAt 225 (.pointer (some ⟨w.heap.size,0,none⟩)) none (some (.int .i64 (Lib.nDigits n:Int))) none).run prog W=.ok (.slice (some ⟨w.heap.size,0,none⟩) (Lib.nDigits n) 24) W:=fun W=>by
   rw[run_sliceAt_array_h W 225 ⟨w.heap.size,0,none⟩ (by simp[Program.arrayLen,Program.elem,underlying225]) .i64 (Lib.nDigits n:Int) (by omega) (by rw[aea];omega)];rw[aea];go_simp
  generalize Lib.nDigits n=nd at *
  go_enter func106,ntmps106;go_wp2_with fail;refine HN.out.mono ?_;rintro e _ ⟨rfl,rfl⟩;go_wp2_with fail;refine HF.out.mono ?_;rintro e w' ⟨rfl,k,v',dk,rfl,hF⟩;have hcv:(convert 25 9 (.slice (some ⟨w.heap.size,0,none⟩) nd 24)).run prog ((putRow (fun(b:UInt8)=>Value.int .u8 (b.toNat:Int)) (w.alloc (.cells Lib.zeros24 225)) w.heap.size 0 dk).drewN k)=.ok (str (dg n)) ((putRow (fun(b:UInt8)=>Value.int .u8 (b.toNat:Int)) (w.alloc (.cells Lib.zeros24 225)) w.heap.size 0 dk).drewN k):=by
   have h:=run_convert_bytes_back (P:=prog) ((putRow (fun(b:UInt8)=>Value.int .u8 (b.toNat:Int)) (w.alloc (.cells Lib.zeros24 225)) w.heap.size 0 dk).drewN k) 25 9 5 ⟨w.heap.size,0,none⟩ 24 (Lib.decDigits n) underlying25 underlying5 underlying9 (fun j hj=>by
    rw[HRN.out v' dk hF j hj,Lib.add_plain,World.cell?_drewN];exact cell?_putRow (fun(b:UInt8)=>Value.int .u8 (b.toNat:Int)) _ w.heap.size 0 _ dk HH0.out (by rw[hF.size,aqS]) j (by rw[hF.size];rw[hdl.out]at hj;exact hj))
   rw[hdl.out,HD.out]at h;exact h
  go_wp2_with fail;go_ret;obtain⟨os,eo⟩:=Lib.fin_at w (.cells Lib.zeros24 225) dk k 0;exact⟨rfl,eo ▸ Lib.below_grow _ w (apn _) k os⟩
theorem zz {n:Nat}(h1:n<18446744073709551616)(T:gz w):Calls prog 82 #[.int .u64 n,.int .i64 10] w fun e w'=>e=.returned (str (dg n))/\Gr w w':=by
 have H:=kH (aat h1 T);generalize str (dg n)=V at *
 go_enter func82,ntmps82;go_wp2_with fail;refine H.out.mono ?_;rintro e w1 ⟨rfl,G⟩;go_wp2_with fail;go_ret;exact⟨rfl,G⟩
theorem GK {c:Nat}(hc:c<128):∀(L:List Nat),(∀d∈L,d<256)→c∈L→∃A B,L=A++c::B∧Lib.indexByte (L.map UInt8.ofNat) (UInt8.ofNat c)=(A.length:Int)∧splitN c L=A::splitN c B
 |d::L,hl,h=>by
  by_cases hd:d=c
  ·subst hd;exact⟨[],L,rfl,by simp[Lib.indexByte],by simp[splitN]⟩
  ·have hb:(UInt8.ofNat d ==UInt8.ofNat c)=false:=by
    rw[aub];intro e;have e:=congrArg UInt8.toNat e;have:=hl d (by simp);rw[auG,auG]at e;omega
   obtain⟨A,B,e1,e2,e3⟩:=GK hc L (fun x hx=>hl x (by simp[hx])) (by simpa[Ne.symm hd]using h);refine⟨d::A,B,by rw[e1];rfl,?_,?_⟩
   ·unfold Lib.indexByte;simp only[aqo,hb,Bool.false_eq_true,avm];rw[e2,at6 (by simp)];simp only[apH];omega
   ·simp only[splitN,at6 hd];rw[e3];rfl
theorem zA {c:Nat}(hc:c<128):∀(L:List Nat),(∀d∈L,d<256)→c ∉ L→Lib.indexByte (L.map UInt8.ofNat) (UInt8.ofNat c) = -1∧splitN c L=[L]
 | [],_,_=>⟨rfl,rfl⟩
 |d::L,hl,h=>by
  have hd:d≠c:=fun e=>h (by simp[e])
  have hb:(UInt8.ofNat d ==UInt8.ofNat c)=false:=by
   rw[aub];intro e;have e:=congrArg UInt8.toNat e;have:=hl d (by simp);rw[auG,auG]at e;omega
  have ih:=zA hc L (fun x hx=>hl x (by simp[hx])) (fun e=>h (by simp[e]));refine⟨?_,?_⟩
  ·unfold Lib.indexByte;simp only[aqo,hb,Bool.false_eq_true,avm];rw[ih.1];rfl
  ·simp only[splitN,at6 hd];rw[ih.2];rfl
def bO (c:Nat) (L:List Nat):List Nat×List Nat×Bool:=match splitN c L with
 | []=>(L,[],false)
 | [a]=>(a,[],false)
 |a::_=>(a,L.drop (a.length+1),true)
theorem GL {c:Nat}(hco:c=32\/c=10){L:List Nat}(hl:∀d∈L,d<256)(hs:L.length<=140737488355328)(w:World):Calls prog 18 #[.string (bs L),.string ⟨#[UInt8.ofNat c]⟩] w fun e w'=>e=.returned (.tuple #[str (bO c L).1,str (bO c L).2.1,.bool (bO c L).2.2])/\Gr w w':=by
 have hc:c<128:=by omega
 have HX:Hid (Calls prog 40 #[.string (bs L),.string ⟨#[UInt8.ofNat c]⟩] w fun e w'=>e=.returned (.tuple #[str (bO c L).1,str (bO c L).2.1,.bool (bO c L).2.2])/\Gr w w'):=by
  have H:Hid (Calls prog 73 #[.string (bs L),.string ⟨#[UInt8.ofNat c]⟩] w fun e w'=>e=.returned (.int .i64 (Lib.indexByte (bs L).data.toList (UInt8.ofNat c)))/\w=w'):=(Tryz.stringslite_Index_one (bs L) (UInt8.ofNat c) w).mono fun e w' ⟨he,hw⟩=>⟨he,hw.symm⟩
  have hz:=dz L;rw[bU]at H;by_cases h:c∈L
  ·obtain⟨A,B,e0,e1,e2⟩:=GK hc L hl h;rw[e1]at H;have ec:bO c L=(A,B,true):=by
    unfold bO;rw[e2,mD c B];simp only;rw[e0,show A.length+1=(A++[c]).length by simp,show A++c::B=(A++[c])++B by simp,List.drop_left]
   rw[ec];have e3:(bs L).extract 0 A.length=bs A:=by rw[RB,e0,aqY]
   have e4:(bs L).extract (A.length+1) (bs L).size=bs B:=by
    rw[RA,e0,show A.length+1=(A++[c]).length by simp,show A++c::B=(A++[c])++B by simp,List.drop_left]
   have hle:A.length+1<=L.length:=by rw[e0];simp
   rw[show str A=.string (bs A)from rfl,show str B=.string (bs B)from rfl,<-e3,<-e4];clear e1 e2 e0 e3 e4 h hl ec;generalize A.length=i at *
   generalize bs L=s at *
   have h0:(0:Int)<=(i:Int):=by omega
   have h1:(i:Int)<=(s.size:Int):=by omega
   have h2:(i:Int)+1<=(s.size:Int):=by omega
   have h3:(i:Int)+1<9223372036854775808:=by omega
   clear hz hle hs;rcases hco with rfl|rfl
   all_goals
    clear hc;go_enter func40,ntmps40;go_wp2_with fail;refine H.out.mono ?_;rintro e _ ⟨rfl,rfl⟩;go_wp2_with fail;go_quiet (fail);go_wp2_with fail;go_ret3;exact⟨rfl,(Gr.refl _).drewN _⟩
  ·obtain⟨e1,e2⟩:=zA hc L hl h;rw[e1]at H;have ec:bO c L=(L,[],false):=by unfold bO;rw[e2]
   rw[ec];rw[show str L=.string (bs L)from rfl];generalize(⟨#[UInt8.ofNat c]⟩:ByteArray)=cb at *
   go_enter func40,ntmps40;go_wp2_with fail;refine H.out.mono ?_;rintro e _ ⟨rfl,rfl⟩;go_wp2_with fail;go_ret3;exact⟨rfl,Gr.refl _⟩
 generalize(⟨#[UInt8.ofNat c]⟩:ByteArray)=cb at *
 generalize str (bO c L).1=s1 at *
 generalize str (bO c L).2.1=s2 at *
 generalize(bO c L).2.2=t at *
 go_enter func18,ntmps18;go_wp2_with fail;refine HX.out.mono ?_;rintro e w1 ⟨rfl,G1⟩;go_wp2_with fail;go_ret3;exact⟨rfl,G1⟩
theorem OV:∀(l:List Nat) (acc:Nat),acc*10 ^ l.length≤vg acc l
 | [],acc=>by simp[vg]
 |d::l,acc=>by
  have:=OV l (10*acc+(d-48));show acc*10 ^ (l.length+1)<=vg (10*acc+(d-48)) l
  have h2:10*acc*10^l.length<=(10*acc+(d-48))*10^l.length:=aqQ _ (by omega);rw[Nat.pow_succ,show acc*(10^l.length*10)=10*acc*10^l.length by rw[aqH 10 acc,Nat.mul_assoc,aqH 10]];omega
theorem Cg {M:Nat}:∀(l:List Nat) (acc u:Nat),(∀d∈l,d<256)→acc≤M→Lib.parseUintM M acc (l.map UInt8.ofNat)=.ok u→(∀d∈l,IsD d)∧u=vg acc l∧u≤M
 | [],acc,u,_,ha,h=>by
  simp only[aru,Lib.parseUintM,Lib.NumEnd.ok.injEq]at h;exact⟨by simp,h.symm,by omega⟩
 |d::l,acc,u,hl,ha,h=>by
  have hd:=hl d (by simp);have e:(UInt8.ofNat d).toNat=d:=by rw[auG];omega
  rw[aqo,Lib.parseUintM,e]at h;split at h
  ·rename_i h1;split at h
   ·cases h
   ·split at h
    ·cases h
    ·rename_i h3;rw[show acc*10+(d-48)=10*acc+(d-48)by omega]at h h3;obtain⟨k1,k2,k3⟩:=Cg l _ u (fun x hx=>hl x (by simp[hx])) (by omega) h;refine⟨fun x hx=>?_,k2,k3⟩;rcases apx.1 hx with rfl|hx
     ·exact h1
     ·exact k1 x hx
  ·cases h
theorem Xo (l:List Nat):vl l=vg 0 l:=rfl
theorem GM {s:List Nat}:s.all (fun d=>decide (48<=d/\d<=57))=true↔∀d∈s,IsD d:=by rw[apM];exact⟨fun h d hd=>ava (h d hd),fun h d hd=>auq (h d hd)⟩
theorem aau {L:List Nat}(hl:∀d∈L,d<256){u:Nat}(h:Lib.parseUintB 32 (L.map UInt8.ofNat)=.ok u):L≠[]/\u<4294967296/\mE L=if L.head?=some 48/\1<L.length then none else some u:=by
 unfold Lib.parseUintB at h;split at h
 ·cases h
 rename_i hne;have hne:L≠[]:=fun e=>hne (by rw[e];rfl)
 obtain⟨h1,h2,h3⟩:=Cg L 0 u hl (apF _) h;refine⟨hne,by omega,?_⟩;have hpos:1<=L.length:=by
  rcases L with _|⟨a,t⟩
  ·exact absurd rfl hne
  ·simp
 by_cases hz:L.head?=some 48/\1<L.length
 ·rw[at7 hz];unfold mE;rw[at7 (.inr (.inr hz))]
 ·rw[at6 hz];have hlen:L.length<=10:=by
   rcases Nat.lt_or_ge 10 L.length with hb|hb
   ·exfalso
    match L,hne with
    |a::t,_=>
     have ha:=h1 a (by simp);unfold IsD at ha;have amn:a≠48:=fun e=>hz ⟨by simp[e],by omega⟩
     have hp:=OV t (10*0+(a-48));have e:vg 0 (a::t)=vg (10*0+(a-48)) t:=rfl;rw[<-e,<-h2]at hp;have ht:10<=t.length:=by simp at hb;omega
     have h10:10^10<=10^t.length:=aqE (by omega) ht;have:1*10^t.length<=(10*0+(a-48))*10^t.length:=aqQ _ (by omega);omega
   ·exact hb
  unfold mE;rw[at6 (by rintro(h|h|h)<;>first|omega|exact hz h),at7 (GM.2 h1),Xo,<-h2,dU]
theorem aav {L:List Nat}(h:∀u,Lib.parseUintB 32 (L.map UInt8.ofNat)≠.ok u):mE L=none:=by
 unfold mE;split
 ·rfl
 ·rename_i hc;split
  ·rename_i ha;split
   ·rename_i hv;have h1:=GM.1 ha;refine absurd ?_ (h (vg 0 L));unfold Lib.parseUintB;rw[at6 (by intro e;apply hc;left;rw[List.map_eq_nil_iff.1 e];simp)];rw[Xo]at hv;exact WB (by decide) L 0 h1 (by omega)
   ·rfl
  ·rfl
theorem aeb {L:List Nat}{p:Nat}(hL:∀x∈L,x<256)(hp:p<L.length)(w:World):(Instr.index 9 (.string (bs L)) (.int .i64 (p:Int))).run prog w=.ok (.int .u8 ((L[p]:Nat):Int)) w:=by
 have hp':p<(bs L).size:=by rw[dz];exact hp
 have e0:((bs L)[p]'hp').toNat=L[p]:=by
  have e:(bs L)[p]'hp'=UInt8.ofNat L[p]:=by
   show(bs L).data[p]=_
   simp only[bs,apN,List.getElem_map]
  have:=hL _ (art hp);rw[e,auG];omega
 rw[run_index_string (h:=underlying9),dif_pos ⟨by omega,by omega⟩];simp only[apG,e0]
theorem aaw {A B:List Nat}(ha:∀c∈A,c<256)(hb:∀c∈B,c<256):((bs A).toList ==(bs B).toList)=decide (A=B):=by
 rw[aqs,aqs];by_cases h:A=B
 ·subst h;simp
 ·rw[auh h,aub];exact fun e=>h (CY ha hb (nU e))
def nv (o:Option Nat):Value:=match o with
 |none=>.tuple #[.int .u32 0,.bool false]
 |some n=>.tuple #[.int .u32 n,.bool true]
theorem JR {L:List Nat}(hl:∀d∈L,d<256)(hs:L.length<=140737488355328)(E:Li w):Calls prog 102 #[.string (bs L),.int .i64 10,.int .i64 32] w fun e w'=>((∃u:Nat,e=.returned (.tuple #[.int .u64 u,.nilIface])/\Lib.parseUintB 32 (L.map UInt8.ofNat)=.ok u)\/((∃(u:Nat) (a:TypeId) (b:Value),e=.returned (.tuple #[.int .u64 u,.iface a b]))/\∀u,Lib.parseUintB 32 (L.map UInt8.ofNat)≠.ok u))/\Gr w w':=by
 obtain⟨⟨a,b,h1⟩,c,d,h2⟩:=E;have hz:=dz L;rcases h:Lib.parseUintB 32 (bs L).data.toList with v|_|_
 ·
  rw[bU]at h;refine(Tryz.strconv_ParseUint_10_at32_ok (bs L) (by omega) v (by rw[bU];exact h) w).mono ?_;rw[h];rintro e w' ⟨rfl,rfl|rfl⟩
  ·exact⟨.inl ⟨v,rfl,rfl⟩,Gr.refl _⟩
  ·exact⟨.inl ⟨v,rfl,rfl⟩,Lib.bytesWorld_below _ _ _⟩
 ·
  refine(Tryz.strconv_ParseUint_10_at32_syntax (bs L) (by omega) h _ w h1 (.inr ⟨a,b,rfl⟩)).mono ?_;rw[bU]at h;rintro e w' ⟨N,rfl,_,_,G⟩;exact⟨.inr ⟨⟨0,_,_,rfl⟩,fun u=>by rw[h];exact fun e=>(by cases e)⟩,G⟩
 ·
  refine(Tryz.strconv_ParseUint_10_at32_range (bs L) (by omega) h _ w h2 (.inr ⟨c,d,rfl⟩)).mono ?_;rw[bU]at h;rintro e w' ⟨N,rfl,_,_,G⟩;exact⟨.inr ⟨⟨4294967295,_,_,rfl⟩,fun u=>by rw[h];exact fun e=>(by cases e)⟩,G⟩
theorem UR {L:List Nat}(hl:∀d∈L,d<256)(hs:L.length<=140737488355328)(E:Li w):Calls prog 75 #[str L] w fun e w'=>e=.returned (nv (mE L))/\Gr w w':=by
 have H:=JR hl hs E;by_cases hp:∃u,Lib.parseUintB 32 (L.map UInt8.ofNat)=.ok u
 ·obtain⟨u,hu⟩:=hp;obtain⟨hne,hb,hn⟩:=aau hl hu;have H1:Hid (Calls prog 102 #[str L,.int .i64 10,.int .i64 32] w fun e w'=>e=.returned (.tuple #[.int .u64 u,.nilIface])/\Gr w w'):=H.mono fun e w' ⟨h,G⟩=>⟨by
   rcases h with⟨v,he,hv⟩|⟨_,hv⟩
   ·rw[hu]at hv;injection hv with hv;rw[he,hv]
   ·exact absurd hu (hv u),G⟩
  rw[hn];clear hn H hu E;have hpos:0<L.length:=List.length_pos_iff.2 hne;have hix:∀w:World,(Instr.index 9 (.string (bs L)) (.int .i64 0)).run prog w=.ok (.int .u8 ((L[0]:Nat):Int)) w:=fun w=>aeb hl hpos w
  have hbq:=aaw hl (B:=[48]) (by simp);have amq:IntKind.u32.wrap (u:Int)=(u:Int):=by rw[IntKind.wrap_u32];omega
  have h0:L.head?=some L[0]:=by rw[List.head?_eq_getElem?];exact api hpos
  rw[h0];by_cases ha:L[0]=48
  ·have h1:L=[48]\/1<L.length:=by
    rcases L with _|⟨a,_|⟨b,t⟩⟩
    ·simp at hpos
    ·left;simp at ha;rw[ha]
    ·right;simp
   rw[ha]at hix ⊢;have hb:(⟨#[48]⟩:ByteArray)=bs [48]:=rfl;rcases h1 with rfl|h1
   ·rw[at6 (by simp)];clear hbq hne hpos h0 ha hl;have hb2:((bs [48]).toList ==[48])=true:=by rw[aqs,bU];rfl
    rw[show str [48]=.string (bs [48])from rfl]at *
    generalize bs [48]=B at *
    clear hb;go_enter func75,ntmps75;go_wp2_with fail;refine H1.out.mono ?_;rintro e w1 ⟨rfl,G⟩;go_wp2_with fail;go_ret2;exact⟨rfl,G⟩
   ·rw[at7 ⟨rfl,h1⟩];have hb2:((bs L).toList ==[48])=false:=by
     rw[show([48]:List UInt8)=(bs [48]).toList by rw[aqs,bU];rfl,hbq,decide_eq_false_iff_not];rintro rfl;simp at h1
    clear hbq hne hpos h0 ha hl;rw[show str L=.string (bs L)from rfl]at *
    generalize bs L=B at *
    clear hb h1 hs;go_enter func75,ntmps75;go_wp2_with fail;refine H1.out.mono ?_;rintro e w1 ⟨rfl,G⟩;go_wp2_with fail;go_ret2;exact⟨rfl,G⟩
  ·rw[at6 (fun h=>ha (aum h.1))];have ha2:((L[0]:Nat):Int)≠48:=by omega
   rw[show str L=.string (bs L)from rfl]at *
   generalize L[0]=a at *
   generalize bs L=B at *
   go_enter func75,ntmps75;go_wp2_with fail;refine H1.out.mono ?_;rintro e w1 ⟨rfl,G⟩;go_wp2_with fail;go_ret2;exact⟨rfl,G⟩
 ·have hno:∀u,Lib.parseUintB 32 (L.map UInt8.ofNat)≠.ok u:=fun u hu=>hp ⟨u,hu⟩
  have H1:Hid (Calls prog 102 #[str L,.int .i64 10,.int .i64 32] w fun e w'=>(∃(u:Nat) (a:TypeId) (b:Value),e=.returned (.tuple #[.int .u64 u,.iface a b]))/\Gr w w'):=H.mono fun e w' ⟨h,G⟩=>⟨by
   rcases h with⟨v,he,hv⟩|⟨h,_⟩
   ·exact absurd hv (hno v)
   ·exact h,G⟩
  rw[aav hno];generalize str L=V at *
  go_enter func75,ntmps75;go_wp2_with fail;refine H1.out.mono ?_;rintro e w1 ⟨⟨u,a,b,rfl⟩,G⟩;go_wp2_with fail;go_ret2;exact⟨rfl,G⟩
end Vp
namespace Vp
open Mm Hh Hc Mc Ud As

variable {w w' :World} {ao :Option Addr} {n :Nat}
structure Ns (K:IntKind) (w:World) (ao:Option Addr) (n:Nat) (l:List Nat):Prop where
 len:l.length=n
 spot:0<n->∃b o,ao=some ⟨b,o,none⟩/\b<w.heap.size/\∀(t x:Nat),l[t]?=some x->w.cell? ⟨b,o+t,none⟩=some (.int K x)
theorem Ns.of {K:IntKind}{l:List Nat}(h:Ns K w ao n l)(G:Gr w w'):Ns K w' ao n l:=
 ⟨h.len,fun hn=>by
  obtain⟨b,o,e,hb,hc⟩:=h.spot hn;exact⟨b,o,e,apq hb G.size,fun t x hx=>(G.cell _ (by exact hb)).trans (hc t x hx)⟩⟩
structure Ts (w:World) (ao:Option Addr) (n:Nat) (L:List (List Nat)):Prop where
 len:L.length=n
 spot:0<n->∃b o,ao=some ⟨b,o,none⟩/\b<w.heap.size/\∀(t:Nat) (x:List Nat),L[t]?=some x->w.cell? ⟨b,o+t,none⟩=some (str x)
theorem Ts.of {L:List (List Nat)}(h:Ts w ao n L)(G:Gr w w'):Ts w' ao n L:=
 ⟨h.len,fun hn=>by
  obtain⟨b,o,e,hb,hc⟩:=h.spot hn;exact⟨b,o,e,apq hb G.size,fun t x hx=>(G.cell _ (by exact hb)).trans (hc t x hx)⟩⟩
theorem Ci:(prog.info? 9).map (fun i=>(i.zero,i.size,i.bytes))=some (some (.string ⟨#[]⟩),1,16):=by kernel_rfl
theorem UT (L:List (List Nat)):∀u∈L.map str,u.oneCell'=true:=by intro u hu;obtain⟨x,_,rfl⟩:=apK.1 hu;rfl
theorem sQ {b:Nat}{v:Value}{t:Nat}{f:Nat×Nat}(h:w.heap[b]?=some (.cells #[v] t f)):∀j u,([v]:List Value)[j]?=some u->w.cell? ((⟨b,0,none⟩:Addr).add j)=some u:=by intro j u hj;rw[cz,apu,cr h];simpa using hj
theorem Ts.own {base:Nat}{c:Nat}{L:List (List Nat)}(h:w.ownsRow base 9 1 (.slice ao n c) n (L.map str)):Ts w ao n L:=by
 obtain⟨hl,h⟩:=h;simp only[apY,Nat.mul_one]at hl;refine⟨hl,fun hn=>?_⟩;rcases h with⟨h0,h1⟩|⟨g,cap,cur,hv,_,hg,_,_,_,ht⟩
 ·omega
 ·injection hv with hv;refine⟨g,0,hv,(gs hg).1,fun t x hx=>?_⟩;have e:=congrArg (fun l=>l[t]?) ht;simp only[apT,hx,ap7]at e;rw[apu,cr hg];rw[apS]at e;split at e
  ·simpa using e
  ·cases e
theorem aax {L:List (List Nat)}{c:Nat}(h:Ts w ao n L)(hc:ao=none->c=0):Src w (.slice ao n c) n 1 (L.map str):=by
 by_cases hn:0<n
 ·obtain⟨b,o,rfl,hb,hc⟩:=h.spot hn;refine .inr ⟨_,c,rfl,by simp[h.len],fun j u hj=>?_⟩;rw[apT]at hj;obtain⟨x,hx,rfl⟩:=aqv.1 hj;rw[cz];exact hc j x hx
 ·have h0:n=0:=by omega
  subst h0;have hL:=apX h.len;subst hL;cases ao with
  |none=>rw[hc rfl];exact .inl ⟨rfl,rfl,rfl⟩
  |some ad=>exact .inr ⟨ad,c,rfl,rfl,fun j u hj=>by simp at hj⟩
theorem OX {c:Nat}{l:List Nat}(N:Ns .i64 w ao n l)(hl:∀x∈l,x<9223372036854775808)(hn:n<=1000000)(T:gz w):Calls prog 52 #[.slice ao n c] w fun e w'=>∃a k,e=.returned (.slice a n k)/\w'.ownsRow w.heap.size 9 1 (.slice a n k) n ((l.map dg).map str)/\Gr w w':=by
 obtain⟨i0,hi,hz0,hz1,hz2⟩:=auz Ci;have HN:=kH N;have HL:=kH hl;have HT:=kH T;go_enter func52,ntmps52;go_wp2_with fail;go_loopw [3,8] (fun s i wr=>∃k:Nat,k<=n/\i=.int .i64 k/\(∃a c,s=.slice a k c)/\wr.ownsRow w.heap.size 9 1 s k (((l.take k).map dg).map str)/\Gr w wr) (fun _ i _=>n-(intOf i).toNat)
 case atStart=>exact⟨0,apF _,rfl,⟨none,0,rfl⟩,aur _ _ _ _,Gr.refl _⟩
 case round=>
  obtain⟨k,hk,rfl,⟨a1,c1,rfl⟩,O,G⟩:=hrel;have HG:=kH G;by_cases hlt:k<n
  ·obtain⟨b,o,rfl,hb,hc⟩:=HN.out.spot (by omega);obtain⟨x,hx⟩:∃x,l[k]?=some x:=⟨_,api (by rw[HN.out.len];exact hlt)⟩;have hx1:=HL.out x (aps hx);have k1:=(G.cell _ (by exact hb)).trans (hc k x hx);have hwr:IntKind.u64.wrap (x:Int)=(x:Int):=by rw[avc];omega
   have HF:Hid (∀W:World,gz W->Calls prog 82 #[.int .u64 x,.int .i64 10] W fun e w'=>e=.returned (str (dg x))/\Gr W w'):=fun W T=>zz (by omega) T
   have HE:Hid (((l.take (k+1)).map dg).map str=((l.take k).map dg).map str++[str (dg x)]):=by
    unfold Hid;rw[apU,hx];simp
   have HO:=kH O;generalize((l.take k).map dg).map str=old at *
   have OY:Hid (∀u∈[str (dg x)],u.oneCell'=true):=fun u hu=>by rw[apE.1 hu];rfl
   rw[show str (dg x)=.string (bs (dg x))from rfl]at *
   generalize bs (dg x)=V at *
   go_wp2_with fail;refine(HF.out _ (HT.out.of HG.out)).mono ?_;rintro e w1 ⟨rfl,G1⟩;have aU:=kH G1;go_wp2_with (at_builtin;refine auK _ rfl (.tmp 12) (.tmp 16) 22 rfl w.heap.size 9 i0 (.string ⟨#[]⟩) 1 16 underlying22 hi hz0 hz1 hz2 rfl (by decide) (.slice a1 k c1) k old rfl (aC HO.out (aU.out.alloc _)) ⟨w1.heap.size,0,none⟩ 1 1 [.string V] rfl rfl (sQ (at5 w1 _)) ?one (by unfold maxLen;omega) (by omega) (by have:=HG.out.size;have:=aU.out.size;simp;omega) ?_;(case one=>exact OY.out);intro v' w2 hown hgrow _;obtain⟨_,_,a2,c2,rfl⟩:=az hown);have kY:=kH hown;have HG2:=kH ((HG.out.trans (aU.out.alloc _)).grown hgrow (fun b hb=>(HO.out.lt b hb).1));go_wp2_with fail;go_roundw
   case rel=>exact⟨k+1,by omega,by go_num,⟨a2,c2,rfl⟩,by rw[HE.out];exact kY.out,HG2.out⟩
   case measure=>simp[intOf];omega
  ·have e0:k=n:=by omega
   have HO:Hid (wr.ownsRow w.heap.size 9 1 (.slice a1 n c1) n ((l.map dg).map str)):=by
    unfold Hid;rw[e0,ap0 (by rw[HN.out.len];omega)]at O;exact O
   subst e0;go_wp2_with fail;go_ret;exact⟨a1,c1,rfl,HO.out,HG.out⟩
theorem aay {c:Nat}{l:List Nat}(N:Ns .u32 w ao n l)(hl:∀x∈l,x<4294967296)(hn:n<=1000000)(T:gz w):Calls prog 79 #[.slice ao n c] w fun e w'=>∃a k,e=.returned (.slice a n k)/\w'.ownsRow w.heap.size 9 1 (.slice a n k) n ((l.map dg).map str)/\Gr w w':=by
 obtain⟨i0,hi,hz0,hz1,hz2⟩:=auz Ci;have HN:=kH N;have HL:=kH hl;have HT:=kH T;go_enter func79,ntmps79;go_wp2_with fail;go_loopw [3,8] (fun s i wr=>∃k:Nat,k<=n/\i=.int .i64 k/\(∃a c,s=.slice a k c)/\wr.ownsRow w.heap.size 9 1 s k (((l.take k).map dg).map str)/\Gr w wr) (fun _ i _=>n-(intOf i).toNat)
 case atStart=>exact⟨0,apF _,rfl,⟨none,0,rfl⟩,aur _ _ _ _,Gr.refl _⟩
 case round=>
  obtain⟨k,hk,rfl,⟨a1,c1,rfl⟩,O,G⟩:=hrel;have HG:=kH G;by_cases hlt:k<n
  ·obtain⟨b,o,rfl,hb,hc⟩:=HN.out.spot (by omega);obtain⟨x,hx⟩:∃x,l[k]?=some x:=⟨_,api (by rw[HN.out.len];exact hlt)⟩;have hx1:=HL.out x (aps hx);have k1:=(G.cell _ (by exact hb)).trans (hc k x hx);have hwr:IntKind.u64.wrap (x:Int)=(x:Int):=by rw[avc];omega
   have HF:Hid (∀W:World,gz W->Calls prog 82 #[.int .u64 x,.int .i64 10] W fun e w'=>e=.returned (str (dg x))/\Gr W w'):=fun W T=>zz (by omega) T
   have HE:Hid (((l.take (k+1)).map dg).map str=((l.take k).map dg).map str++[str (dg x)]):=by
    unfold Hid;rw[apU,hx];simp
   have HO:=kH O;generalize((l.take k).map dg).map str=old at *
   have OY:Hid (∀u∈[str (dg x)],u.oneCell'=true):=fun u hu=>by rw[apE.1 hu];rfl
   rw[show str (dg x)=.string (bs (dg x))from rfl]at *
   generalize bs (dg x)=V at *
   go_wp2_with fail;refine(HF.out _ (HT.out.of HG.out)).mono ?_;rintro e w1 ⟨rfl,G1⟩;have aU:=kH G1;go_wp2_with (at_builtin;refine auK _ rfl (.tmp 12) (.tmp 16) 22 rfl w.heap.size 9 i0 (.string ⟨#[]⟩) 1 16 underlying22 hi hz0 hz1 hz2 rfl (by decide) (.slice a1 k c1) k old rfl (aC HO.out (aU.out.alloc _)) ⟨w1.heap.size,0,none⟩ 1 1 [.string V] rfl rfl (sQ (at5 w1 _)) ?one (by unfold maxLen;omega) (by omega) (by have:=HG.out.size;have:=aU.out.size;simp;omega) ?_;(case one=>exact OY.out);intro v' w2 hown hgrow _;obtain⟨_,_,a2,c2,rfl⟩:=az hown);have kY:=kH hown;have HG2:=kH ((HG.out.trans (aU.out.alloc _)).grown hgrow (fun b hb=>(HO.out.lt b hb).1));go_wp2_with fail;go_roundw
   case rel=>exact⟨k+1,by omega,by go_num,⟨a2,c2,rfl⟩,by rw[HE.out];exact kY.out,HG2.out⟩
   case measure=>simp[intOf];omega
  ·have e0:k=n:=by omega
   have HO:Hid (wr.ownsRow w.heap.size 9 1 (.slice a1 n c1) n ((l.map dg).map str)):=by
    unfold Hid;rw[e0,ap0 (by rw[HN.out.len];omega)]at O;exact O
   subst e0;go_wp2_with fail;go_ret;exact⟨a1,c1,rfl,HO.out,HG.out⟩
theorem aaz {c:Nat}{l:List Nat}(N:Ns .i64 w ao n l)(hl:∀x∈l,x<9223372036854775808)(hn:n<=1000000)(T:gz w):Calls prog 128 #[.slice ao n c] w fun e w'=>∃a k,e=.returned (.slice a n k)/\w'.ownsRow w.heap.size 9 1 (.slice a n k) n ((l.map dg).map str)/\Gr w w':=by
 obtain⟨i0,hi,hz0,hz1,hz2⟩:=auz Ci;have HN:=kH N;have HL:=kH hl;have HT:=kH T;go_enter func128,ntmps128;go_wp2_with fail;go_loopw [3,8] (fun s i wr=>∃k:Nat,k<=n/\i=.int .i64 k/\(∃a c,s=.slice a k c)/\wr.ownsRow w.heap.size 9 1 s k (((l.take k).map dg).map str)/\Gr w wr) (fun _ i _=>n-(intOf i).toNat)
 case atStart=>exact⟨0,apF _,rfl,⟨none,0,rfl⟩,aur _ _ _ _,Gr.refl _⟩
 case round=>
  obtain⟨k,hk,rfl,⟨a1,c1,rfl⟩,O,G⟩:=hrel;have HG:=kH G;by_cases hlt:k<n
  ·obtain⟨b,o,rfl,hb,hc⟩:=HN.out.spot (by omega);obtain⟨x,hx⟩:∃x,l[k]?=some x:=⟨_,api (by rw[HN.out.len];exact hlt)⟩;have hx1:=HL.out x (aps hx);have k1:=(G.cell _ (by exact hb)).trans (hc k x hx);have hwr:IntKind.u64.wrap (x:Int)=(x:Int):=by rw[avc];omega
   have HF:Hid (∀W:World,gz W->Calls prog 82 #[.int .u64 x,.int .i64 10] W fun e w'=>e=.returned (str (dg x))/\Gr W w'):=fun W T=>zz (by omega) T
   have HE:Hid (((l.take (k+1)).map dg).map str=((l.take k).map dg).map str++[str (dg x)]):=by
    unfold Hid;rw[apU,hx];simp
   have HO:=kH O;generalize((l.take k).map dg).map str=old at *
   have OY:Hid (∀u∈[str (dg x)],u.oneCell'=true):=fun u hu=>by rw[apE.1 hu];rfl
   rw[show str (dg x)=.string (bs (dg x))from rfl]at *
   generalize bs (dg x)=V at *
   go_wp2_with fail;refine(HF.out _ (HT.out.of HG.out)).mono ?_;rintro e w1 ⟨rfl,G1⟩;have aU:=kH G1;go_wp2_with (at_builtin;refine auK _ rfl (.tmp 12) (.tmp 16) 22 rfl w.heap.size 9 i0 (.string ⟨#[]⟩) 1 16 underlying22 hi hz0 hz1 hz2 rfl (by decide) (.slice a1 k c1) k old rfl (aC HO.out (aU.out.alloc _)) ⟨w1.heap.size,0,none⟩ 1 1 [.string V] rfl rfl (sQ (at5 w1 _)) ?one (by unfold maxLen;omega) (by omega) (by have:=HG.out.size;have:=aU.out.size;simp;omega) ?_;(case one=>exact OY.out);intro v' w2 hown hgrow _;obtain⟨_,_,a2,c2,rfl⟩:=az hown);have kY:=kH hown;have HG2:=kH ((HG.out.trans (aU.out.alloc _)).grown hgrow (fun b hb=>(HO.out.lt b hb).1));go_wp2_with fail;go_roundw
   case rel=>exact⟨k+1,by omega,by go_num,⟨a2,c2,rfl⟩,by rw[HE.out];exact kY.out,HG2.out⟩
   case measure=>simp[intOf];omega
  ·have e0:k=n:=by omega
   have HO:Hid (wr.ownsRow w.heap.size 9 1 (.slice a1 n c1) n ((l.map dg).map str)):=by
    unfold Hid;rw[e0,ap0 (by rw[HN.out.len];omega)]at O;exact O
   subst e0;go_wp2_with fail;go_ret;exact⟨a1,c1,rfl,HO.out,HG.out⟩
end Vp
namespace Vp
open Mm Hh Hc Mc Ud As

variable {w w' :World}
theorem mG {c:Nat}(hc:c<128){L:List Nat}(hl:∀d∈L,d<256):(bO c L).1=(splitN c L).headD []/\(∀d∈(bO c L).1,d<256)/\(∀d∈(bO c L).2.1,d<256)/\(bO c L).1.length<=L.length/\ ((bO c L).2.2=true->splitN c (bO c L).2.1=(splitN c L).tail/\(bO c L).2.1.length<L.length)/\((bO c L).2.2=false->(splitN c L).tail=[]/\(bO c L).2.1=[]):=by
 by_cases h:c∈L
 ·obtain⟨A,B,e0,_,e2⟩:=GK hc L hl h;have ec:bO c L=(A,B,true):=by
   unfold bO;rw[e2,mD c B];simp only;rw[e0,show A.length+1=(A++[c]).length by simp,show A++c::B=(A++[c])++B by simp,List.drop_left]
  rw[ec,e2];refine⟨rfl,fun d hd=>hl d (by rw[e0];simp[hd]),fun d hd=>hl d (by rw[e0];simp[hd]),by rw[e0];simp,fun _=>⟨rfl,by rw[e0];simp;omega⟩,fun h=>by cases h⟩
 ·obtain⟨_,e2⟩:=zA hc L hl h;have ec:bO c L=(L,[],false):=by unfold bO;rw[e2]
  rw[ec,e2];exact⟨rfl,hl,fun d hd=>(by cases hd),apn _,fun h=>(by cases h),fun _=>⟨rfl,rfl⟩⟩
theorem UU {s:List Nat}{n:Nat}(h:mE s=some n):1<=s.length:=by
 unfold mE at h;split at h
 ·cases h
 ·omega
theorem JS (s:List Nat)(r:List (List Nat)):gu (s::r)=match mE s with
  |none=>none
  |some n=>(gu r).map (n::·):=by
 rw[gu];cases mE s with
 |none=>rfl
 |some n=>cases gu r<;>rfl
def rdQ (dn R:List Nat) (mo:Bool):Option (List Nat):=if mo=true then(gu (splitN 32 R)).map (dn++·)else some dn
def RdA (N:Nat) (w:World) (L:List Nat) (e:Ending):Prop:=match gu (splitN 32 L).tail with
 |none=>e=.returned (.tuple #[.string ⟨#[]⟩,.slice none 0 0,.bool false])
 |some l=>∃a c,e=.returned (.tuple #[str ((splitN 32 L).headD []),.slice a l.length c,.bool true])/\Ns .u32 w a l.length l/\∀b o,a=some ⟨b,o,none⟩->N<=b
def szV (v:Value):Nat:=match v with
 | .string s=>s.size
 |_=>0
def msR (r m:Value):Nat:=match m with
 | .bool true=>szV r+1
 |_=>0
theorem wC:(prog.info? 37).map (fun i=>(i.zero,i.size,i.bytes))=some (some (Value.int .u32 0),1,4):=by kernel_rfl
theorem Ns.own {base c:Nat}{a:Option Addr}{l:List Nat}(h:w.ownsRow base 37 1 (.slice a l.length c) l.length (l.map fun x:Nat=>Value.int .u32 (x:Int))):Ns .u32 w a l.length l:=by
 obtain⟨_,h⟩:=h;refine⟨rfl,fun hn=>?_⟩;rcases h with⟨h0,h1⟩|⟨g,cap,cur,hv,_,hg,_,_,_,ht⟩
 ·omega
 ·injection hv with hv;refine⟨g,0,hv,(gs hg).1,fun t x hx=>?_⟩;have e:=congrArg (fun l=>l[t]?) ht;simp only[apT,hx,ap7]at e;rw[apu,cr hg];rw[apS]at e;split at e
  ·rw[aqD]at e;exact e
  ·cases e
theorem ug {L:List Nat}(hl:∀d∈L,d<256)(hs:L.length<=4000000)(E:Li w):Calls prog 42 #[str L] w fun e w'=>RdA w.heap.size w' L e/\Gr w w':=by
 obtain⟨i0,hi,hz0,hz1,hz2⟩:=auz wC;have HC:Hid (∀(M:List Nat),(∀d∈M,d<256)->M.length<=4000000->∀W:World,_):=fun M h1 h2 W=>GL (.inl rfl) h1 (by omega) W
 have HN:Hid (∀(M:List Nat),(∀d∈M,d<256)->M.length<=4000000->∀W:World,Gr w W->_):=fun M h1 h2 W G=>UR h1 (by omega) (E.of G)
 obtain⟨s1,s2,s3,s4,s5,s6⟩:=mG (c:=32) (by omega) hl;have rH:=kH hl;have HS:=kH hs;have HQ0:Hid (rdQ [] (bO 32 L).2.1 (bO 32 L).2.2=gu (splitN 32 L).tail):=by
  unfold Hid rdQ;cases ht:(bO 32 L).2.2 with
  |true=>
   rw[at7 rfl,(s5 ht).1];cases gu (splitN 32 L).tail<;>rfl
  |false=>rw[at6 (by simp),(s6 ht).1];rfl
 have HR0:Hid ((∀d∈(bO 32 L).2.1,d<256)/\(bO 32 L).2.1.length<=L.length):=⟨s3,by
  cases ht:(bO 32 L).2.2 with
  |true=>have:=(s5 ht).2;omega
  |false=>rw[(s6 ht).2];simp⟩
 have HH:Hid (str (bO 32 L).1=str ((splitN 32 L).headD [])):=by unfold Hid;rw[s1]
 have hcut:=HC.out L hl hs w;rw[show str L=.string (bs L)from rfl];have HC0:=kH hcut;clear hcut s1 s2 s3 s4 s5 s6 hl hs E;generalize bs L=B at *
 generalize str (bO 32 L).1=V1 at *
 obtain⟨R0,hR0⟩:∃R0,R0=(bO 32 L).2.1:=⟨_,rfl⟩;obtain⟨t0,ht0⟩:∃t0,t0=(bO 32 L).2.2:=⟨_,rfl⟩;rw[<-hR0,<-ht0]at HC0 HQ0;rw[<-hR0]at HR0;clear hR0 ht0;go_enter func42,ntmps42;go_wp2_with fail;refine HC0.out.mono ?_;rintro e w1 ⟨rfl,G1⟩;have aU:Hid (Gr w w1):=G1;clear G1 HC0;go_wp2_with fail;go_loopw [6,7,8] (fun r m s wr=>∃(dn R:List Nat) (mo:Bool) (a:Option Addr) (c:Nat),r=str R/\m=.bool mo/\s=.slice a dn.length c/\wr.ownsRow w.heap.size 37 1 s dn.length (dn.map fun x:Nat=>Value.int .u32 (x:Int))/\Gr w wr/\(∀d∈R,d<256)/\dn.length+R.length<=L.length/\rdQ dn R mo=gu (splitN 32 L).tail) (fun r m _ _=>msR r m)
 case atStart=>exact⟨[],R0,t0,none,0,rfl,rfl,rfl,aur _ _ _ _,aU.out,HR0.out.1,by have:=HR0.out.2;simp;omega,HQ0.out⟩
 case round=>
  obtain⟨dn,R,mo,a1,c1,rfl,rfl,rfl,O,G,hR,hlen,hq⟩:=hrel;have HG:=kH G;have HO:=kH O;have HQ:=kH hq;have HRR:=kH hR;have KV:=kH hlen;cases mo with
  |false=>
   go_wp2_with fail;go_ret3;refine⟨?_,HG.out⟩;unfold RdA;rw[<-HQ.out];unfold rdQ;rw[at6 (by simp)];exact⟨a1,c1,congrArg (fun v=>Ending.returned (.tuple #[v,.slice a1 dn.length c1,.bool true])) HH.out,Ns.own HO.out,fun b o hb=>by subst hb;exact(HO.out.lt b rfl).1⟩
  |true=>
   obtain⟨s1,s2,s3,s4,s5,s6⟩:=mG (c:=32) (by omega) HRR.out;have fO:=kH s1;have HS3:=kH s3;have rO:=kH s5;have HS6:=kH s6;have CK:=kH s4;have oQ:Hid (∀W:World,_):=fun W=>HC.out R HRR.out (by have:=HS.out;have:=KV.out;omega) W
   have HN1:Hid (∀W:World,Gr w W->_):=fun W G=>HN.out _ s2 (by have:=HS.out;have:=KV.out;omega) W G
   have HD:Hid (rdQ dn R true=(match mE (bO 32 R).1 with
    |none=>none
    |some n=>(gu (splitN 32 R).tail).map ((dn++[n])++·))):=by
    unfold Hid rdQ;have e:=JS ((splitN 32 R).headD []) (splitN 32 R).tail;rw[<-mD 32 R]at e;rw[at7 rfl,e,s1];cases mE ((splitN 32 R).headD [])with
    |none=>rfl
    |some n=>
     simp only[Option.map_map];congr 1;funext l;simp
   rw[show str R=.string (bs R)from rfl];have HBR:=kH (dz R);generalize bs R=BR at *
   generalize(bO 32 R).1=P1 at *
   generalize(bO 32 R).2.1=R1 at *
   generalize(bO 32 R).2.2=t1 at *
   generalize str P1=VP at *
   go_wp2_with fail;refine(oQ.out _).mono ?_;rintro e w2 ⟨rfl,G2⟩;have HG2:=kH G2;go_wp2_with fail;refine(HN1.out _ (HG.out.trans HG2.out)).mono ?_;rintro e w3 ⟨rfl,G3⟩;have fQ:=kH (HG2.out.trans G3);cases hn:mE P1 with
   |none=>
    rw[show nv none=.tuple #[.int .u32 0,.bool false]from rfl];go_wp2_with fail;go_ret3;refine⟨?_,HG.out.trans fQ.out⟩;unfold RdA;rw[<-HQ.out,HD.out,hn];exact rfl
   |some n=>
    rw[show nv (some n)=.tuple #[.int .u32 n,.bool true]from rfl];have HNN:=kH hn;have hd:dn.length<=4000000:=by have:=HS.out;have:=KV.out;omega
    have HDL:Hid (dn.length=dn.length):=rfl;generalize hdl:dn.length=q at *
    have HDQ:=kH hdl;go_wp2_with (at_builtin;refine auK _ rfl (.tmp 32) (.tmp 34) 36 rfl w.heap.size 37 i0 (.int .u32 0) 1 4 underlying36 hi hz0 hz1 hz2 rfl (by decide) (.slice a1 q c1) q (dn.map fun x:Nat=>Value.int .u32 (x:Int)) rfl (aC HO.out (fQ.out.alloc _)) ⟨w3.heap.size,0,none⟩ 1 1 [.int .u32 (n:Int)] rfl rfl (sQ (at5 w3 _)) (fun u hu=>by rw[apE.1 hu];rfl) (by unfold maxLen;omega) (by omega) (by have:=HG.out.size;have:=fQ.out.size;simp;omega) ?_;intro v' w4 hown hgrow _;obtain⟨_,_,a2,c2,rfl⟩:=az hown);have kY:=kH hown;have fC:=kH ((HG.out.trans (fQ.out.alloc _)).grown hgrow (fun b hb=>(HO.out.lt b hb).1));go_wp2_with fail;go_roundw
    case rel=>
     have e1:(dn++[n]).length=q+1:=by rw[apo,HDQ.out];rfl
     refine⟨dn++[n],R1,t1,a2,c2,rfl,rfl,by rw[e1],by rw[e1,aqb];exact kY.out,fC.out,HS3.out,?_,?_⟩
     ·rw[e1];have:=KV.out;cases t1 with
      |true=>have:=(rO.out rfl).2;omega
      |false=>
       rw[(HS6.out rfl).2];have h1:=CK.out;have h2:=UU HNN.out;have h3:=HDQ.out;simp only[ap8];omega
     ·rw[<-HQ.out,HD.out,HNN.out];simp only;unfold rdQ;cases t1 with
      |true=>rw[at7 rfl,(rO.out rfl).1]
      |false=>rw[at6 (by simp),(HS6.out rfl).1];simp[gu]
    case measure=>
     cases t1 with
     |true=>
      have h1:=(rO.out rfl).2;have h2:=HBR.out;have h3:=dz R1;show(bs R1).size+1<BR.size+1
      omega
     |false=>exact Nat.succ_pos _
end Vp
end Go.Proofs.YtiadhbmnfjfioaaGreatDoor
