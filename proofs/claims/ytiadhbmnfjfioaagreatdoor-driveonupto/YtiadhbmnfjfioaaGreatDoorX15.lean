/- ours -/
import Derived.Test.YtiadhbmnfjfioaaGreatDoorX14
set_option linter.unusedVariables false
set_option linter.unusedSimpArgs false
set_option maxHeartbeats 8000000
set_option maxRecDepth 100000
set_option linter.unusedSectionVars false
namespace Go.Proofs.YtiadhbmnfjfioaaGreatDoor
open Go.Proofs.Tryz hiding t1 t2 t3
open Go.ChangeShapes Go.WideShapes Go.ChangeAt Go.RowKit
variable [Inhabited Hc.bN]
namespace Mc
open Mm Hh Hc

variable {ty :Nat} {rs :List Value}
def Bh (ls:List (Nat×Int)):List Value:=ls.flatMap fun q=>[.int .i64 q.1,.int .u32 q.2]
theorem Ny (ls:List (Nat×Int))(q:Nat×Int):Bh (ls++[q])=Bh ls++[.int .i64 q.1,.int .u32 q.2]:=by simp[Bh]
theorem yG:∀(ls:List (Nat×Int)) (i:Nat) (q:Nat×Int),ls[i]?=some q→(Bh ls)[i*2]?=some (.int .i64 q.1)∧(Bh ls)[i*2+1]?=some (.int .u32 q.2)
 | [],i,q,h=>by simp at h
 |p::r,0,q,h=>by simp at h;subst h;exact⟨rfl,rfl⟩
 |p::r,i+1,q,h=>by
  have ih:=yG r i q (by simpa using h);have e:Bh (p::r)=[.int .i64 p.1,.int .u32 p.2]++Bh r:=rfl;rw[e,apv (by simp;omega),apv (by simp;omega)];simp only[apH,ap8];rw[show(i+1)*2-(0+1+1)=i*2 by omega,show(i+1)*2+1-(0+1+1)=i*2+1 by omega];exact ih
theorem Nz (a b:Int):∀u∈[Value.int .i64 a,Value.int .u32 b],u.oneCell'=true:=by intro u hu;simp only[apx,apB,auw]at hu;rcases hu with rfl|rfl<;>rfl
theorem adm:(prog.info? 159).map (fun i=>(i.zero,i.size,i.bytes))=some (some (.agg #[.int .i64 0,.int .u32 0]),2,16):=by kernel_rfl
theorem Bi {w:World}{base g gh hc:Nat}{M O:Value}{s:Sh}(B:Bw ty rs w base g M gh hc O s)(hc4:s.hs.length<=4)(k:Nat)(p:Int×Int)(p0:0<=p.1)(p1:0<p.2)(p2:p.1+p.2<=4096):Calls prog 84 #[.pointer (some ⟨g,0,none⟩),.int .i64 k,.agg #[.int .u32 p.1,.int .u32 (Wd.lo (p.1+p.2))]] w fun e w'=>∃v,e=.returned v/\w'.ownsRow w.heap.size 159 2 v (aR k p s.hs s.hs.length).length (Bh (aR k p s.hs s.hs.length))/\Gr w w':=by
 have HR:=kH B.row;have hgl:=B.lt;have Jo:gh<w.heap.size:=by obtain⟨_,e⟩:=B.row.row;exact(apk.1 e).1
 have k1:=B.c1;have hlo:Wd.lo (p.1+p.2)=p.1+p.2:=by unfold Wd.lo;omega
 have WX:Hid (∀h:Hv,h.Ok->∀W:World,Calls prog 108 #[.int .u32 h.aP,.agg #[.int .u32 p.1,.int .u32 (p.1+p.2)]] W fun e w'=>e=.returned (.bool (near h.aP p.1 p.2))/\Gr W w'):=fun h o W=>by
  rw[Dx o.x9 o.zO p0 p1 p2 (Int.le_refl _)];exact Je o.x9 o.zO p0 (by omega) W
 rw[hlo];obtain⟨f,q⟩:=p;simp only at *
 generalize hcc:s.hs.length=c at *
 have HC:=kH hcc;generalize s.hs=hs at *
 obtain⟨i0,hi,hz0,hz1,hz2⟩:=auz adm;generalize hT:f+q=t at *
 go_enter func84,ntmps84;go_wp2;go_loopw [17,7] (fun i v wr=>∃(j:Nat) (L:Value),j<=c/\i=.int .i64 j/\L=v/\wr.ownsRow (w.heap.size+1) 159 2 L (aR k (f,q) hs j).length (Bh (aR k (f,q) hs j))/\Gr (w.alloc (.cells #[.int .u32 f,.int .u32 t] 175)) wr) (fun i _ _=>c-(intOf i).toNat)
 case atStart=>exact⟨0,_,apF _,rfl,rfl,aur _ _ _ _,Gr.refl _⟩
 case round=>
  obtain⟨j,L,hj,rfl,rfl,hown,G⟩:=hrel;have HO:=kH hown;have HG:Hid (Gr (w.alloc (.cells #[.int .u32 f,.int .u32 t] 175)) wr):=G;by_cases hlt:j<c
  ·obtain⟨h,hh⟩:∃h,hs[j]?=some h:=⟨_,api (by rw[HC.out];exact hlt)⟩;have hgd:hs.getD j hN=h:=by simp[List.getD,hh]
   have jM:=HR.out.ok h (aps hh);have hgw:=((Gr.refl _).alloc _).trans HG.out;have RG:=kH ((HR.out.of hgw).range hh);have rH:=kH (aD jM);have sJ:Hid ((hL h).toArray.size=37):=by unfold Hid;simp[rH.out]
   have DN:=kH (qC h);have HLU:Hid (aR k (f,q) hs (j+1)=aR k (f,q) hs j++(if loses k (f,q) j h=true then[(j,h.aP)]else[])):=by unfold Hid;rw[aR,hgd]
   have hlu:=mX k (f,q) hs j;have HME:=kH (WX.out h jM);have M7:Hid (∀Y:Array Value,Gr wr ((wr.alloc (.cells Y 43)).setRow wr.heap.size (hL h).toArray)):=fun Y=>ag ((Gr.refl _).alloc _) (apn _) _
   have KN:Hid (∀Y:Array Value,((wr.alloc (.cells Y 43)).setRow wr.heap.size (hL h).toArray).heap[wr.heap.size]?=some (.cells (hL h).toArray 43 (0,0))):=fun Y=>aup _ _ _ _ _ (0,0) (at5 wr _)
   have k33:∀Y:Array Value,((wr.alloc (.cells Y 43)).setRow wr.heap.size (hL h).toArray).cell? ⟨wr.heap.size,33,none⟩=some (.bool h.held):=fun Y=>(atZ _ _ _ _ _ _ (KN.out Y)).trans (by rw[apm];exact aW jM 1)
   have k34:∀Y:Array Value,((wr.alloc (.cells Y 43)).setRow wr.heap.size (hL h).toArray).cell? ⟨wr.heap.size,34,none⟩=some (.int .u32 h.aP):=fun Y=>(atZ _ _ _ _ _ _ (KN.out Y)).trans (by rw[apm];exact aW jM 2)
   have HRg:=kH (Hr.ae HG.out (at5 w _));have r0:∀Y:Array Value,((wr.alloc (.cells Y 43)).setRow wr.heap.size (hL h).toArray).cell? ⟨w.heap.size,0,none⟩=some (.int .u32 f):=fun Y=>atZ _ _ _ _ _ _ (Hr.ae (M7.out Y) HRg.out)
   have r1:∀Y:Array Value,((wr.alloc (.cells Y 43)).setRow wr.heap.size (hL h).toArray).cell? ⟨w.heap.size,1,none⟩=some (.int .u32 t):=fun Y=>atZ _ _ _ _ _ _ (Hr.ae (M7.out Y) HRg.out)
   have hwr:w.heap.size+1<=wr.heap.size:=by have:=HG.out.size;simpa using this
   have HB0:=kH jM.x9;generalize aR k (f,q) hs j=U at *
   generalize hhd:h.held=bh at *
   generalize hat:h.aP=ah at *
   have QY:Hid (loses k (f,q) j h=(decide (j≠k) && (bh && near ah f q))):=by unfold Hid loses;rw[hhd,hat]
   by_cases hjk:j=k
   ·have hne:((j:Int) !=(k:Int))=false:=by simp[hjk]
    have HN:Hid (aR k (f,q) hs (j+1)=U):=by unfold Hid;rw[HLU.out,QY.out,auh (by simp[hjk])];simp
    clear hjk HLU QY
    go_wp2_with (first
      |(refine auA rfl 43 _ rfl gh (j*37) rfl (hL h) _ ?r1 underlying43 rfl (by rw[rH.out];exact iH) ?_;(case r1=>exact RG.out))
      |(refine auf rfl 43 _ _ rfl wr.heap.size (hL h).toArray rfl rfl 43 _ (at5 wr _) (by rw[sJ.out];exact iH) (by rw[sJ.out];rfl) DN.out ?_))
    go_roundw
    case rel=>exact⟨j+1,L,by omega,by go_num,rfl,by rw[HN.out];exact aC HO.out (M7.out _),HG.out.trans (M7.out _)⟩
    case measure=>simp[intOf];omega
   ·have hne:((j:Int) !=(k:Int))=true:=by simp;omega
    cases bh with
    |false=>
     have HN:Hid (aR k (f,q) hs (j+1)=U):=by unfold Hid;rw[HLU.out,QY.out];simp
     go_wp2_with (first
      |(refine auA rfl 43 _ rfl gh (j*37) rfl (hL h) _ ?r1 underlying43 rfl (by rw[rH.out];exact iH) ?_;(case r1=>exact RG.out))
      |(refine auf rfl 43 _ _ rfl wr.heap.size (hL h).toArray rfl rfl 43 _ (at5 wr _) (by rw[sJ.out];exact iH) (by rw[sJ.out];rfl) DN.out ?_))
     go_roundw
     case rel=>exact⟨j+1,L,by omega,by go_num,rfl,by rw[HN.out];exact aC HO.out (M7.out _),HG.out.trans (M7.out _)⟩
     case measure=>simp[intOf];omega
    |true=>
     cases hnr:near ah f q with
     |false=>
      have Jq:Hid (∀W:World,Calls prog 108 #[.int .u32 ah,.agg #[.int .u32 f,.int .u32 t]] W fun e w'=>e=.returned (.bool false)/\Gr W w'):=fun W=>by have:=HME.out W;rwa[hnr]at this
      have HN:Hid (aR k (f,q) hs (j+1)=U):=by unfold Hid;rw[HLU.out,QY.out,hnr];simp
      go_wp2_with (first
      |(refine auA rfl 43 _ rfl gh (j*37) rfl (hL h) _ ?r1 underlying43 rfl (by rw[rH.out];exact iH) ?_;(case r1=>exact RG.out))
      |(refine auf rfl 43 _ _ rfl wr.heap.size (hL h).toArray rfl rfl 43 _ (at5 wr _) (by rw[sJ.out];exact iH) (by rw[sJ.out];rfl) DN.out ?_))
      refine(Jq.out _).mono ?_;rintro e w1 ⟨rfl,G1⟩;have aU:=kH ((M7.out _).trans G1);go_wp2_with fail;go_roundw
      case rel=>exact⟨j+1,L,by omega,by go_num,rfl,by rw[HN.out];exact aC HO.out aU.out,HG.out.trans aU.out⟩
      case measure=>simp[intOf];omega
     |true=>
      have Jq:Hid (∀W:World,Calls prog 108 #[.int .u32 ah,.agg #[.int .u32 f,.int .u32 t]] W fun e w'=>e=.returned (.bool true)/\Gr W w'):=fun W=>by have:=HME.out W;rwa[hnr]at this
      have HN:Hid (aR k (f,q) hs (j+1)=U++[(j,ah)]):=by unfold Hid;rw[HLU.out,QY.out,hnr,auq (show j≠k from hjk)];simp
      go_wp2_with (first
      |(refine auA rfl 43 _ rfl gh (j*37) rfl (hL h) _ ?r1 underlying43 rfl (by rw[rH.out];exact iH) ?_;(case r1=>exact RG.out))
      |(refine auf rfl 43 _ _ rfl wr.heap.size (hL h).toArray rfl rfl 43 _ (at5 wr _) (by rw[sJ.out];exact iH) (by rw[sJ.out];rfl) DN.out ?_))
      refine(Jq.out _).mono ?_;rintro e w1 ⟨rfl,G1⟩;have aU:=kH ((M7.out _).trans G1);have q34:=(G1.cell _ (by simp)).trans (k34 _);have ak3:wr.heap.size<w1.heap.size:=by have:=G1.size;simp at this;omega
      go_wp2_with (at_builtin;refine auK _ rfl (.tmp 35) (.tmp 40) 119 rfl (w.heap.size+1) 159 i0 (.agg #[.int .i64 0,.int .u32 0]) 2 16 underlying119 hi hz0 hz1 hz2 rfl (by decide) L U.length (Bh U) rfl (aC HO.out (aU.out.alloc _)) ⟨w1.heap.size,0,none⟩ 1 1 [.int .i64 j,.int .u32 ah] rfl rfl (dP (by simp) (by simp)) (Nz _ _) (by unfold maxLen;omega) (by omega) (by simp;omega) ?_;intro v' w2 hown hgrow _;have kY:Hid (w2.ownsRow (w.heap.size+1) 159 2 v' (U.length+1) (Bh U++[.int .i64 j,.int .u32 ah])):=hown;have HG2:Hid (Gr (w.alloc (.cells #[.int .u32 f,.int .u32 t] 175)) w2):=(((HG.out.trans aU.out).alloc _).grown hgrow (fun b e=>by have:=(HO.out.lt b e).1;simp;omega));clear hown hgrow);go_roundw
      case rel=>exact⟨j+1,v',by omega,by go_num,rfl,by rw[HN.out,Ny,apo];exact kY.out,HG2.out⟩
      case measure=>simp[intOf];omega
  ·have ej:j=c:=by omega
   go_wp2_with fail;go_ret;refine⟨L,rfl,?_,((Gr.refl _).alloc _).trans HG.out⟩;have:=HO.out;rw[ej]at this;refine⟨this.1,?_⟩;rcases this.2 with h|⟨g',cap,cur,hv,hb,r⟩
   ·exact .inl h
   ·exact .inr ⟨g',cap,cur,hv,by omega,r⟩
end Mc
namespace Mc
open Mm Hh Hc

variable {ty :Nat} {rs :List Value}
def Src (w:World) (vx:Value) (m sz:Nat) (news:List Value):Prop:=(vx=.slice none 0 0/\m=0/\news=[])\/∃ad c,vx=.slice (some ad) m c/\news.length=m*sz/\∀j u,news[j]?=some u->w.cell? (ad.add j)=some u
theorem Src.own {w:World}{base e sz n:Nat}{v:Value}{xs:List Value}(h:w.ownsRow base e sz v n xs):Src w v n sz xs:=by
 obtain⟨hl,h⟩:=h;rcases h with⟨rfl,rfl⟩|⟨g,cap,cur,rfl,_,hg,_,_,_,ht⟩
 ·exact .inl ⟨rfl,rfl,apX (by simpa using hl)⟩
 ·refine .inr ⟨_,cap,rfl,hl,fun j u hj=>?_⟩;rw[cz,apu,cr hg];rw[<-ht]at hj;rw[apS]at hj;split at hj
  ·simpa using hj
  ·cases hj
section
variable {P :Program} {w :World} {base e size bytes n m :Nat} {i :TypeInfo} {z :Value} {t :TypeId}
theorem lZ (ty:TypeId)(h1:P.underlying t=some (.slice e))(h2:P.info? e=some i)(h3:i.zero=some z)(h4:i.size=size)(h5:i.bytes=bytes)(h6:z.cells.size=size)(h7:0<size){v vx:Value}{olds news:List Value}(hown:w.ownsRow base e size v n olds)(hsrc:Src w vx m size news)(h1c:∀u∈news,u.oneCell'=true)(b1:n+m<=maxLen)(b2:(n+m)*bytes<=140737488355328)(hbase:base<=w.heap.size):∃v' w',(Builtin.append_ #[t,t] ty #[v,vx]).run P w=.ok v' w'/\w'.ownsRow base e size v' (n+m) (olds++news)/\w.grownBy w' v.ownBlock:=by
 rcases hsrc with⟨rfl,rfl,rfl⟩|⟨ad,c,rfl,hl,hc⟩
 ·exact⟨v,w,run_append_owned_none w base t ty e i size h1 h2 v n olds hown,by simpa using hown,⟨rfl,rfl,rfl,apn _,fun _ _ _=>rfl⟩⟩
 ·obtain⟨v',w',hrun,r1,r2,_⟩:=au6 (P:=P) w base t ty e i z size bytes h1 h2 h3 h4 h5 h6 h7 v n olds hown ad m c news hl hc h1c b1 b2 hbase;exact⟨v',w',hrun,r1,r2⟩
theorem rZ {ops:Array Oper}{o:Oper}{a:Act}{K:Act→World→Prop}{Q:Exit→Act→World→Prop}{E:Prop}(hg:o.guard=none)(s x:Operand)(hop:o.op=Op.call { callee:=Callee.builtin Builtin.append,args:=#[s,x],argTypes:=#[t,t] })(h1:P.underlying t=some (.slice e))(h2:P.info? e=some i)(h3:i.zero=some z)(h4:i.size=size)(h5:i.bytes=bytes)(h6:z.cells.size=size)(h7:0<size){v vx:Value}{olds news:List Value}(hs:a.eval s=v)(hx:a.eval x=vx)(hown:w.ownsRow base e size v n olds)(hsrc:Src w vx m size news)(h1c:∀u∈news,u.oneCell'=true)(b1:n+m<=maxLen)(b2:(n+m)*bytes<=140737488355328)(hbase:base<=w.heap.size)(hK:∀v' w',w'.ownsRow base e size v' (n+m) (olds++news)->w.grownBy w' v.ownBlock->K (a.put o.dst v') w'):if Region.wanted o (yielded ops a.tmps)=true then Oper.wp P o a w K Q else E:=by
 have hw:Region.wanted o (yielded ops a.tmps)=true:=by simp[Region.wanted,hg]
 rw[at7 hw];obtain⟨v',w',hrun,r1,r2⟩:=lZ (P:=P) o.type h1 h2 h3 h4 h5 h6 h7 hown hsrc h1c b1 b2 hbase;unfold Oper.wp;simp[execOp,hop,resolve,invoke,builtin,hs,hx,hrun,Result.andThen];exact hK v' w' r1 r2
theorem pY {ops:Array Oper}{rest:List Oper}{o:Oper}{a:Act}{Q:Exit→Act→World→Prop}(hg:o.guard=none)(s x:Operand)(hop:o.op=Op.call { callee:=Callee.builtin Builtin.append,args:=#[s,x],argTypes:=#[t,t] })(h1:P.underlying t=some (.slice e))(h2:P.info? e=some i)(h3:i.zero=some z)(h4:i.size=size)(h5:i.bytes=bytes)(h6:z.cells.size=size)(h7:0<size){v vx:Value}{olds news:List Value}(hs:a.eval s=v)(hx:a.eval x=vx)(hown:w.ownsRow base e size v n olds)(hsrc:Src w vx m size news)(h1c:∀u∈news,u.oneCell'=true)(b1:n+m<=maxLen)(b2:(n+m)*bytes<=140737488355328)(hbase:base<=w.heap.size)(hK:∀v' w',w'.ownsRow base e size v' (n+m) (olds++news)->w.grownBy w' v.ownBlock->wpList P ops Q rest (a.put o.dst v') w'):wpList P ops Q (o::rest) a w:=by
 refine au5 hg fun K hk=>?_
 obtain⟨v',w',hrun,r1,r2⟩:=lZ (P:=P) o.type h1 h2 h3 h4 h5 h6 h7 hown hsrc h1c b1 b2 hbase;unfold Oper.wp;simp[execOp,hop,resolve,invoke,builtin,hs,hx,hrun,Result.andThen];exact hk _ _ (hK v' w' r1 r2)
end
theorem uB {P:Program}{ops:Array Oper}{o:Oper}{a:Act}{w:World}{K:Act→World→Prop}{Q:Exit→Act→World→Prop}{E:Prop}(hg:o.guard=none)(ty:TypeId)(x y:Operand)(ho:o.op=.store ty x y)(b j:Nat)(cells:Array Value)(hx:a.eval x=.pointer (some ⟨b,j,none⟩))(hy:a.eval y=.agg cells)(ht:w.there b j cells.size)(hi:(P.info? ty).map (·.size)=some cells.size)(h1:cells.all (·.oneCell')=true)(h:K (a.put o.dst undef) (w.setCells b j cells.toList)):if Region.wanted o (yielded ops a.tmps)=true then Oper.wp P o a w K Q else E:=by rw[at7 (by simp[Region.wanted,hg])];exact wp_store_mid ty x y ho b j cells hx hy ht hi h1 h
theorem l6 {P:Program}{md:Region.Mode}{ops:Array Oper}{Q:Exit→Act→World→Prop}{S:World→Prop}{fuel i:Nat}{listed:Array Bool}{o:Oper}{a:Act}{w:World}(hr:Region.ready md ops listed=[i])(hoi:ops[i]?=some o)(hg:o.guard=none)(ty:TypeId)(x y:Operand)(ho:o.op=.store ty x y)(b j:Nat)(cells:Array Value)(hx:a.eval x=.pointer (some ⟨b,j,none⟩))(hy:a.eval y=.agg cells)(ht:w.there b j cells.size)(hi:(P.info? ty).map (·.size)=some cells.size)(h1:cells.all (·.oneCell')=true)(hS:S (w.setCells b j cells.toList))(h:wpAnyH P md ops Q S fuel (listed.setIfInBounds i true) (a.put o.dst undef) (w.setCells b j cells.toList)):wpAnyH P md ops Q S (fuel+1) listed a w:=aue hr (by simp) (aua hoi (fun K hK=>uB hg ty x y ho b j cells hx hy ht hi h1 (hK.out _ _ hS fun _=>h)) aud)
theorem Jr (os:List Int):∀u∈os.map (Value.int .u32),u.oneCell'=true:=by intro u hu;obtain⟨b,_,rfl⟩:=apK.1 hu;rfl
theorem ado:(prog.info? 37).map (fun i=>(i.zero,i.size,i.bytes))=some (some (Value.int .u32 0),1,4):=by kernel_rfl
theorem gZ {w w':World}{gh:Nat}{hs:List Hv}(R:bP w gh hs)(q:Ch gh w w'){t:Nat}(ht:t≠43){k:Nat}{o:Array Value}{f:Nat×Nat}(hk:w.heap[k]?=some (.cells o t f)):w'.heap[k]?=w.heap[k]?:=by obtain⟨rest,e⟩:=R.row;exact q.block k (gs hk).1 (fun h=>aa hk e ht (by injection h))
theorem Bw.ch {w w':World}{base g gh hc:Nat}{M O:Value}{s:Sh}(B:Bw ty rs w base g M gh hc O s)(q:Ch gh w w'){hs:List Hv}(R:bP w' gh hs)(hl:hs.length=s.hs.length)(z:Zh w' gh hc):Bw ty rs w' base g M gh hc O ⟨hs,s.m,s.out,s.steps⟩:=⟨B.t1,B.t2,B.t3,B.bg,by show w'.heap[g]?=some (.cells (M::.slice (some ⟨gh,0,none⟩) hs.length hc::O::.int .i64 s.steps::rs).toArray _ _);rw[hl];exact(gZ B.row q B.t3 B.blk).trans B.blk,B.mem.to fun k o f hk=>gZ B.row q (by decide) hk,B.bh,R,aj B.out fun k o f hk=>gZ B.row q (by decide) hk,⟨z,B.hz.2⟩⟩
theorem Dq.ch {w w':World}{b gh:Nat}{d:Qv}{x:Wk}{hs:List Hv}(D:Dq w b d x)(R:bP w gh hs)(q:Ch gh w w'):Dq w' b d x:=⟨D.hh,D.n,D.mem.to fun k o f hk=>gZ R q (by decide) hk,aj D.out fun k o f hk=>gZ R q (by decide) hk,aj D.av fun k o f hk=>gZ R q (by decide) hk⟩
theorem Ch.bD {g:Nat}{w w':World}(G:Gr w w'):Ch g w w':=(Ch.refl g w).gr G
theorem Dq.gr {w w':World}{b:Nat}{d:Qv}{x:Wk}(D:Dq w b d x)(G:Gr w w'):Dq w' b d x:=⟨D.hh,D.n,gT D.mem G,aC D.out G,aC D.av G⟩
theorem Ch.setCells {g:Nat}{a w:World}(h:Ch g a w):∀(vs:List Value) (o:Nat),Ch g a (w.setCells g o vs)
 | [],o=>h
 |v::r,o=>by rw[World.setCells];exact Ch.setCells (h.setCell o v) r (o+1)
theorem Bw.fz {w:World}{base g gh hc:Nat}{M O:Value}{s:Sh}(B:Bw ty rs w base g M gh hc O s)(i:Nat):w.frozen? ⟨g,i,none⟩=false:=lh B.blk
theorem Bw.ay {w:World}{base g gh hc:Nat}{M O:Value}{s:Sh}(B:Bw ty rs w base g M gh hc O s):base<=w.heap.size:=apr B.bg (aqP (gs B.blk).1)
theorem dG {w:World}{base g gh hc:Nat}{M O:Value}{s:Sh}(B:Bw ty rs w base g M gh hc O s)(i:Nat)(v:Value){t:Nat}(ht:t≠ty){k:Nat}{o:Array Value}{f:Nat×Nat}(hk:w.heap[k]?=some (.cells o t f)):(w.setCell ⟨g,i,none⟩ v).heap[k]?=w.heap[k]?:=hso (by exact aa hk B.blk ht)
theorem bP.to {w w':World}{g:Nat}{hs:List Hv}(r:bP w g hs)(h:∀(k:Nat) (o:Array Value) (f:Nat×Nat),w.heap[k]?=some (.cells o 43 f)->w'.heap[k]?=w.heap[k]?):bP w' g hs:=by obtain⟨rest,e⟩:=r.row;exact⟨r.ok,rest,(h _ _ _ e).trans e⟩
theorem Bw.agD {w:World}{base g gh hc:Nat}{M O:Value}{s:Sh}(B:Bw ty rs w base g M gh hc O s){M':Value}{m':List UInt8}(h:Own w Hc.mb M' m'):Bw ty rs (w.setCell ⟨g,0,none⟩ M') base g M' gh hc O ⟨s.hs,m',s.out,s.steps⟩:=⟨B.t1,B.t2,B.t3,B.bg,by rw[hss B.blk];simp,h.to fun k o f hk=>dG B _ _ B.t1.symm hk,B.bh,B.row.to fun k o f hk=>dG B _ _ B.t3.symm hk,aj B.out fun k o f hk=>dG B _ _ B.t2.symm hk,⟨B.hz.1.to fun k o f hk=>dG B _ _ B.t3.symm hk,B.hz.2⟩⟩
theorem Bw.agE {w:World}{base g gh hc:Nat}{M O:Value}{s:Sh}(B:Bw ty rs w base g M gh hc O s)(n':Nat):Bw ty rs (w.setCell ⟨g,3,none⟩ (.int .i64 n')) base g M gh hc O ⟨s.hs,s.m,s.out,n'⟩:=⟨B.t1,B.t2,B.t3,B.bg,by rw[hss B.blk];simp,B.mem.to fun k o f hk=>dG B _ _ B.t1.symm hk,B.bh,B.row.to fun k o f hk=>dG B _ _ B.t3.symm hk,aj B.out fun k o f hk=>dG B _ _ B.t2.symm hk,⟨B.hz.1.to fun k o f hk=>dG B _ _ B.t3.symm hk,B.hz.2⟩⟩
theorem Bw.vM {w:World}{base g gh hc:Nat}{M O:Value}{s:Sh}(B:Bw ty rs w base g M gh hc O s)(i:Nat)(v:Value):Bw ty (rs.set i v) (w.setCell ⟨g,4+i,none⟩ v) base g M gh hc O s:=⟨B.t1,B.t2,B.t3,B.bg,by rw[hss B.blk,apl,Nat.add_comm];rfl,B.mem.to fun k o f hk=>dG B _ _ B.t1.symm hk,B.bh,B.row.to fun k o f hk=>dG B _ _ B.t3.symm hk,aj B.out fun k o f hk=>dG B _ _ B.t2.symm hk,⟨B.hz.1.to fun k o f hk=>dG B _ _ B.t3.symm hk,B.hz.2⟩⟩
structure Fe (ty:Nat) (base:Nat) (w w':World):Prop where
 below:Below base w w'
 keep:∀(k:Nat) (o:Obj),w.heap[k]?=some o->(∀q f,¬o=.cells q ty f)->(∀q f,¬o=.cells q 43 f)->(∀q f,¬o=.cells q 37 f)->w'.heap[k]?=some o
theorem Fe.refl (base:Nat)(w:World):Fe ty base w w:=⟨auC _ _,fun _ _ h _ _ _=>h⟩
theorem Fe.trans {base:Nat}{a b c:World}(h:Fe ty base a b)(k:Fe ty base b c):Fe ty base a c:=⟨h.below.trans k.below,fun i o e t1 t2 t3=>k.keep i o (h.keep i o e t1 t2 t3) t1 t2 t3⟩
theorem Fe.bD {base:Nat}{w w':World}(G:Gr w w')(hb:base<=w.heap.size):Fe ty base w w':=⟨aun G hb,fun i o e _ _ _=>(G.block i (gs e).1).trans e⟩
theorem Fe.drew {base:Nat}{a w:World}(h:Fe ty base a w):Fe ty base a w.drew:=⟨h.below.drew,h.keep⟩
theorem Fe.ch {base:Nat}{w w':World}{gh:Nat}{hs:List Hv}(R:bP w gh hs)(q:Ch gh w w')(hg:base<=gh)(hb:base<=w.heap.size):Fe ty base w w':=⟨q.below hg hb,fun i o e _ t2 _=>by obtain⟨rest,e2⟩:=R.row;refine(q.block i (gs e).1 (fun h=>?_)).trans e;injection h with h;subst h;rw[e2]at e;injection e with e;exact t2 _ _ e.symm⟩
theorem Fe.setCell {base:Nat}{a w:World}{g:Nat}{Y:Array Value}{f:Nat×Nat}(h:Fe ty base a w)(hy:w.heap[g]?=some (.cells Y ty f))(hg:base<=g)(i:Nat)(v:Value):Fe ty base a (w.setCell ⟨g,i,none⟩ v):=⟨auS h.below (by exact hg) _,fun k o e t1 t2 t3=>by
 have e2:=h.keep k o e t1 t2 t3;rw[hso (by
  show k≠g
  intro ek;subst ek;rw[hy]at e2;injection e2 with e2;exact t1 _ _ e2.symm)]
 exact e2⟩
theorem Fe.grown {base:Nat}{w w':World}{O:Value}{n:Nat}{xs:List Value}(hO:w.ownsRow base 37 1 O n xs)(q:w.grownBy w' O.ownBlock)(hb:base<=w.heap.size):Fe ty base w w':=⟨(auC base w).grown q hb fun k e=>(hO.lt k e).1,fun k o e _ _ t3=>(q.block k (gs e).1 (fun h=>by
  rcases hO.2 with⟨h0,_⟩|⟨g',cap,cur,hv,_,hg,_⟩
  ·rw[h0]at h;cases h
  ·rw[hv]at h;injection h with h;subst h;rw[hg]at e;injection e with e;exact t3 _ _ e.symm)).trans e⟩
theorem Fe.cells {base:Nat}{w w':World}(h:Fe ty base w w'){k:Nat}{q:Array Value}{t:Nat}{f:Nat×Nat}(e:w.heap[k]?=some (.cells q t f))(t1:t≠ty)(t2:t≠43)(t3:t≠37):w'.heap[k]?=w.heap[k]?:=(h.keep k _ e (fun _ _ c=>t1 (by injection c)) (fun _ _ c=>t2 (by injection c)) (fun _ _ c=>t3 (by injection c))).trans e.symm
theorem eF {w w':World}{base:Nat}{O:Value}{n:Nat}{xs:List Value}{e sz:Nat}(hO:w.ownsRow base e sz O n xs)(q:w.grownBy w' O.ownBlock){t:Nat}(ht:t≠e){k:Nat}{o:Array Value}{f:Nat×Nat}(hk:w.heap[k]?=some (.cells o t f)):w'.heap[k]?=w.heap[k]?:=
 q.block k (gs hk).1 (fun h=>by
  rcases hO.2 with⟨h0,_⟩|⟨g',cap,cur,hv,_,hg,_⟩
  ·rw[h0]at h;cases h
  ·rw[hv]at h;injection h with h;exact aa hk hg ht h)
theorem Bw.grown {w w':World}{base g gh hc:Nat}{M O:Value}{s:Sh}(B:Bw ty rs w base g M gh hc O s)(q:w.grownBy w' O.ownBlock){v:Value}{os:List Int}(ho:w'.ownsRow base 37 1 v os.length (os.map (Value.int .u32))):w'.cell? ⟨g,2,none⟩=some O/\w'.frozen? ⟨g,2,none⟩=false/\Bw ty rs (w'.setCell ⟨g,2,none⟩ v) base g M gh hc v ⟨s.hs,s.m,os,s.steps⟩/\Fe ty base w (w'.setCell ⟨g,2,none⟩ v):=by
 have st:∀{t:Nat},t≠37->∀{k:Nat} {o:Array Value} {f:Nat×Nat},w.heap[k]?=some (.cells o t f)->w'.heap[k]?=w.heap[k]?:=fun ht _ _ _ hk=>eF B.out q ht hk
 have hb:=(st B.t2 B.blk).trans B.blk;have ne:∀{t:Nat},t≠ty->∀{k:Nat} {o:Array Value} {f:Nat×Nat},w'.heap[k]?=some (.cells o t f)->(w'.setCell ⟨g,2,none⟩ v).heap[k]?=w'.heap[k]?:=fun ht _ _ _ hk=>hso (by exact aa hk hb ht)
 have two:∀{t:Nat},t≠ty->t≠37->∀{k:Nat} {o:Array Value} {f:Nat×Nat},w.heap[k]?=some (.cells o t f)->(w'.setCell ⟨g,2,none⟩ v).heap[k]?=w.heap[k]?:=fun h1 h2 _ _ _ hk=>by
  have e:=st h2 hk;exact(ne h1 (e.trans hk)).trans e
 refine⟨(cr hb).trans (by simp),lh hb,⟨B.t1,B.t2,B.t3,B.bg,by rw[hss hb];simp,B.mem.to fun k o f hk=>two B.t1.symm (by decide) hk,B.bh,B.row.to fun k o f hk=>two B.t3.symm (by decide) hk,aj ho fun k o f hk=>ne B.t2.symm hk,⟨B.hz.1.to fun k o f hk=>two B.t3.symm (by decide) hk,B.hz.2⟩⟩,?_⟩;exact Fe.setCell (Fe.grown B.out q B.ay) hb B.bg _ _
end Mc
namespace Mi
open Mm Hh Hc

variable {b :Bool} {α :Type} {i :Mv} {x :Int}
structure Cs (w:World) (ao:Option Addr) (n:Nat) (code:List Mv):Prop where
 len:code.length=n
 wn:∀i∈code,W i.n
 wo:∀i∈code, -9223372036854775808<=i.op/\i.op<=9223372036854775807
 spot:0<n->∃b o,ao=some ⟨b,o,none⟩/\b<w.heap.size/\∀j i,code[j]?=some i->w.cell? ⟨b,o+j*5,none⟩=some (.int .i64 i.op)/\w.cell? ⟨b,o+j*5+1,none⟩=some (.int .i64 i.d)/\w.cell? ⟨b,o+j*5+2,none⟩=some (.int .i64 i.a)/\w.cell? ⟨b,o+j*5+3,none⟩=some (.int .i64 i.b)/\w.cell? ⟨b,o+j*5+4,none⟩=some (.int .u32 i.n)
theorem Cs.of {w w':World}{ao:Option Addr}{n:Nat}{code:List Mv}(h:Cs w ao n code)(g:Gr w w'):Cs w' ao n code:=
 ⟨h.len,h.wn,h.wo,fun hn=>by
  obtain⟨b,o,e,hb,hc⟩:=h.spot hn;refine⟨b,o,e,apq hb g.size,fun j i hj=>?_⟩;obtain⟨h0,h1,h2,h3,h4⟩:=hc j i hj;exact⟨(g.cell _ (by exact hb)).trans h0,(g.cell _ (by exact hb)).trans h1,(g.cell _ (by exact hb)).trans h2,(g.cell _ (by exact hb)).trans h3,(g.cell _ (by exact hb)).trans h4⟩⟩
theorem l7 {a:Bool}(h:a=b):Ending.returned (.bool a)=.returned (.bool b):=by rw[h]
theorem Js (f:α->Bool)(l:List α)(k:Nat)(x:α)(h:l[k]?=some x):(l.take (k+1)).all f=((l.take k).all f && f x):=by rw[apU,h];simp
theorem yH {f:α->Bool}{l:List α}{k:Nat}{x:α}(h:l[k]?=some x)(hx:f x=false):l.all f=false:=by rw[List.all_eq_false];exact⟨x,aps h,by simp[hx]⟩
theorem TC (h:named i.op<0):dZ i=false:=by unfold dZ;rw[auh (by omega)];rfl
end Mi
namespace Ts
open Mm Hc Mi Bk
open Hh

theorem qR {w:World}{base e sz n:Nat}{v:Value}{xs:List Value}(h:w.ownsRow base e sz v n xs):∃a c,v=.slice a n c:=by
 rcases h.2 with⟨rfl,rfl⟩|⟨g,cap,_,rfl,_⟩
 ·exact⟨none,0,rfl⟩
 ·exact⟨_,cap,rfl⟩
theorem NA {w:World}{base e sz n:Nat}{v:Value}{xs:List Value}(h:w.ownsRow base e sz v n xs)(hn:0<n):∃g c,v=.slice (some ⟨g,0,none⟩) n c/\g<w.heap.size/\∀j u,xs[j]?=some u->w.cell? ⟨g,j,none⟩=some u:=by obtain⟨g,c,rfl⟩:=dh h hn;refine⟨g,c,rfl,(h.lt g rfl).2,fun j u hu=>?_⟩;have:=h.cells (g:=g) rfl j u hu;rwa[cz,apu]at this
def Sr (w:World) (vx:Value) (m sz:Nat) (news:List Value):Prop:=(vx=.slice none 0 0/\m=0/\news=[])\/∃ad c,vx=.slice (some ad) m c/\news.length=m*sz/\∀j u,news[j]?=some u->w.cell? (ad.add j)=some u
theorem Sr.gr {w w':World}{vx:Value}{m sz:Nat}{news:List Value}(h:Sr w vx m sz news)(G:Gr w w'):Sr w' vx m sz news:=by
 rcases h with h|⟨ad,c,e,hl,hc⟩
 ·exact .inl h
 ·exact .inr ⟨ad,c,e,hl,fun j u hj=>(G.cell _ (aug w _ (hc j u hj))).trans (hc j u hj)⟩
theorem Sr.new (w:World)(cs:Array Value)(t n c:Nat)(h:cs.size=n*5):Sr (w.alloc (.cells cs t)) (.slice (some ⟨w.heap.size,0,none⟩) n c) n 5 cs.toList:=.inr ⟨_,_,rfl,by simpa using h,fun j u hj=>by rw[cz,apu,cr (at5 w _)];simpa using hj⟩
section
variable {P :Program} {w :World} {base e size bytes n m :Nat} {i :TypeInfo} {z :Value} {t :TypeId}
theorem kC {ops:Array Oper}{rest:List Oper}{o:Oper}{a:Act}{Q:Exit→Act→World→Prop}(hg:o.guard=none)(s x:Operand)(hop:o.op=Op.call { callee:=Callee.builtin Builtin.append,args:=#[s,x],argTypes:=#[t,t] })(h1:P.underlying t=some (.slice e))(h2:P.info? e=some i)(h3:i.zero=some z)(h4:i.size=size)(h5:i.bytes=bytes)(h6:z.cells.size=size)(h7:0<size){v vx:Value}{olds news:List Value}(hs:a.eval s=v)(hx:a.eval x=vx)(hown:w.ownsRow base e size v n olds)(hsrc:Sr w vx m size news)(h1c:∀u∈news,u.oneCell'=true)(b1:n+m<=maxLen)(b2:(n+m)*bytes<=140737488355328)(hbase:base<=w.heap.size)(hK:∀v' w',w'.ownsRow base e size v' (n+m) (olds++news)->w.grownBy w' v.ownBlock->wpList P ops Q rest (a.put o.dst v') w'):wpList P ops Q (o::rest) a w:=by
 refine au5 hg fun K hk=>?_
 have hr:∃v' w',(Builtin.append_ #[t,t] o.type #[v,vx]).run P w=.ok v' w'/\w'.ownsRow base e size v' (n+m) (olds++news)/\w.grownBy w' v.ownBlock:=by
  rcases hsrc with⟨rfl,rfl,rfl⟩|⟨ad,c,rfl,hl,hc⟩
  ·exact⟨v,w,run_append_owned_none w base t o.type e i size h1 h2 v n olds hown,by simpa using hown,⟨rfl,rfl,rfl,apn _,fun _ _ _=>rfl⟩⟩
  ·obtain⟨v',w',hrun,r1,r2,_⟩:=au6 (P:=P) w base t o.type e i z size bytes h1 h2 h3 h4 h5 h6 h7 v n olds hown ad m c news hl hc h1c b1 b2 hbase;exact⟨v',w',hrun,r1,r2⟩
 obtain⟨v',w',hrun,r1,r2⟩:=hr;unfold Oper.wp;simp[execOp,hop,resolve,invoke,builtin,hs,hx,hrun,Result.andThen];exact hk _ _ (hK v' w' r1 r2)
end
def vN (i:Mv):List Value:=[.int .i64 i.op,.int .i64 i.d,.int .i64 i.a,.int .i64 i.b,.int .u32 i.n]
def r9 (code:List Mv):List Value:=code.flatMap vN
theorem TD (a b:List Mv):r9 (a++b)=r9 a++r9 b:=by simp[r9]
theorem FZ:∀(code:List Mv) (i j:Nat) (x:Mv),code[i]?=some x→j<5→(r9 code)[i*5+j]?=(vN x)[j]?
 | [],i,j,x,h,_=>by simp at h
 |p::r,0,j,x,h,hj=>by
  simp at h;subst h;show(vN p++r9 r)[0*5+j]?=_
  rw[aqI,apu,apA (by simpa[vN]using hj)]
 |p::r,i+1,j,x,h,hj=>by
  have ih:=FZ r i j x (by simpa using h) hj;show(vN p++r9 r)[(i+1)*5+j]?=_
  rw[apv (by simp[vN];omega)];rw[show(i+1)*5+j-(vN p).length=i*5+j by simp[vN];omega];exact ih
theorem TE (code:List Mv):∀u∈r9 code,u.oneCell'=true:=by intro u hu;simp only[r9,arp]at hu;obtain⟨i,_,hu⟩:=hu;simp only[vN,apx,apB,auw]at hu;rcases hu with rfl|rfl|rfl|rfl|rfl<;>rfl
theorem NB {w:World}{base:Nat}{v:Value}{code:List Mv}(O:w.ownsRow base 235 5 v code.length (r9 code))(hn:∀i∈code,Hh.W i.n)(ho:∀i∈code, -9223372036854775808<=i.op/\i.op<=9223372036854775807):∃ca cc,v=.slice ca code.length cc/\Cs w ca code.length code:=by
 obtain⟨ca,cc,rfl⟩:=qR O;refine⟨ca,cc,rfl,rfl,hn,ho,fun h0=>?_⟩;obtain⟨g,c,e,hg,hc⟩:=NA O h0;injection e with e1 _ _;refine⟨g,0,e1,hg,fun j i hi=>?_⟩;rw[apu];have q:=fun t (ht:t<5)=>FZ code j t i hi ht
 refine⟨hc _ _ ?_,hc _ _ ?_,hc _ _ ?_,hc _ _ ?_,hc _ _ ?_⟩
 ·have:=q 0 (by omega);rwa[aqt]at this
 ·exact q 1 (by omega)
 ·exact q 2 (by omega)
 ·exact q 3 (by omega)
 ·exact q 4 (by omega)
def Ct (w:World) (ca:Option Addr) (cn:Nat) (code:List Mv):Prop:=∀W:World,(∀(k:Nat) (o:Array Value) (f:Nat×Nat),w.heap[k]?=some (.cells o 235 f)->W.heap[k]?=w.heap[k]?)->Cs W ca cn code
theorem Ct.cs {w:World}{ca:Option Addr}{cn:Nat}{code:List Mv}(h:Ct w ca cn code):Cs w ca cn code:=h w fun _ _ _ _=>rfl
theorem Ct.to {w w':World}{ca:Option Addr}{cn:Nat}{code:List Mv}(h:Ct w ca cn code)(q:∀(k:Nat) (o:Array Value) (f:Nat×Nat),w.heap[k]?=some (.cells o 235 f)->w'.heap[k]?=w.heap[k]?):Ct w' ca cn code:=fun W hW=>h W fun k o f hk=>(hW k o f ((q k o f hk).trans hk)).trans (q k o f hk)
theorem Ct.of {w w':World}{ca:Option Addr}{cn:Nat}{code:List Mv}(h:Ct w ca cn code)(G:Gr w w'):Ct w' ca cn code:=h.to fun k o f hk=>G.block k (gs hk).1
theorem Zb {w:World}{base:Nat}{v:Value}{code:List Mv}(O:w.ownsRow base 235 5 v code.length (r9 code))(hn:∀i∈code,Hh.W i.n)(ho:∀i∈code, -9223372036854775808<=i.op/\i.op<=9223372036854775807):∃ca cc,v=.slice ca code.length cc/\Ct w ca code.length code:=by obtain⟨ca,cc,rfl,_⟩:=NB O hn ho;refine⟨ca,cc,rfl,fun W q=>?_⟩;obtain⟨ca',cc',e,C⟩:=NB (aj O q) hn ho;injection e with e1 _ _;subst e1;exact C
end Ts
namespace Kc
open Mm Ts Hc

variable {g b t :Nat} {x y :Value}
theorem uC {W:World}{z0 z1 z2 z3:Value}(h:W.heap[g]?=some (.cells #[z0,z1,z2,z3] t (0,0)))(a b c d:Value):((((W.setCell ⟨g,0,none⟩ a).setCell ⟨g,1,none⟩ b).setCell ⟨g,2,none⟩ c).setCell ⟨g,3,none⟩ d).heap[g]?=some (.cells #[a,b,c,d] t (0,0)):=by have h0:=aul W g 0 _ _ a h;have h1:=aul _ g 1 _ _ b h0;have h2:=aul _ g 2 _ _ c h1;exact aul _ g 3 _ _ d h2
theorem Bj {p:World->Prop}{x:World}(F:World->Prop)(h:F x)(k:∀y,F y->p y):p x:=k x h
end Kc
end Go.Proofs.YtiadhbmnfjfioaaGreatDoor
