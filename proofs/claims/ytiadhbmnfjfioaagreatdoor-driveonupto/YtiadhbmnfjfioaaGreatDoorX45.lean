/- ours -/
import Derived.Test.YtiadhbmnfjfioaaGreatDoorX44
set_option linter.unusedVariables false
set_option linter.unusedSimpArgs false
set_option maxHeartbeats 8000000
set_option maxRecDepth 100000
set_option linter.unusedSectionVars false
namespace Go.Proofs.YtiadhbmnfjfioaaGreatDoor
open Go.Proofs.Tryz hiding d0 d1 t1
open Go.ChangeShapes Go.WideShapes Go.ChangeAt Go.RowKit
variable [Inhabited Hc.bN]
namespace Vp
open Mm Hh Hc Mc Ud As Go.Lib

section
variable {P :Program} {w :World}
theorem vW (base:Nat)(t u ty e:TypeId)(i:TypeInfo)(ht:P.underlying t=some (.slice e))(hu:P.underlying u=some .string)(hi:P.info? e=some i)(hz:i.zero=some (.int .u8 0))(hsize:i.size=1)(hby:i.bytes=1)(v:Value)(n:Nat)(xs:List Value)(hown:w.ownsRowF base e 1 v n xs)(s:ByteArray)(h63:n+s.size<=maxLen)(hbytes:n+s.size<=140737488355328)(hbase:base<=w.heap.size):∃v' w',(Builtin.append_ #[t,u] ty #[v,.string s]).run P w=.ok v' w'/\w'.ownsRowF base e 1 v' (n+s.size) (xs++strCells s)/\w.grownBy w' v.ownBlock/\∀k,v'.ownBlock=some k->v.ownBlock=some k\/w.heap.size<=k:=by
 obtain⟨v',w',hr,h2,h3,_⟩:=run_append_own_stringF (P:=P) w base t u ty e i ht hu hi hz hsize hby v n xs hown s h63 hbytes hbase;refine⟨v',w',hr,h2,h3,fun k hk=>?_⟩;rcases hown.2 with⟨rfl,rfl⟩|⟨g,cap,cur,fz,rfl,hbg,hg,hfz,hnc,hcm,hcs,htake⟩
 ·have hx:=apX (by simpa using hown.1);subst hx;obtain⟨v2,w2,hr2,k2,_⟩:=run_append_own_stringF (P:=P) w w.heap.size t u ty e i ht hu hi hz hsize hby (.slice none 0 0) 0 [] (World.ownsRowF_nil _ _ _ _) s h63 hbytes (apn _);rw[hr]at hr2;injection hr2 with e1 e2;subst e1;exact .inr (k2.lt k hk).1
 ·by_cases hroom:n+s.size<=cap
  ·have hcs':cur.size=cap:=by simpa using hcs
   have hr2:=run_append_room_stringF (P:=P) w t u ty e i ht hu hi hsize g n cap cur fz hg (by simpa using hfz) s hroom (by omega);rw[hr]at hr2;injection hr2 with e1 e2;subst e1;exact .inl hk
  ·have hxl:xs.length=n:=by simpa using hown.1
   have hsmall:n+s.size<=9223372036854775807:=by simp only[maxLen]at h63;omega
   have holds:=hown.cells (g:=g) rfl;have hr2:=run_append_grow_string (P:=P) w t u ty e i (.int .u8 0) ht hu hi hz ⟨g,0,none⟩ n cap xs (by rw[hsize];simpa using hxl) holds s (by omega) (by omega) (by rw[hby];exact growslice_fits (by omega) (by omega));rw[hr]at hr2;injection hr2 with e1 e2;subst e1;simp only[Value.ownBlock,auj]at hk;exact .inr (by omega)
theorem mK {ops:Array Oper}{rest:List Oper}{o:Oper}{a:Act}{Q:Exit→Act→World→Prop}(hgd:o.guard=none)(sl x:Operand)(t u:TypeId)(ho:o.op=.call { callee:=.builtin .append,args:=#[sl,x],argTypes:=#[t,u] })(base:Nat)(e:TypeId)(i:TypeInfo)(ht:P.underlying t=some (.slice e))(hu:P.underlying u=some .string)(hi:P.info? e=some i)(hz:i.zero=some (.int .u8 0))(hsize:i.size=1)(hby:i.bytes=1)(v:Value)(n:Nat)(xs:List Value)(hs:a.eval sl=v)(hown:w.ownsRowF base e 1 v n xs)(s:ByteArray)(hx:a.eval x=.string s)(h63:n+s.size<=maxLen)(hbytes:n+s.size<=140737488355328)(hbase:base<=w.heap.size)(h:∀v' w',w'.ownsRowF base e 1 v' (n+s.size) (xs++strCells s)->w.grownBy w' v.ownBlock->(∀k,v'.ownBlock=some k->v.ownBlock=some k\/w.heap.size<=k)->wpList P ops Q rest (a.put o.dst v') w'):wpList P ops Q (o::rest) a w:=by
 refine au5 hgd fun K hK=>?_
 obtain⟨v',w',hr,h2,h3,h4⟩:=vW (P:=P) base t u o.type e i ht hu hi hz hsize hby v n xs hown s h63 hbytes hbase;unfold Oper.wp execOp;simp only[ho,resolve,invoke,builtin,au3,avd,auM,List.map_toArray,aqo,aru,hs,hx,hr];exact hK _ _ (h v' w' h2 h3 h4)
end

variable {w w' w2 :World} {ty g B b :Nat} {M H P U v v' :Value} {p :Pl}
def Bv (B b:Nat) (v:Value) (l:List Value) (w:World):Prop:=∃q,(q=.pointer none\/q=.pointer (some ⟨b,0,none⟩))/\B<=b/\w.heap[b]?=some (.cells #[q,v] 74 (0,0))/\w.ownsRowF B 5 1 v l.length l/\v.ownBlock≠some b
theorem Bv.is {l:List Value}(h:Bv B b v l w):Lib.IsBuilderF 74 5 B b l w:=by
 obtain⟨q,rfl|rfl,h1,h2,h3,h4⟩:=h
 ·exact .inl ⟨h1,v,h2,h3,h4⟩
 ·exact .inr ⟨h1,v,h2,h3,h4⟩
def Db (b:Nat) (v:Value) (k:Nat):Prop:=k=b\/v.ownBlock=some k
theorem Bv.check {l:List Value}(h:Bv B b v l w):Calls prog 41 #[.pointer (some ⟨b,0,none⟩)] w fun e w'=>e=.returned (.tuple #[])/\(w'.heap[b]?=some (.cells #[.pointer (some ⟨b,0,none⟩),v] 74 (0,0))/\w'.ownsRowF B 5 1 v l.length l)/\Fx (Db b v) (Db b v) w w':=by
 obtain⟨q,hq,h1,h2,h3,h4⟩:=id h;rcases hq with rfl|rfl
 ·have h0:Lib.BuilderAtF 74 5 B b (.pointer none) l w:=⟨h1,v,h2,h3,h4⟩;refine(xR h0.cell0 h0.shape h0.frozen0).mono ?_;rintro e w' ⟨rfl,rfl⟩;refine⟨rfl,⟨by rw[hss h2];simp,h3.kept (row:=some b) ⟨rfl,rfl,rfl,by simp,fun k _ hk=>hso (fun e=>hk (by rw[e]))⟩ (.inr h4)⟩,Fx.set (.inl rfl)⟩
 ·have h0:Lib.BuilderAtF 74 5 B b (.pointer (some ⟨b,0,none⟩)) l w:=⟨h1,v,h2,h3,h4⟩;refine(xS h0.cell0).mono ?_;rintro e w' ⟨rfl,rfl⟩;exact⟨rfl,⟨h2,h3⟩,Fx.refl _ _⟩
theorem QK {l:List Value}(s:ByteArray)(h:Bv B b v l w)(hlen:l.length+s.size<=140737488355328)(hBw:B<=w.heap.size):Calls prog 19 #[.pointer (some ⟨b,0,none⟩),.string s] w fun e w'=>e=.returned (.tuple #[.int .i64 s.size,.nilIface])/\∃v',Bv B b v' (l++Lib.strCells s) w'/\Fx (Db b v) (Db b v') w w':=by
 obtain⟨i0,hi,hz0,hz1,hz2⟩:=auz Xz;have HB:Hid (B<=b):=h.choose_spec.2.1;have HNE:Hid (v.ownBlock≠some b):=h.choose_spec.2.2.2.2;have HH:Hid (Calls prog 41 #[.pointer (some ⟨b,0,none⟩)] w fun e w'=>e=.returned (.tuple #[])/\(w'.heap[b]?=some (.cells #[.pointer (some ⟨b,0,none⟩),v] 74 (0,0))/\w'.ownsRowF B 5 1 v l.length l)/\Fx (Db b v) (Db b v) w w'):=h.check;clear h;go_enter func19,ntmps19;go_wp2_with fail;refine HH.out.mono ?_;rintro e w1 ⟨rfl,⟨hbk,hown⟩,F1⟩;have c0:w1.cell? ⟨b,0,none⟩=some (.pointer (some ⟨b,0,none⟩)):=(cr hbk).trans rfl;have c1:w1.cell? ⟨b,1,none⟩=some v:=(cr hbk).trans rfl;go_wp2_with (at_builtin;refine mK rfl _ _ 25 9 rfl B 5 i0 underlying25 underlying9 hi hz0 hz1 hz2 _ _ _ rfl hown s rfl ?c3 ?c4 ?c5 ?_)
 case c3=>unfold maxLen;omega
 case c4=>omega
 case c5=>have:=F1.size;omega
 intro v' w2 hown' hgrow hat;have hlt:b<w1.heap.size:=(gs hbk).1;have hb2:w2.heap[b]?=some (.cells #[.pointer (some ⟨b,0,none⟩),v] 74 (0,0)):=by
  rw[hgrow.block b hlt (fun e=>HNE.out e.symm)];exact hbk
 have d0:w2.cell? ⟨b,0,none⟩=some (.pointer (some ⟨b,0,none⟩)):=(cr hb2).trans rfl;have d1:w2.cell? ⟨b,1,none⟩=some v:=(cr hb2).trans rfl;have f1:w2.frozen? ⟨b,1,none⟩=false:=lh hb2;have HV:Hid (v'.ownBlock≠some b):=fun e=>by
  rcases hat b e with h|h
  ·exact HNE.out h
  ·omega
 obtain⟨ao,n',cap,rfl⟩:∃ao n' cap,v'=.slice ao n' cap:=by
  rcases hown'.2 with⟨hv,_⟩|⟨g,cap,cur,fz,hv,_⟩
  ·exact⟨_,_,_,hv⟩
  ·exact⟨_,_,_,hv⟩
 go_wp2;go_ret2;refine⟨rfl,_,⟨_,.inr rfl,HB.out,by rw[hss hb2];simp,?_,HV.out⟩,?_⟩
 ·have h5:w2.ownsRowF B 5 1 (.slice ao n' cap) (l++Lib.strCells s).length (l++Lib.strCells s):=by simpa[Lib.strCells_length]using hown'
  exact h5.kept (row:=some b) ⟨rfl,rfl,rfl,by simp,fun k _ hk=>hso (fun e=>hk (by rw[e]))⟩ (.inr HV.out)
 ·refine F1.trans ((Fx.grown hgrow (fun k e=>.inr e) (D':=Db b (.slice ao n' cap)) ?_).trans (Fx.set (.inl rfl)));rintro k (h|h)
  ·exact .inl (.inl h)
  ·rcases hat k h with h|h
   ·exact .inl (.inr h)
   ·exact .inr h
theorem zV.other {N:Nat}{us:List Uv}{k1 k2:Nat}(h:@zV ⟨⟨k1⟩⟩ g N w U us)(hk:N<=k2)(hgk:g≠k1):@zV ⟨⟨k2⟩⟩ g N w U us:=by
 obtain⟨w0,ua,uc,e,h1,h0,h2,h3,h4,h5⟩:=h;have h3o:=@Un.off ⟨⟨k1⟩⟩ _ _ _ _ h3;have h3u:=@Un.us ⟨⟨k1⟩⟩ _ _ _ _ h3;have h5':=h5
 -- the elder row as it is now
 obtain⟨w1,hw1,hz1⟩:∃w1:World,(∀k,k<N->(k≠k1->w1.heap[k]?=w0.heap[k]?)/\(k=k1->w1.heap[k]?=w.heap[k]?))/\w1.heap.size=N:=by
  by_cases hl:k1<N
  ·refine⟨{ w0 with heap:=w0.heap.setIfInBounds k1 (w.heap[k1]'(by omega)) },fun k hk=>⟨fun hn=>?_,fun he=>?_⟩,by simp[h0]⟩
   ·show(w0.heap.setIfInBounds k1 _)[k]?=_
    rw[aqp (fun e=>hn e.symm)]
   ·subst he;show(w0.heap.setIfInBounds k _)[k]?=_
    rw[aqA (by omega)];exact(aqk (by omega)).symm
  ·exact⟨w0,fun k hk=>⟨fun _=>rfl,fun he=>absurd he (by omega)⟩,h0⟩
 have hkk:∀k,k<w0.heap.size->@Kw ⟨⟨k1⟩⟩ w0 w1 k:=fun k hk=>by
  by_cases e:k=k1
  ·exact .inr (.inr e)
  ·exact .inl ((hw1 k (by omega)).1 e)
 have hu1:=@Un.kw ⟨⟨k1⟩⟩ w1 w0 hkk _ _ _ (by omega) h3;have hrow:∀b o,ua=some ⟨b,o,none⟩->0<us.length->w1.heap[b]?=w0.heap[b]?:=fun b o e hn=>@zG ⟨⟨k1⟩⟩ w1 w0 hkk _ _ _ h3 b o e hn
 have lts:∀{b i:Nat} {v:Value},w1.cell? ⟨b,i,none⟩=some v->b<N:=fun {b i v} h=>by
  have:=aug w1 _ h;rw[hz1]at this;exact this
 have hg1:NbW w1 g:=fun i v hv=>by
  have hl:=lts hv;by_cases e:g=k1
  ·exact absurd e hgk
  ·exact h4 i v ((aui ((hw1 g hl).1 e)).symm.trans hv)
 refine⟨w1,ua,uc,e,h1,hz1,h2,?_,hg1,fun k hk' hg=>?_⟩
 ·refine @Un.mk ⟨⟨k2⟩⟩ _ _ _ _ hu1 (fun b o e j hj=>?_);obtain⟨b',o',e',hb,hc⟩:=hu1.spot (by omega);rw[e]at e';injection e' with e';injection e' with e1 e2;subst e1 e2;obtain⟨x,⟨ba0,bn0,bc0,la0,ln0,lc0,ex,ou,_,_,M,L,_⟩,h2'⟩:=hc j us[j] (api hj);have WH:=h2' 39 (.slice ba0 bn0 bc0) (by rw[ex];have:=eO (u:=us[j]) (b:=.slice ba0 bn0 bc0) (l:=.slice la0 ln0 lc0) ou.was 1;simpa using this);have QR:=h2' 40 (.slice la0 ln0 lc0) (by rw[ex];have:=eO (u:=us[j]) (b:=.slice ba0 bn0 bc0) (l:=.slice la0 ln0 lc0) ou.was 2;simpa using this);refine⟨show b≠k2 by omega,fun ba bn bc q hn ad ea=>?_,fun la ln lc q hn ad ea=>?_⟩
  ·rw[WH]at q;injection q with q;injection q with q1 q2 q3;subst q1 q2;have hl:=aug w1 _ (M.cell ad ea 0 hn);rw[Mm.add_block,hz1]at hl;show ad.block≠k2
   omega
  ·rw[QR]at q;injection q with q;injection q with q1 q2 q3;subst q1 q2;obtain⟨lb,lo,e3,hlb,_⟩:=L.spot hn;rw[ea]at e3;injection e3 with e3;subst e3;show lb≠k2
   omega
 ·show w.heap[k]?=w1.heap[k]?\/NbW w1 k\/k=k2
  by_cases e:k=k1
  ·exact .inl ((hw1 k hk').2 e).symm
  ·rcases h5' k hk' hg with q|q|q
   ·exact .inl (q.trans ((hw1 k hk').1 e).symm)
   ·exact .inr (.inl fun i v hv=>q i v ((aui ((hw1 k hk').1 e)).symm.trans hv))
   ·exact absurd q e
theorem rz {base e sz n:Nat}{v:Value}{xs:List Value}(h:w.ownsRow base e sz v n xs)(hk:∀k,v.ownBlock=some k->w'.heap[k]?=w.heap[k]?):w'.ownsRow base e sz v n xs:=by
 obtain⟨h1,h2⟩:=h;refine⟨h1,?_⟩;rcases h2 with h2|⟨g,cap,cur,rfl,h3,h4,h5⟩
 ·exact .inl h2
 ·exact .inr ⟨g,cap,cur,rfl,h3,(hk g rfl).trans h4,h5⟩
theorem EY {l:List Value}(h:Bv B b v l w):NbW w b:=by
 obtain⟨q,hq,h1,h2,h3,h4⟩:=h;intro i u hu z;rw[cr h2]at hu
 match i,hu with
 |0,hu=>simp at hu;subst hu;rcases hq with rfl|rfl<;>simp
 |1,hu=>
  simp at hu;subst hu;rcases h3.2 with⟨rfl,_⟩|⟨_,_,_,_,rfl,_⟩<;>simp
 |i+2,hu=>simp at hu
theorem Pr.wr {k1 k2 Bb:Nat}{l:List Value}(X:@Pr ⟨⟨k1⟩⟩ ty B w g M H P U p)(hv:Bv Bb b v l w)(F:Fx (Db b v) (Db b v') w w')(hk1:∀k,v.ownBlock=some k->k=k1)(ai2:k2=k1\/w.heap.size<=k2)(hgk:g≠k1)(ap:∀k,Dm g M H P k->¬Db b v k):@Pr ⟨⟨k2⟩⟩ ty B w' g M H P U p/\∀k,Dm g M H P k->¬Db b v' k:=by
 have hd:=@Pr.dom ⟨⟨k1⟩⟩ w ty g B M H P U p X;have kp:∀k,Dm g M H P k->w'.heap[k]?=w.heap[k]?:=fun k h=>F.keep k (hd k h).2 (ap k h)
 refine⟨?_,fun k h h2=>?_⟩
 ·obtain⟨N,n1,n2,n3,n4⟩:=@Pr.row ⟨⟨k1⟩⟩ _ _ _ _ _ _ _ _ _ X;have n4':p.fr=true->@zV ⟨⟨k2⟩⟩ g N w' U p.us:=fun hf=>by
   have h5:=@zV.wr ⟨⟨k1⟩⟩ _ _ _ _ _ _ (n4 hf) F.size (fun k hk hg=>by
    by_cases hb:k=b
    ·subst hb;exact .inr (.inl (EY hv))
    ·by_cases hw:v.ownBlock=some k
     ·exact .inr (.inr (hk1 k hw))
     ·exact .inl (F.keep k (by omega) (fun h=>h.elim hb hw)))
   rcases ai2 with rfl|h6
   ·exact h5
   ·exact zV.other h5 (by omega) hgk
  have m:=@Pr.mx ⟨⟨k1⟩⟩ _ _ _ _ _ _ _ _ _ X
  exact @Pr.mk ⟨⟨k2⟩⟩ _ _ _ _ _ _ _ _ _ (@Pr.oU ⟨⟨k1⟩⟩ _ _ _ _ _ _ _ _ _ X) (@Pr.bg ⟨⟨k1⟩⟩ _ _ _ _ _ _ _ _ _ X) ((kp g (.inl rfl)).trans (@Pr.blk ⟨⟨k1⟩⟩ _ _ _ _ _ _ _ _ _ X))
   ⟨rz m.mem fun k e=>kp k (.inr (.inl e)),rz m.hrt fun k e=>kp k (.inr (.inr (.inl e))),m.ok⟩ (@Pr.ok ⟨⟨k1⟩⟩ _ _ _ _ _ _ _ _ _ X)
   ⟨N,n1,apr n2 F.size,rz n3 fun k e=>kp k (.inr (.inr (.inr e))),n4'⟩ (@Pr.un ⟨⟨k1⟩⟩ _ _ _ _ _ _ _ _ _ X)
 ·rcases F.dom k h2 with h3|h3
  ·exact ap k h h3
  ·have:=(hd k h).2;omega
theorem Bv.fx {D D':Nat->Prop}{l:List Value}(h:Bv B b v l w)(F:Fx D D' w w')(ap:∀k,D k->¬Db b v k):Bv B b v l w'/\∀k,D' k->¬Db b v k:=by
 obtain⟨q,hq,h1,h2,h3,h4⟩:=h;have hl:∀k,Db b v k->k<w.heap.size:=fun k hk=>by
  rcases hk with rfl|hk
  ·exact(gs h2).1
  ·exact(h3.lt k hk).2
 have kp:∀k,Db b v k->w'.heap[k]?=w.heap[k]?:=fun k hk=>F.keep k (hl k hk) (fun hd=>ap k hd hk)
 refine⟨⟨q,hq,h1,(kp b (.inl rfl)).trans h2,⟨h3.1,?_⟩,h4⟩,fun k hd hk=>?_⟩
 ·rcases h3.2 with e|⟨g,cap,cur,fz,rfl,e1,e2,e3⟩
  ·exact .inl e
  ·exact .inr ⟨g,cap,cur,fz,rfl,e1,(kp g (.inr rfl)).trans e2,e3⟩
 ·rcases F.dom k hd with h5|h5
  ·exact ap k h5 hk
  ·have:=hl k hk;omega
end Vp
namespace Vp
open Mm Hh Hc Mc Ud As
theorem Cz:∀(l:List Nat) (Wd:List Nat),(∀x∈l,x<9223372036854775808)→(bH Wd l).length≤Wd.length+41*l.length
 | [],Wd,_=>by simp[bH]
 |x::r,Wd,h=>by
  have ih:=Cz r (Wd++32::dg x) fun y hy=>h y (by simp[hy])
  have e:bH Wd (x::r)=bH (Wd++32::dg x) r:=rfl;have:=nR (h x (by simp));rw[e];simp only[apo,apH]at ih ⊢;omega
theorem qp {l Wd:List Nat}(h:∀x∈l,x<9223372036854775808)(h1:Wd.length<=1000)(h2:l.length<=200000):(bH Wd l).length<=100000000:=by have:=Cz l Wd h;omega
theorem Wo {op rd a b n:Int}(h:Re.XI op rd a b n)(n0 : -2147483648<=n)(n1:n<2147483648):(vY op rd a b n).length<=300:=by
 have h1:=zZ h.1.1 h.1.2.1 n;have h2:=qo (Ib.of h n0 n1) (jU op);have h3:=zM op;unfold vY;rw[z8 h.1.1 h.1.2.1,apo];unfold nV;split
 ·simp;omega
 ·simp only[apH];omega
theorem Ie {p:Pl}(o:lg p)(us:List Uv)(fr:Bool):(nJ p us fr).2.length<=100000000:=by
 unfold nJ;split
 ·rename_i hw;have q:=PT o hw;show(UN _).length<=_
  refine qp (fun x hx=>?_) (by decide) ?_
  ·rcases apx.1 hx with rfl|hx
   ·have:=q.st;omega
   ·obtain⟨y,hy,rfl⟩:=apK.1 hx;have:=q.w y hy;omega
  ·have h1:=q.few;have h2:=q.st;simp only[apH,apY];omega
 ·have:=mI p.m p.hs p.ps;exact qp (fun x hx=>by rw[apE.1 hx];omega) (by decide) (by simp)
theorem sU {Wd:List Nat}{x:Nat}(h:x<9223372036854775808)(h1:Wd.length<=1000):(bH Wd [x]).length<=100000000:=qp (fun y hy=>by rw[apE.1 hy];exact h) h1 (by simp)
theorem Wp {p:Pl}(o:lg p)(w:List Nat){l:List Nat}(hl:∀n∈l,n<4294967296):(OP p w l).2.length<=100000000:=by
 have q:aQ.length<=100000000:=by decide
 unfold OP;split
 ·unfold iL;split
  ·exact q
  ·exact sU (by omega) (by decide)
 split
 ·match l,hl with
  | [],_=>exact q
  | [pc],hl=>
   have:=o.h4;simp only[uV];split
   ·exact sU (by omega) (by decide)
   ·exact q
  |_::_::_,_=>exact q
 split
 ·match l,hl with
  | [],_=>exact q
  | [_],_=>exact q
  | [_,_],_=>exact q
  | [k,r,x],hl=>
   simp only[Cf];split
   ·show Ce.length<=_;decide
   ·exact q
  |_::_::_::_::_,_=>exact q
 split
 ·match l,hl with
  | [],_=>exact q
  | [_],_=>exact q
  | [k,n],hl=>
   have:=o.p3;simp only[uW];split
   ·exact sU (by omega) (by decide)
   ·exact q
  |_::_::_::_,_=>exact q
 split
 ·match l with
  | []=>exact Ie o _ _
  |_::_=>exact q
 split
 ·match l with
  | []=>exact q
  | [room]=>
   simp only[rR];split
   ·exact sU (by omega) (by decide)
   ·exact Ie (p:={ p with fr:=false }) o.old _ _
  |_::_::_=>exact q
 split
 ·match l with
  | []=>exact q
  | [k]=>
   show(vS p [k]).length<=_
   simp only[vS];split
   ·rename_i hk;obtain⟨a,b⟩:=o.hok _ (sP hk);have ms:0<=(hAt p k).state/\(hAt p k).state<=2/\0<=(hAt p k).cause/\(hAt p k).cause<=6:=by
     unfold may at b;simp only[auk]at b;omega
    have h1:=a.jV;have h2:=a.len;have h3:=nR (x:=(hAt p k).state.toNat) (by omega);refine qp (fun x hx=>?_) (by omega) (by simp only[apH,apY];omega);rcases apx.1 hx with rfl|hx
    ·omega
    ·rcases apx.1 hx with rfl|hx
     ·omega
     ·obtain⟨y,hy,rfl⟩:=apK.1 hx;obtain⟨i,hi⟩:=aqe.1 hy;have e:Hh.rg (hAt p k) i=y:=by unfold Hh.rg;rw[apV,hi];rfl
      have:=(a.reg i).2;omega
   ·exact q
  |_::_::_=>exact q
 split
 ·match l,hl with
  | [],_=>exact q
  | [x],hl=>
   have hx:=hl x (by simp);show(nP [x]).length<=_
   simp only[nP];split
   ·decide
   ·obtain⟨x0,x1,x2,x3,x4,Q⟩:=Qi hx;have:=Q.b0;have:=Q.b1;have:=Q.b2;have:=Q.b3;have:=Q.b4;rw[Q.e4,Q.e3,Q.e2,Q.e1,Q.e0];simp only[apG];refine qp (fun y hy=>?_) (by decide) (by simp);simp only[apx,apB,auw]at hy;rcases hy with rfl|rfl|rfl|rfl|rfl<;>omega
  |_::_::_,_=>exact q
 split
 ·match l,hl with
  | [],_=>exact q
  | [pc],hl=>
   have hx:=hl pc (by simp);show(mF p [pc]).length<=_
   by_cases hf:Bk.jR p.m pc=0
   ·obtain⟨r,hr⟩:=(zN (l:=p.m) (pc:=(pc:Int)) (by omega) (by omega)).2 hf;simp only[mF,hr];have wx:=W.aN p.m 13 (pc:Int);have hd:¬Dc.aO (aN p.m 13 pc)=0:=by
     unfold Bk.jR at hf;split at hf
     ·split at hf
      ·cases hf
      ·assumption
     ·cases hf
    have ib:=yF (Dc.aJ (Dc.aO (aN p.m 13 pc))) wx.1 wx.2;have:=Wo (Ic wx.1 wx.2 hd) ib.1 ib.2;show(zw _).length<=_
    unfold zw;omega
   ·have hr:=(zN (l:=p.m) (pc:=(pc:Int)) (by omega) (by omega)).1 hf;simp only[mF,hr];decide
  |_::_::_,_=>exact q
 split
 ·match l with
  | []=>exact q
  | [n]=>
   simp only[kW];split
   ·show Ce.length<=_;decide
   ·exact q
  |_::_::_=>exact q
 split
 ·match l with
  | []=>exact q
  | [x]=>
   show(dg _).length<=_
   have h16:=(Ts.fM p.m x 16 0).1;have:=nR (x:=(Bk.blk p.m x 16 0).length) (by omega);omega
  |_::_::_=>exact q
 ·exact q
theorem QM {p:Pl}{L:List Nat}(o:lg p)(hl:∀d∈L,d<256)(hs:L.length<=4000000):(nQ p L).2.length<=100000000:=by
 unfold nQ;cases hn:gu (splitN 32 L).tail with
 |none=>show aQ.length<=_;decide
 |some l=>exact Wp o _ (zx hn)
end Vp
namespace Vp
open Mm Hh Hc Mc Ud As

variable {w w' W W' W0 :World} {S R A :List Nat} {j :Nat} {p :Pl} {M H P U v :Value} {k1 :Nat}
theorem KE:iM []=[]:=rfl
theorem Wq (h:List Nat){t:List (List Nat)}(ht:t≠[]):(if(h::t).getLast?=some []then(h::t).dropLast else h::t)=h::(if t.getLast?=some []then t.dropLast else t):=by
 cases t with
 |nil=>exact absurd rfl ht
 |cons y z=>
  have e:(h::y::z).getLast?=(y::z).getLast?:=List.getLast?_cons_cons;by_cases hg:(y::z).getLast?=some ([]:List Nat)
  ·rw[at7 (e.trans hg),at7 hg];rfl
  ·rw[at6 (fun q=>hg (e.symm.trans q)),at6 hg]
theorem KF (hl:∀d∈R,d<256)(hn:R≠[]):iM R=(bO 10 R).1::iM (bO 10 R).2.1:=by
 by_cases h:10∈R
 ·obtain⟨s1,s2,s3,s4,s5,s6⟩:=mG (c:=10) (by omega) hl;cases ht:(bO 10 R).2.2 with
  |true=>
   obtain⟨e,_⟩:=s5 ht;have e3:splitN 10 R=(bO 10 R).1::splitN 10 (bO 10 R).2.1:=by rw[e,s1];exact mD 10 R
   unfold iM;rw[e3];exact Wq _ (qi _ _)
  |false=>
   exfalso;obtain⟨A,B,e0,_,e2⟩:=GK (c:=10) (by omega) R hl h;obtain⟨e,_⟩:=s6 ht;rw[e2]at e;exact qi 10 B (by simpa using e)
 ·obtain⟨_,e2⟩:=zA (c:=10) (by omega) R hl h;have ec:bO 10 R=(R,[],false):=by unfold bO;rw[e2]
  rw[ec];unfold iM;rw[e2];have:¬(some R=some ([]:List Nat)):=fun e=>hn (by injection e)
  simp[this,splitN]
structure Lc (W0:World) (S:List Nat) (W:World) (A:List Nat) (p:Pl) (M H P U v:Value) (k1:Nat):Prop where
 pr:@Pr ⟨⟨k1⟩⟩ 71 W0.heap.size W W0.heap.size M H P U p
 bv:Bv W0.heap.size (W0.heap.size+1) v (Lib.byteCells (A.map UInt8.ofNat)) W
 kk:(∀k,v.ownBlock=some k->k=k1)/\W0.heap.size≠k1/\k1<W.heap.size
 ap:∀k,Dm W0.heap.size M H P k->¬Db (W0.heap.size+1) v k
 fr:Below W0.heap.size W0 W
def Lp (W0:World) (S:List Nat) (j:Nat) (R:List Nat) (W:World):Prop:=∃A p M H P U v k1,Lc W0 S W A p M H P U v k1/\((∀d∈R,d<256)/\R.length<=4000000)/\A.length<=j*100000001/\jH S=A++ans p ((iM R).take (40-j))
def Lq (W0:World) (S:List Nat) (j:Nat) (R a:List Nat) (W:World):Prop:=∃A p M H P U v k1,Lc W0 S W A p M H P U v k1/\((∀d∈R,d<256)/\R.length<=4000000)/\A.length<=j*100000001/\a.length<=100000000/\jH S=A++(a++10::ans p ((iM R).take (40-(j+1))))
theorem Lc.gr (h:Lc W0 S W A p M H P U v k1)(G:Gr W W'):Lc W0 S W' A p M H P U v k1:=by have hl:=h.fr.size;obtain⟨b1,b2⟩:=h.bv.fx (Fx.bD (D:=fun _=>False) G) (fun k hk=>hk.elim);exact⟨@Pr.gr ⟨⟨k1⟩⟩ _ _ _ _ _ _ _ _ _ _ h.pr G,b1,⟨h.kk.1,h.kk.2.1,apq h.kk.2.2 G.size⟩,h.ap,auI h.fr (aun G hl)⟩
theorem Lp.gr (h:Lp W0 S j R W)(G:Gr W W'):Lp W0 S j R W':=by obtain⟨A,p,M,H,P,U,v,k1,c,r⟩:=h;exact⟨A,p,M,H,P,U,v,k1,c.gr G,r⟩
def T0 (W0:World):Prop:=En.nI W0.heap.size W0/\gz W0/\Li W0
theorem Lp.ask (T:T0 W0)(h:Lp W0 S j R W)(hR:R≠[])(hj:j<40):Calls prog 20 #[.pointer (some ⟨W0.heap.size,0,none⟩),str (bO 10 R).1] W fun e w'=>∃a,e=.returned (str a)/\Lq W0 S j (bO 10 R).2.1 a w':=by
 obtain⟨A,p,M,H,P,U,v,k1,c,⟨r1,r2⟩,hA,hS⟩:=h;obtain⟨s1,s2,s3,s4,s5,s6⟩:=mG (c:=10) (by omega) r1;have hGr:=c.fr;have Tz':@Tz ⟨⟨k1⟩⟩ W0.heap.size W:=⟨⟨W0,rfl,T.1,T.2.1,T.2.2,hGr⟩,c.kk.2.2⟩;have hlen:(bO 10 R).2.1.length<=4000000:=by
  cases ht:(bO 10 R).2.2 with
  |true=>have:=(s5 ht).2;omega
  |false=>rw[(s6 ht).2];simp
 refine(@EX ⟨⟨k1⟩⟩ W W0.heap.size W0.heap.size M H P U p (bO 10 R).1 s2 (by omega) c.pr Tz').mono ?_;rintro e w' ⟨rfl,M',H',P',U',X,F⟩;obtain⟨b1,b2⟩:=c.bv.fx F c.ap;refine⟨_,rfl,A,(nQ p (bO 10 R).1).1,M',H',P',U',v,k1,⟨X,b1,⟨c.kk.1,c.kk.2.1,apq c.kk.2.2 F.size⟩,b2,auI c.fr (F.below (fun k hk=>(@Pr.dom ⟨⟨k1⟩⟩ _ _ _ _ _ _ _ _ _ c.pr k hk).1) c.fr.size)⟩,⟨s3,hlen⟩,hA,QM (@Pr.ok ⟨⟨k1⟩⟩ _ _ _ _ _ _ _ _ _ c.pr) s2 (by omega),?_⟩;rw[hS,KF r1 hR,show 40-j=(40-(j+1))+1 by omega,ara];rfl
theorem Lq.say {a:List Nat}(h:Lq W0 S j R a W)(hj:j<40):Calls prog 19 #[.pointer (some ⟨W0.heap.size+1,0,none⟩),str (a++[10])] W fun e w'=>(∃u,e=.returned u)/\Lp W0 S (j+1) R w':=by
 obtain⟨A,p,M,H,P,U,v,k1,c,r,hA,ha,hS⟩:=h;have hsz:(bs (a++[10])).size=a.length+1:=by rw[dz];simp
 refine(QK (bs (a++[10])) c.bv (by rw[Lib.byteCells_length,apY,hsz];omega) c.fr.size).mono ?_;rintro e w' ⟨rfl,v',b1,F⟩;obtain⟨k2,q1,q2,q3⟩:∃k2,(∀k,v'.ownBlock=some k->k=k2)/\(k2=k1\/W.heap.size<=k2)/\k2<w'.heap.size:=by
  cases hv:v'.ownBlock with
  |none=>exact⟨k1,(fun k e=>by cases e),.inl rfl,apq c.kk.2.2 F.size⟩
  |some k=>
   refine⟨k,(fun k' e=>by injection e with e;exact e.symm),?_,?_⟩
   ·rcases F.dom k (.inr hv)with(h|h)|h
    ·exfalso;obtain⟨_,_,_,_,_,hne⟩:=b1;exact hne (by rw[hv,h])
    ·exact .inl (c.kk.1 k h)
    ·exact .inr h
   ·obtain⟨_,_,_,_,ho,_⟩:=b1;exact(ho.lt k hv).2
 obtain⟨X,ap⟩:=Pr.wr (k2:=k2) c.pr c.bv F c.kk.1 q2 c.kk.2.1 c.ap;have hgs:=(gs (@Pr.blk ⟨⟨k1⟩⟩ _ _ _ _ _ _ _ _ _ c.pr)).1;have e1:Lib.byteCells (A.map UInt8.ofNat)++Lib.strCells (bs (a++[10]))=Lib.byteCells ((A++(a++[10])).map UInt8.ofNat):=by
  rw[Lib.strCells_eq,bU];simp[Lib.byteCells]
 rw[e1]at b1;refine⟨⟨_,rfl⟩,A++(a++[10]),p,M,H,P,U,v',k2,⟨X,b1,⟨q1,?_,q3⟩,ap,auI c.fr (F.below (fun k hk=>?_) c.fr.size)⟩,r,?_,?_⟩
 ·rcases q2 with rfl|q2
  ·exact c.kk.2.1
  ·omega
 ·obtain⟨_,_,hb,_,ho,_⟩:=c.bv;rcases hk with rfl|hk
  ·exact hb
  ·exact(ho.lt k hk).1
 ·simp only[apo,apW];rw[Nat.add_mul];omega
 ·rw[hS];simp
theorem Lp.stop (h:Lp W0 S j R W)(hj:j=40\/R=[]):Calls prog 21 #[.pointer (some ⟨W0.heap.size+1,0,none⟩)] W fun e w'=>e=.returned (str (jH S))/\Gr W0 w':=by
 obtain⟨A,p,M,H,P,U,v,k1,c,r,hA,hS⟩:=h;have e:jH S=A:=by
  rw[hS];rcases hj with rfl|rfl
  ·simp[ans]
  ·rw[KE];simp[ans]
 rw[e];refine(Tryz.Builder_String_any_k W0.heap.size (W0.heap.size+1) (A.map UInt8.ofNat) W c.bv.is c.fr.size).mono ?_;rintro e w' ⟨rfl,_,hb,_⟩;exact⟨rfl,auI c.fr hb⟩
theorem Lp.start (hl:∀d∈S,d<256)(hs:S.length<=4000000)(e1:W.heap[W0.heap.size]?=some (.cells #[.slice none 0 0,.slice none 0 0,.slice none 0 0,.slice none 0 0,.bool false] 71 (0,0)))(e2:W.heap[W0.heap.size+1]?=some (.cells #[.pointer none,.slice none 0 0] 74 (0,0)))(G:Gr W0 W):Lp W0 S 0 S W:=by
 have hz:=(gs e2).1;refine⟨[],pl0,.slice none 0 0,.slice none 0 0,.slice none 0 0,.slice none 0 0,.slice none 0 0,W0.heap.size+1,⟨?_,⟨_,.inl rfl,by omega,e2,World.ownsRowF_nil _ _ _ _,fun h=>(by cases h)⟩,⟨fun k h=>(by cases h),by omega,hz⟩,?_,G⟩,⟨hl,hs⟩,by simp,rfl⟩
 ·exact @Pr.mk ⟨⟨_⟩⟩ _ _ _ _ _ _ _ _ _ ⟨by decide,by decide,by decide⟩ (apn _) e1 (aaR _ _) aar ⟨W.heap.size,G.size,apn _,aur _ _ _ _,fun h=>(by cases h)⟩ ⟨_,_,_,rfl⟩
 ·rintro k (rfl|h|h|h) (h2|h2)
  ·omega
  ·cases h2
  ·cases h
  ·cases h
  ·cases h
  ·cases h
  ·cases h
  ·cases h
theorem vk (hl:∀d∈S,d<256)(hs:S.length<=4000000)(T:T0 w):Calls prog 7 #[str S] w fun e w'=>e=.returned (str (jH S))/\Gr w w':=by
 have HT:=kH T;have HC:Hid (∀(M:List Nat),(∀d∈M,d<256)->M.length<=4000000->∀W:World,_):=fun M h1 h2 W=>GL (.inr rfl) h1 (by omega) W
 have aY:Hid (∀W:World,W.heap[w.heap.size]?=some (.cells #[.slice none 0 0,.slice none 0 0,.slice none 0 0,.slice none 0 0,.bool false] 71 (0,0))/\W.heap[w.heap.size+1]?=some (.cells #[.pointer none,.slice none 0 0] 74 (0,0))/\Gr w W->Lp w S 0 S W):=fun W ⟨a,b,c⟩=>Lp.start hl hs a b c
 clear T hl hs;generalize hV:str (jH S)=V at *
 have HV:Hid (str (jH S)=V):=hV;clear hV;rw[show str S=.string (bs S)from rfl];have HSB:Hid (str S=.string (bs S)):=rfl;generalize bs S=BS at *
 go_enter func7,ntmps7;go_wp2_with fail;refine JV (fun W=>W.heap[w.heap.size]?=some (.cells #[.slice none 0 0,.slice none 0 0,.slice none 0 0,.slice none 0 0,.bool false] 71 (0,0))/\W.heap[w.heap.size+1]?=some (.cells #[.pointer none,.slice none 0 0] 74 (0,0))/\Gr w W) ⟨?fa,?fb,?fc⟩ ?_
 case fa=>exact Hr.ae ((Gr.refl _).alloc _) (at5 w _)
 case fb=>have:=at5 (w.alloc (.cells #[.slice none 0 0,.slice none 0 0,.slice none 0 0,.slice none 0 0,.bool false] 71)) (.cells #[.pointer none,.slice none 0 0] 74);simpa using this
 case fc=>exact((Gr.refl _).alloc _).alloc _
 rintro W1 hW1;have HL0:Hid (Lp w S 0 S W1):=aY.out W1 hW1;clear hW1 aY;go_loopw [5,8] (fun r i wr=>∃(j:Nat) (R:List Nat),r=str R/\i=.int .i64 j/\j<=40/\Lp w S j R wr) (fun _ i _=>40-(intOf i).toNat)
 case atStart=>exact⟨0,S,HSB.out.symm,rfl,by omega,HL0.out⟩
 case round=>
  obtain⟨j,R,rfl,rfl,hj,L⟩:=hrel;have HL:=kH L;by_cases hlt:j<40
  ·have hlt':(j:Int)<40:=by omega
   by_cases hR:R=[]
   ·have HZ:Hid (Calls prog 21 #[.pointer (some ⟨w.heap.size+1,0,none⟩)] wr fun e w'=>e=.returned V/\Gr w w'):=by
     have:=Lp.stop HL.out (.inr hR);rwa[HV.out]at this
    subst hR;rw[show str []=.string ⟨#[]⟩from rfl];go_wp2_with fail;refine HZ.out.mono ?_;rintro e w2 ⟨rfl,G⟩;go_wp2_with fail;go_ret;exact⟨rfl,G⟩
   ·have HR:=kH hR;have hne:((bs R).toList ==[])=false:=by
     rw[aqs,bU,aub];exact fun e=>hR (List.map_eq_nil_iff.1 e)
    have oQ:Hid (Calls prog 18 #[.string (bs R),.string ⟨#[10]⟩] wr fun e w'=>e=.returned (.tuple #[str (bO 10 R).1,str (bO 10 R).2.1,.bool (bO 10 R).2.2])/\Gr wr w'):=by
     obtain⟨_,_,_,_,_,_,_,_,_,⟨r1,r2⟩,_⟩:=HL.out;exact HC.out R r1 r2 wr
    have HA:Hid (∀W:World,Gr wr W->Calls prog 20 #[.pointer (some ⟨w.heap.size,0,none⟩),str (bO 10 R).1] W fun e w'=>∃a,e=.returned (str a)/\Lq w S j (bO 10 R).2.1 a w'):=fun W G=>(HL.out.gr G).ask HT.out HR.out hlt
    rw[show str R=.string (bs R)from rfl];generalize bs R=BR at *
    generalize(bO 10 R).2.1=R1 at *
    generalize(bO 10 R).2.2=t1 at *
    generalize(bO 10 R).1=P1 at *
    obtain⟨VP,hVP⟩:∃VP:ByteArray,VP=bs P1:=⟨_,rfl⟩;rw[show str P1=.string VP by rw[hVP];rfl]at *
    clear hVP;go_wp2_with fail;refine oQ.out.mono ?_;rintro e w2 ⟨rfl,G2⟩;have HG2:Hid (Gr wr w2):=G2;clear G2;go_wp2_with fail;refine(HA.out _ HG2.out).mono ?_;rintro e w3 ⟨a,rfl,Q⟩;have HW:=kH (Q.say hlt);have ai3:Hid (Value.string (bs a++⟨#[10]⟩)=str (a++[10])):=mP a [10];have hBA:(bs a).size<=100000000:=by
     obtain⟨_,_,_,_,_,_,_,_,_,_,_,h,_⟩:=Q;rw[dz];exact h
    rw[show str a=.string (bs a)from rfl];generalize bs a=BA at *
    go_wp2_with fail;rw[ai3.out];refine HW.out.mono ?_;rintro e w4 ⟨⟨u,rfl⟩,L4⟩;have Ua:=kH L4;go_wp2_with fail;go_roundw
    case rel=>exact⟨j+1,R1,rfl,by go_num,by omega,Ua.out⟩
    case measure=>simp[intOf];omega
  ·have hlt':¬(j:Int)<40:=by omega
   have HZ:Hid (Calls prog 21 #[.pointer (some ⟨w.heap.size+1,0,none⟩)] wr fun e w'=>e=.returned V/\Gr w w'):=by
    have:=Lp.stop HL.out (.inl (by omega));rwa[HV.out]at this
   go_wp2_with fail;refine HZ.out.mono ?_;rintro e w2 ⟨rfl,G⟩;go_wp2_with fail;go_ret;exact⟨rfl,G⟩
end Vp
namespace Vp
open Mm Hh Hc Mc Ud As

variable {w w' :World}
theorem T0.gr (T:T0 w)(G:Gr w w'):T0 w':=by obtain⟨h1,h2,h3⟩:=T;have h:=h1.below G;have s:=G.size;exact⟨⟨h.tt' s,h.tr,apq h.trb s,h.ts' s,h.tq,apq h.tqb s⟩,h2.of G,h3.of G⟩
theorem abG {A B:List Nat}(ha:∀d∈A,d<256)(hb:∀d∈B,d<256)(hz:A.length+B.length<=3000000)(T:T0 w):Calls prog 4 #[.string (bs A),.string (bs B)] w fun e w'=>e=.returned (.bool true)/\Gr w w':=by
 have H1:Hid (∀W:World,Gr w W->Calls prog 7 #[str (A++[10])] W fun e w'=>e=.returned (str (jH (A++[10])))/\Gr W w'):=fun W G=>vk (fun d hd=>by
  rcases apR.1 hd with h|h
  ·exact ha d h
  ·rw[apE.1 h];omega) (by simp;omega) (T.gr G)
 have H2:Hid (∀W:World,Gr w W->Calls prog 7 #[str ((A++[10])++B)] W fun e w'=>e=.returned (str (jH ((A++[10])++B)))/\Gr W w'):=fun W G=>vk (fun d hd=>by
  rcases apR.1 hd with h|h
  ·rcases apR.1 h with h|h
   ·exact ha d h
   ·rw[apE.1 h];omega
  ·exact hb d h) (by simp;omega) (T.gr G)
 have H3:Hid (∀W:World,Gr w W->Calls prog 7 #[.string ⟨#[63]⟩] W fun e w'=>e=.returned (.string ⟨#[63,10]⟩)/\Gr W w'):=fun W G=>by
  have:=vk (w:=W) (S:=[63]) (by simp) (by simp) (T.gr G);rwa[aap]at this
 obtain⟨r,hr⟩:=UO A B;rw[show A++10::B=(A++[10])++B by simp]at hr;rw[hr]at H2;have e1:Value.string (bs A++⟨#[10]⟩)=str (A++[10]):=mP A [10];have e2:Value.string (bs (A++[10])++bs B)=str ((A++[10])++B):=mP _ _;have s1:(bs A).size<=3000000:=by rw[dz];omega
 have s2:(bs B).size<=3000000:=by rw[dz];omega
 have s3:(bs (A++[10])).size<=3000001:=by rw[dz];simp;omega
 generalize jH (A++[10])=P1 at *
 have hle:(bs P1).size<=(bs (P1++r)).size:=by rw[dz,dz];simp
 have hsl:(bs (P1++r)).extract 0 (bs P1).size=bs P1:=by
  apply nU;rw[dz,bU];simp[ByteArray.extract,ByteArray.copySlice,bs]
 rw[show str P1=.string (bs P1)from rfl]at H1;rw[show str (P1++r)=.string (bs (P1++r))from rfl]at H2;generalize bs (P1++r)=S2 at *
 generalize bs P1=S1 at *
 generalize hA1:str (A++[10]++B)=VAB at *
 rw[show str (A++[10])=.string (bs (A++[10]))from rfl]at *
 generalize bs (A++[10])=A1 at *
 generalize bs A=A0 at *
 generalize bs B=B0 at *
 go_enter func4,ntmps4;go_wp2_with fail;refine(H1.out _ (Gr.refl _)).mono ?_;rintro e w1 ⟨rfl,G1⟩;have aU:=kH G1;go_wp2_with fail;refine(H2.out _ aU.out).mono ?_;rintro e w2 ⟨rfl,G2⟩;have HG2:=kH (aU.out.trans G2);go_wp2_with fail;refine(H3.out _ HG2.out).mono ?_;rintro e w3 ⟨rfl,G3⟩;have fQ:=kH (HG2.out.trans G3);go_wp2_with fail;go_ret;exact⟨rfl,fQ.out⟩
end Vp
end Go.Proofs.YtiadhbmnfjfioaaGreatDoor
