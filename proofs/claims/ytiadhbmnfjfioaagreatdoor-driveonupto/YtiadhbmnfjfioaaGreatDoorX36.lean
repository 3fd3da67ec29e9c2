/- ours -/
import Derived.Test.YtiadhbmnfjfioaaGreatDoorX34
import Derived.Test.YtiadhbmnfjfioaaGreatDoorX35
set_option linter.unusedVariables false
set_option linter.unusedSimpArgs false
set_option maxHeartbeats 8000000
set_option maxRecDepth 100000
set_option linter.unusedSectionVars false
namespace Go.Proofs.YtiadhbmnfjfioaaGreatDoor
open Go.Proofs.Tryz
open Go.ChangeShapes Go.WideShapes Go.ChangeAt Go.RowKit
variable [Inhabited Hc.bN]
namespace Ud
open Go.Shelf Mm Hh Hc Mc
attribute [local go_sem] Oper.semAt_some

def U4 (mn:Nat) (hs:List Hv) (us:List Uv) (st:Int):Int:=if jL mn hs=false then 2 else if us.all (fB hs.length mn)=false then 2 else if st<0\/(us.length:Int)<st then 3 else 0
def noP (Q:Exit→Act→World→Prop):Exit→Act→World→Prop
 | .panic _,_,_=>False
 |e,a,w=>Q e a w
theorem aaP {P:Program}{c:Code}{Q:Exit->Act->World->Prop}{a:Act}{w:World}(h:c.wp P (noP Q) a w):c.wp P Q a w:=Code.wp_mono (fun e a w h=>by cases e<;>first|exact h|exact h.elim) h
theorem aeq {Q:Exit->Act->World->Prop}{a:Act}{w:World}(h:Q .normal a w):noP Q .normal a w:=h
theorem EO:(prog.info? 28).map (·.size)=some 2:=by kernel_rfl
theorem JZ {ma ha la:Option Addr}{mn mc hn hc ln lc:Nat}{st:Int}{hs:List Hv}{w:World}(H:Hs w ha hn hs)(b1:mn<=140737488351232)(b2:hn<=140737488351232)(h1:jL mn hs=false):Calls prog 17 #[.agg #[.slice ma mn mc,.slice ha hn hc],.slice la ln lc,.int .i64 st] w fun e w'=>e=.returned (.tuple #[.agg #[.slice none 0 0,.slice none 0 0],.int .i64 2])/\Gr w w':=by
 have Cj:Hid (∀W:World,Gr w W->Calls prog 34 #[.agg #[.slice ma mn mc,.slice ha hn hc]] W fun e w'=>e=.returned (.bool false)/\Gr W w'):=fun W G=>by rw[<-h1];exact lT mc hc mn (H.of G) b1 b2
 go_enter func17,ntmps17;go_wp2_with fail;refine(Cj.out _ (((Gr.refl _).alloc _).alloc _)).mono ?_;rintro e w1 ⟨rfl,G1⟩;have aU:=kH ((((Gr.refl _).alloc _).alloc _).trans G1);have HA1:=kH ((fA G1).1);have HB1:=kH ((fA G1).2);have m0:=iE HA1.out;have m1:=iY HA1.out;go_wp2_with (refine auf rfl 28 _ _ rfl (w.heap.size+1) #[.slice none 0 0,.slice none 0 0] rfl rfl 28 #[.slice none 0 0,.slice none 0 0] ?hb EO rfl (by kernel_rfl) ?_;(case hb=>exact HB1.out));refine auc (v:=.tuple #[.agg _,.int .i64 2]) (Hr.aI results17 _ _ _ _ _ (0,0) _ _ rfl rfl (Ig HB1.out) underlying28 rfl EO) rfl ⟨rfl,?_⟩;exact ag aU.out (aqi _) _
theorem J4 {ma ha la:Option Addr}{mn mc hn hc ln lc:Nat}{st:Int}{hs:List Hv}{us:List Uv}{w:World}(H:Hs w ha hn hs)(U:Us w la ln us)(b1:mn<=140737488351232)(b2:hn<=140737488351232)(b3:ln<=140737488351232)(h1:jL mn hs=true)(h2:us.all (fB hn mn)=false):Calls prog 17 #[.agg #[.slice ma mn mc,.slice ha hn hc],.slice la ln lc,.int .i64 st] w fun e w'=>e=.returned (.tuple #[.agg #[.slice none 0 0,.slice none 0 0],.int .i64 2])/\Gr w w':=by
 have Cj:Hid (∀W:World,Gr w W->Calls prog 34 #[.agg #[.slice ma mn mc,.slice ha hn hc]] W fun e w'=>e=.returned (.bool true)/\Gr W w'):=fun W G=>by rw[<-h1];exact lT mc hc mn (H.of G) b1 b2
 have CR:Hid (∀W:World,Gr w W->Calls prog 35 #[.agg #[.slice ma mn mc,.slice ha hn hc],.slice la ln lc] W fun e w'=>e=.returned (.bool false)/\Gr W w'):=fun W G=>by rw[<-h2];exact zC (U.of G) b1 b2 b3
 go_enter func17,ntmps17;go_wp2_with fail;refine(Cj.out _ (((Gr.refl _).alloc _).alloc _)).mono ?_;rintro e w1 ⟨rfl,G1⟩;have aU:=kH ((((Gr.refl _).alloc _).alloc _).trans G1);have HA1:=kH ((fA G1).1);have HB1:=kH ((fA G1).2);have m0:=iE HA1.out;have m1:=iY HA1.out;go_wp2_with fail;refine(CR.out _ aU.out).mono ?_;rintro e w2 ⟨rfl,G2⟩;have HG2:=kH (aU.out.trans G2);have HA2:=kH (Hr.ae G2 HA1.out);have HB2:=kH (Hr.ae G2 HB1.out);go_wp2_with (refine auf rfl 28 _ _ rfl (w.heap.size+1) #[.slice none 0 0,.slice none 0 0] rfl rfl 28 #[.slice none 0 0,.slice none 0 0] ?hb EO rfl (by kernel_rfl) ?_;(case hb=>exact HB2.out));refine auc (v:=.tuple #[.agg _,.int .i64 2]) (Hr.aI results17 _ _ _ _ _ (0,0) _ _ rfl rfl (Ig HB2.out) underlying28 rfl EO) rfl ⟨rfl,?_⟩;exact ag HG2.out (aqi _) _
theorem J5 {ma ha la:Option Addr}{mn mc hn hc ln lc:Nat}{st:Int}{hs:List Hv}{us:List Uv}{w:World}(H:Hs w ha hn hs)(U:Us w la ln us)(b1:mn<=140737488351232)(b2:hn<=140737488351232)(b3:ln<=140737488351232)(h1:jL mn hs=true)(h2:us.all (fB hn mn)=true)(h3:st<0\/(¬st<0/\(ln:Int)<st)):Calls prog 17 #[.agg #[.slice ma mn mc,.slice ha hn hc],.slice la ln lc,.int .i64 st] w fun e w'=>e=.returned (.tuple #[.agg #[.slice none 0 0,.slice none 0 0],.int .i64 3])/\Gr w w':=by
 have Cj:Hid (∀W:World,Gr w W->Calls prog 34 #[.agg #[.slice ma mn mc,.slice ha hn hc]] W fun e w'=>e=.returned (.bool true)/\Gr W w'):=fun W G=>by rw[<-h1];exact lT mc hc mn (H.of G) b1 b2
 have CR:Hid (∀W:World,Gr w W->Calls prog 35 #[.agg #[.slice ma mn mc,.slice ha hn hc],.slice la ln lc] W fun e w'=>e=.returned (.bool true)/\Gr W w'):=fun W G=>by rw[<-h2];exact zC (U.of G) b1 b2 b3
 rcases h3 with h3|⟨h3,h4⟩
 ·skip
  go_enter func17,ntmps17;go_wp2_with fail;refine(Cj.out _ (((Gr.refl _).alloc _).alloc _)).mono ?_;rintro e w1 ⟨rfl,G1⟩;have aU:=kH ((((Gr.refl _).alloc _).alloc _).trans G1);have HA1:=kH ((fA G1).1);have HB1:=kH ((fA G1).2);have m0:=iE HA1.out;have m1:=iY HA1.out;go_wp2_with fail;refine(CR.out _ aU.out).mono ?_;rintro e w2 ⟨rfl,G2⟩;have HG2:=kH (aU.out.trans G2);have HA2:=kH (Hr.ae G2 HA1.out);have HB2:=kH (Hr.ae G2 HB1.out);go_wp2_with (refine auf rfl 28 _ _ rfl (w.heap.size+1) #[.slice none 0 0,.slice none 0 0] rfl rfl 28 #[.slice none 0 0,.slice none 0 0] ?hb EO rfl (by kernel_rfl) ?_;(case hb=>exact HB2.out));refine auc (v:=.tuple #[.agg _,.int .i64 3]) (Hr.aI results17 _ _ _ _ _ (0,0) _ _ rfl rfl (Ig HB2.out) underlying28 rfl EO) rfl ⟨rfl,?_⟩;exact ag HG2.out (aqi _) _
 ·skip
  go_enter func17,ntmps17;go_wp2_with fail;refine(Cj.out _ (((Gr.refl _).alloc _).alloc _)).mono ?_;rintro e w1 ⟨rfl,G1⟩;have aU:=kH ((((Gr.refl _).alloc _).alloc _).trans G1);have HA1:=kH ((fA G1).1);have HB1:=kH ((fA G1).2);have m0:=iE HA1.out;have m1:=iY HA1.out;go_wp2_with fail;refine(CR.out _ aU.out).mono ?_;rintro e w2 ⟨rfl,G2⟩;have HG2:=kH (aU.out.trans G2);have HA2:=kH (Hr.ae G2 HA1.out);have HB2:=kH (Hr.ae G2 HB1.out);go_wp2_with (refine auf rfl 28 _ _ rfl (w.heap.size+1) #[.slice none 0 0,.slice none 0 0] rfl rfl 28 #[.slice none 0 0,.slice none 0 0] ?hb EO rfl (by kernel_rfl) ?_;(case hb=>exact HB2.out));refine auc (v:=.tuple #[.agg _,.int .i64 3]) (Hr.aI results17 _ _ _ _ _ (0,0) _ _ rfl rfl (Ig HB2.out) underlying28 rfl EO) rfl ⟨rfl,?_⟩;exact ag HG2.out (aqi _) _
theorem PD {ma ha la:Option Addr}{mn mc hn hc ln lc:Nat}{st:Int}{hs:List Hv}{us:List Uv}{w:World}(H:Hs w ha hn hs)(U:Us w la ln us)(b1:mn<=140737488351232)(b2:hn<=140737488351232)(b3:ln<=140737488351232)(hno:¬U4 mn hs us st=0):Calls prog 17 #[.agg #[.slice ma mn mc,.slice ha hn hc],.slice la ln lc,.int .i64 st] w fun e w'=>e=.returned (.tuple #[.agg #[.slice none 0 0,.slice none 0 0],.int .i64 (U4 mn hs us st)])/\Gr w w':=by
 have hl:=H.len;have ul:=U.len;unfold U4 at hno ⊢;rw[hl]at hno ⊢;by_cases h1:jL mn hs=false
 ·rw[at7 h1];exact JZ H b1 b2 h1
 ·rw[at6 h1]at hno ⊢;rw[aq1]at h1;by_cases h2:us.all (fB hn mn)=false
  ·rw[at7 h2];exact J4 H U b1 b2 b3 h1 h2
  ·rw[at6 h2]at hno ⊢;rw[aq1]at h2;by_cases h3:st<0\/(us.length:Int)<st
   ·rw[at7 h3];exact J5 H U b1 b2 b3 h1 h2 (by omega)
   ·exact absurd (at6 h3) hno
def rf (mo:Option Addr) (cap f:Nat):Option Addr:=if cap=f then mo else mo.map fun ad=>ad.add (f*41)
def MvO (w:World) (b:Nat) (v:Value) (c mn:Nat) (hs:List Hv) (m:List UInt8):Prop:=∃ma mc gh hc,v=.agg #[.slice ma mn mc,.slice (some ⟨gh,0,none⟩) c hc]/\Hc.Own w b (.slice ma mn mc) m/\b<=gh/\bP w gh hs/\Zh w gh hc/\hs.length=c/\m.length=mn
theorem U5 {w:World}{la:Option Addr}{ln lc q:Nat}{us:List Uv}(U:Us w la ln us)(hq:q<=ln)(hc:ln<=lc):Us w (rf la lc q) (ln-q) (us.drop q):=by
 have hl:=U.len;refine⟨by rw[aqh,hl],fun hn=>?_⟩;obtain⟨b,o,rfl,hb,h⟩:=U.spot (by omega);have e:rf (some ⟨b,o,none⟩) lc q=some ⟨b,o+q*41,none⟩:=by unfold rf;rw[ak,ap7,cz]
 refine⟨b,o+q*41,e,hb,fun j u hj=>?_⟩;rw[ap3]at hj;obtain⟨x,h1,h2⟩:=h _ u hj;exact⟨x,h1,fun i v hi=>by have:=h2 i v hi;rw[show o+q*41+j*41+i=o+(q+j)*41+i by omega];exact this⟩
theorem nE (s:List Hv×List UInt8)(l:List Uv):l.reverse.foldl bX s=bE s l:=by unfold bE;rw[List.foldl_reverse]
theorem Mz.kept {w w':World}{n z gh hc:Nat}{M:Value}{hs:List Hv}{m:List UInt8}(Z:Mz w n z M gh hc hs m)(q:∀(k:Nat) (o:Array Value) (t:Nat) (f:Nat×Nat),w.heap[k]?=some (.cells o t f)->w'.heap[k]?=w.heap[k]?):Mz w' n z M gh hc hs m:=⟨(q _ _ _ _ Z.blk).trans Z.blk,Z.bz,Z.mem.to fun k o f e=>q k o _ f e,Z.bh,Z.row.to fun k o f e=>q k o _ f e,Z.hz.to fun k o f e=>q k o _ f e⟩
theorem eP {W W':World}{row:Option Nat}{B:Nat}(hg:W.grownBy W' row)(hr:∀r,row=some r->B<=r/\∃o:Obj,W.heap[r]?=some o/\o.isCells=false):∀(k:Nat) (o:Array Value) (t:Nat) (f:Nat×Nat),W.heap[k]?=some (.cells o t f)->W'.heap[k]?=W.heap[k]?:=fun k o t f e=>by refine hg.block k (gs e).1 (fun e2=>?_);obtain⟨_,ob,h1,h2⟩:=hr k e2.symm;rw[e]at h1;injection h1 with h1;subst h1;cases h2
theorem PE (s:List Hv×List UInt8)(u:Uv){c mn:Nat}(h1:s.1.length=c)(h2:s.2.length=mn)(hf:fB c mn u=true)(f0:0<=u.fr):(bX s u).1.length=c/\(bX s u).2.length=mn:=by unfold fB at hf;simp only[apD,auk]at hf;have:=hf.2.2.1;unfold bX lay;refine⟨by simp[nC,h1],?_⟩;simp;omega
theorem kG {c mn:Nat}:∀(l:List Uv) (s:List Hv×List UInt8),s.1.length=c→s.2.length=mn→(∀u∈l,fB c mn u=true∧0≤u.fr)→(l.foldl bX s).1.length=c∧(l.foldl bX s).2.length=mn
 | [],s,h1,h2,_=>⟨h1,h2⟩
 |u::r,s,h1,h2,h=>by
  have:=PE s u h1 h2 (h u (by simp)).1 (h u (by simp)).2;exact kG r (bX s u) this.1 this.2 (fun v hv=>h v (by simp[hv]))
theorem J6 {ma ha la:Option Addr}{mn mc hn hc ln lc:Nat}{st:Int}{hs:List Hv}{us:List Uv}{w:World}{m:List UInt8}(M:Mem w ma mn m)(hcap:ma=none->mc=0)(H:Hs w ha hn hs)(U:Us w la ln us)(b3:ln<=140737488351232)(hlc:ln<=lc)(hy:U4 mn hs us st=0):Calls prog 17 #[.agg #[.slice ma mn mc,.slice ha hn hc],.slice la ln lc,.int .i64 st] w fun e w'=>∃v,e=.returned (.tuple #[v,.int .i64 0])/\MvO w' w.heap.size v hn mn (bE (hs,m) (us.drop (ln-st.toNat))).1 (bE (hs,m) (us.drop (ln-st.toNat))).2/\Gr w w':=by
 have hl:=H.len;have ul:=U.len;have ml:=M.len;unfold U4 at hy;rw[hl]at hy;by_cases h1:jL mn hs=false
 ·rw[at7 h1]at hy;cases hy
 rw[at6 h1,aq1]at *
 by_cases h2:us.all (fB hn mn)=false
 ·rw[at7 h2]at hy;cases hy
 rw[at6 h2,aq1]at *
 by_cases h3:st<0\/(us.length:Int)<st
 ·rw[at7 h3]at hy;cases hy
 clear hy;obtain⟨s,rfl⟩:=apt (show 0<=st by omega);have hs1:¬(s:Int)<0:=by omega
 have hs2:¬(ln:Int)<(s:Int):=by omega
 have hs3:s<=ln:=by omega
 rw[apG];have hmm:mn<=4096/\1<=hn/\hn<=4:=by
  unfold jL at h1;simp only[apD,auk,hl]at h1;exact h1.1
 obtain⟨m4,n1,n4⟩:=hmm;have b1:mn<=140737488351232:=by omega
 have b2:hn<=140737488351232:=by omega
 have Cj:Hid (∀W:World,Gr w W->Calls prog 34 #[.agg #[.slice ma mn mc,.slice ha hn hc]] W fun e w'=>e=.returned (.bool true)/\Gr W w'):=fun W G=>by rw[<-h1];exact lT mc hc mn (H.of G) b1 b2
 have CR:Hid (∀W:World,Gr w W->Calls prog 35 #[.agg #[.slice ma mn mc,.slice ha hn hc],.slice la ln lc] W fun e w'=>e=.returned (.bool true)/\Gr W w'):=fun W G=>by rw[<-h2];exact zC (U.of G) b1 b2 b3
 have HUD:Hid (Us w (rf la lc (ln-s)) (ln-(ln-s)) (us.drop (ln-s))):=U5 U (by omega) hlc;have HFU:Hid (∀u∈us.drop (ln-s),fB hn mn u=true):=fun u hu=>by
  have:=apM.1 h2 u (aqR hu);exact this
 have hla:(la=none/\ln=0)\/∃b o,la=some ⟨b,o,none⟩\/ln=0:=by
  by_cases h0:0<ln
  ·obtain⟨b,o,e,_⟩:=U.spot h0;exact .inr ⟨b,o,.inl e⟩
  ·exact .inr ⟨0,0,.inr (by omega)⟩
 obtain⟨hb,ho,he,_,_⟩:=H.spot (by omega);subst he;have C1:Hid (∀W:World,Gr w W->Calls prog 36 #[.slice ma mn mc] W fun e w'=>∃a c,e=.returned (.slice a mn c)/\Hc.Own w' w.heap.size (.slice a mn c) m/\Gr W w'):=fun W G=>(qQ (M.of G) hcap (by omega)).mono fun e w' ⟨v,e1,e2,e3⟩=>by
  obtain⟨a,c,rfl,_⟩:=e2.mem;rw[ml]at e1 e2;exact⟨a,c,e1,e2.base (w':=w') G.size,e3⟩
 have C2:Hid (∀W:World,Gr w W->Calls prog 37 #[.slice (some ⟨hb,ho,none⟩) hn hc] W fun e w'=>∃g c,e=.returned (.slice (some ⟨g,0,none⟩) hn c)/\w.heap.size<=g/\(bP w' g hs/\Zh w' g c)/\Gr W w'):=fun W G=>(uy hc (H.of G) n1 n4).mono fun e w' ⟨g,c,e1,e2,e3⟩=>⟨g,c,e1,apr G.size e2,e3⟩
 have xD:=kH hl;have Xv:=kH ml;have HUL:=kH ul;have e1:IntKind.i64.wrap ((ln:Int)-(s:Int))=((ln-s:Nat):Int):=by simp[IntKind.wrap,IntKind.bits,IntKind.signed];omega
 clear H U M hcap h1 h2 h3 hl ul ml;refine callsIn_wide.1 (callsIn_of_wp_marks (F:=Fence.wide) (n:=9) func17 rfl trivial ?_ rfl);refine wpIn_wide.2 ?_;simp only[ntmps17,ap2,apH,ap8,Nat.reduceAdd,Nat.reduceSub,Array.replicate_succ,Array.replicate_zero,List.push_toArray,List.append_toArray,apO,apZ];go_wp2_with fail;refine(Cj.out _ (((Gr.refl _).alloc _).alloc _)).mono ?_;rintro e w1 ⟨rfl,G1⟩;have aU:=kH ((((Gr.refl _).alloc _).alloc _).trans G1);have HA1:=kH ((fA G1).1);have HB1:=kH ((fA G1).2);have m0:=iE HA1.out;have m1:=iY HA1.out;clear G1 Cj;go_wp2_with fail;refine(CR.out _ aU.out).mono ?_;rintro e w2 ⟨rfl,G2⟩;have HG2:=kH (aU.out.trans G2);have HA2:=kH (Hr.ae G2 HA1.out);have HB2:=kH (Hr.ae G2 HB1.out);clear G2 CR m0 m1 aU HA1 HB1;have m0:=iE HA2.out;have m1:=iY HA2.out;go_wp2_with fail;have rT:Hid (∀V:World,Gr w2 V->(fun W=>W.cell? ⟨w.heap.size,0,none⟩=some (.slice ma mn mc)/\W.cell? ⟨w.heap.size,1,none⟩=some (.slice (some ⟨hb,ho,none⟩) hn hc)) V):=fun V G=>⟨iE (Hr.ae G HA2.out),iY (Hr.ae G HA2.out)⟩
 refine aaP ?_;refine aut (S:=fun W=>W.cell? ⟨w.heap.size,0,none⟩=some (.slice ma mn mc)/\W.cell? ⟨w.heap.size,1,none⟩=some (.slice (some ⟨hb,ho,none⟩) hn hc)) (by kernel_rfl) (rT.out _ (Gr.drew (Gr.refl _))) (fun hHeld=>?_);have aY:=kH hHeld;clear hHeld;refine tK 0 (.pointer (some ⟨w.heap.size,0,none⟩)) aY.out ?_;refine tK 1 (.slice ma mn mc) aY.out ?_;refine tK 3 (.pointer (some ⟨w.heap.size,1,none⟩)) aY.out ?_;refine tK 4 (.slice (some ⟨hb,ho,none⟩) hn hc) aY.out ?_;obtain⟨FA,HFA⟩:∃FA:Nat->Option Addr->Nat->Nat->Nat->World->Prop,Hid (FA=fun(z:Nat) (a2:Option Addr) (c2 g3 c3:Nat) (V:World)=>V.heap[z]?=some (.cells #[.slice none 0 0,.slice none 0 0] 28 (0,0))/\w2.heap.size<=z/\Hc.Own V w.heap.size (.slice a2 mn c2) m/\w.heap.size<=g3/\(bP V g3 hs/\Zh V g3 c3)/\Gr w2 V):=⟨_,rfl⟩;have HD:Hid (Gr w2 w2.drew):=Gr.drew (Gr.refl _);apply Pt
 ·intro jO;refine aue (rs:=[2,7]) (by kernel_rfl) (by simp) ?_;refine aua rfl (fun K hK=>?_) (aua rfl (fun K hK=>?_) aud)
  ·skip
   go_simp;refine(C1.out _ (HG2.out.trans HD.out)).mono ?_;rintro e w3 ⟨a2,c2,rfl,O3,G3⟩;have yD:=kH O3;have fQ:=kH (Gr.trans HD.out G3);refine hK.out _ _ (rT.out _ fQ.out) (fun hx=>?_);clear hK K hx O3;refine aue (rs:=[5,7]) (by kernel_rfl) (by simp) ?_;refine aua rfl (fun K hK=>?_) (aua rfl (fun K hK=>?_) aud)
   ·skip
    go_simp;refine(C2.out _ (HG2.out.trans fQ.out)).mono ?_;rintro e w4 ⟨g3,c3,rfl,hg3,R4,G4⟩;have fC:=kH (Gr.trans fQ.out G4);refine hK.out _ _ (rT.out _ fC.out) (fun hx=>?_);clear hK K hx;refine tK 6 (.agg #[.slice a2 mn c2,.slice (some ⟨g3,0,none⟩) hn c3]) (rT.out _ fC.out) ?_;refine aue (rs:=[7]) (by kernel_rfl) (by simp) ?_;refine aua rfl (fun K hK=>?_) aud;go_simp;refine hK.out _ _ (rT.out _ (Gr.alloc fC.out _)) (fun hx=>?_);clear hK K hx;obtain⟨z,hz⟩:∃z:Nat,z=w4.heap.size:=⟨_,rfl⟩;rw[<-hz];refine JV (FA z a2 c2 g3 c3) ?hfa ?_
    case hfa=>rw[HFA.out];exact⟨by rw[hz];exact at5 w4 _,by rw[hz];exact fC.out.size,gT (gT yD.out G4) ((Gr.refl _).alloc _),hg3,⟨R4.1.of ((Gr.refl _).alloc _),R4.2.of ((Gr.refl _).alloc _)⟩,Gr.alloc fC.out _⟩
    clear hz fC fQ yD hg3 R4 G3 G4;clear w4 w3
    revert z a2 c2 g3 c3
    exact jO.out
   ·skip
    go_simp;refine hK.out _ _ (rT.out _ (Gr.alloc fQ.out _)) (fun hx=>?_);clear hK K hx;refine aue (rs:=[5]) (by kernel_rfl) (by simp) ?_;refine aua rfl (fun K hK=>?_) aud;go_simp;refine(C2.out _ (HG2.out.trans (Gr.alloc fQ.out _))).mono ?_;rintro e w4 ⟨g3,c3,rfl,hg3,R4,G4⟩;have fC:=kH (Gr.trans (Gr.alloc fQ.out _) G4);refine hK.out _ _ (rT.out _ fC.out) (fun hx=>?_);clear hK K hx;refine tK 6 (.agg #[.slice a2 mn c2,.slice (some ⟨g3,0,none⟩) hn c3]) (rT.out _ fC.out) ?_;obtain⟨z,hz⟩:∃z:Nat,z=w3.heap.size:=⟨_,rfl⟩;rw[<-hz];refine JV (FA z a2 c2 g3 c3) ?hfa ?_
    case hfa=>rw[HFA.out];exact⟨by rw[hz];exact Hr.ae G4 (at5 w3 _),by rw[hz];exact fQ.out.size,gT yD.out (Gr.trans ((Gr.refl _).alloc _) G4),hg3,R4,fC.out⟩
    clear hz fC fQ yD hg3 R4 G3 G4;clear w4 w3
    revert z a2 c2 g3 c3
    exact jO.out
  ·skip
   go_simp;refine hK.out _ _ (rT.out _ (Gr.alloc HD.out _)) (fun hx=>?_);clear hK K hx;refine aue (rs:=[2]) (by kernel_rfl) (by simp) ?_;refine aua rfl (fun K hK=>?_) aud;go_simp;refine(C1.out _ (HG2.out.trans (Gr.alloc HD.out _))).mono ?_;rintro e w3 ⟨a2,c2,rfl,O3,G3⟩;have yD:=kH O3;have fQ:=kH (Gr.trans (Gr.alloc HD.out _) G3);refine hK.out _ _ (rT.out _ fQ.out) (fun hx=>?_);clear hK K hx O3;refine aue (rs:=[5]) (by kernel_rfl) (by simp) ?_;refine aua rfl (fun K hK=>?_) aud;go_simp;refine(C2.out _ (HG2.out.trans fQ.out)).mono ?_;rintro e w4 ⟨g3,c3,rfl,hg3,R4,G4⟩;have fC:=kH (Gr.trans fQ.out G4);refine hK.out _ _ (rT.out _ fC.out) (fun hx=>?_);clear hK K hx;refine tK 6 (.agg #[.slice a2 mn c2,.slice (some ⟨g3,0,none⟩) hn c3]) (rT.out _ fC.out) ?_;obtain⟨z,hz⟩:∃z:Nat,z=w2.heap.size:=⟨_,rfl⟩;rw[<-hz];refine JV (FA z a2 c2 g3 c3) ?hfa ?_
   case hfa=>rw[HFA.out];exact⟨by rw[hz];exact Hr.ae G4 (Hr.ae G3 (at5 w2.drew _)),by rw[hz];exact apn _,gT yD.out G4,hg3,R4,fC.out⟩
   clear hz fC fQ yD hg3 R4 G3 G4;clear w4 w3
   revert z a2 c2 g3 c3
   exact jO.out
 intro a2 c2 g3 c3 z V hF;rw[HFA.out]at hF;obtain⟨kz,hz2,O5,hg5,R5,G5⟩:=hF;have HBH:=kH hg5;have HKz:=kH kz;have hb2:=(gs HB2.out).1;have EM:Hid (Mz (V.setRow z #[.slice a2 mn c2,.slice (some ⟨g3,0,none⟩) hn c3]) w.heap.size z (.slice a2 mn c2) g3 c3 hs m):=by
  have st:∀(k:Nat) (q:Array Value) (t:Nat) (f:Nat×Nat),t≠28->V.heap[k]?=some (.cells q t f)->(V.setRow z #[.slice a2 mn c2,.slice (some ⟨g3,0,none⟩) hn c3]).heap[k]?=V.heap[k]?:=fun k q t f ht hk=>sV (aa hk kz ht)
  refine⟨?_,by omega,O5.to fun k o f e=>st k o _ f (by decide) e,hg5,R5.1.to fun k o f e=>st k o _ f (by decide) e,R5.2.to fun k o f e=>st k o _ f (by decide) e⟩;rw[xD.out];exact Ig kz
 have lu:Hid (Gr w2 (V.setRow z #[.slice a2 mn c2,.slice (some ⟨g3,0,none⟩) hn c3])):=ag G5 hz2 _;clear kz O5 hg5 R5 G5;refine aue (rs:=[8]) (by kernel_rfl) (by simp) ?_;refine aua rfl (fun K hK=>?_) aud;refine gP rfl 28 (.tmp 8) (.tmp 36) rfl z #[.slice a2 mn c2,.slice (some ⟨g3,0,none⟩) hn c3] (by simp[Act.eval]) (by simp[Act.eval]) 28 #[.slice none 0 0,.slice none 0 0] HKz.out EO rfl (by kernel_rfl) ?_;refine hK.out _ _ (rT.out _ lu.out) (fun hx=>?_);clear hK K hx;refine auy (by kernel_rfl) ?_ _;refine aeq ?_;generalize V.setRow z #[.slice a2 mn c2,.slice (some ⟨g3,0,none⟩) hn c3]=W3 at *
 have HB3:Hid (W3.heap[w.heap.size+1]?=some (.cells #[.slice none 0 0,.slice none 0 0] 28 (0,0))):=Hr.ae lu.out HB2.out;have fQ:Hid (Gr w W3):=HG2.out.trans lu.out;have hzr:z≠w.heap.size+1:=by omega
 clear HKz rT aY HFA HD FA HA2 HB2 HG2 lu m0 m1 C1 C2 hz2;clear V;obtain⟨q,hq⟩:∃q:Nat,q=ln-s:=⟨_,rfl⟩;have HQ:Hid (q=ln-s):=hq;have hql:q<=ln:=by omega
 have hqi:(q:Int)<=(ln:Int):=by omega
 have hqc:(ln:Int)<=(lc:Int):=by omega
 rw[<-hq]at e1 HUD;clear hq;by_cases hcl:lc=q
 ·subst hcl;have h0:ln-lc=0:=by omega
  have HX:Hid (Us w la 0 (us.drop (ln-s))):=by have:=HUD.out;unfold rf at this;rw[at7 rfl,h0]at this;rw[<-HQ.out];exact this
  go_wp2_with fail;refine(ql _ _ _ _).mono ?_;rintro e w5 ⟨rfl,rfl⟩;go_wp2_with fail;have KW:Hid ((W3.alloc (.cells #[.slice la 0 0] 30)).heap[W3.heap.size]?=some (.cells #[.slice la 0 0] 30 (0,0))):=at5 W3 _;have lu:Hid (Gr w (W3.alloc (.cells #[.slice la 0 0] 30))):=fQ.out.alloc _;have EN:Hid (Mz (W3.alloc (.cells #[.slice la 0 0] 30)) w.heap.size z (.slice a2 mn c2) g3 c3 hs m):=EM.out.kept fun k o t f e=>((Gr.refl W3).alloc _).block _ (gs e).1
  have Xh:Hid ((W3.alloc (.cells #[.slice la 0 0] 30)).heap[w.heap.size+1]?=some (.cells #[.slice none 0 0,.slice none 0 0] 28 (0,0))):=Hr.ae ((Gr.refl W3).alloc _) HB3.out;generalize hW6:W3.alloc (.cells #[.slice la 0 0] 30)=W6 at *
  have hw6:w.heap.size<=W6.heap.size:=lu.out.size;clear hW6;refine(wpIn_wide (n:=9)).1 ?_
  refine wpIn_rangeFunc_ownH (F:=Fence.wide) (n:=9) rfl (by omega) (gf:=72) (lb:=#[.pointer (some ⟨W3.heap.size,0,none⟩)]) rfl trivial (enters_of func72 (by kernel_rfl) rfl)
   (xL (c:=hn) (mn:=mn) HX.out (by omega) HFU.out (9-1) W3.heap.size W6 lu.out KW.out) Kr.trans (aen hw6) (auC _ _) (fun _=>rfl)
   (fun pre W=>(Mz W w.heap.size z (.slice a2 mn c2) g3 c3 ((pre.map Yv.u).foldl bX (hs,m)).1 ((pre.map Yv.u).foldl bX (hs,m)).2/\W.heap[w.heap.size+1]?=some (.cells #[.slice none 0 0,.slice none 0 0] 28 (0,0)))/\Below w.heap.size w W)
   (fun _ _ _=>False)
   (OwnFrom.and (fun s X X' row h hg hr=>⟨h.1.kept (eP hg hr),(eP hg hr _ _ _ _ h.2).trans h.2⟩) (ownFrom_below (apn _) hw6))
   (fun _ _ _ _ _ h _ _=>h)
   ⟨⟨EN.out,Xh.out⟩,lu.out⟩
   (fun y a' W=>∃Bx,W.heap[Bx]?=some (.cells y.x.toArray 121 (0,0))/\a'={ tmps:=#[.agg #[.slice ma mn mc,.slice (some ⟨hb,ho,none⟩) hn hc],.slice la ln lc,.int .i64 s,.pointer (some ⟨w.heap.size,0,none⟩),undef,undef,.pointer (some ⟨(w.heap.size+1),0,none⟩),.int .i64 0,.pointer (some ⟨z,0,none⟩),undef,.pointer (some ⟨Bx,0,none⟩),.agg #[.slice ma mn mc,.slice (some ⟨hb,ho,none⟩) hn hc],.bool true,.bool false,.bool false,.agg #[.slice ma mn mc,.slice (some ⟨hb,ho,none⟩) hn hc],.slice la ln lc,.bool true,.bool false,.bool false,undef,.int .i64 s,.bool (decide ((s:Int)<0)),.bool (decide ((s:Int)<0)),.int .i64 s,.slice la ln lc,.int .i64 ln,.bool false,.bool (decide ((s:Int)<0)),undef,.pointer (some ⟨w.heap.size,0,none⟩),.slice ma mn mc,.slice a2 mn c2,.pointer (some ⟨w.heap.size,1,none⟩),.slice (some ⟨hb,ho,none⟩) hn hc,.slice (some ⟨g3,0,none⟩) hn c3,.agg #[.slice a2 mn c2,.slice (some ⟨g3,0,none⟩) hn c3],.slice la ln lc,.slice la ln lc,.int .i64 ln,.int .i64 s,.int .i64 lc,.slice la 0 0,.func (.func 72) #[] #[.pointer (some ⟨W3.heap.size,0,none⟩)],.int .i64 (y.1.1:Int),.agg y.x.toArray,undef,undef,undef],defers:=[] })
   (fun y a' _ X X' row h hg hr=>by obtain⟨Bx,h1,h2⟩:=h;exact⟨Bx,(eP hg hr _ _ _ _ h1).trans h1,h2⟩)
   ?assign ?body ?done ?stop
  case assign=>
   rintro l pre y W K ⟨⟨Z7,B7⟩,L7⟩ hK;have CS:Hid (y.x.length=41):=y.2.1.len;have CU:Hid (y.x.toArray.size=41):=by unfold Hid;simp[CS.out]
   have kL:Hid (y.x.toArray.all (·.oneCell')=true):=y.2.1.one;unfold Yv.enc;have G7:∀Y:Array Value,Gr W ((W.alloc (.cells Y 121)).setRow W.heap.size y.x.toArray):=fun Y=>ag ((Gr.refl _).alloc _) (apn _) _
   have zB:Hid _:=G7;have HK:Hid _:=hK;have JY:Hid (Mz W w.heap.size z (.slice a2 mn c2) g3 c3 ((pre.map Yv.u).foldl bX (hs,m)).1 ((pre.map Yv.u).foldl bX (hs,m)).2):=Z7;have sN:Hid (W.heap[w.heap.size+1]?=some (.cells #[.slice none 0 0,.slice none 0 0] 28 (0,0))):=B7;have Gi:Hid (Below w.heap.size w W):=L7;have hwl:=L7.size;clear hK Z7 B7 L7 G7
   gi_wp2_with (refine iP rfl 121 _ _ rfl W.heap.size y.x.toArray rfl rfl 121 _ (at5 W _) (by rw[CU.out];exact iU) (by rw[CU.out];rfl) kL.out ?_)
   exact HK.out _ _ ((Th.bD (n:=w.heap.size) (zB.out _) hwl).keeps) ((Th.bD (zB.out _) hwl).kr) ⟨⟨JY.out.kept fun k o t f e=>(zB.out _).block _ (gs e).1,Hr.ae (zB.out _) sN.out⟩,Gi.out.trans (aun (zB.out _) hwl)⟩ ⟨W.heap.size,Ig (at5 W _),rfl⟩
  case body=>
   rintro l pre y a' W hl hr ⟨⟨Z7,B7⟩,L7⟩ ⟨Bx,hBx,rfl⟩ hlt;dsimp only;have hfl:=kG (pre.map Yv.u) (hs,m) xD.out Xv.out (fun u hu=>by
    obtain⟨y',_,rfl⟩:=apK.1 hu;obtain⟨_,_,_,_,_,_,_,ok,_⟩:=y'.2.1;exact⟨y'.2.2,ok.f0⟩)
   have CS:Hid (y.x.length=41):=y.2.1.len;have RG:Hid (W.rangeAt Bx 0 y.x):=fun i v hi=>by rw[apu,cr hBx,apm];exact hi
   have HTB:Hid (Calls prog 39 #[.pointer (some ⟨z,0,none⟩),.agg y.x.toArray] W fun e w'=>e=.returned (.tuple #[])/\Mz w' w.heap.size z (.slice a2 mn c2) g3 c3 (((pre++[y]).map Yv.u).foldl bX (hs,m)).1 (((pre++[y]).map Yv.u).foldl bX (hs,m)).2/\Th w.heap.size W w'):=by
    have:=qj y.2.1 L7 Z7 hfl.1 n4 hfl.2 m4 y.2.2;have e:((pre++[y]).map Yv.u).foldl bX (hs,m)=bX ((pre.map Yv.u).foldl bX (hs,m)) y.u:=by rw[aqb,aqy];rfl
    rw[e];exact this
   have sN:Hid (W.heap[w.heap.size+1]?=some (.cells #[.slice none 0 0,.slice none 0 0] 28 (0,0))):=B7;have Gi:Hid (Below w.heap.size w W):=L7;clear Z7 B7 L7 hfl hBx hr hlt
   gi_wp2_with (first
    |(refine gy rfl 121 _ rfl Bx 0 rfl y.x _ ?r1 underlying121 rfl (by rw[CS.out];exact iU) ?_;(case r1=>exact RG.out))
    |(refine⟨trivial,?_⟩;gi_at_call 39;refine(CallsIn.inRound l (callsIn_wide.2 HTB.out)).mono ?_;rintro e w8 ⟨rfl,Z8,T8⟩))
   exact⟨T8.keeps,T8.kr,⟨Z8,T8.row sN.out (by decide) (by decide)⟩,Gi.out.trans T8.below⟩
  case done=>
   rintro D ys W hD hys ⟨⟨Z7,B7⟩,L7⟩ hK;rw[hys,nE]at Z7;have hfl:(bE (hs,m) (us.drop (ln-s))).1.length=hn/\(bE (hs,m) (us.drop (ln-s))).2.length=mn:=by
    rw[<-nE];refine kG _ (hs,m) xD.out Xv.out (fun u hu=>?_);rw[<-hys]at hu;obtain⟨y',_,rfl⟩:=apK.1 hu;obtain⟨_,_,_,_,_,_,_,ok,_⟩:=y'.2.1;exact⟨y'.2.2,ok.f0⟩
   have JY:Hid (Mz W w.heap.size z (.slice a2 mn c2) g3 c3 (bE (hs,m) (us.drop (ln-s))).1 (bE (hs,m) (us.drop (ln-s))).2):=Z7;have HFL:Hid _:=hfl;generalize hbk:(bE (hs,m) (us.drop (ln-s)))=bk at *
   have sN:Hid (W.heap[w.heap.size+1]?=some (.cells #[.slice none 0 0,.slice none 0 0] 28 (0,0))):=B7;have kz:W.heap[z]?=some (.cells #[.slice a2 mn c2,.slice (some ⟨g3,0,none⟩) hn c3] 28 (0,0)):=by have:=Z7.blk;rw[hfl.1]at this;exact this
   have HKz:Hid _:=kz;have Gi:Hid (Gr w W):=L7;have HKD:Hid (W.heap[D]?=some (.deferred (some []))):=hK;clear Z7 B7 L7 hK kz hfl hys
   go_wp2_with (first
    |(refine auL rfl 28 _ rfl z rfl 28 #[.slice a2 mn c2,.slice (some ⟨g3,0,none⟩) hn c3] (0,0) _ ?yy1 underlying28 rfl EO ?_;(case yy1=>exact HKz.out))
    |(refine auf rfl 28 _ _ rfl (w.heap.size+1) #[.slice a2 mn c2,.slice (some ⟨g3,0,none⟩) hn c3] rfl rfl 28 #[.slice none 0 0,.slice none 0 0] ?yy2 EO rfl (by kernel_rfl) ?_;(case yy2=>exact sN.out)))
   have hDr:D≠w.heap.size+1:=by have:=(gs Xh.out).1;omega
   have HK9:Hid ((W.setRow (w.heap.size+1) #[.slice a2 mn c2,.slice (some ⟨g3,0,none⟩) hn c3]).heap[D]?=some (.deferred (some []))):=(sV hDr).trans HKD.out;have H9b:Hid ((W.setRow (w.heap.size+1) #[.slice a2 mn c2,.slice (some ⟨g3,0,none⟩) hn c3]).heap[w.heap.size+1]?=some (.cells #[.slice a2 mn c2,.slice (some ⟨g3,0,none⟩) hn c3] 28 (0,0))):=Ig sN.out;have H9:Hid (Hc.Own (W.setRow (w.heap.size+1) #[.slice a2 mn c2,.slice (some ⟨g3,0,none⟩) hn c3]) w.heap.size (.slice a2 mn c2) bk.2/\bP (W.setRow (w.heap.size+1) #[.slice a2 mn c2,.slice (some ⟨g3,0,none⟩) hn c3]) g3 bk.1/\Zh (W.setRow (w.heap.size+1) #[.slice a2 mn c2,.slice (some ⟨g3,0,none⟩) hn c3]) g3 c3):=⟨JY.out.mem.to fun k o f e=>sV (aa e sN.out (by decide)),JY.out.row.to fun k o f e=>sV (aa e sN.out (by decide)),JY.out.hz.to fun k o f e=>sV (aa e sN.out (by decide))⟩;have HG9:Hid (Gr w (W.setRow (w.heap.size+1) #[.slice a2 mn c2,.slice (some ⟨g3,0,none⟩) hn c3])):=ag Gi.out (aqi _) _;have HBk:Hid (bk=bE (hs,m) (us.drop (ln-s))):=by unfold Hid;exact hbk.symm
   rw[hbk];generalize W.setRow (w.heap.size+1) #[.slice a2 mn c2,.slice (some ⟨g3,0,none⟩) hn c3]=W9 at *
   have kc:=eP (B:=0) (grownBy_putObj' W9 D (.deferred none)) (fun r e=>by cases e;exact⟨apF _,_,HK9.out,rfl⟩);refine⟨by simp,.inl ⟨D,_,rfl,run_takeDeferred HK9.out,?_⟩⟩;refine⟨_,Hr.aI results17 _ _ _ _ _ (0,0) _ _ rfl rfl ((kc _ _ _ _ H9b.out).trans H9b.out) underlying28 rfl EO,_,rfl,?_,auI HG9.out (belowK_b (w:=w) (apn _) W9 D _ _ (by omega) HK9.out rfl rfl)⟩;obtain⟨l1,l2⟩:=HFL.out;have O10:=H9.out.1.to (w':=W9.putObj D (.deferred none)) fun k o f e=>kc k o _ f e
   have R10:=H9.out.2.1.to (w':=W9.putObj D (.deferred none)) fun k o f e=>kc k o _ f e
   have Z10:=H9.out.2.2.to (w':=W9.putObj D (.deferred none)) fun k o f e=>kc k o _ f e
   exact⟨_,_,_,_,rfl,O10,HBH.out,R10,Z10,l1,l2⟩
  case stop=>
   rintro D c pre W _ _ h _;exact h.elim
 ·have HX:Hid (Us w (la.map fun x=>x.add (q*41)) (ln-q) (us.drop (ln-s))):=by have:=HUD.out;unfold rf at this;rw[at6 hcl]at this;rw[<-HQ.out];exact this
  go_wp2_with fail;refine(ql _ _ _ _).mono ?_;rintro e w5 ⟨rfl,rfl⟩;go_wp2_with fail;have KW:Hid ((W3.alloc (.cells #[.slice (la.map fun x=>x.add (q*41)) (ln-q) (lc-q)] 30)).heap[W3.heap.size]?=some (.cells #[.slice (la.map fun x=>x.add (q*41)) (ln-q) (lc-q)] 30 (0,0))):=at5 W3 _;have lu:Hid (Gr w (W3.alloc (.cells #[.slice (la.map fun x=>x.add (q*41)) (ln-q) (lc-q)] 30))):=fQ.out.alloc _;have EN:Hid (Mz (W3.alloc (.cells #[.slice (la.map fun x=>x.add (q*41)) (ln-q) (lc-q)] 30)) w.heap.size z (.slice a2 mn c2) g3 c3 hs m):=EM.out.kept fun k o t f e=>((Gr.refl W3).alloc _).block _ (gs e).1
  have Xh:Hid ((W3.alloc (.cells #[.slice (la.map fun x=>x.add (q*41)) (ln-q) (lc-q)] 30)).heap[w.heap.size+1]?=some (.cells #[.slice none 0 0,.slice none 0 0] 28 (0,0))):=Hr.ae ((Gr.refl W3).alloc _) HB3.out;generalize hW6:W3.alloc (.cells #[.slice (la.map fun x=>x.add (q*41)) (ln-q) (lc-q)] 30)=W6 at *
  have hw6:w.heap.size<=W6.heap.size:=lu.out.size;clear hW6;refine(wpIn_wide (n:=9)).1 ?_
  refine wpIn_rangeFunc_ownH (F:=Fence.wide) (n:=9) rfl (by omega) (gf:=72) (lb:=#[.pointer (some ⟨W3.heap.size,0,none⟩)]) rfl trivial (enters_of func72 (by kernel_rfl) rfl)
   (xL (c:=hn) (mn:=mn) HX.out (by omega) HFU.out (9-1) W3.heap.size W6 lu.out KW.out) Kr.trans (aen hw6) (auC _ _) (fun _=>rfl)
   (fun pre W=>(Mz W w.heap.size z (.slice a2 mn c2) g3 c3 ((pre.map Yv.u).foldl bX (hs,m)).1 ((pre.map Yv.u).foldl bX (hs,m)).2/\W.heap[w.heap.size+1]?=some (.cells #[.slice none 0 0,.slice none 0 0] 28 (0,0)))/\Below w.heap.size w W)
   (fun _ _ _=>False)
   (OwnFrom.and (fun s X X' row h hg hr=>⟨h.1.kept (eP hg hr),(eP hg hr _ _ _ _ h.2).trans h.2⟩) (ownFrom_below (apn _) hw6))
   (fun _ _ _ _ _ h _ _=>h)
   ⟨⟨EN.out,Xh.out⟩,lu.out⟩
   (fun y a' W=>∃Bx,W.heap[Bx]?=some (.cells y.x.toArray 121 (0,0))/\a'={ tmps:=#[.agg #[.slice ma mn mc,.slice (some ⟨hb,ho,none⟩) hn hc],.slice la ln lc,.int .i64 s,.pointer (some ⟨w.heap.size,0,none⟩),undef,undef,.pointer (some ⟨(w.heap.size+1),0,none⟩),.int .i64 0,.pointer (some ⟨z,0,none⟩),undef,.pointer (some ⟨Bx,0,none⟩),.agg #[.slice ma mn mc,.slice (some ⟨hb,ho,none⟩) hn hc],.bool true,.bool false,.bool false,.agg #[.slice ma mn mc,.slice (some ⟨hb,ho,none⟩) hn hc],.slice la ln lc,.bool true,.bool false,.bool false,undef,.int .i64 s,.bool (decide ((s:Int)<0)),.bool (decide ((s:Int)<0)),.int .i64 s,.slice la ln lc,.int .i64 ln,.bool false,.bool (decide ((s:Int)<0)),undef,.pointer (some ⟨w.heap.size,0,none⟩),.slice ma mn mc,.slice a2 mn c2,.pointer (some ⟨w.heap.size,1,none⟩),.slice (some ⟨hb,ho,none⟩) hn hc,.slice (some ⟨g3,0,none⟩) hn c3,.agg #[.slice a2 mn c2,.slice (some ⟨g3,0,none⟩) hn c3],.slice la ln lc,.slice la ln lc,.int .i64 ln,.int .i64 s,.int .i64 q,.slice (la.map fun x=>x.add (q*41)) (ln-q) (lc-q),.func (.func 72) #[] #[.pointer (some ⟨W3.heap.size,0,none⟩)],.int .i64 (y.1.1:Int),.agg y.x.toArray,undef,undef,undef],defers:=[] })
   (fun y a' _ X X' row h hg hr=>by obtain⟨Bx,h1,h2⟩:=h;exact⟨Bx,(eP hg hr _ _ _ _ h1).trans h1,h2⟩)
   ?assign ?body ?done ?stop
  case assign=>
   rintro l pre y W K ⟨⟨Z7,B7⟩,L7⟩ hK;have CS:Hid (y.x.length=41):=y.2.1.len;have CU:Hid (y.x.toArray.size=41):=by unfold Hid;simp[CS.out]
   have kL:Hid (y.x.toArray.all (·.oneCell')=true):=y.2.1.one;unfold Yv.enc;have G7:∀Y:Array Value,Gr W ((W.alloc (.cells Y 121)).setRow W.heap.size y.x.toArray):=fun Y=>ag ((Gr.refl _).alloc _) (apn _) _
   have zB:Hid _:=G7;have HK:Hid _:=hK;have JY:Hid (Mz W w.heap.size z (.slice a2 mn c2) g3 c3 ((pre.map Yv.u).foldl bX (hs,m)).1 ((pre.map Yv.u).foldl bX (hs,m)).2):=Z7;have sN:Hid (W.heap[w.heap.size+1]?=some (.cells #[.slice none 0 0,.slice none 0 0] 28 (0,0))):=B7;have Gi:Hid (Below w.heap.size w W):=L7;have hwl:=L7.size;clear hK Z7 B7 L7 G7
   gi_wp2_with (refine iP rfl 121 _ _ rfl W.heap.size y.x.toArray rfl rfl 121 _ (at5 W _) (by rw[CU.out];exact iU) (by rw[CU.out];rfl) kL.out ?_)
   exact HK.out _ _ ((Th.bD (n:=w.heap.size) (zB.out _) hwl).keeps) ((Th.bD (zB.out _) hwl).kr) ⟨⟨JY.out.kept fun k o t f e=>(zB.out _).block _ (gs e).1,Hr.ae (zB.out _) sN.out⟩,Gi.out.trans (aun (zB.out _) hwl)⟩ ⟨W.heap.size,Ig (at5 W _),rfl⟩
  case body=>
   rintro l pre y a' W hl hr ⟨⟨Z7,B7⟩,L7⟩ ⟨Bx,hBx,rfl⟩ hlt;dsimp only;have hfl:=kG (pre.map Yv.u) (hs,m) xD.out Xv.out (fun u hu=>by
    obtain⟨y',_,rfl⟩:=apK.1 hu;obtain⟨_,_,_,_,_,_,_,ok,_⟩:=y'.2.1;exact⟨y'.2.2,ok.f0⟩)
   have CS:Hid (y.x.length=41):=y.2.1.len;have RG:Hid (W.rangeAt Bx 0 y.x):=fun i v hi=>by rw[apu,cr hBx,apm];exact hi
   have HTB:Hid (Calls prog 39 #[.pointer (some ⟨z,0,none⟩),.agg y.x.toArray] W fun e w'=>e=.returned (.tuple #[])/\Mz w' w.heap.size z (.slice a2 mn c2) g3 c3 (((pre++[y]).map Yv.u).foldl bX (hs,m)).1 (((pre++[y]).map Yv.u).foldl bX (hs,m)).2/\Th w.heap.size W w'):=by
    have:=qj y.2.1 L7 Z7 hfl.1 n4 hfl.2 m4 y.2.2;have e:((pre++[y]).map Yv.u).foldl bX (hs,m)=bX ((pre.map Yv.u).foldl bX (hs,m)) y.u:=by rw[aqb,aqy];rfl
    rw[e];exact this
   have sN:Hid (W.heap[w.heap.size+1]?=some (.cells #[.slice none 0 0,.slice none 0 0] 28 (0,0))):=B7;have Gi:Hid (Below w.heap.size w W):=L7;clear Z7 B7 L7 hfl hBx hr hlt
   gi_wp2_with (first
    |(refine gy rfl 121 _ rfl Bx 0 rfl y.x _ ?r1 underlying121 rfl (by rw[CS.out];exact iU) ?_;(case r1=>exact RG.out))
    |(refine⟨trivial,?_⟩;gi_at_call 39;refine(CallsIn.inRound l (callsIn_wide.2 HTB.out)).mono ?_;rintro e w8 ⟨rfl,Z8,T8⟩))
   exact⟨T8.keeps,T8.kr,⟨Z8,T8.row sN.out (by decide) (by decide)⟩,Gi.out.trans T8.below⟩
  case done=>
   rintro D ys W hD hys ⟨⟨Z7,B7⟩,L7⟩ hK;rw[hys,nE]at Z7;have hfl:(bE (hs,m) (us.drop (ln-s))).1.length=hn/\(bE (hs,m) (us.drop (ln-s))).2.length=mn:=by
    rw[<-nE];refine kG _ (hs,m) xD.out Xv.out (fun u hu=>?_);rw[<-hys]at hu;obtain⟨y',_,rfl⟩:=apK.1 hu;obtain⟨_,_,_,_,_,_,_,ok,_⟩:=y'.2.1;exact⟨y'.2.2,ok.f0⟩
   have JY:Hid (Mz W w.heap.size z (.slice a2 mn c2) g3 c3 (bE (hs,m) (us.drop (ln-s))).1 (bE (hs,m) (us.drop (ln-s))).2):=Z7;have HFL:Hid _:=hfl;generalize hbk:(bE (hs,m) (us.drop (ln-s)))=bk at *
   have sN:Hid (W.heap[w.heap.size+1]?=some (.cells #[.slice none 0 0,.slice none 0 0] 28 (0,0))):=B7;have kz:W.heap[z]?=some (.cells #[.slice a2 mn c2,.slice (some ⟨g3,0,none⟩) hn c3] 28 (0,0)):=by have:=Z7.blk;rw[hfl.1]at this;exact this
   have HKz:Hid _:=kz;have Gi:Hid (Gr w W):=L7;have HKD:Hid (W.heap[D]?=some (.deferred (some []))):=hK;clear Z7 B7 L7 hK kz hfl hys
   go_wp2_with (first
    |(refine auL rfl 28 _ rfl z rfl 28 #[.slice a2 mn c2,.slice (some ⟨g3,0,none⟩) hn c3] (0,0) _ ?yy1 underlying28 rfl EO ?_;(case yy1=>exact HKz.out))
    |(refine auf rfl 28 _ _ rfl (w.heap.size+1) #[.slice a2 mn c2,.slice (some ⟨g3,0,none⟩) hn c3] rfl rfl 28 #[.slice none 0 0,.slice none 0 0] ?yy2 EO rfl (by kernel_rfl) ?_;(case yy2=>exact sN.out)))
   have hDr:D≠w.heap.size+1:=by have:=(gs Xh.out).1;omega
   have HK9:Hid ((W.setRow (w.heap.size+1) #[.slice a2 mn c2,.slice (some ⟨g3,0,none⟩) hn c3]).heap[D]?=some (.deferred (some []))):=(sV hDr).trans HKD.out;have H9b:Hid ((W.setRow (w.heap.size+1) #[.slice a2 mn c2,.slice (some ⟨g3,0,none⟩) hn c3]).heap[w.heap.size+1]?=some (.cells #[.slice a2 mn c2,.slice (some ⟨g3,0,none⟩) hn c3] 28 (0,0))):=Ig sN.out;have H9:Hid (Hc.Own (W.setRow (w.heap.size+1) #[.slice a2 mn c2,.slice (some ⟨g3,0,none⟩) hn c3]) w.heap.size (.slice a2 mn c2) bk.2/\bP (W.setRow (w.heap.size+1) #[.slice a2 mn c2,.slice (some ⟨g3,0,none⟩) hn c3]) g3 bk.1/\Zh (W.setRow (w.heap.size+1) #[.slice a2 mn c2,.slice (some ⟨g3,0,none⟩) hn c3]) g3 c3):=⟨JY.out.mem.to fun k o f e=>sV (aa e sN.out (by decide)),JY.out.row.to fun k o f e=>sV (aa e sN.out (by decide)),JY.out.hz.to fun k o f e=>sV (aa e sN.out (by decide))⟩;have HG9:Hid (Gr w (W.setRow (w.heap.size+1) #[.slice a2 mn c2,.slice (some ⟨g3,0,none⟩) hn c3])):=ag Gi.out (aqi _) _;have HBk:Hid (bk=bE (hs,m) (us.drop (ln-s))):=by unfold Hid;exact hbk.symm
   rw[hbk];generalize W.setRow (w.heap.size+1) #[.slice a2 mn c2,.slice (some ⟨g3,0,none⟩) hn c3]=W9 at *
   have kc:=eP (B:=0) (grownBy_putObj' W9 D (.deferred none)) (fun r e=>by cases e;exact⟨apF _,_,HK9.out,rfl⟩);refine⟨by simp,.inl ⟨D,_,rfl,run_takeDeferred HK9.out,?_⟩⟩;refine⟨_,Hr.aI results17 _ _ _ _ _ (0,0) _ _ rfl rfl ((kc _ _ _ _ H9b.out).trans H9b.out) underlying28 rfl EO,_,rfl,?_,auI HG9.out (belowK_b (w:=w) (apn _) W9 D _ _ (by omega) HK9.out rfl rfl)⟩;obtain⟨l1,l2⟩:=HFL.out;have O10:=H9.out.1.to (w':=W9.putObj D (.deferred none)) fun k o f e=>kc k o _ f e
   have R10:=H9.out.2.1.to (w':=W9.putObj D (.deferred none)) fun k o f e=>kc k o _ f e
   have Z10:=H9.out.2.2.to (w':=W9.putObj D (.deferred none)) fun k o f e=>kc k o _ f e
   exact⟨_,_,_,_,rfl,O10,HBH.out,R10,Z10,l1,l2⟩
  case stop=>
   rintro D c pre W _ _ h _;exact h.elim
end Ud
end Go.Proofs.YtiadhbmnfjfioaaGreatDoor
