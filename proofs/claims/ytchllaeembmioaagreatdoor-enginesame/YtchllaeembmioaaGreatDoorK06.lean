/-
  Tp, Tn, Tm, Tb: texts of ours that lie in one file.
-/
import Derived.Test.YtchllaeembmioaaGreatDoorK05
set_option linter.unusedVariables false
set_option linter.unusedSimpArgs false
set_option maxHeartbeats 8000000
set_option maxRecDepth 100000
namespace Go.Proofs.YtchllaeembmioaaGreatDoor.Ts
open Mm Wd Mi Bk
open Hh hiding Rn

variable {l : List UInt8} {a op bpc last steps : Int} {h : Hv} {S : Sv} {cnt : Nat} {xs : Nat → Int} {bd : Nat → List Mv} {tail : List Mv}
theorem raw_congr {l':List UInt8}{a:Nat}:∀n,(∀i,a≤i→i<a+n→bv l i=bv l' i)→raw l a n=raw l' a n
 | 0,_=>rfl
 | n+1,h=>by
  unfold raw
  rw [raw_congr n fun i h1 h2=>h i h1 (by omega),h (a+n) (by omega) (by omega)]
theorem ld_keep {p x:Int}(h:stOk l op p=true)(hp:0≤p)(ha:0≤a)(d:p+(ssz op:Int)≤a∨a+4≤p):ldV (stL l op p x) 13 a=ldV l 13 a:=by
 have hl:=Mi.stL_length (x:=x) h
 unfold ldV
 have e:ldOk (stL l op p x) 13 a=ldOk l 13 a:=by unfold ldOk;rw [hl]
 rw [e]
 split
 ·rename_i q
  congr 1
  have hq:a+4≤l.length:=by
   unfold ldOk thr at q
   simp only [decide_eq_true_eq] at q
   exact q.2.2
  show raw _ _ 4=raw _ _ 4
  refine raw_congr 4 fun i h1 h2=>?_
  unfold stL
  rw [if_pos h,bv_put _ _ _ _ _ (by omega),if_neg (by omega)]
 ·rfl
def MemS (l:List UInt8) (S:Sv):Prop:=(S.m=l∧S.sto=[])∨∃op p x,0≤p∧stOk l op p=true∧S.m=stL l op p x∧S.sto=[(p,((ssz op:Nat):Int))]
def EvM (l:List UInt8) (e:Ev):Prop:=(e.m=l∧e.sto=[])∨∃op p x,0≤p∧stOk l op p=true∧e.m=stL l op p x∧e.sto=[(p,((ssz op:Nat):Int))]
theorem evm {o:List Int}{r:Option Int}:EvM l ⟨h,l,o,[],r⟩:=.inl ⟨rfl,rfl⟩
theorem ef_mem (o:h.Ok)(l:List UInt8){b n:Int}(ha:W a):EvM l (eff h l op a b n):=by
 unfold eff
 split
 ·exact evm
 split
 ·exact evm
 split
 ·exact evm
 split
 ·unfold efLoad
  split<;>exact evm
 split
 ·unfold efStore
  split
  ·rename_i q
   exact .inr ⟨_,_,_,(W.lo _).1,q,rfl,rfl⟩
  ·exact evm
 split
 ·exact evm
 split
 ·exact evm
 split
 ·unfold efAtom
  split
  ·unfold efLr
   split<;>exact evm
  split
  ·unfold efSc
   split
   ·rename_i q
    split
    ·exact .inr ⟨18,a,b,ha.1,st_of_ld q,rfl,rfl⟩
    ·exact evm
   ·exact evm
  ·unfold efAmo
   split
   ·rename_i q
    exact .inr ⟨18,a,_,ha.1,st_of_ld q,rfl,rfl⟩
   ·exact evm
 split
 ·unfold efCall
  split
  ·exact evm
  split<;>exact evm
 split<;>exact evm
theorem stp_mem (o:h.Ok)(l:List UInt8):MemS l (stp h l):=by
 unfold stp insW
 split
 ·split
  ·exact .inl ⟨rfl,rfl⟩
  ·exact ef_mem (op:=Dc.dop (ldV l 13 h.pc)) o l (W.reg o _)
 ·exact .inl ⟨rfl,rfl⟩
structure Eqv (r s:Mi.Rn):Prop where
 h:r.h=s.h
 m:r.m=s.m
 out:r.out=s.out
 n:r.n=s.n
 sto:r.sto=s.sto
structure Fit (bf bt a:Int) (q:Mi.Rn) (S:Sv) (q':Mi.Rn):Prop where
 ok:q'.Ok
 m:q'.m=S.m
 out:q'.out=q.out++S.out
 sto:q'.sto=q.sto++S.sto
 n:q'.n=q.n
 own:q'.own=(q.own || S.sto.any (meet bf bt))
 here:q'.over=false→q'.here=a
 go:(q'.over=true∧q'.h=S.h)∨(q'.over=false∧S.h.state=0∧S.h.pc=lo (a+4)∧q'.h=S.h.go q.h.pc)
def BodyOk (bf bt steps a x:Int) (body:List Mv):Prop:=∀q:Mi.Rn,q.over=false→q.Ok→q.h.state=0→rg q.h 0=0→q.here=a→q.m.length≤4096→
 Fit bf bt a q (insW (q.h.go a) q.m x) (mrun bf bt steps q body)∧((mrun bf bt steps q body).over=true→lastOp (Dc.dop x)=true∨¬(insW (q.h.go a) q.m x).h.state=0)
def TailOk (bf bt steps a:Int) (tail:List Mv):Prop:=∀q:Mi.Rn,q.over=false→0<q.n→lo (q.here+4)=a→Eqv (mend (mrun bf bt steps q tail)) { q with h:=q.h.go a }
def codeK (bpc:Int) (bd:Nat→List Mv):Nat→Nat→List Mv
 | 0,_=>[]
 | n+1,k=>⟨1,0,0,0,at4 bpc k⟩::(bd k++codeK bpc bd n (k+1))
theorem mend_over {r:Mi.Rn}(h:r.over=true):mend r=r:=by unfold mend;rw [if_neg (by simp [h])]
theorem mic_at (bf bt steps:Int)(q:Mi.Rn)(a:Int):mic bf bt steps q ⟨1,0,0,0,a⟩=mAt steps q a:=by unfold mic;rw [if_pos rfl]
theorem go_go (h:Hv)(x y:Int):(h.go x).go y=h.go y:=rfl
theorem go_pc (h:Hv):h.go h.pc=h:=rfl
theorem hit_meet (hS:MemS l S)(hb:bpc<last)(hl:l.length≤4096):S.sto.any (hitB bpc last)=S.sto.any (meet bpc last):=by
 rcases hS with ⟨_,e⟩|⟨op,p,x,hp,ho,_,e⟩
 ·rw [e];rfl
 ·rw [e]
  simp only [List.any_cons,List.any_nil,Bool.or_false]
  have hz:0<ssz op∧p+(ssz op:Int)≤l.length:=by
   unfold stOk thr at ho
   simp only [decide_eq_true_eq] at ho
   exact ⟨ho.1,ho.2.2⟩
  have hlo:lo (p+((ssz op:Nat):Int))=p+(ssz op:Int):=Int.emod_eq_of_lt (by omega) (by omega)
  unfold hitB meet
  simp only [hlo]
  rw [decide_eq_decide,Int.max_def,Int.min_def]
  constructor
  ·intro h;(repeat' split)<;>omega
  ·intro h;(repeat' split at h)<;>omega
theorem words_keep (hS:MemS l S)(hl:l.length≤4096)(hno:S.sto.any (hitB bpc last)=false)(h0:0≤a)(h1:bpc≤a)(h2:a+4≤last):ldV S.m 13 a=ldV l 13 a:=by
 rcases hS with ⟨e,_⟩|⟨op,p,x,hp,ho,e,es⟩
 ·rw [e]
 ·rw [e]
  refine ld_keep ho hp h0 ?_
  rw [es] at hno
  simp only [List.any_cons,List.any_nil,Bool.or_false] at hno
  have hz:0<ssz op∧p+(ssz op:Int)≤l.length:=by
   unfold stOk thr at ho
   simp only [decide_eq_true_eq] at ho
   exact ⟨ho.1,ho.2.2⟩
  have hlo:lo (p+((ssz op:Nat):Int))=p+(ssz op:Int):=Int.emod_eq_of_lt (by omega) (by omega)
  unfold hitB at hno
  simp only [hlo,decide_eq_false_iff_not] at hno
  omega
structure Blkd (l:List UInt8) (bpc last:Int) (cnt:Nat) (xs:Nat→Int):Prop where
 pos:0<cnt
 low:0≤bpc
 top:bpc+4*cnt=last
 len:l.length≤4096
 fit:last≤l.length
 at_:∀j,j≤cnt→at4 bpc j=bpc+4*j
 ok:∀j,j<cnt→ldOk l 13 (at4 bpc j)=true
 op:∀j,j<cnt→¬Dc.dop (xs j)=0
 fin:∀j,j<cnt→lastOp (Dc.dop (xs j))=true→j+1=cnt
structure Rel (bpc steps:Int) (k:Nat) (q r:Mi.Rn):Prop where
 over:q.over=false
 ok:q.Ok
 may:may r.h=true
 st:r.h.state=0
 h:r.h=q.h.go (at4 bpc k)
 m:r.m=q.m
 out:r.out=q.out
 n:r.n=q.n
 sto:r.sto=q.sto
 own:q.own=false
 le:(q.n:Int)≤steps
 beg:k=0∨(0<q.n∧lo (q.here+4)=at4 bpc k)
theorem segs_run (B:Blkd l bpc last cnt xs)(hb:∀j,j<cnt→BodyOk bpc last steps (at4 bpc j) (xs j) (bd j))(ht:TailOk bpc last steps (at4 bpc cnt) tail):
  ∀(n k:Nat) (q r:Mi.Rn),k+n=cnt→Rel bpc steps k q r→(∀j,k≤j→j<cnt→ldV r.m 13 (at4 bpc j)=xs j)→r.m.length=l.length→Eqv (mend (mrun bpc last steps q (codeK bpc bd n k++tail))) (bst bpc last steps n k r)
 | 0,k,q,r,hk,R,_,_=>by
  have hkc:k=cnt:=by omega
  have hp:=B.pos
  rcases R.beg with h0|⟨h1,h2⟩
  ·omega
  ·have e:=ht q R.over h1 (by rw [h2,hkc])
   show Eqv (mend (mrun bpc last steps q tail)) r
   refine ⟨?_,?_,?_,?_,?_⟩
   ·rw [e.h,R.h,hkc]
   ·rw [e.m,R.m]
   ·rw [e.out,R.out]
   ·rw [e.n,R.n]
   ·rw [e.sto,R.sto]
 | n+1,k,q,r,hk,R,hw,hlen=>by
  have hkc:k<cnt:=by omega
  have ha:=B.at_ k (by omega)
  have ha1:=B.at_ (k+1) (by omega)
  have hlow:=B.low
  have htop:=B.top
  have hfit:=B.fit
  have hll:=B.len
  have e0:mrun bpc last steps q (codeK bpc bd (n+1) k++tail)=mrun bpc last steps (mAt steps q (at4 bpc k)) (bd k++(codeK bpc bd n (k+1)++tail)):=by
   show mrun bpc last steps q (⟨1,0,0,0,at4 bpc k⟩::((bd k++codeK bpc bd n (k+1))++tail))=_
   rw [mrun,if_neg (by simp [R.over]),mic_at,List.append_assoc]
  rw [e0]
  by_cases hn:(q.n:Int)=steps
  ·have e1:mAt steps q (at4 bpc k)=q.stop (at4 bpc k):=by unfold mAt;rw [if_pos (.inl hn)]
   have e2:bst bpc last steps (n+1) k r=r:=by unfold bst;rw [if_neg (by rw [R.n];omega)]
   rw [e1,mrun_over _ _ _ rfl,mend_over rfl,e2]
   exact ⟨R.h.symm,R.m.symm,R.out.symm,R.n.symm,R.sto.symm⟩
  ·have e1:mAt steps q (at4 bpc k)={ q with n:=q.n+1,here:=at4 bpc k }:=by unfold mAt;rw [if_neg (by simp [hn,R.own])]
   rw [e1,mrun_append]
   have hbd:=at4_bd bpc k
   have okq:Mi.Rn.Ok { q with n:=q.n+1,here:=at4 bpc k }:=⟨R.ok.h,R.ok.tl,R.ok.tb,hbd.1,hbd.2⟩
   have hst:q.h.state=0:=by have:=R.st;rw [R.h] at this;exact this
   have hrn:Hh.Rn r.h:=rn_of R.may R.st
   have hz:rg q.h 0=0:=by have:=hrn.z;rw [R.h] at this;exact this
   have okr:r.h.Ok:=by rw [R.h];exact R.ok.h.go hbd.1 hbd.2
   obtain ⟨F,FL⟩:=hb k hkc { q with n:=q.n+1,here:=at4 bpc k } R.over okq hst hz rfl (by show q.m.length≤4096;rw [←R.m,hlen];exact hll)
   have hpc:r.h.pc=at4 bpc k:=by rw [R.h];rfl
   have eS:stp r.h r.m=insW (q.h.go (at4 bpc k)) q.m (xs k):=by
    unfold stp
    have hok:ldOk r.m 13 r.h.pc=true:=by
     rw [hpc]
     have:=B.ok k hkc
     unfold ldOk at this ⊢
     rw [hlen]
     exact this
    rw [if_pos hok,hpc,hw k (Nat.le_refl _) hkc,R.h,R.m]
   have gS:=good_stp hrn r.m
   have mS:=stp_mem okr r.m
   rw [←show stp r.h r.m=insW (({ q with n:=q.n+1,here:=at4 bpc k }:Mi.Rn).h.go (at4 bpc k)) ({ q with n:=q.n+1,here:=at4 bpc k }:Mi.Rn).m (xs k) from eS] at F FL
   have ebst:bst bpc last steps (n+1) k r=if bstop bpc last k (stp r.h r.m)=true then b1 r else bst bpc last steps n (k+1) (b1 r):=by
    rw [bst,if_pos]
    have:=R.le
    rw [R.n]
    omega
   rw [ebst]
   have hpc4:lo (at4 bpc k+4)=at4 bpc (k+1):=by
    rw [ha,ha1]
    have:lo (bpc+4*(k:Int)+4)=bpc+4*(k:Int)+4:=Int.emod_eq_of_lt (by omega) (by omega)
    rw [this]
    omega
   have hpc5:Wd.lo (bpc+(4*(k:Int)+4))=at4 bpc (k+1):=by
    rw [←hpc4,ha]
    congr 1
    omega
   have hmeet:=hit_meet mS (bpc:=bpc) (last:=last) (by omega) (by rw [hlen];exact hll)
   generalize hq':mrun bpc last steps { q with n:=q.n+1,here:=at4 bpc k } (bd k)=q' at *
   have eqb:q'.h=(stp r.h r.m).h→Eqv q' (b1 r):=fun e=>⟨e,F.m,by rw [F.out];show q.out++_=r.out++_;rw [R.out],by rw [F.n];show q.n+1=r.n+1;rw [R.n],by rw [F.sto];show q.sto++_=r.sto++_;rw [R.sto]⟩
   rcases F.go with ⟨g1,g2⟩|⟨g1,g2,g3,g4⟩
   ·rw [mrun_over _ _ _ g1,mend_over g1]
    have hE:=eqb g2
    split
    ·exact hE
    ·rename_i hbs
     have hs0:(stp r.h r.m).h.state=0:=by
      unfold bstop at hbs
      simp only [Bool.or_eq_true,decide_eq_true_eq,not_or,Classical.not_not] at hbs
      exact hbs.1
     have hfin:k+1=cnt:=by
      rcases FL g1 with h|h
      ·exact B.fin k hkc h
      ·exact absurd hs0 h
     have hn0:n=0:=by omega
     subst hn0
     exact hE
   ·have hS4:q'.h.go (at4 bpc (k+1))=(stp r.h r.m).h:=by
     rw [g4,go_go,←hpc4,←g3,go_pc]
    have hbs:bstop bpc last k (stp r.h r.m)=(stp r.h r.m).sto.any (hitB bpc last):=by
     unfold bstop
     rw [decide_eq_false (by simp [g2]),decide_eq_false (by rw [hpc5,←hpc4];simp [g3])]
     simp
    have hher:=F.here g1
    have hnn:0<q'.n:=by rw [F.n];exact Nat.succ_pos _
    have hEg:∀s:Mi.Rn,Eqv s { q' with h:=q'.h.go (at4 bpc (k+1)) }→Eqv s (b1 r):=fun s e=>by
     refine ⟨?_,?_,?_,?_,?_⟩
     ·rw [e.h];exact hS4
     ·rw [e.m];exact F.m
     ·rw [e.out];show q'.out=_;rw [F.out];show q.out++_=r.out++_;rw [R.out]
     ·rw [e.n];show q'.n=_;rw [F.n];show q.n+1=r.n+1;rw [R.n]
     ·rw [e.sto];show q'.sto=_;rw [F.sto];show q.sto++_=r.sto++_;rw [R.sto]
    rw [hbs]
    split
    ·rename_i hh
     have hown:q'.own=true:=by rw [F.own,←hmeet,hh];simp
     cases n with
     | zero=>
      have hc1:k+1=cnt:=by omega
      refine hEg _ ?_
      rw [hc1]
      exact ht q' g1 hnn (by rw [hher,hpc4,hc1])
     | succ n'=>
      refine hEg _ ?_
      show Eqv (mend (mrun bpc last steps q' (⟨1,0,0,0,at4 bpc (k+1)⟩::((bd (k+1)++codeK bpc bd n' (k+1+1))++tail)))) _
      rw [mrun,if_neg (by simp [g1]),mic_at]
      have e3:mAt steps q' (at4 bpc (k+1))=q'.stop (at4 bpc (k+1)):=by unfold mAt;rw [if_pos (.inr hown)]
      rw [e3,mrun_over _ _ _ rfl,mend_over rfl]
      exact ⟨rfl,rfl,rfl,rfl,rfl⟩
    ·rename_i hh
     have hno:(stp r.h r.m).sto.any (hitB bpc last)=false:=by simpa using hh
     have hown:q'.own=false:=by rw [F.own,←hmeet,hno];show (q.own || false)=false;rw [R.own];rfl
     refine segs_run B hb ht n (k+1) q' (b1 r) (by omega) ⟨g1,F.ok,gS.1,g2,hS4.symm,F.m.symm,by rw [F.out];show r.out++_=q.out++_;rw [R.out],by rw [F.n];show r.n+1=q.n+1;rw [R.n],by rw [F.sto];show r.sto++_=q.sto++_;rw [R.sto],hown,?_,.inr ⟨hnn,by rw [hher];exact hpc4⟩⟩ ?_ ?_
     ·rw [F.n]
      have:=R.le
      show ((q.n+1:Nat):Int)≤steps
      omega
     ·intro j hj1 hj2
      have haj:=B.at_ j (by omega)
      show ldV (stp r.h r.m).m 13 (at4 bpc j)=xs j
      rw [words_keep mS (bpc:=bpc) (last:=last) (by rw [hlen];exact hll) hno (by omega) (by omega) (by omega)]
      exact hw j (by omega) hj2
     ·show (stp r.h r.m).m.length=l.length
      rw [gS.2.1,hlen]
theorem trans_run (B : Blkd l bpc last cnt xs) (hb : ∀ j, j < cnt → BodyOk bpc last steps (at4 bpc j) (xs j) (bd j)) (ht : TailOk bpc last steps (at4 bpc cnt) tail)
 (o : h.Ok) (hm : may h = true) (hs : h.state = 0) (hp : h.pc = bpc) (h0 : 0 ≤ steps) (hx : ∀ j, j < cnt → ldV l 13 (at4 bpc j) = xs j) : Eqv (mplay bpc last steps h l (codeK bpc bd cnt 0 ++ tail)) (bst bpc last steps cnt 0 (mstart h l)) := by
  have e : at4 bpc 0 = bpc := by have := B.at_ 0 (Nat.zero_le _); simpa using this
  refine segs_run B hb ht cnt 0 (mstart h l) (mstart h l) (Nat.zero_add _) ⟨rfl, (Gd.start (bf := bpc) (bt := last) o hs B.len).ok, hm, hs, ?_, rfl, rfl, rfl, rfl, rfl, by simpa [mstart] using h0, .inl rfl⟩ (fun j _ hj => hx j hj) rfl
  rw [e, ← hp]
  rfl
theorem tail_nil (bf bt steps a:Int):TailOk bf bt steps a []:=fun q ho hn hh=>by
 show Eqv (mend q) _
 unfold mend
 rw [if_pos ⟨ho,hn⟩,hh]
 exact ⟨rfl,rfl,rfl,rfl,rfl⟩
end Go.Proofs.YtchllaeembmioaaGreatDoor.Ts
namespace Go.Proofs.YtchllaeembmioaaGreatDoor.Ts
open Mm Wd Mi Bk
open Hh hiding Rn

def BodyI (bf bt steps a op rd r1 r2 im:Int) (body:List Mv):Prop:=∀q:Mi.Rn,q.over=false→q.Ok→q.h.state=0→rg q.h 0=0→q.here=a→q.m.length≤4096→
 Fit bf bt a q (ins (q.h.go a) q.m op rd r1 r2 im) (mrun bf bt steps q body)∧((mrun bf bt steps q body).over=true→lastOp op=true∨¬(ins (q.h.go a) q.m op rd r1 r2 im).h.state=0)
theorem body_of {bf bt steps a x:Int}{body:List Mv}(hx:¬Dc.dop x=0)(h:BodyI bf bt steps a (Dc.dop x) (Dc.rdF (Dc.frm (Dc.dop x)) x) (Dc.rs1F (Dc.frm (Dc.dop x)) x) (Dc.rs2F (Dc.frm (Dc.dop x)) x) (Dc.immF (Dc.frm (Dc.dop x)) x) body):BodyOk bf bt steps a x body:=fun q h1 h2 h3 h4 h5 h6=>by
 have:=h q h1 h2 h3 h4 h5 h6
 unfold insW
 rw [if_neg hx]
 exact this
theorem one_run {bf bt steps:Int}{q:Mi.Rn}(ho:q.over=false)(i:Mv):mrun bf bt steps q [i]=mic bf bt steps q i:=by rw [mrun,if_neg (by simp [ho]),mrun]
theorem fit_on {bf bt a:Int}{q q':Mi.Rn}{S:Sv}{X:Hv}{o:List Int}{s:List (Int×Int)}(hS:S=⟨X.go (lo (a+4)),q'.m,o,s⟩)(hq:q'.Ok)(ov:q'.over=false)(hh:q'.here=a)(hX:q'.h=X)(hpc:X.pc=q.h.pc)(hst:X.state=0)(ho:q'.out=q.out++o)(hs:q'.sto=q.sto++s)(hn:q'.n=q.n)(hw:q'.own=(q.own || s.any (meet bf bt))):Fit bf bt a q S q':=by
 subst hS
 exact ⟨hq,rfl,ho,hs,hn,hw,fun _=>hh,.inr ⟨ov,hst,rfl,by rw [hX];show X=(X.go _).go _;rw [go_go,←hpc,go_pc]⟩⟩
theorem fit_end {bf bt a:Int}{q q':Mi.Rn}{S:Sv}{o:List Int}{s:List (Int×Int)}(hS:S=⟨q'.h,q'.m,o,s⟩)(hq:q'.Ok)(ov:q'.over=true)(ho:q'.out=q.out++o)(hs:q'.sto=q.sto++s)(hn:q'.n=q.n)(hw:q'.own=(q.own || s.any (meet bf bt))):Fit bf bt a q S q':=by
 subst hS
 exact ⟨hq,rfl,ho,hs,hn,hw,fun h=>(by rw [ov] at h;cases h),.inl ⟨ov,rfl⟩⟩
theorem put_go (Y:Hv)(a:Int)(r:Nat)(x:Option Int):(Y.go a).put r x=(Y.put r x).go a:=by
 cases x with
 | none=>rfl
 | some x=>
  show (Y.go a).set r x=(Y.set r x).go a
  unfold Hv.set
  split<;>rfl
theorem put_st (Y:Hv)(r:Nat)(x:Option Int):(Y.put r x).state=Y.state∧(Y.put r x).pc=Y.pc:=by
 cases x with
 | none=>exact ⟨rfl,rfl⟩
 | some x=>
  show (Y.set r x).state=Y.state∧(Y.set r x).pc=Y.pc
  unfold Hv.set
  split<;>exact ⟨rfl,rfl⟩
theorem ins_on {h Y:Hv}{l m:List UInt8}{op rd r1 r2 im a:Int}{o:List Int}{s:List (Int×Int)}{res:Option Int}(hE:eff (h.go a) l op (rg h r1.toNat) (rg h r2.toNat) (lo im)=⟨Y.go a,m,o,s,res⟩)(hY:Y.state=0)(hx:¬op=3∧¬op=4∧(op<5∨10<op)):ins (h.go a) l op rd r1 r2 im=⟨(Y.put rd.toNat res).go (lo (a+4)),m,o,s⟩:=by
 have e:ins (h.go a) l op rd r1 r2 im=done (eff (h.go a) l op (rg h r1.toNat) (rg h r2.toNat) (lo im)) rd.toNat (nxt (h.go a) op (rg h r1.toNat) (rg h r2.toNat) (lo im)):=rfl
 have en:nxt (h.go a) op (rg h r1.toNat) (rg h r2.toNat) (lo im)=lo (a+4):=by
  unfold nxt
  rw [if_neg hx.2.1,if_neg (by rw [holds_no hx.2.2];simp [hx.1])]
  rfl
 rw [e,hE,en]
 unfold done
 simp only
 rw [put_go]
 unfold Hv.on
 rw [if_pos (by show (Y.put rd.toNat res).state=0;rw [(put_st _ _ _).1];exact hY),go_go]
theorem ins_stop {h Y:Hv}{l m:List UInt8}{op rd r1 r2 im a:Int}{o:List Int}{s:List (Int×Int)}(hE:eff (h.go a) l op (rg h r1.toNat) (rg h r2.toNat) (lo im)=⟨Y.go a,m,o,s,none⟩)(hY:¬Y.state=0):ins (h.go a) l op rd r1 r2 im=⟨Y.go a,m,o,s⟩:=by
 have e:ins (h.go a) l op rd r1 r2 im=done (eff (h.go a) l op (rg h r1.toNat) (rg h r2.toNat) (lo im)) rd.toNat (nxt (h.go a) op (rg h r1.toNat) (rg h r2.toNat) (lo im)):=rfl
 rw [e,hE]
 unfold done Hv.put Hv.on
 simp only
 rw [if_neg (by show ¬Y.state=0;exact hY)]
theorem get_low (q:Mi.Rn){k:Int}(h:k<32):q.get k=rg q.h k.toNat:=by unfold Rn.get;rw [if_pos h]
theorem put_low (q:Mi.Rn){k:Int}(h:k<32)(x:Int):q.put k x={ q with h:=q.h.set k.toNat x }:=by unfold Rn.put;rw [if_neg (by omega)]
theorem fit_put {bf bt a op rd r1 r2 im x:Int}{q:Mi.Rn}(ok:q.Ok)(ov:q.over=false)(st:q.h.state=0)(hh:q.here=a)(hr:rd<32)(wx:W x)(hE:eff (q.h.go a) q.m op (rg q.h r1.toNat) (rg q.h r2.toNat) (lo im)=⟨q.h.go a,q.m,[],[],some x⟩)(hx:¬op=3∧¬op=4∧(op<5∨10<op)):Fit bf bt a q (ins (q.h.go a) q.m op rd r1 r2 im) (q.put rd x):=by
 have okp:=ok.put rd wx
 rw [put_low q hr] at okp ⊢
 refine fit_on (X:=q.h.set rd.toNat x) (o:=[]) (s:=[]) (ins_on (res:=some x) hE st hx) okp ov hh rfl ?_ ?_ (by simp) (by simp) rfl (by simp)
 ·exact (put_st q.h rd.toNat (some x)).2
 ·exact (put_st q.h rd.toNat (some x)).1.trans st
theorem over_no {bf bt a op rd x:Int}{q:Mi.Rn}{P:Prop}(ov:q.over=false):(q.put rd x).over=true→P:=fun h=>by
 have:(q.put rd x).over=q.over:=by unfold Rn.put;split<;>rfl
 rw [this,ov] at h
 cases h
theorem fit_trap {bf bt a op rd r1 r2 im c:Int}{q:Mi.Rn}(ok:q.Ok)(hh:q.here=a)(hE:eff (q.h.go a) q.m op (rg q.h r1.toNat) (rg q.h r2.toNat) (lo im)=⟨(q.h.trap c).go a,q.m,[],[],none⟩):Fit bf bt a q (ins (q.h.go a) q.m op rd r1 r2 im) (q.trap c)∧¬(ins (q.h.go a) q.m op rd r1 r2 im).h.state=0:=by
 have e:=ins_stop (rd:=rd) hE (by simp [Hv.trap])
 refine ⟨fit_end (o:=[]) (s:=[]) ?_ (ok.trap c) rfl (by simp [Rn.trap]) (by simp [Rn.trap]) rfl (by simp [Rn.trap]),?_⟩
 ·rw [e]
  show _=(⟨(q.h.trap c).go q.here,q.m,[],[]⟩:Sv)
  rw [hh]
 ·rw [e]
  simp [Hv.trap,Hv.go]
section
variable {bf bt steps a op rd r1 r2 im : Int}
theorem body_set (x:Int)(hr:rd<32)(wx:W x)(hE:∀(h:Hv) (l:List UInt8),eff (h.go a) l op (rg h r1.toNat) (rg h r2.toNat) (lo im)=⟨h.go a,l,[],[],some x⟩)(hx:¬op=3∧¬op=4∧(op<5∨10<op)):BodyI bf bt steps a op rd r1 r2 im [⟨2,rd,0,0,x⟩]:=fun q ov ok st z hh hl=>by
 rw [one_run ov]
 have e:mic bf bt steps q ⟨2,rd,0,0,x⟩=q.put rd x:=by unfold mic;rw [if_neg (by simp),if_pos rfl]
 rw [e]
 exact ⟨fit_put ok ov st hh hr wx (hE _ _) hx,over_no (op:=op) (bf:=bf) (bt:=bt) (a:=a) ov⟩
theorem body_lui (hr:rd<32)(ho:op=1):BodyI bf bt steps a op rd r1 r2 im [⟨2,rd,0,0,lo im⟩]:=
 body_set _ hr (W.lo _) (fun h l=>by subst ho;unfold eff;rw [if_pos rfl]) (by omega)
theorem body_auipc (hr:rd<32)(ho:op=2):BodyI bf bt steps a op rd r1 r2 im [⟨2,rd,0,0,lo (a+lo im)⟩]:=
 body_set _ hr (W.lo _) (fun h l=>by subst ho;unfold eff;rw [if_neg (by omega),if_pos rfl];rfl) (by omega)
theorem body_alu (hr:rd<32)(h1:r1<32)(h2:r2<32)(ho:28≤op∧op≤45):BodyI bf bt steps a op rd r1 r2 im [⟨400+op,rd,r1,r2,0⟩]:=fun q ov ok st z hh hl=>by
 rw [one_run ov,mic_op (c:=400) (k:=op) (by omega) (by omega) rfl (by omega)]
 unfold mOp
 rw [if_neg (by omega),if_neg (by omega),if_neg (by omega),if_pos rfl]
 simp only [get_low q h1,get_low q h2]
 refine ⟨fit_put ok ov st hh hr (W.alu (ok.h.reg _) (ok.h.reg _)) ?_ (by omega),over_no (op:=op) (bf:=bf) (bt:=bt) (a:=a) ov⟩
 unfold eff
 rw [if_neg (by omega),if_neg (by omega),if_neg (by omega),if_neg (by omega),if_neg (by omega),if_neg (by omega),if_pos ho]
theorem body_aln (hr:rd<32)(h1:r1<32)(ho:19≤op∧op≤27):BodyI bf bt steps a op rd r1 r2 im [⟨500+opn op,rd,r1,0,lo im⟩]:=fun q ov ok st z hh hl=>by
 have hop:28≤opn op∧opn op≤45:=by unfold opn;(repeat' split)<;>omega
 rw [one_run ov,mic_op (c:=500) (k:=opn op) (by omega) (by omega) rfl (by omega)]
 unfold mOp
 rw [if_neg (by omega),if_neg (by omega),if_neg (by omega),if_neg (by omega),if_pos rfl]
 simp only [get_low q h1]
 refine ⟨fit_put ok ov st hh hr (W.alu (ok.h.reg _) (W.lo _)) ?_ (by omega),over_no (op:=op) (bf:=bf) (bt:=bt) (a:=a) ov⟩
 unfold eff
 rw [if_neg (by omega),if_neg (by omega),if_neg (by omega),if_neg (by omega),if_neg (by omega),if_pos ho]
theorem body_ld (hr:rd<32)(h1:r1<32)(ho:11≤op∧op≤15):BodyI bf bt steps a op rd r1 r2 im [⟨200+op,rd,r1,0,lo im⟩]:=fun q ov ok st z hh hl=>by
 rw [one_run ov,mic_op (c:=200) (k:=op) (by omega) (by omega) rfl (by omega)]
 unfold mOp
 rw [if_neg (by omega),if_pos rfl]
 simp only [get_low q h1]
 have hE:eff (q.h.go a) q.m op (rg q.h r1.toNat) (rg q.h r2.toNat) (lo im)=efLoad (q.h.go a) q.m op (lo (rg q.h r1.toNat+lo im)):=by
  unfold eff
  rw [if_neg (by omega),if_neg (by omega),if_neg (by omega),if_pos ho]
 unfold mLoad
 by_cases hk:ldOk q.m op (lo (rg q.h r1.toNat+lo im))=true
 ·rw [if_pos hk]
  refine ⟨fit_put ok ov st hh hr (W.ldV _ _ _) ?_ (by omega),over_no (op:=op) (bf:=bf) (bt:=bt) (a:=a) ov⟩
  rw [hE]
  unfold efLoad
  rw [if_pos hk]
 ·rw [if_neg hk]
  have t:=fit_trap (bf:=bf) (bt:=bt) (rd:=rd) (c:=3) ok hh (r1:=r1) (r2:=r2) (im:=im) (op:=op) (by rw [hE];unfold efLoad;rw [if_neg hk];rfl)
  exact ⟨t.1,fun _=>.inr t.2⟩
theorem hits_at {l:List UInt8}{p:Int}(hl:l.length≤4096)(hp:0≤p)(h:stOk l op p=true):hits bf bt p (ssz op)=meet bf bt (p,((ssz op:Nat):Int)):=by
 have hz:p+(ssz op:Int)≤l.length:=by
  unfold stOk thr at h
  simp only [decide_eq_true_eq] at h
  exact h.2.2
 exact hits_meet hp (by omega) (ssz_le _)
theorem body_st (h1:r1<32)(h2:r2<32)(ho:16≤op∧op≤18):BodyI bf bt steps a op rd r1 r2 im [⟨300+op,0,r1,r2,lo im⟩]:=fun q ov ok st z hh hl=>by
 rw [one_run ov,mic_op (c:=300) (k:=op) (by omega) (by omega) rfl (by omega)]
 unfold mOp
 rw [if_neg (by omega),if_neg (by omega),if_pos rfl]
 simp only [get_low q h1,get_low q h2]
 have hE:eff (q.h.go a) q.m op (rg q.h r1.toNat) (rg q.h r2.toNat) (lo im)=efStore (q.h.go a) q.m op (lo (rg q.h r1.toNat+lo im)) (rg q.h r2.toNat):=by
  unfold eff
  rw [if_neg (by omega),if_neg (by omega),if_neg (by omega),if_neg (by omega),if_pos ho]
 unfold mStore
 by_cases hk:stOk q.m op (lo (rg q.h r1.toNat+lo im))=true
 ·rw [if_pos hk]
  have hm:=hits_at (bf:=bf) (bt:=bt) hl (W.lo _).1 hk
  refine ⟨fit_on (X:=q.h) (o:=[]) (s:=[(lo (rg q.h r1.toNat+lo im),((ssz op:Nat):Int))]) ?_ ((ok.mem _).stored _ _ _ _) ov hh rfl rfl st (by simp [Rn.stored]) rfl rfl (by simp [Rn.stored,hm]),fun h=>?_⟩
  ·rw [ins_on (Y:=q.h) (res:=none) (m:=stL q.m op (lo (rg q.h r1.toNat+lo im)) (rg q.h r2.toNat)) (o:=[]) (s:=[(lo (rg q.h r1.toNat+lo im),((ssz op:Nat):Int))]) (by rw [hE];unfold efStore;rw [if_pos hk]) st (by omega)]
   rfl
  ·have:q.over=true:=h
   rw [ov] at this
   cases this
 ·rw [if_neg hk]
  have t:=fit_trap (bf:=bf) (bt:=bt) (rd:=rd) (c:=4) ok hh (r1:=r1) (r2:=r2) (im:=im) (op:=op) (by rw [hE];unfold efStore;rw [if_neg hk];rfl)
  exact ⟨t.1,fun _=>.inr t.2⟩
theorem body_fence (ho:op=57):BodyI bf bt steps a op rd r1 r2 im []:=fun q ov ok st z hh hl=>by
 have hE:eff (q.h.go a) q.m op (rg q.h r1.toNat) (rg q.h r2.toNat) (lo im)=⟨q.h.go a,q.m,[],[],none⟩:=by
  unfold eff
  rw [if_neg (by omega),if_neg (by omega),if_neg (by omega),if_neg (by omega),if_neg (by omega),if_neg (by omega),if_neg (by omega),if_neg (by omega),if_neg (by omega),if_neg (by omega)]
 refine ⟨fit_on (X:=q.h) (o:=[]) (s:=[]) ?_ ok ov hh rfl rfl st (by simp [mrun]) (by simp [mrun]) rfl (by simp [mrun]),fun h=>?_⟩
 ·rw [ins_on (Y:=q.h) (res:=none) hE st (by omega)]
  rfl
 ·have:q.over=true:=h
  rw [ov] at this
  cases this
theorem body_break (ho:op=59):BodyI bf bt steps a op rd r1 r2 im [⟨6,0,0,0,0⟩]:=fun q ov ok st z hh hl=>by
 rw [one_run ov]
 have e:mic bf bt steps q ⟨6,0,0,0,0⟩=q.trap 6:=by unfold mic;rw [if_neg (by simp),if_neg (by simp),if_neg (by simp),if_neg (by simp),if_neg (by simp),if_pos rfl]
 rw [e]
 have t:=fit_trap (bf:=bf) (bt:=bt) (rd:=rd) (c:=6) ok hh (r1:=r1) (r2:=r2) (im:=im) (op:=op) (by unfold eff;rw [if_neg (by omega),if_neg (by omega),if_neg (by omega),if_neg (by omega),if_neg (by omega),if_neg (by omega),if_neg (by omega),if_neg (by omega),if_neg (by omega),if_pos ho];rfl)
 exact ⟨t.1,fun _=>.inr t.2⟩
theorem body_call (ho:op=58):BodyI bf bt steps a op rd r1 r2 im [⟨5,0,0,0,0⟩]:=fun q ov ok st z hh hl=>by
 rw [one_run ov]
 have e:mic bf bt steps q ⟨5,0,0,0,0⟩=mCall q:=by unfold mic;rw [if_neg (by simp),if_neg (by simp),if_neg (by simp),if_neg (by simp),if_pos rfl]
 rw [e]
 have hE:eff (q.h.go a) q.m op (rg q.h r1.toNat) (rg q.h r2.toNat) (lo im)=efCall (q.h.go a) q.m:=by
  unfold eff
  rw [if_neg (by omega),if_neg (by omega),if_neg (by omega),if_neg (by omega),if_neg (by omega),if_neg (by omega),if_neg (by omega),if_neg (by omega),if_pos ho]
 unfold mCall
 unfold efCall at hE
 have hrg:∀k,rg (q.h.go a) k=rg q.h k:=fun _=>rfl
 rw [hrg,hrg] at hE
 by_cases h0:rg q.h 17=0
 ·rw [if_pos h0] at hE ⊢
  have e2:=ins_stop (rd:=rd) (Y:=q.h.halt) hE (by simp [Hv.halt])
  refine ⟨fit_end (o:=[]) (s:=[]) ?_ ⟨ok.h.halt.go ok.h0 ok.h1,ok.tl,ok.tb,ok.h0,ok.h1⟩ rfl (by simp) (by simp) rfl (by simp),fun _=>.inr ?_⟩
  ·rw [e2]
   show _=(⟨q.h.halt.go q.here,q.m,[],[]⟩:Sv)
   rw [hh]
  ·rw [e2]
   simp [Hv.halt,Hv.go]
 rw [if_neg h0] at hE ⊢
 by_cases h1:rg q.h 17=1
 ·rw [if_pos h1] at hE ⊢
  refine ⟨fit_on (X:=q.h) (o:=[rg q.h 10]) (s:=[]) ?_ ⟨ok.h,ok.tl,ok.tb,ok.h0,ok.h1⟩ ov hh rfl rfl st rfl (by simp) rfl (by simp),fun h=>?_⟩
  ·rw [ins_on (Y:=q.h) (res:=none) hE st (by omega)]
   rfl
  ·have:q.over=true:=h
   rw [ov] at this
   cases this
 ·rw [if_neg h1] at hE ⊢
  have t:=fit_trap (bf:=bf) (bt:=bt) (rd:=rd) (c:=5) ok hh (r1:=r1) (r2:=r2) (im:=im) (op:=op) hE
  exact ⟨t.1,fun _=>.inr t.2⟩
end
end Go.Proofs.YtchllaeembmioaaGreatDoor.Ts
namespace Go.Proofs.YtchllaeembmioaaGreatDoor.Ts
open Mm Wd Mi Bk
open Hh hiding Rn

section
variable {bf bt steps a op rd r1 r2 im : Int}
theorem body_if (h1:r1<32)(h2:r2<32)(ho:5≤op∧op≤10):BodyI bf bt steps a op rd r1 r2 im [⟨100+op,0,r1,r2,lo (a+lo im)⟩]:=fun q ov ok st z hh hl=>by
 rw [one_run ov,mic_op (c:=100) (k:=op) (by omega) (by omega) rfl (by omega)]
 unfold mOp
 rw [if_pos rfl]
 simp only [get_low q h1,get_low q h2]
 have hE:eff (q.h.go a) q.m op (rg q.h r1.toNat) (rg q.h r2.toNat) (lo im)=⟨q.h.go a,q.m,[],[],none⟩:=by
  unfold eff
  rw [if_neg (by omega),if_neg (by omega),if_neg (by omega),if_neg (by omega),if_neg (by omega),if_neg (by omega),if_neg (by omega),if_neg (by omega),if_neg (by omega),if_neg (by omega)]
 have e:ins (q.h.go a) q.m op rd r1 r2 im=done (eff (q.h.go a) q.m op (rg q.h r1.toNat) (rg q.h r2.toNat) (lo im)) rd.toNat (nxt (q.h.go a) op (rg q.h r1.toNat) (rg q.h r2.toNat) (lo im)):=rfl
 rw [e,hE]
 have ed:∀x,done ⟨q.h.go a,q.m,[],[],none⟩ rd.toNat x=⟨q.h.go x,q.m,[],[]⟩:=fun x=>by
  unfold done Hv.put Hv.on
  simp only
  rw [if_pos (by show q.h.state=0;exact st),go_go]
 rw [ed]
 have hlast:lastOp op=true:=by unfold lastOp;exact decide_eq_true (by omega)
 by_cases hk:holds op (rg q.h r1.toNat) (rg q.h r2.toNat)=true
 ·rw [if_pos hk]
  have en:nxt (q.h.go a) op (rg q.h r1.toNat) (rg q.h r2.toNat) (lo im)=lo (a+lo im):=by
   unfold nxt
   rw [if_neg (by omega),if_pos (.inr hk)]
   rfl
  rw [en]
  exact ⟨fit_end (o:=[]) (s:=[]) rfl (ok.stop (W.lo _)) rfl (by simp [Rn.stop]) (by simp [Rn.stop]) rfl (by simp [Rn.stop]),fun _=>.inl hlast⟩
 ·rw [if_neg hk]
  have en:nxt (q.h.go a) op (rg q.h r1.toNat) (rg q.h r2.toNat) (lo im)=lo (a+4):=by
   unfold nxt
   rw [if_neg (by omega),if_neg (by simp [hk];omega)]
   rfl
  rw [en]
  exact ⟨fit_on (X:=q.h) (o:=[]) (s:=[]) rfl ok ov hh rfl rfl st (by simp) (by simp) rfl (by simp),fun _=>.inl hlast⟩
theorem fit_jump {q q':Mi.Rn}{x pc:Int}(ok:q'.Ok)(st:q.h.state=0)(ov:q'.over=true)(hE:eff (q.h.go a) q.m op (rg q.h r1.toNat) (rg q.h r2.toNat) (lo im)=⟨q.h.go a,q.m,[],[],some x⟩)(hN:nxt (q.h.go a) op (rg q.h r1.toNat) (rg q.h r2.toNat) (lo im)=pc)(hh:q'.h=(q.h.set rd.toNat x).go pc)(hm:q'.m=q.m)(ho:q'.out=q.out)(hs:q'.sto=q.sto)(hn:q'.n=q.n)(hw:q'.own=q.own):Fit bf bt a q (ins (q.h.go a) q.m op rd r1 r2 im) q':=by
 have e:ins (q.h.go a) q.m op rd r1 r2 im=done (eff (q.h.go a) q.m op (rg q.h r1.toNat) (rg q.h r2.toNat) (lo im)) rd.toNat (nxt (q.h.go a) op (rg q.h r1.toNat) (rg q.h r2.toNat) (lo im)):=rfl
 refine fit_end (o:=[]) (s:=[]) ?_ ok ov (by simp [ho]) (by simp [hs]) hn (by simp [hw])
 rw [e,hE,hN]
 unfold done
 simp only
 rw [put_go]
 unfold Hv.on
 rw [if_pos (by show (q.h.put rd.toNat (some x)).state=0;rw [(put_st _ _ _).1];exact st),go_go,hh,hm]
 rfl
theorem mrun2 {q:Mi.Rn}(ho:q.over=false)(i:Mv)(is:List Mv):mrun bf bt steps q (i::is)=mrun bf bt steps (mic bf bt steps q i) is:=by rw [mrun,if_neg (by simp [ho])]
theorem put_over (q:Mi.Rn)(k x:Int):(q.put k x).over=q.over:=by unfold Rn.put;split<;>rfl
theorem mic_set {q:Mi.Rn}(d x:Int):mic bf bt steps q ⟨2,d,0,0,x⟩=q.put d x:=by unfold mic;rw [if_neg (by simp),if_pos rfl]
theorem mic_go {q:Mi.Rn}(x:Int):mic bf bt steps q ⟨3,0,0,0,x⟩=q.stop x:=by unfold mic;rw [if_neg (by simp),if_neg (by simp),if_pos rfl]
theorem mic_reg {q:Mi.Rn}(r x:Int):mic bf bt steps q ⟨4,0,r,0,x⟩=q.stop (lo (q.get r+x)-lo (q.get r+x)%2):=by unfold mic;rw [if_neg (by simp),if_neg (by simp),if_neg (by simp),if_pos rfl]
theorem mic_add {q:Mi.Rn}(d r x:Int):mic bf bt steps q ⟨528,d,r,0,x⟩=q.put d (alu 28 (q.get r) x):=by
 rw [mic_op (c:=500) (k:=28) (by omega) (by omega) rfl (by omega)]
 unfold mOp
 rw [if_neg (by omega),if_neg (by omega),if_neg (by omega),if_neg (by omega),if_pos rfl]
theorem alu_add (x y:Int):alu 28 x y=lo (x+y):=by unfold alu;rw [if_pos rfl]
theorem lo_id {x:Int}(h:W x):lo x=x:=Int.emod_eq_of_lt h.1 h.2
theorem body_jal (hr:rd<32)(ho:op=3):BodyI bf bt steps a op rd r1 r2 im [⟨2,rd,0,0,lo (a+4)⟩,⟨3,0,0,0,lo (a+lo im)⟩]:=fun q ov ok st z hh hl=>by
 subst ho
 rw [mrun2 ov,mic_set,one_run (by rw [put_over];exact ov),mic_go]
 refine ⟨?_,fun _=>.inl rfl⟩
 have okp:=ok.put rd (W.lo (a+4))
 rw [put_low q hr] at okp ⊢
 refine fit_jump (x:=lo (a+4)) (pc:=lo (a+lo im)) (okp.stop (W.lo _)) st rfl ?_ ?_ rfl rfl rfl rfl rfl rfl
 ·unfold eff
  rw [if_neg (by omega),if_neg (by omega),if_pos (by omega)]
  rfl
 ·unfold nxt
  rw [if_neg (by omega),if_pos (.inl rfl)]
  rfl
theorem eff_jalr (h:Hv)(l:List UInt8)(A B n:Int):eff (h.go a) l 4 A B n=⟨h.go a,l,[],[],some (lo (a+4))⟩:=by
 unfold eff
 rw [if_neg (by omega),if_neg (by omega),if_pos (by omega)]
 rfl
theorem nxt_jalr (h:Hv)(A B n:Int):nxt (h.go a) 4 A B n=lo (A+n)-lo (A+n)%2:=by unfold nxt;rw [if_pos rfl]
theorem go2_w (x:Int):W (lo x-lo x%2):=by have:=W.lo x;unfold W at *;omega
theorem put_hi (q:Mi.Rn){k:Int}(h:32≤k)(x:Int):q.put k x={ q with tm:=q.tm.set (k-32).toNat x }:=by unfold Rn.put;rw [if_pos h]
theorem get_hi {q:Mi.Rn}(ok:q.Ok){t:Int}(h0:32≤t)(h1:t<36)(x:Int):(q.put t x).get t=x:=by
 rw [put_hi q h0]
 unfold Rn.get
 rw [if_neg (by omega)]
 show (q.tm.set (t-32).toNat x).getD (t-32).toNat 0=x
 rw [tm_set,if_pos ⟨rfl,by rw [ok.tl];omega⟩]
theorem get_hi_low (q:Mi.Rn){t:Int}(h0:32≤t){k:Int}(hk:k<32)(x y:Int):(q.put k x).get t=q.get t:=by
 rw [put_low q hk]
 unfold Rn.get
 rw [if_neg (by omega),if_neg (by omega)]
theorem body_jalr2 (t:Int)(h0:32≤t)(h1:t<36)(hr:rd<32)(hr1:r1<32)(ho:op=4):BodyI bf bt steps a op rd r1 r2 im [⟨528,t,r1,0,lo im⟩,⟨2,rd,0,0,lo (a+4)⟩,⟨4,0,t,0,0⟩]:=fun q ov ok st z hh hl=>by
 subst ho
 have eA:alu 28 (q.get r1) (lo im)=lo (rg q.h r1.toNat+lo im):=by rw [alu_add,get_low q hr1]
 rw [mrun2 ov,mic_add,eA]
 have ok1:=ok.put t (W.lo (rg q.h r1.toNat+lo im))
 rw [mrun2 (by rw [put_over];exact ov),mic_set,one_run (by rw [put_over,put_over];exact ov),mic_reg]
 rw [get_hi_low _ h0 hr _ 0,get_hi ok h0 h1,Int.add_zero,lo_id (W.lo _)]
 refine ⟨?_,fun _=>.inl rfl⟩
 have ok2:=(ok1.put rd (W.lo (a+4))).stop (go2_w (rg q.h r1.toNat+lo im))
 rw [put_low _ hr,put_hi q h0] at ok2 ⊢
 exact fit_jump (x:=lo (a+4)) (pc:=lo (rg q.h r1.toNat+lo im)-lo (rg q.h r1.toNat+lo im)%2) ok2 st rfl (eff_jalr _ _ _ _ _) (nxt_jalr _ _ _ _) rfl rfl rfl rfl rfl rfl
theorem fit_put2 {q q2:Mi.Rn}{s:List (Int×Int)}{x:Int}(hE:eff (q.h.go a) q.m op (rg q.h r1.toNat) (rg q.h r2.toNat) (lo im)=⟨q2.h.go a,q2.m,[],s,some x⟩)(ok:q2.Ok)(ov:q2.over=false)(st:q2.h.state=0)(hpc:q2.h.pc=q.h.pc)(hh:q2.here=a)(ho:q2.out=q.out)(hs:q2.sto=q.sto++s)(hn:q2.n=q.n)(hw:q2.own=(q.own || s.any (meet bf bt)))(hr:rd<32)(wx:W x)(hx:¬op=3∧¬op=4∧(op<5∨10<op)):Fit bf bt a q (ins (q.h.go a) q.m op rd r1 r2 im) (q2.put rd x):=by
 have okp:=ok.put rd wx
 rw [put_low q2 hr] at okp ⊢
 refine fit_on (X:=q2.h.set rd.toNat x) (o:=[]) (s:=s) (ins_on (res:=some x) hE st hx) okp ov hh rfl ?_ ?_ (by simp [ho]) hs hn hw
 ·exact (put_st q2.h rd.toNat (some x)).2.trans hpc
 ·exact (put_st q2.h rd.toNat (some x)).1.trans st
theorem body_atom (hr:rd<32)(h1:r1<32)(h2:r2<32)(ho:46≤op∧op≤56):BodyI bf bt steps a op rd r1 r2 im [⟨600+op,rd,r1,r2,0⟩]:=fun q ov ok st z hh hl=>by
 rw [one_run ov,mic_op (c:=600) (k:=op) (by omega) (by omega) rfl (by omega)]
 unfold mOp
 rw [if_neg (by omega),if_neg (by omega),if_neg (by omega),if_neg (by omega),if_neg (by omega),if_pos rfl]
 simp only [get_low q h1,get_low q h2]
 have wA:=ok.h.reg r1.toNat
 have wB:=ok.h.reg r2.toNat
 have hE:eff (q.h.go a) q.m op (rg q.h r1.toNat) (rg q.h r2.toNat) (lo im)=efAtom (q.h.go a) q.m op (rg q.h r1.toNat) (rg q.h r2.toNat):=by
  unfold eff
  rw [if_neg (by omega),if_neg (by omega),if_neg (by omega),if_neg (by omega),if_neg (by omega),if_neg (by omega),if_neg (by omega),if_pos ho]
 have hx:¬op=3∧¬op=4∧(op<5∨10<op):=by omega
 have no:∀{q2:Mi.Rn} {x:Int} {P:Prop},q2.over=false→(q2.put rd x).over=true→P:=fun e h=>by rw [put_over,e] at h;cases h
 unfold mAtom
 unfold efAtom at hE
 by_cases q6:op=46
 ·rw [if_pos q6] at hE ⊢
  unfold mLr
  unfold efLr at hE
  by_cases hk:ldOk q.m 13 (rg q.h r1.toNat)=true
  ·rw [if_pos hk] at hE ⊢
   exact ⟨fit_put2 (q:=q) (bf:=bf) (bt:=bt) (q2:={ q with h:=q.h.hold true (rg q.h r1.toNat) }) (s:=[]) hE (ok.hart (ok.h.hold true wA.1 wA.2)) ov st rfl hh rfl (by simp) rfl (by simp) hr (W.ldV _ _ _) hx,no (q2:={ q with h:=q.h.hold true (rg q.h r1.toNat) }) ov⟩
  ·rw [if_neg hk] at hE ⊢
   have t:=fit_trap (bf:=bf) (bt:=bt) (rd:=rd) (c:=3) ok hh hE
   exact ⟨t.1,fun _=>.inr t.2⟩
 rw [if_neg q6] at hE ⊢
 by_cases q7:op=47
 ·rw [if_pos q7] at hE ⊢
  unfold mSc
  unfold efSc at hE
  by_cases hk:ldOk q.m 13 (rg q.h r1.toNat)=true
  ·rw [if_pos hk] at hE ⊢
   have hm:=hits_at (op:=18) (bf:=bf) (bt:=bt) hl wA.1 (st_of_ld hk)
   have okH:Mi.Rn.Ok { q with h:=q.h.hold false 0 }:=ok.hart (ok.h.hold false (x:=0) (by omega) (by omega))
   by_cases hd:q.h.held=true∧q.h.heldAt=rg q.h r1.toNat
   ·rw [if_pos hd]
    have hd2:(q.h.go a).held=true∧(q.h.go a).heldAt=rg q.h r1.toNat:=hd
    rw [if_pos hd2] at hE
    exact ⟨fit_put2 (q:=q) (bf:=bf) (bt:=bt) (q2:={ q with h:=q.h.hold false 0,m:=stL q.m 18 (rg q.h r1.toNat) (rg q.h r2.toNat) }.stored bf bt (rg q.h r1.toNat) 4) (s:=[(rg q.h r1.toNat,4)]) hE ((okH.mem _).stored _ _ _ _) ov st rfl hh rfl rfl rfl (by show (q.own || hits bf bt _ 4)=_;rw [show hits bf bt (rg q.h r1.toNat) 4=meet bf bt (rg q.h r1.toNat,4) from hm];simp) hr .zero hx,no (q2:={ q with h:=q.h.hold false 0,m:=stL q.m 18 (rg q.h r1.toNat) (rg q.h r2.toNat) }.stored bf bt (rg q.h r1.toNat) 4) ov⟩
   ·rw [if_neg hd]
    have hd2:¬((q.h.go a).held=true∧(q.h.go a).heldAt=rg q.h r1.toNat):=hd
    rw [if_neg hd2] at hE
    exact ⟨fit_put2 (q:=q) (bf:=bf) (bt:=bt) (q2:={ q with h:=q.h.hold false 0 }) (s:=[]) hE okH ov st rfl hh rfl (by simp) rfl (by simp) hr .one hx,no (q2:={ q with h:=q.h.hold false 0 }) ov⟩
  ·rw [if_neg hk] at hE ⊢
   have t:=fit_trap (bf:=bf) (bt:=bt) (rd:=rd) (c:=4) ok hh hE
   exact ⟨t.1,fun _=>.inr t.2⟩
 rw [if_neg q7] at hE ⊢
 unfold mAmo
 unfold efAmo at hE
 by_cases hk:ldOk q.m 13 (rg q.h r1.toNat)=true
 ·rw [if_pos hk] at hE ⊢
  have hm:=hits_at (op:=18) (bf:=bf) (bt:=bt) hl wA.1 (st_of_ld hk)
  exact ⟨fit_put2 (q:=q) (bf:=bf) (bt:=bt) (q2:={ q with m:=stL q.m 18 (rg q.h r1.toNat) (amo op (ldV q.m 13 (rg q.h r1.toNat)) (rg q.h r2.toNat)) }.stored bf bt (rg q.h r1.toNat) 4) (s:=[(rg q.h r1.toNat,4)]) hE ((ok.mem _).stored _ _ _ _) ov st rfl hh rfl rfl rfl (by show (q.own || hits bf bt _ 4)=_;rw [show hits bf bt (rg q.h r1.toNat) 4=meet bf bt (rg q.h r1.toNat,4) from hm];simp) hr (W.ldV _ _ _) hx,no (q2:={ q with m:=stL q.m 18 (rg q.h r1.toNat) (amo op (ldV q.m 13 (rg q.h r1.toNat)) (rg q.h r2.toNat)) }.stored bf bt (rg q.h r1.toNat) 4) ov⟩
 ·rw [if_neg hk] at hE ⊢
  have t:=fit_trap (bf:=bf) (bt:=bt) (rd:=rd) (c:=4) ok hh hE
  exact ⟨t.1,fun _=>.inr t.2⟩
end
end Go.Proofs.YtchllaeembmioaaGreatDoor.Ts
namespace Go.Proofs.YtchllaeembmioaaGreatDoor.Ts
open Mm Wd Mi Bk
open Hh hiding Rn

variable {l : List UInt8} {pc : Int}
theorem blk_facts (l:List UInt8)(pc:Int):∀n k,(blk l pc n k).length≤n∧∀j,j<(blk l pc n k).length→ftC l (at4 pc (k+j))=0∧(blk l pc n k)[j]?=some (ldV l 13 (at4 pc (k+j)))∧(lastOp (Dc.dop (ldV l 13 (at4 pc (k+j))))=true→j+1=(blk l pc n k).length)
 | 0,k=>⟨Nat.le_refl _,fun j hj=>absurd hj (by simp [blk])⟩
 | n+1,k=>by
  by_cases h:ftC l (at4 pc k)=0
  ·cases hl:lastOp (Dc.dop (ldV l 13 (at4 pc k))) with
   | true=>
    rw [blk_last h hl]
    refine ⟨by simp,fun j hj=>?_⟩
    have hj0:j=0:=by simp at hj;omega
    subst hj0
    exact ⟨h,rfl,fun _=>rfl⟩
   | false=>
    rw [blk_on h hl]
    obtain ⟨ih1,ih2⟩:=blk_facts l pc n (k+1)
    refine ⟨by simp;omega,fun j hj=>?_⟩
    match j,hj with
    | 0,_=>exact ⟨h,rfl,fun q=>by rw [Nat.add_zero] at q;rw [hl] at q;cases q⟩
    | j+1,hj=>
     obtain ⟨a,b,c⟩:=ih2 j (by simp at hj;omega)
     rw [show k+1+j=k+(j+1) by omega] at a b c
     exact ⟨a,by simpa using b,fun q=>by have:=c q;simp;omega⟩
  ·rw [blk_stop h]
   exact ⟨by simp,fun j hj=>absurd hj (by simp)⟩
theorem ft_zero (h:ftC l pc=0):ldOk l 13 pc=true∧¬Dc.dop (ldV l 13 pc)=0:=by
 unfold ftC at h
 split at h
 ·rename_i q
  split at h
  ·cases h
  ·rename_i q2
   exact ⟨q,q2⟩
 ·cases h
theorem ld13 {a:Int}(h:ldOk l 13 a=true):a+4≤l.length:=by
 unfold ldOk thr at h
 simp only [decide_eq_true_eq] at h
 exact h.2.2
theorem blkd_of (hl : l.length ≤ 4096) (h0 : 0 ≤ pc) (h1 : pc < 4294967296) (hp : 0 < (blk l pc 16 0).length) : Blkd l pc (pc + 4 * ((blk l pc 16 0).length : Int)) (blk l pc 16 0).length (fun j => ldV l 13 (at4 pc j)) := by
  obtain ⟨_, f⟩ := blk_facts l pc 16 0
  have f : ∀ j, j < (blk l pc 16 0).length → ftC l (at4 pc j) = 0 ∧ (blk l pc 16 0)[j]? = some (ldV l 13 (at4 pc j)) ∧ (lastOp (Dc.dop (ldV l 13 (at4 pc j))) = true → j + 1 = (blk l pc 16 0).length) := fun j hj => by
    have := f j hj
    rwa [Nat.zero_add] at this
  have at_ : ∀ j, j ≤ (blk l pc 16 0).length → at4 pc j = pc + 4 * j := by
    intro j
    induction j with
    | zero => intro _; unfold at4; have : lo (pc + 4 * ((0 : Nat) : Int)) = pc := by rw [show pc + 4 * ((0 : Nat) : Int) = pc by omega]; exact Int.emod_eq_of_lt h0 h1
              rw [this]; omega
    | succ j ih =>
      intro hj
      have e := ih (by omega)
      have := ld13 (ft_zero (f j (by omega)).1).1
      unfold at4 at e ⊢
      rw [show lo (pc + 4 * ((j + 1 : Nat) : Int)) = pc + 4 * ((j + 1 : Nat) : Int) from Int.emod_eq_of_lt (by omega) (by unfold at4 at this; omega)]
  have hlast := ld13 (ft_zero (f ((blk l pc 16 0).length - 1) (by omega)).1).1
  rw [at_ _ (by omega)] at hlast
  exact ⟨hp, h0, rfl, hl, by omega, at_, fun j hj => (ft_zero (f j hj).1).1, fun j hj => (ft_zero (f j hj).1).2, fun j hj q => (f j hj).2.2 q⟩
theorem rd_bd (f x:Int):0≤Dc.rdF f x∧Dc.rdF f x<32:=by unfold Dc.rdF;split<;>omega
theorem rs1_bd (f x:Int):0≤Dc.rs1F f x∧Dc.rs1F f x<32:=by unfold Dc.rs1F;split<;>omega
theorem rs2_bd (f x:Int):0≤Dc.rs2F f x∧Dc.rs2F f x<32:=by unfold Dc.rs2F;split<;>omega
end Go.Proofs.YtchllaeembmioaaGreatDoor.Ts
