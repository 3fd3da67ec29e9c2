/-
  Rm1, Rm2, Ref3Walks: texts of ours that lie in one file.
-/
import Derived.Test.YtkdghgiajifbdaaDoorQ03
import Derived.Test.YtkdghgiajifbdaaDoorQ05
import Derived.Test.YtkdghgiajifbdaaDoorQ01
import Derived.Test.YtkdghgiajifbdaaDoorQ04
set_option linter.unusedVariables false
set_option linter.unusedSimpArgs false
set_option maxHeartbeats 8000000
set_option maxRecDepth 100000
namespace Go.Proofs.YtkdghgiajifbdaaDoor.Mi
open Go.ChangeShapes Go.WideShapes Go.ChangeAt Go.RowKit Mm Hh Hc

variable {w : World} {base g : Nat} {r : Rn} {bf bt : Int} {M O S : Value}
theorem retI {k:IntKind}{a b:Int}(h:a=b):Ending.returned (.int k a)=.returned (.int k b):=by rw [h]
theorem sum_any (a b:Int)(w:World)(ha:W a)(hb:W b):
  Calls Tryd.prog 41 #[.int .u32 a,.int .u32 b] w fun e w'=>e=.returned (.int .u32 (Wd.lo (a+b)))∧w'=w:=by
 go_enter Tryd.func41,Tryd.ntmps41
 go_wp2_with (go_at_call 75;refine (Rw.alu_28 _ _ _ ha.1 ha.2 hb.1 hb.2).mono ?_;rintro e w' ⟨rfl,rfl⟩)
 go_ret
 exact ⟨retI rfl,rfl⟩
theorem get_any (V:Ru w base g r bf bt)(k:Int)(h0:0≤k)(h1:k<36):
  Calls Tryd.prog 70 #[.pointer (some ⟨g,0,none⟩),.int .i64 k] w fun e w'=>e=.returned (.int .u32 (r.get k))∧w'=w:=by
 obtain ⟨M,O,S,V⟩:=V
 obtain ⟨k,rfl⟩:=Int.eq_ofNat_of_zero_le h0
 by_cases h:k<32
 ·have q:=V.reg h
  have e:r.get (k:Int)=rg r.h k:=if_pos (by omega)
  rw [e]
  clear e V
  generalize rg r.h k=x at *
  go_enter Tryd.func70,Tryd.ntmps70
  go_wp2
  go_ret
  exact ⟨rfl,rfl⟩
 ·obtain ⟨j,rfl⟩:∃j,k=32+j:=⟨k-32,by omega⟩
  have q:=V.tmp (j:=j) (by omega)
  have e:r.get ((32+j:Nat):Int)=r.tm.getD j 0:=by
   unfold Rn.get
   rw [if_neg (by omega),show (((32+j:Nat):Int)-32).toNat=j by omega]
  rw [e]
  clear e V
  generalize r.tm.getD j 0=x at *
  go_enter Tryd.func70,Tryd.ntmps70
  go_wp2
  go_ret
  exact ⟨rfl,rfl⟩
theorem put_any (V:Ru w base g r bf bt)(k x:Int)(h0:0≤k)(h1:k<36)(hx:W x):
  Calls Tryd.prog 69 #[.pointer (some ⟨g,0,none⟩),.int .i64 k,.int .u32 x] w fun e w'=>e=.returned (.tuple #[])∧Ru w' base g (r.put k x) bf bt∧Ch g w w':=by
 obtain ⟨M,O,S,V⟩:=V
 obtain ⟨k,rfl⟩:=Int.eq_ofNat_of_zero_le h0
 have HO:=V.ok.put k hx
 by_cases h:k<32
 ·by_cases hz:k=0
  ·subst hz
   have HR:Hid (Ru w base g (r.put ((0:Nat):Int) x) bf bt):=⟨M,O,S,V⟩
   clear V
   go_enter Tryd.func69,Tryd.ntmps69
   go_wp2
   go_end0
   exact ⟨rfl,HR.out,Ch.refl _ _⟩
  ·have q:=V.reg h
   have f:=V.fz k
   have e:r.put (k:Int) x={ r with h:={ r.h with regs:=r.h.regs.set k x } }:=by
    unfold Rn.put
    rw [if_neg (by omega),Int.toNat_natCast,Hv.set,if_neg hz]
   rw [e] at HO
   have HR:Hid (Ru (w.setCell ⟨g,k,none⟩ (.int .u32 x)) base g (r.put k x) bf bt):=by
    rw [e]
    exact ⟨M,O,S,V.set (uA_setH V.ok (by omega) (set_reg V.ok.h h x)) HO rfl rfl rfl⟩
   clear e V HO
   have hk:((k:Int) == 0)=false:=by simp;omega
   go_enter Tryd.func69,Tryd.ntmps69
   go_wp2
   go_end0
   exact ⟨rfl,HR.out,(Ch.refl _ _).setCell _ _⟩
 ·obtain ⟨j,rfl⟩:∃j,k=32+j:=⟨k-32,by omega⟩
  have q:=V.tmp (j:=j) (by omega)
  have f:=V.fz (41+j)
  have e:r.put ((32+j:Nat):Int) x={ r with tm:=r.tm.set j x }:=by
   unfold Rn.put
   rw [if_pos (by omega),show (((32+j:Nat):Int)-32).toNat=j by omega]
  rw [e] at HO
  have HR:Hid (Ru (w.setCell ⟨g,41+j,none⟩ (.int .u32 x)) base g (r.put ((32+j:Nat):Int) x) bf bt):=by
   rw [e]
   have a:=uA_setT (r:=r) (r':={ r with tm:=r.tm.set j x }) (M:=M) (O:=O) (S:=S) (M':=M) (O':=O) (S':=S) (bf:=bf) (bt:=bt) V.ok rfl (uT_setTm V.ok (j:=j) (by omega) x)
   rw [show 37+(4+j)=41+j by omega] at a
   exact ⟨M,O,S,V.set a HO rfl rfl rfl⟩
  clear e V HO
  go_enter Tryd.func69,Tryd.ntmps69
  go_wp2
  go_end0
  exact ⟨rfl,HR.out,(Ch.refl _ _).setCell _ _⟩
theorem RV.over (V:RV w base g r bf bt M O S):RV (w.setCell ⟨g,47,none⟩ (.bool true)) base g { r with over:=true } bf bt M O S:=
 V.set (uA_setT (r':={ r with over:=true }) (j:=8+2) V.ok rfl (uT_setF V.ok rfl rfl rfl)) ⟨V.ok.h,V.ok.tl,V.ok.tb,V.ok.h0,V.ok.h1⟩ rfl rfl rfl
theorem RV.hart (V:RV w base g r bf bt M O S){i:Nat}(hi:i<37){v:Value}{h':Hv}(e:(hL r.h).set i v=hL h')(ok:h'.Ok):RV (w.setCell ⟨g,i,none⟩ v) base g { r with h:=h' } bf bt M O S:=
 V.set (uA_setH V.ok hi e) (V.ok.hart ok) rfl rfl rfl
theorem stop_any (V:Ru w base g r bf bt)(pc:Int)(hx:W pc):
  Calls Tryd.prog 68 #[.pointer (some ⟨g,0,none⟩),.int .u32 pc] w fun e w'=>e=.returned (.tuple #[])∧Ru w' base g (r.stop pc) bf bt∧Ch g w w':=by
 obtain ⟨M,O,S,V⟩:=V
 have q0:=V.last 2
 have f:=V.fz
 have q1:=V.over.fld (j:=0) (by omega)
 have HR:Hid (Ru ((w.setCell ⟨g,47,none⟩ (.bool true)).setCell ⟨g,32,none⟩ (.int .u32 pc)) base g (r.stop pc) bf bt):=⟨M,O,S,V.over.hart (by omega) (set_pc V.ok.h pc) (V.ok.h.go hx.1 hx.2)⟩
 have q2:=V.fld (j:=0) (by omega)
 simp at q0 q2
 clear V q1
 go_enter Tryd.func68,Tryd.ntmps68
 go_wp2
 go_end0
 exact ⟨rfl,HR.out,((Ch.refl _ _).setCell _ _).setCell _ _⟩
theorem rtrap_any (V:Ru w base g r bf bt)(c:Int):
  Calls Tryd.prog 71 #[.pointer (some ⟨g,0,none⟩),.int .i64 c] w fun e w'=>e=.returned (.tuple #[])∧Ru w' base g (r.trap c) bf bt∧Ch g w w':=by
 obtain ⟨M,O,S,V⟩:=V
 have V1:=V.hart (i:=35) (by omega) (set_state V.ok.h 2) ⟨V.ok.h.len,V.ok.h.reg,V.ok.h.pc0,V.ok.h.pc1,V.ok.h.at0,V.ok.h.at1⟩
 have V2:=V1.hart (i:=36) (by omega) (set_cause V1.ok.h c) (V.ok.h.trap c)
 have HC:=stop_any ⟨M,O,S,V2⟩ r.here ⟨V.ok.h0,V.ok.h1⟩
 have HS:Hid (Calls Tryd.prog 68 #[.pointer (some ⟨g,0,none⟩),.int .u32 r.here] ((w.setCell ⟨g,35,none⟩ (.int .i64 2)).setCell ⟨g,36,none⟩ (.int .i64 c)) fun e w'=>e=.returned (.tuple #[])∧Ru w' base g (r.trap c) bf bt∧Ch g ((w.setCell ⟨g,35,none⟩ (.int .i64 2)).setCell ⟨g,36,none⟩ (.int .i64 c)) w'):=HC
 have q0:=V.fld (j:=3) (by omega)
 have q1:=V.fld (j:=4) (by omega)
 have q2:=V.last 0
 have f:=V.fz
 simp at q0 q1 q2
 clear V V1 V2 HC
 go_enter Tryd.func71,Tryd.ntmps71
 go_wp2_with fail
 refine HS.out.mono ?_
 rintro e w1 ⟨rfl,R1,C1⟩
 have HR:Hid (Ru w1 base g (r.trap c) bf bt):=R1
 have HCh:Hid (Ch g w w1):=(((Ch.refl _ _).setCell _ _).setCell _ _).trans C1
 clear HS R1 C1 q0 q1 q2 f
 go_wp2_with fail
 go_end0
 exact ⟨rfl,HR.out,HCh.out⟩
end Go.Proofs.YtkdghgiajifbdaaDoor.Mi
namespace Go.Proofs.YtkdghgiajifbdaaDoor.Mi
open Go.ChangeShapes Go.WideShapes Go.ChangeAt Go.RowKit Mm Hh Hc

variable {base g n e sz : Nat} {w w' : World} {r : Rn} {bf bt : Int} {M O S v : Value} {xs : List Value}
structure Fu (base:Nat) (w w':World):Prop where
 below:Below base w w'
 keep:∀(k:Nat) (o:Array Value) (t:Nat) (f:Nat×Nat),w.heap[k]?=some (.cells o t f)→t≠91→t≠24→t≠46→w'.heap[k]?=w.heap[k]?
theorem Fu.trans {a b c:World}(h:Fu base a b)(q:Fu base b c):Fu base a c:=
 ⟨h.below.trans q.below,fun k o t f e n1 n2 n3=>by
  have e1:=h.keep k o t f e n1 n2 n3
  exact (q.keep k o t f (e1.trans e) n1 n2 n3).trans e1⟩
theorem Fu.ofGr (h:Gr w w')(hb:base≤w.heap.size):Fu base w w':=
 ⟨Below.mono h hb,fun k o t f e _ _ _=>h.block k (gs e).1⟩
theorem RV.fu (V:RV w base g r bf bt M O S)(q:Ch g w w'):Fu base w w':=
 ⟨V.below q,fun k o t f e n1 _ _=>q.block k (gs e).1 (fun h=>ne_of_types e V.blk n1 (by injection h))⟩
theorem Ru.fu (V:Ru w base g r bf bt)(q:Ch g w w'):Fu base w w':=by
 obtain ⟨M,O,S,V⟩:=V
 exact V.fu q
theorem Ru.base_le (V:Ru w base g r bf bt):base≤w.heap.size:=by
 obtain ⟨M,O,S,V⟩:=V
 exact Nat.le_trans V.bg (Nat.le_of_lt V.lt)
theorem Ru.ok (V:Ru w base g r bf bt):r.Ok:=by
 obtain ⟨M,O,S,V⟩:=V
 exact V.ok
theorem grown_at (hO:w.ownsRow base e sz O n xs)(q:w.grownBy w' O.ownBlock){t:Nat}(ht:t≠e){k:Nat}{o:Array Value}{f:Nat×Nat}(hk:w.heap[k]?=some (.cells o t f)):w'.heap[k]?=w.heap[k]?:=
 q.block k (gs hk).1 (fun h=>by
  rcases hO.2 with ⟨h0,_⟩|⟨g',cap,cur,hv,_,hg,_⟩
  ·rw [h0] at h;cases h
  ·rw [hv] at h
   injection h with h
   exact ne_of_types hk hg ht h)
theorem owns_word (h:w.ownsRow base e sz v n xs):∃a c,v=.slice a n c:=by
 rcases h.2 with ⟨rfl,rfl⟩|⟨g,cap,_,rfl,_⟩
 ·exact ⟨none,0,rfl⟩
 ·exact ⟨_,cap,rfl⟩
theorem RV.appS {w1 w2:World}(V:RV w base g r bf bt M O S)(G:Gr w w1)(q:w1.grownBy w2 S.ownBlock){ss:List (Int×Int)}(hown:w2.ownsRow base 46 2 v ss.length (rgs ss)):
  w2.cell? ⟨g,40,none⟩=some S∧w2.frozen? ⟨g,40,none⟩=false∧RV (w2.setCell ⟨g,40,none⟩ v) base g { r with sto:=ss } bf bt M O v∧Fu base w (w2.setCell ⟨g,40,none⟩ v):=by
 have V1:=V.of G
 have st:∀{t:Nat},t≠46→∀{k:Nat} {o:Array Value} {f:Nat×Nat},w1.heap[k]?=some (.cells o t f)→w2.heap[k]?=w1.heap[k]?:=fun ht _ _ _ hk=>grown_at V1.sto q ht hk
 have hb:=(st (by decide) V1.blk).trans V1.blk
 have ne:∀{t:Nat},t≠91→∀{k:Nat} {o:Array Value} {f:Nat×Nat},w2.heap[k]?=some (.cells o t f)→(w2.setCell ⟨g,40,none⟩ v).heap[k]?=w2.heap[k]?:=fun ht _ _ _ hk=>hso (by exact ne_of_types hk hb ht)
 have two:∀{t:Nat},t≠91→t≠46→∀{k:Nat} {o:Array Value} {f:Nat×Nat},w1.heap[k]?=some (.cells o t f)→(w2.setCell ⟨g,40,none⟩ v).heap[k]?=w1.heap[k]?:=fun h1 h2 _ _ _ hk=>by
  have e:=st h2 hk
  exact (ne h1 (e.trans hk)).trans e
 have hbase:base≤w1.heap.size:=Nat.le_trans V1.bg (Nat.le_of_lt V1.lt)
 have bl:Below base w1 (w2.setCell ⟨g,40,none⟩ v):=Below.setCell ((Below.refl base w1).grown q hbase fun k e=>(V1.sto.lt k e).1) (by exact V1.bg) _
 refine ⟨(cr hb).trans ((uA_t V.ok 3).trans rfl),fzr hb,⟨⟨V.ok.h,V.ok.tl,V.ok.tb,V.ok.h0,V.ok.h1⟩,V.bg,?_,V1.mem.keep (fun k hk=>bl.block k hk) (fun k o f hk=>two (by decide) (by decide) hk),owns_to V1.out fun k o f hk=>two (by decide) (by decide) hk,owns_to hown fun k o f hk=>ne (by decide) hk⟩,?_⟩
 ·rw [hss hb,uA_setT (r':={ r with sto:=ss }) (M':=M) (O':=O) (S':=v) (j:=3) V.ok rfl rfl]
 ·refine (Fu.ofGr G (Nat.le_trans V.bg (Nat.le_of_lt V.lt))).trans ⟨bl,fun k o t f e n1 n2 n3=>two n1 n3 e⟩
theorem RV.setOwn (V:RV w base g r bf bt M O S)(b:Bool):RV (w.setCell ⟨g,46,none⟩ (.bool b)) base g { r with own:=b } bf bt M O S:=
 V.set (uA_setT (r':={ r with own:=b }) (j:=8+1) V.ok rfl (uT_setF V.ok rfl rfl rfl)) ⟨V.ok.h,V.ok.tl,V.ok.tb,V.ok.h0,V.ok.h1⟩ rfl rfl rfl
theorem stored_any (V:Ru w base g r bf bt)(p:Int)(many:Nat)(hp:W p)(hm:many≤4)(hs:r.sto.length≤1000000):
  Calls Tryd.prog 74 #[.pointer (some ⟨g,0,none⟩),.int .u32 p,.int .i64 many] w fun e w'=>e=.returned (.tuple #[])∧Ru w' base g (r.stored bf bt p many) bf bt∧Fu base w w':=by
 obtain ⟨M,O,S,V⟩:=V
 obtain ⟨a,c,rfl⟩:=owns_word V.sto
 have HV:Hid (RV w base g r bf bt M O (.slice a r.sto.length c)):=V
 have q40:w.cell? ⟨g,40,none⟩=some (.slice a r.sto.length c):=(V.top 3).trans rfl
 have hb:base≤w.heap.size:=Nat.le_trans V.bg (Nat.le_of_lt V.lt)
 have hgl:=V.lt
 obtain ⟨i0,hi,hz0,hz1,hz2⟩:=info_parts infoR
 have HP:Hid (W p):=hp
 clear V
 go_enter Tryd.func74,Tryd.ntmps74
 go_wp2_with (at_builtin;refine wpList_append_own _ rfl (.tmp 13) (.tmp 20) 48 rfl base 46 i0 (.agg #[.int .u32 0,.int .u32 0]) 2 8 Tryd.underlying48 hi hz0 hz1 hz2 rfl (by decide) (.slice a r.sto.length c) r.sto.length (rgs r.sto) rfl (owns_gr HV.out.sto ((Gr.refl _).alloc _)) ⟨w.heap.size,0,none⟩ 1 1 [.int .u32 p,.int .u32 ((p+many)%4294967296)] rfl rfl (two_cells (by simp) (by simp)) (two_one _ _) (by unfold maxLen;omega) (by omega) (by simp;omega) ?_;intro v' w2 hown hgrow _;obtain ⟨a',c',rfl⟩:=owns_word hown;obtain ⟨z1,z2,V2,F2⟩:=HV.out.appS (ss:=r.sto++[(p,(many:Int))]) ((Gr.refl _).alloc _) hgrow (by rw [rgs_snoc,List.length_append];exact hown);have HV2:Hid _:=V2;have HF2:Hid _:=F2;clear V2 F2 hown hgrow)
 clear HV q40 z1 z2
 generalize w2.setCell ⟨g,40,none⟩ (.slice a' (r.sto.length+1) c')=w3 at *
 have HV3:Hid _:=HV2
 have HF3:Hid (Fu base w w3):=HF2
 clear HV2 HF2
 generalize (Value.slice a' (r.sto.length+1) c')=S2 at *
 go_loopw [6] (fun i wr=>∃j:Nat,j≤many∧i=.int .i64 j∧RV wr base g { r with sto:=r.sto++[(p,(many:Int))],own:=r.own || hits bf bt p j } bf bt M O S2∧Fu base w wr) (fun i _=>many-(intOf i).toNat)
 case atStart=>exact ⟨0,Nat.zero_le _,rfl,by have:=HV3.out;simpa [hits] using this,HF3.out⟩
 case round=>
  obtain ⟨j,hj,rfl,V,F⟩:=hrel
  have k48:wr.cell? ⟨g,48,none⟩=some (.int .u32 bf):=(V.last 3).trans rfl
  have k49:wr.cell? ⟨g,49,none⟩=some (.int .u32 bt):=(V.last 4).trans rfl
  have k46:wr.cell? ⟨g,46,none⟩=some (.bool (r.own || hits bf bt p j)):=(V.last 1).trans rfl
  have f46:=V.fz 46
  have HVr:Hid _:=V
  have HFr:Hid (Fu base w wr):=F
  have HFx:Hid (Fu base wr (wr.setCell ⟨g,46,none⟩ (.bool true))):=V.fu ((Ch.refl _ _).setCell _ _)
  have HVx:Hid (RV (wr.setCell ⟨g,46,none⟩ (.bool true)) base g { r with sto:=r.sto++[(p,(many:Int))],own:=true } bf bt M O S2):=V.setOwn true
  clear V F
  by_cases hlt:j<many
  ·have HH:Hid (hits bf bt p (j+1)=(hits bf bt p j || decide (bf≤(p+(j:Int))%4294967296∧(p+(j:Int))%4294967296<bt))):=rfl
   generalize hits bf bt p j=B at *
   by_cases c1:bf≤(p+(j:Int))%4294967296
   ·by_cases c2:(p+(j:Int))%4294967296<bt
    ·have e:hits bf bt p (j+1)=true:=by rw [HH.out,decide_eq_true ⟨c1,c2⟩,Bool.or_true]
     have HE:Hid (hits bf bt p (j+1)=true):=e
     clear e HH
     go_wp2
     go_roundw
     case rel=>exact ⟨j+1,by omega,by go_num,by rw [HE.out,Bool.or_true];exact HVx.out,HFr.out.trans HFx.out⟩
     case measure=>simp [intOf];omega
    ·have e:hits bf bt p (j+1)=B:=by rw [HH.out,decide_eq_false (fun h=>c2 h.2),Bool.or_false]
     have HE:Hid (hits bf bt p (j+1)=B):=e
     clear e HH
     go_wp2
     go_roundw
     case rel=>exact ⟨j+1,by omega,by go_num,by rw [HE.out];exact HVr.out,HFr.out⟩
     case measure=>simp [intOf];omega
   ·have e:hits bf bt p (j+1)=B:=by rw [HH.out,decide_eq_false (fun h=>c1 h.1),Bool.or_false]
    have HE:Hid (hits bf bt p (j+1)=B):=e
    clear e HH
    go_wp2
    go_roundw
    case rel=>exact ⟨j+1,by omega,by go_num,by rw [HE.out];exact HVr.out,HFr.out⟩
    case measure=>simp [intOf];omega
  ·have e:j=many:=by omega
   subst e
   go_wp2
   go_end0
   exact ⟨rfl,⟨M,O,S2,HVr.out⟩,HFr.out⟩
end Go.Proofs.YtkdghgiajifbdaaDoor.Mi
namespace Go.Proofs.YtkdghgiajifbdaaDoor.Mr
open Go.ChangeShapes Go.WideShapes Go.ChangeAt Go.RowKit Mm

variable {k n : Nat} {op X P x b a : Int} {ao : Option Addr} {l : List UInt8} {w : World}
theorem Size_load (op:Int)(w:World):Calls Tryd.prog 65 #[.int .i64 op,.bool false] w fun e w'=>e=.returned (.int .i64 (lsz op:Nat))∧w'=w:=by
 go_enter Tryd.func65,Tryd.ntmps65
 go_wp2
 all_goals
  go_ret
  refine ⟨ret_int ?_,rfl⟩
  simp only [beq_iff_eq,beq_eq_false_iff_ne,ne_eq] at *
  unfold lsz
  repeat' split
  all_goals omega
theorem Size_store (op:Int)(w:World):Calls Tryd.prog 65 #[.int .i64 op,.bool true] w fun e w'=>e=.returned (.int .i64 (ssz op:Nat))∧w'=w:=by
 go_enter Tryd.func65,Tryd.ntmps65
 go_wp2
 all_goals
  go_ret
  refine ⟨ret_int ?_,rfl⟩
  simp only [beq_iff_eq,beq_eq_false_iff_ne,ne_eq] at *
  unfold ssz
  repeat' split
  all_goals omega
theorem there_any (ao:Option Addr)(n cap:Nat)(s:Nat)(a:Int)(w:World)(hn:n≤140737488351232)(hs:s≤4)(h0:0≤a)(h1:a<4294967296):
  Calls Tryd.prog 66 #[.slice ao n cap,.int .u32 a,.int .i64 (s:Nat)] w fun e w'=>e=.returned (.bool (thr n s a))∧w'=w:=by
 by_cases hs0:s=0
 ·subst hs0
  go_enter Tryd.func66,Tryd.ntmps66
  go_wp2
  go_ret
  exact ⟨ret_bool (thr_f (by omega)),rfl⟩
 by_cases hm:a%(s:Int)=0
 ·by_cases hl:a+s≤n
  ·go_enter Tryd.func66,Tryd.ntmps66
   go_wp2
   go_ret
   exact ⟨ret_bool (thr_t (by omega) hm hl),rfl⟩
  ·go_enter Tryd.func66,Tryd.ntmps66
   go_wp2
   go_ret
   exact ⟨ret_bool (thr_f (by omega)),rfl⟩
 ·go_enter Tryd.func66,Tryd.ntmps66
  go_wp2
  go_ret
  exact ⟨ret_bool (thr_f (by omega)),rfl⟩
theorem Load_no (ao:Option Addr)(n cap:Nat)(op a:Int)(w:World)(hn:n≤140737488351232)(h0:0≤a)(h1:a<4294967296)(hok:thr n (lsz op) a=false):
  Calls Tryd.prog 38 #[.slice ao n cap,.int .i64 op,.int .u32 a] w fun e w'=>e=.returned (.tuple #[.int .u32 0,.bool false])∧w'=w:=by
 have hs:=lsz_le op
 go_enter Tryd.func38,Tryd.ntmps38
 go_wp2_with (first|(go_at_call 65;refine (Size_load _ _).mono ?_;rintro e w' ⟨rfl,rfl⟩)|(go_at_call 66;refine (there_any _ _ _ _ _ _ hn hs (by omega) (by omega)).mono ?_;rintro e w' ⟨rfl,rfl⟩))
 go_ret2
 exact ⟨rfl,rfl⟩
def p8 (k:Nat):Int:=256 ^ k
theorem p8_succ (k:Nat):p8 (k+1)=256*p8 k:=by unfold p8;rw [Int.pow_succ,Int.mul_comm]
theorem p8_bd (hk:k≤4):1≤p8 k∧p8 k≤4294967296:=by
 have h:k=0∨k=1∨k=2∨k=3∨k=4:=by omega
 rcases h with rfl|rfl|rfl|rfl|rfl<;>decide
theorem p8_bd3 (hk:k<4):1≤p8 k∧p8 k≤16777216:=by
 have h:k=0∨k=1∨k=2∨k=3:=by omega
 rcases h with rfl|rfl|rfl|rfl<;>decide
theorem wide_neg (h11:op=11→P=256)(h12:op=12→P=65536)(h:op=11∨op=12)(h0:0≤X)(h1:X<P)(hg:P/2≤X):Wd.lo (X-P)=wide op X:=by
 unfold Wd.lo wide
 rcases h with h|h
 ·have:=h11 h;rw [if_pos h,if_neg (by omega)];omega
 ·have:=h12 h;rw [if_neg (by omega),if_pos h,if_neg (by omega)];omega
theorem wide_pos (h11:op=11→P=256)(h12:op=12→P=65536)(h:(op=11∨op=12)→¬P/2≤X)(h0:0≤X)(h1:X<P)(hP:P≤4294967296):Wd.lo X=wide op X:=by
 unfold Wd.lo wide
 by_cases e1:op=11
 ·have:=h11 e1;have:=h (.inl e1);rw [if_pos e1,if_pos (by omega)];omega
 ·by_cases e2:op=12
  ·have:=h12 e2;have:=h (.inr e2);rw [if_neg e1,if_pos e2,if_pos (by omega)];omega
  ·rw [if_neg e1,if_neg e2];omega
theorem ret2 {k:IntKind}{y:Int}{b:Bool}(h:x=y):Ending.returned (.tuple #[.int k x,.bool b])=.returned (.tuple #[.int k y,.bool b]):=by rw [h]
theorem beq_t (h:a=b):(a == b)=true:=by simp [h]
theorem beq_f (h:¬a=b):(a == b)=false:=by simp [h]
theorem Load_yes (b o n cap:Nat)(l:List UInt8)(op:Int)(a:Nat)(w:World)(hn:n≤140737488351232)(hl:l.length=n)(ha:a<4294967296)
  (hc:∀t,t<n→w.cell? ⟨b,o+t,none⟩=some (.int .u8 (bv l t)))(hok:thr n (lsz op) (a:Int)=true):
  Calls Tryd.prog 38 #[.slice (some ⟨b,o,none⟩) n cap,.int .i64 op,.int .u32 a] w fun e w'=>e=.returned (.tuple #[.int .u32 (wide op (raw l a (lsz op))),.bool true])∧w'=w:=by
 have hs:=lsz_le op
 have hk:=hok
 simp only [thr,decide_eq_true_eq] at hk
 obtain ⟨k0,k1,k2⟩:=hk
 have hroom:=lsz_room k1 ha k0
 go_enter Tryd.func38,Tryd.ntmps38
 go_wp2_with (first|(go_at_call 65;refine (Size_load _ _).mono ?_;rintro e w' ⟨rfl,rfl⟩)|(go_at_call 66;refine (there_any _ _ _ _ _ _ hn hs (by omega) (by omega)).mono ?_;rintro e w' ⟨rfl,rfl⟩))
 go_loop [9,10,11] (fun x p i=>∃k:Nat,k≤lsz op∧i=.int .i64 k∧p=.int .i64 (p8 k)∧x=.int .i64 (raw l a k)) (fun _ _ i=>lsz op-(intOf i).toNat)
 case atStart=>exact ⟨0,Nat.zero_le _,rfl,rfl,rfl⟩
 case round=>
  obtain ⟨k,hk,rfl,rfl,rfl⟩:=hrel
  have rb:=raw_bd l a k
  change _∧_<p8 k at rb
  have bb:=bv_bd l (a+k)
  have pb:=p8_bd (show k≤4 by omega)
  by_cases hlt:k<lsz op
  ·have hck:=hc (a+k) (by omega)
   have pb3:=p8_bd3 (show k<4 by omega)
   have hm0:0≤bv l (a+k)*p8 k:=Int.mul_nonneg bb.1 (by omega)
   have hm1:bv l (a+k)*p8 k≤255*p8 k:=Int.mul_le_mul_of_nonneg_right bb.2 (by omega)
   have HP:Hid (p8 (k+1)=256*p8 k):=p8_succ k
   have HR:Hid (raw l a (k+1)=raw l a k+bv l (a+k)*p8 k):=rfl
   clear hc
   go_wp2
   go_round
   case rel=>exact ⟨k+1,by omega,by go_num,by rw [HP.out],by rw [HR.out]⟩
   case measure=>simp [intOf];omega
  ·obtain rfl:k=lsz op:=by omega
   have c11:Hid (op=11→p8 (lsz op)=256):=fun e=>by subst e;rfl
   have c12:Hid (op=12→p8 (lsz op)=65536):=fun e=>by subst e;rfl
   clear hc hok hroom k1 k2 bb hk
   by_cases e1:op=11
   ·have E:Hid (op=11∨op=12):=Or.inl e1
    have b1:=beq_t e1
    clear e1
    by_cases hge:p8 (lsz op)/2≤raw l a (lsz op)
    ·have F:Hid (Wd.lo (raw l a (lsz op)-p8 (lsz op))=wide op (raw l a (lsz op))):=wide_neg c11.out c12.out E.out rb.1 rb.2 hge
     go_wp2_with (go_at_call 67;refine (Rw.Of_any _ _ (by omega) (by omega)).mono ?_;rintro e w' ⟨rfl,rfl⟩)
     go_ret2
     exact ⟨ret2 F.out,rfl⟩
    ·have F:Hid (Wd.lo (raw l a (lsz op))=wide op (raw l a (lsz op))):=wide_pos c11.out c12.out (fun _=>hge) rb.1 rb.2 pb.2
     go_wp2_with (go_at_call 67;refine (Rw.Of_any _ _ (by omega) (by omega)).mono ?_;rintro e w' ⟨rfl,rfl⟩)
     go_ret2
     exact ⟨ret2 F.out,rfl⟩
   by_cases e2:op=12
   ·have E:Hid (op=11∨op=12):=Or.inr e2
    have b1:=beq_f e1
    have b2:=beq_t e2
    clear e1 e2
    by_cases hge:p8 (lsz op)/2≤raw l a (lsz op)
    ·have F:Hid (Wd.lo (raw l a (lsz op)-p8 (lsz op))=wide op (raw l a (lsz op))):=wide_neg c11.out c12.out E.out rb.1 rb.2 hge
     go_wp2_with (go_at_call 67;refine (Rw.Of_any _ _ (by omega) (by omega)).mono ?_;rintro e w' ⟨rfl,rfl⟩)
     go_ret2
     exact ⟨ret2 F.out,rfl⟩
    ·have F:Hid (Wd.lo (raw l a (lsz op))=wide op (raw l a (lsz op))):=wide_pos c11.out c12.out (fun _=>hge) rb.1 rb.2 pb.2
     go_wp2_with (go_at_call 67;refine (Rw.Of_any _ _ (by omega) (by omega)).mono ?_;rintro e w' ⟨rfl,rfl⟩)
     go_ret2
     exact ⟨ret2 F.out,rfl⟩
   ·have F:Hid (Wd.lo (raw l a (lsz op))=wide op (raw l a (lsz op))):=wide_pos c11.out c12.out (fun h=>absurd h (by omega)) rb.1 rb.2 pb.2
    have b1:=beq_f e1
    have b2:=beq_f e2
    clear e1 e2
    go_wp2_with (go_at_call 67;refine (Rw.Of_any _ _ (by omega) (by omega)).mono ?_;rintro e w' ⟨rfl,rfl⟩)
    go_ret2
    exact ⟨ret2 F.out,rfl⟩
theorem Load_any (cap:Nat)(op a:Int)(M:Mem w ao n l)(hn:n≤140737488351232)(h0:0≤a)(h1:a<4294967296):
  Calls Tryd.prog 38 #[.slice ao n cap,.int .i64 op,.int .u32 a] w fun e w'=>e=.returned (.tuple #[.int .u32 (ldV l op a),.bool (ldOk l op a)])∧w'=w:=by
 have hl:=M.len
 cases hok:thr n (lsz op) a with
 | false=>
  have e1:ldOk l op a=false:=by unfold ldOk;rw [hl];exact hok
  have e2:ldV l op a=0:=by unfold ldV;rw [e1];rfl
  rw [e1,e2]
  exact Load_no ao n cap op a w hn h0 h1 hok
 | true=>
  have e1:ldOk l op a=true:=by unfold ldOk;rw [hl];exact hok
  have e2:ldV l op a=wide op (raw l a.toNat (lsz op)):=by unfold ldV;rw [e1];rfl
  rw [e1,e2]
  obtain ⟨b,o,rfl,_,hc⟩:=M.spot (thr_pos hok h0)
  obtain ⟨a,rfl⟩:=Int.eq_ofNat_of_zero_le h0
  exact Load_yes b o n cap l op a w hn hl (by omega) hc hok
theorem Store_no (ao:Option Addr)(n cap:Nat)(op a x:Int)(w:World)(hn:n≤140737488351232)(h0:0≤a)(h1:a<4294967296)(hok:thr n (ssz op) a=false):
  Calls Tryd.prog 73 #[.slice ao n cap,.int .i64 op,.int .u32 a,.int .u32 x] w fun e w'=>e=.returned (.tuple #[.slice none 0 0,.bool false])∧w'=w:=by
 have hs:=ssz_le op
 go_enter Tryd.func73,Tryd.ntmps73
 go_wp2_with (first|(go_at_call 65;refine (Size_store _ _).mono ?_;rintro e w' ⟨rfl,rfl⟩)|(go_at_call 66;refine (there_any _ _ _ _ _ _ hn hs (by omega) (by omega)).mono ?_;rintro e w' ⟨rfl,rfl⟩))
 go_ret2
 exact ⟨rfl,rfl⟩
theorem own_shape {base:Nat}{v:Value}(h:w.ownsRow base 5 1 v (0+n) ([]++bc l))(hv:¬v=.slice none 0 0):
  ∃g cap,v=.slice (some ⟨g,0,none⟩) n cap∧Row w g l∧base≤g∧n≤cap:=by
 obtain ⟨hlen,hc⟩:=h
 rcases hc with ⟨h0,_⟩|⟨g',cap',cur,rfl,hb,hg,hn,hm,hs,htake⟩
 ·exact absurd h0 hv
 ·refine ⟨g',cap',by simp,⟨cur.toList.drop ((0+n)*1),?_⟩,hb,by omega⟩
  have:bc l=cur.toList.take ((0+n)*1):=by rw [htake];rfl
  rw [this,List.take_append_drop]
  simpa using hg
def q8 (x:Int) (k:Nat):Int:=x/256 ^ k
theorem q8_succ (x:Int)(k:Nat):q8 x (k+1)=q8 x k/256:=by
 unfold q8
 rw [Int.pow_succ,Int.ediv_ediv_of_nonneg (by exact Int.pow_nonneg (by omega))]
theorem q8_bd (h0:0≤x)(h1:x<4294967296)(k:Nat):0≤q8 x k∧q8 x k<4294967296:=by
 unfold q8
 exact ⟨Int.ediv_nonneg h0 (Int.pow_nonneg (by omega)),Int.lt_of_le_of_lt (Int.ediv_le_self _ h0) h1⟩
theorem Store_yes (b o n cap:Nat)(l:List UInt8)(op x:Int)(a:Nat)(w:World)(hn:n≤140737488351232)(hl:l.length=n)(ha:a<4294967296)(hb:b<w.heap.size)(hx0:0≤x)(hx1:x<4294967296)
  (hc:∀t,t<n→w.cell? ⟨b,o+t,none⟩=some (.int .u8 (bv l t)))(hok:thr n (ssz op) (a:Int)=true):
  Calls Tryd.prog 73 #[.slice (some ⟨b,o,none⟩) n cap,.int .i64 op,.int .u32 a,.int .u32 x] w fun e w'=>∃g cap',e=.returned (.tuple #[.slice (some ⟨g,0,none⟩) n cap',.bool true])∧Row w' g (put l a x (ssz op))∧Gr w w'∧w.heap.size≤g∧n≤cap':=by
 have hs:=ssz_le op
 have hk:=hok
 simp only [thr,decide_eq_true_eq] at hk
 obtain ⟨k0,k1,k2⟩:=hk
 have hroom:=ssz_room k1 ha k0
 obtain ⟨i0,hi,hz0,hz1,hz2⟩:=info_parts info5
 have HC:Hid _:=hc
 clear hc
 go_enter Tryd.func73,Tryd.ntmps73
 go_wp2_with (first
  | (go_at_call 65;refine (Size_store _ _).mono ?_;rintro e w' ⟨rfl,rfl⟩)
  | (go_at_call 66;refine (there_any _ _ _ _ _ _ hn hs (by omega) (by omega)).mono ?_;rintro e w' ⟨rfl,rfl⟩)
  | (at_builtin;refine wpList_append_own _ rfl (.tmp 21) (.tmp 22) 35 rfl _ 5 i0 (.int .u8 0) 1 1 Tryd.underlying35 hi hz0 hz1 hz2 rfl (by decide) _ 0 [] rfl (World.ownsRow_made _ #[] 0 (Nat.le_refl _) (by unfold maxLen;omega) rfl) _ n _ (bc l) rfl (by rw [bc_len,hl];simp) (bc_src hl (fun t ht=>(Gr.cell ((Gr.refl _).alloc _) _ (by exact hb)).trans (HC.out t ht))) (bc_one l) (by unfold maxLen;omega) (by omega) (by simp) ?_;intro v' w1 hown1 hgrow1 hnil;obtain ⟨g,cap',rfl,R0,hgb,hroo⟩:=own_shape hown1 (fun h=>by have h2:=(hnil.1 h).1;cases h2);have B0:=Gr.grown ((Gr.refl _).alloc _) hgrow1 (fun k hk=>by cases hk;exact Nat.le_refl _);clear hown1 hgrow1 hnil))
 clear HC hi hz0 hz1 hz2
 have hq0:q8 x 0=x:=by unfold q8;simp
 have HQ:Hid _:=hq0
 clear hq0
 go_loopw [12,13] (fun y i wr=>∃k:Nat,k≤ssz op∧i=.int .i64 k∧y=.int .i64 (q8 x k)∧Row wr g (put l a x k)∧Gr w' wr) (fun _ i _=>ssz op-(intOf i).toNat)
 case atStart=>exact ⟨0,Nat.zero_le _,rfl,by rw [HQ.out],R0,B0⟩
 case round=>
  obtain ⟨k,hk,rfl,rfl,R,G⟩:=hrel
  have qb:=q8_bd hx0 hx1 k
  by_cases hlt:k<ssz op
  ·have hp:=len_put l a x k
   have hck:=R.cell (t:=a+k) (by omega)
   have hfk:=R.frozen (a+k)
   have HS:Hid (Row (wr.setCell ⟨g,a+k,none⟩ (.int .u8 (q8 x k%256))) g (put l a x (k+1))):=R.set (t:=a+k) (by omega) (q8 x k%256) (by omega) (by omega)
   have HG:Hid _:=G
   have HN:Hid (q8 x (k+1)=q8 x k/256):=q8_succ x k
   clear R G R0 B0 hp
   go_wp2
   go_roundw
   case rel=>exact ⟨k+1,by omega,by go_num,by rw [HN.out],HS.out,HG.out.setCell hgb _⟩
   case measure=>simp [intOf];omega
  ·obtain rfl:k=ssz op:=by omega
   have HR:Hid _:=R
   have HG:Hid _:=G
   clear R G R0 B0
   go_wp2
   go_ret2
   exact ⟨g,cap',rfl,HR.out,HG.out,hgb,hroo⟩
theorem Store_new (cap:Nat)(op a x:Int)(M:Mem w ao n l)(hn:n≤140737488351232)(h0:0≤a)(h1:a<4294967296)(hx0:0≤x)(hx1:x<4294967296):
  Calls Tryd.prog 73 #[.slice ao n cap,.int .i64 op,.int .u32 a,.int .u32 x] w fun e w'=>
   ∃ao' n' cap',e=.returned (.tuple #[.slice ao' n' cap',.bool (stOk l op a)])∧Mem w' ao' n' (stL l op a x)∧Gr w w'∧∀ad,ao'=some ad→w.heap.size≤ad.block∧n'≤cap':=by
 have hl:=M.len
 cases hok:thr n (ssz op) a with
 | false=>
  have e1:stOk l op a=false:=by unfold stOk;rw [hl];exact hok
  have e2:stL l op a x=[]:=by unfold stL;rw [e1];rfl
  rw [e1,e2]
  refine (Store_no ao n cap op a x w hn h0 h1 hok).mono ?_
  rintro e w' ⟨rfl,rfl⟩
  exact ⟨none,0,0,rfl,Mem.none _,Gr.refl _,fun ad h=>by cases h⟩
 | true=>
  have e1:stOk l op a=true:=by unfold stOk;rw [hl];exact hok
  have e2:stL l op a x=put l a.toNat x (ssz op):=by unfold stL;rw [e1];rfl
  rw [e1,e2]
  obtain ⟨b,o,rfl,hb,hc⟩:=M.spot (thr_pos hok h0)
  obtain ⟨a,rfl⟩:=Int.eq_ofNat_of_zero_le h0
  refine (Store_yes b o n cap l op x a w hn hl (by omega) hb hx0 hx1 hc hok).mono ?_
  rintro e w' ⟨g,cap',rfl,R,G,hg⟩
  refine ⟨_,_,_,rfl,?_,G,fun ad h=>by cases h;exact hg⟩
  have:=R.mem
  rwa [len_put,hl] at this
theorem Store_any (cap:Nat)(op a x:Int)(M:Mem w ao n l)(hn:n≤140737488351232)(h0:0≤a)(h1:a<4294967296)(hx0:0≤x)(hx1:x<4294967296):
  Calls Tryd.prog 73 #[.slice ao n cap,.int .i64 op,.int .u32 a,.int .u32 x] w fun e w'=>
   ∃ao' n' cap',e=.returned (.tuple #[.slice ao' n' cap',.bool (stOk l op a)])∧Mem w' ao' n' (stL l op a x)∧Gr w w':=by
 refine (Store_new cap op a x M hn h0 h1 hx0 hx1).mono ?_
 rintro e w' ⟨a1,n1,c1,rfl,M1,G1,_⟩
 exact ⟨a1,n1,c1,rfl,M1,G1⟩
def sof (l:List UInt8):ByteArray:=⟨l.toArray⟩
theorem sof_eq (a b:List UInt8):((sof a).toList == (sof b).toList)=decide (a=b):=by
 rw [ByteArray.toList_eq,ByteArray.toList_eq]
 show (a == b)=_
 exact (Bool.eq_iff_iff.2 (by simp))
theorem conv_any (cap:Nat)(M:Mem w ao n l):(convert 35 9 (.slice ao n cap)).run Tryd.prog w=.ok (.string (sof l)) w:=by
 have hl:=M.len
 cases ao with
 | none=>
  have h0:=M.nil rfl
  subst h0
  obtain rfl:l=[]:=List.length_eq_zero_iff.1 hl
  rw [run_convert_bytes_string w 35 9 5 none 0 cap Tryd.underlying35 Tryd.underlying5 Tryd.underlying9]
  rfl
 | some ad=>
  subst hl
  exact run_convert_bytes_back w 35 9 5 ad cap l Tryd.underlying35 Tryd.underlying5 Tryd.underlying9 (fun j hj=>by rw [M.cell ad rfl j hj,bv_of hj])
theorem Bytes_any {bo:Option Addr}{m:Nat}(ca cb:Nat){k:List UInt8}(A:Mem w ao n l)(B:Mem w bo m k):
  Calls Tryd.prog 43 #[.slice ao n ca,.slice bo m cb] w fun e w'=>e=.returned (.bool (decide (l=k)))∧w'=w:=by
 have hA:=conv_any ca A
 have hB:=conv_any cb B
 have HE:Hid (((sof l).toList == (sof k).toList)=decide (l=k)):=sof_eq l k
 clear A B
 go_enter Tryd.func43,Tryd.ntmps43
 go_wp2
 go_ret
 exact ⟨ret_bool HE.out,rfl⟩
end Go.Proofs.YtkdghgiajifbdaaDoor.Mr
