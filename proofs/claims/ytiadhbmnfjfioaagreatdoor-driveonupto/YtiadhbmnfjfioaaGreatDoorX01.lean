/- ours -/
import Derived.Deep.RegionHeld
import Derived.Great.BuildSlice
import Derived.Test.YtiadhbmnfjfioaaGreatDoorRows
import Derived.WalkKit
import Derived.ProofKit
import Derived.OpenShut
import Derived.Laws.CopyOwn
import Derived.BigQuiet
import Derived.LaidMore
set_option linter.unusedVariables false
set_option linter.unusedSimpArgs false
set_option maxHeartbeats 8000000
set_option maxRecDepth 100000
set_option linter.unusedSectionVars false
namespace Go.Proofs.YtiadhbmnfjfioaaGreatDoor
set_option linter.defProp false
def api := @List.getElem?_eq_getElem
def apj := @List.getElem?_eq_some_iff
def apk := @Array.getElem?_eq_some_iff
def apl := @List.setIfInBounds_toArray
def apm := @List.getElem?_toArray
def apn := @Nat.le_refl
def apo := @List.length_append
def apq := @Nat.lt_of_lt_of_le
def apr := @Nat.le_trans
def aps := @List.mem_of_getElem?
def apt := @Int.eq_ofNat_of_zero_le
def apu := @Nat.zero_add
def apv := @List.getElem?_append_right
def apw := @List.getElem?_cons_zero
def apx := @List.mem_cons
def apy := @List.set_cons_succ
def apz := @List.append_nil
def apA := @List.getElem?_append_left
def apB := @List.not_mem_nil
def apC := @List.set_cons_zero
def apD := @Bool.and_eq_true
def apE := @List.mem_singleton
def apF := @Nat.zero_le
def apG := @Int.toNat_natCast
def apH := @List.length_cons
def apI := @List.getElem?_cons_succ
def apJ := @List.set_append_right
def apK := @List.mem_map
def apL := @List.flatMap_cons
def apM := @List.all_eq_true
def apN := @List.getElem_toArray
def apO := @List.nil_append
def apP := @List.getElem_cons_succ
def apQ := @List.getElem_cons_zero
def apR := @List.mem_append
def apS := @List.getElem?_take
def apT := @List.getElem?_map
def apU := @List.take_add_one
def apV := @List.getD_eq_getElem?_getD
def apW := @List.length_singleton
def apX := @List.eq_nil_of_length_eq_zero
def apY := @List.length_map
def apZ := @List.cons_append
def ap0 := @List.take_of_length_le
def ap1 := @List.getElem?_set
def ap2 := @List.size_toArray
def ap3 := @List.getElem?_drop
def ap4 := @Array.size_setIfInBounds
def ap5 := @List.length_take
def ap6 := @List.length_set
def ap7 := @Option.map_some
def ap8 := @List.length_nil
def ap9 := @List.take_length
def aqa := @List.append_assoc
def aqb := @List.map_append
def aqc := @List.singleton_append
def aqd := @List.take_append_drop
def aqe := @List.mem_iff_getElem?
def aqf := @List.getElem?_eq_none
def aqg := @List.flatMap_nil
def aqh := @List.length_drop
def aqi := @Nat.le_succ
def aqj := @Option.bind_some
def aqk := @Array.getElem?_eq_getElem
def aql := @List.ext_getElem?
def aqm := @Array.getD_eq_getD_getElem?
def aqn := @List.set_append_left
def aqo := @List.map_cons
def aqp := @Array.getElem?_setIfInBounds_ne
def aqr := @Int.emod_eq_of_lt
def aqs := @ByteArray.toList_eq
def aqt := @Nat.add_zero
def aqu := @List.getElem?_set_self
def aqv := @Option.map_eq_some_iff
def aqw := @Option.getD_some
def aqx := @List.mem_cons_of_mem
def aqy := @List.foldl_append
def aqz := @List.flatten_cons
def aqA := @Array.getElem?_setIfInBounds_self_of_lt
def aqB := @List.take_append_of_le_length
def aqC := @Array.ext_getElem?
def aqD := @Array.getElem?_toList
def aqE := @Nat.pow_le_pow_right
def aqF := @List.take_zero
def aqG := @List.drop_drop
def aqH := @Nat.mul_comm
def aqI := @Nat.zero_mul
def aqJ := @Nat.add_sub_cancel_left
def aqK := @List.getElem?_replicate
def aqL := @Nat.and_two_pow_sub_one_eq_mod
def aqM := @List.mem_cons_self
def aqN := @Int.mul_le_mul_of_nonneg_left
def aqO := @List.drop_append_of_le_length
def aqP := @Nat.le_of_lt
def aqQ := @Nat.mul_le_mul_right
def aqR := @List.mem_of_mem_drop
def aqS := @Array.size_replicate
def aqT := @List.flatten_nil
def aqU := @Nat.add_assoc
def aqV := @Bool.or_eq_true
def aqW := @Int.ediv_one
def aqX := @Array.getElem?_replicate
def aqY := @List.take_left
def aqZ := @List.mem_range
def aq0 := @Nat.and_or_distrib_left
def aq1 := @Bool.not_eq_false
def aq2 := @Int.mul_one
def aq3 := @Array.all_eq_true_iff_forall_mem
def aq4 := @Nat.two_pow_pos
def aq5 := @List.any_append
def aq6 := @Nat.le_of_eq
def aq7 := @List.mem_of_mem_take
def aq8 := @List.getElem?_set_ne
def aq9 := @Int.mul_le_mul_of_nonpos_left
def ara := @List.take_succ_cons
def arb := @List.toList_toArray
def arc := @List.getD_cons_zero
def ard := @List.getD_cons_succ
def arf := @Array.getElem?_setIfInBounds
def arh := @Nat.two_pow_add_eq_or_of_lt
def ari := @Nat.and_lt_two_pow
def arj := @List.pairwise_cons
def ark := @Nat.mod_two_eq_zero_or_one
def arl := @Bool.true_and
def arn := @Nat.or_lt_two_pow
def arp := @List.mem_flatMap
def art := @List.getElem_mem
def aru := @List.map_nil
def arw := @Nat.div_add_mod
def arx := @Bool.eq_iff_iff
def ary := @Int.ediv_nonneg
def arz := @List.mem_filter
def arA := @Nat.min_eq_left
def arB := @Nat.or_comm
def atZ := @Go.cell_of_row
def at5 := @Go.heap_alloc_new
def at6 := @if_neg
def at7 := @if_pos
def aua := @Go.AllReadyH.cons
def aub := @beq_eq_false_iff_ne
def auc := @Go.bodyPost_ret
def aud := @Go.AllReadyH.nil
def aue := @Go.wpAnyH_ready
def auf := @Go.wpList_store_row
def aug := @Go.World.block_lt_of_cell?
def auh := @decide_eq_false
def aui := @Go.World.cell?_of_block
def auj := @Option.some.injEq
def auk := @decide_eq_true_eq
def aul := @Go.heap_setCell_same
def aum := @Option.some.inj
def aun := @Go.RowKit.Below.mono
def auo := @Go.setRow_other
def aup := @Go.setRow_heap
def auq := @decide_eq_true
def aur := @Go.World.ownsRow_nil
def aus := @Go.frozen_of_row
def aut := @Go.wp_region_held_drew
def auu := @Go.Calls.quiet_of_same
def auv := @Go.heap_setCell_other
def auw := @or_false
def auy := @Go.wpAnyH_done
def auz := @Go.info_parts
def auA := @Go.wpList_load_mid
def auB := @Go.wp_region_quiet_lit
def auC := @Go.RowKit.Below.refl
def auD := @Go.results_cell_row
def auE := @Go.all_oneCell_toArray
def auF := @Go.wpAnyH_take
def auG := @UInt8.toNat_ofNat'
def auH := @Go.World.var?_cell
def auI := @Go.RowKit.Below.trans
def auJ := @Go.RowKit.Below.cell
def auK := @Go.wpList_append_own
def auL := @Go.wpList_load_row
def auM := @Go.Result.andThen_ok
def auN := @Go.yieldsIf_load_mid
def auO := @Go.wpQuiet_nil
def auP := @Go.AllReady.cons
def auQ := @Go.IntKind.wrap_i64
def auR := @Go.heap_alloc2_old
def auS := @Go.RowKit.Below.setCell
def auT := @Eq.trans
def auU := @beq_iff_eq
def auV := @Go.results_none
def auW := @Go.AllReady.nil
def auX := @Prod.mk.injEq
def auY := @Function.comp_def
def auZ := @Go.MakeChecks.laidMetH_plain
def au0 := @Go.Calls.mono
def au1 := @Go.RowKit.Below.block
def au2 := @Go.wpAny_ready
def au3 := @Go.Sem.run_bind
def au4 := @Go.run_loadVar_row
def au5 := @Go.wpList_plain
def au6 := @Go.run_append_own
def au7 := @true_and
def au8 := @Go.heap_alloc2_new
def au9 := @Go.wpList_buildTo
def ava := @of_decide_eq_true
def avb := @Go.World.cell?_spot
def avc := @Go.IntKind.wrap_u64
def avd := @Go.Sem.run_pure
def ave := @true_implies
def avf := @Go.World.ownsRow_made
def avg := @Go.Value.slice.injEq
def avk := @BitVec.toNat_and
def avm := @if_false
open Go.Proofs.Tryz hiding t1 t2 t3 t4 t5 wide
open Go.RowKit
theorem ak {c:Prop}{h:Decidable c}{α:Sort _}{a b:α}(hn:¬c:=by omega):@ite α c h a b=b:=at6 hn
theorem dU {c:Prop}{h:Decidable c}{α:Sort _}{a b:α}(hn:c:=by omega):@ite α c h a b=a:=at7 hn
theorem kH {p:Prop}(h:p):Hid p:=h
theorem tK {P:Program}{md:Region.Mode}{ops:Array Oper}{Q:Exit->Act->World->Prop}{S:World->Prop}(i:Nat)(v:Value){oi:Oper}{fuel:Nat}{l l':Array Bool}{a a':Act}{w:World}(hS:S w)(h:wpAnyH P md ops Q S fuel l' a' w)(hi:ops[i]?=some oi:=by rfl)(hs:Region.noSelect ops=true:=by kernel_rfl)(hf:Region.free md ops l i=true:=by kernel_rfl)(hr:(Region.ready md ops l).contains i=true:=by kernel_rfl)(hQ:∀c a w,Q (.panic c) (a.put oi.dst v) w->Q (.panic c) a w:=by exact fun _ _ _ h=>h)(hy:YieldsIf P ops S oi v a:=by exact Or.inl ⟨by rfl,fun W hW=>by(repeat (obtain⟨_,hW⟩:=hW));go_simp⟩)(e1:l.setIfInBounds i true=l':=by(try simp only[apl,apC,apy]);try rfl)(e2:a.put oi.dst v=a':=by(try simp only[Act.put,apN,apP,apQ,apl,apC,apy]);try rfl):wpAnyH P md ops Q S (fuel+1) l a w:=by
 subst e1 e2;exact auF hi hs hf hr hQ hy hS h

variable {w :World} {g t :Nat} {fr :Nat × Nat} {a0 a1 a2 a3 a4 a5 a6 a7 :Value} {r :List Value}
theorem cr {w:World}{g j:Nat}{cs:Array Value}{t:TypeId}{fr:Nat×Nat}(h:w.heap[g]?=some (.cells cs t fr)):w.cell? ⟨g,j,none⟩=cs[j]?:=atZ _ _ _ _ _ _ h
theorem lh {w:World}{g j:Nat}{cs:Array Value}{t:TypeId}(h:w.heap[g]?=some (.cells cs t (0,0))):w.frozen? ⟨g,j,none⟩=false:=aus _ _ _ _ _ h
theorem hss {w:World}{g i:Nat}{cs:Array Value}{t:TypeId}{v:Value}(h:w.heap[g]?=some (.cells cs t (0,0))):(w.setCell ⟨g,i,none⟩ v).heap[g]?=some (.cells (cs.setIfInBounds i v) t (0,0)):=aul _ _ _ _ _ _ h
theorem hso {w:World}{a:Addr}{k:Nat}{v:Value}(h:k≠a.block):(w.setCell a v).heap[k]?=w.heap[k]?:=auv _ _ _ _ h
theorem sV {w:World}{g k:Nat}{cs:Array Value}(h:k≠g):(w.setRow g cs).heap[k]?=w.heap[k]?:=auo _ _ _ _ h
theorem Ig {w:World}{g:Nat}{old cs:Array Value}{t:TypeId}(h:w.heap[g]?=some (.cells old t (0,0))):(w.setRow g cs).heap[g]?=some (.cells cs t (0,0)):=aup _ _ _ _ _ (0,0) h
theorem gs {α:Type}{a:Array α}{i:Nat}{x:α}(h:a[i]?=some x):∃h,a[i]=x:=apk.1 h
theorem iE (h:w.heap[g]?=some (.cells (a0::r).toArray t fr)):w.cell? ⟨g,0,none⟩=some a0:=(cr h).trans (by simp)
theorem iY (h:w.heap[g]?=some (.cells (a0::a1::r).toArray t fr)):w.cell? ⟨g,1,none⟩=some a1:=(cr h).trans (by simp)
theorem EZ (h:w.heap[g]?=some (.cells (a0::a1::a2::r).toArray t fr)):w.cell? ⟨g,2,none⟩=some a2:=(cr h).trans (by simp)
theorem QP (h:w.heap[g]?=some (.cells (a0::a1::a2::a3::r).toArray t fr)):w.cell? ⟨g,3,none⟩=some a3:=(cr h).trans (by simp)
theorem E8 (h:w.heap[g]?=some (.cells (a0::a1::a2::a3::a4::r).toArray t fr)):w.cell? ⟨g,4,none⟩=some a4:=(cr h).trans (by simp)
theorem cr5 (h:w.heap[g]?=some (.cells (a0::a1::a2::a3::a4::a5::r).toArray t fr)):w.cell? ⟨g,5,none⟩=some a5:=(cr h).trans (by simp)
theorem cr6 (h:w.heap[g]?=some (.cells (a0::a1::a2::a3::a4::a5::a6::r).toArray t fr)):w.cell? ⟨g,6,none⟩=some a6:=(cr h).trans (by simp)
theorem cr7 (h:w.heap[g]?=some (.cells (a0::a1::a2::a3::a4::a5::a6::a7::r).toArray t fr)):w.cell? ⟨g,7,none⟩=some a7:=(cr h).trans (by simp)
theorem cr8 {a8:Value}(h:w.heap[g]?=some (.cells (a0::a1::a2::a3::a4::a5::a6::a7::a8::r).toArray t fr)):w.cell? ⟨g,8,none⟩=some a8:=(cr h).trans (by simp)
namespace Mm
open Go.ChangeShapes Go.WideShapes Go.ChangeAt Go.RowKit

variable {l :List UInt8} {a w w' :World} {b n o g t m :Nat} {ao :Option Addr} {op :Int}
def bv (l:List UInt8) (i:Nat):Int:=((l.getD i 0).toNat:Int)
theorem Ws (l:List UInt8)(i:Nat):0<=bv l i/\bv l i<=255:=by unfold bv;have:=(l.getD i 0).toNat_lt;omega
theorem ace {i:Nat}(h:i<l.length):(l[i].toNat:Int)=bv l i:=by unfold bv;simp[List.getD,h]
def mM (op:Int):Nat:=if op=11\/op=14 then 1 else if op=12\/op=15 then 2 else if op=13 then 4 else 0
def gG (op:Int):Nat:=if op=16 then 1 else if op=17 then 2 else if op=18 then 4 else 0
def qy (m n:Nat) (a:Int):Bool:=decide (0<n/\a%(n:Int)=0/\a+n<=m)
def raw (l:List UInt8) (a:Nat):Nat→Int
 |0=>0
 |n+1=>raw l a n+bv l (a+n)*256^n
def wide (op x:Int):Int:=if op=11 then(if x<128 then x else x+4294967040)else if op=12 then(if x<32768 then x else x+4294901760)else x
def bM (l:List UInt8) (op a:Int):Bool:=qy l.length (mM op) a
def aN (l:List UInt8) (op a:Int):Int:=if bM l op a=true then wide op (raw l a.toNat (mM op))else 0
def put (l:List UInt8) (a:Nat) (w:Int):Nat→List UInt8
 |0=>l
 |n+1=>(put l a w n).set (a+n) (UInt8.ofNat (w/256^n%256).toNat)
def dX (l:List UInt8) (op a:Int):Bool:=qy l.length (gG op) a
def il (l:List UInt8) (op a w:Int):List UInt8:=if dX l op a=true then put l a.toNat w (gG op)else[]
theorem CW (op:Int):mM op<=4:=by unfold mM;split<;>(try split)<;>(try split)<;>omega
theorem qz (op:Int):gG op<=4:=by unfold gG;split<;>(try split)<;>(try split)<;>omega
theorem iR (l:List UInt8)(a:Nat)(w:Int):∀n,(put l a w n).length=l.length
 |0=>rfl
 |n+1=>by simp[put,iR l a w n]
theorem KX (l:List UInt8)(a:Nat)(w:Int):∀n i,i<l.length→bv (put l a w n) i=if a≤i∧i<a+n then w/256 ^ (i-a)%256 else bv l i
 |0,i,hi=>by rw[ak];rfl
 |n+1,i,hi=>by
  have ih:=KX l a w n i hi;unfold bv at ih ⊢;unfold put;by_cases h:i=a+n
  ·subst h;rw[dU];simp only[List.getD,ap1,iR];simp only[hi,if_true,aqw];have hm:(0:Int)<=w/256^n%256/\w/256^n%256<256:=by omega
   rw[auG,aqJ];omega
  ·simp only[List.getD,ap1]at ih ⊢;rw[ak,ih];by_cases h2:a<=i/\i<a+n
   ·rw[at7 h2,dU]
   ·rw[at6 h2,ak]
theorem kI (l:List UInt8)(a:Nat):∀n,0≤raw l a n∧raw l a n<256 ^ n
 |0=>by simp[raw]
 |n+1=>by
  have h:=kI l a n;have hb:=Ws l (a+n);have hp:(0:Int)<256^n:=Int.pow_pos (by omega);have h1:bv l (a+n)*256^n<=255*256^n:=Int.mul_le_mul_of_nonneg_right hb.2 (by omega);have h0:0<=bv l (a+n)*256^n:=Int.mul_nonneg hb.1 (by omega);unfold raw;rw[Int.pow_succ];omega
def Gr (w w':World):Prop:=Below w.heap.size w w'
theorem Gr.refl (w:World):Gr w w:=auC _ _
theorem Gr.size (h:Gr w w'):w.heap.size<=w'.heap.size:=Below.size h
theorem Gr.trans {b c:World}(h:Gr a b)(k:Gr b c):Gr a c:=auI h (aun k h.size)
theorem Gr.alloc (h:Gr a w)(o:Obj):Gr a (w.alloc o):=Below.alloc h h.size _
theorem Gr.setCell (h:Gr a w){p:Addr}(hp:a.heap.size<=p.block)(v:Value):Gr a (w.setCell p v):=auS h hp v
theorem Gr.drewN (h:Gr a w)(n:Nat):Gr a (w.drewN n):=auI h ⟨rfl,rfl,rfl,apn _,fun _ _=>rfl⟩
theorem Gr.grown {row:Option Nat}(h:Gr a w)(g:w.grownBy w' row)(hr:∀k,row=some k->a.heap.size<=k):Gr a w':=Below.grown h g h.size hr
theorem Gr.cell (h:Gr w w')(p:Addr)(hb:p.block<w.heap.size):w'.cell? p=w.cell? p:=auJ h hb
theorem cz (b o t:Nat):(⟨b,o,none⟩:Addr).add t=⟨b,o+t,none⟩:=by unfold Addr.add;split<;>simp_all
structure Mem (w:World) (ao:Option Addr) (n:Nat) (l:List UInt8):Prop where
 len:l.length=n
 nil:ao=none->n=0
 cell:∀ad,ao=some ad->∀t,t<n->w.cell? (ad.add t)=some (.int .u8 (bv l t))
theorem Mem.of (h:Mem w ao n l)(g:Gr w w'):Mem w' ao n l:=⟨h.len,h.nil,fun ad e t ht=>(g.cell _ (aug w _ (h.cell ad e t ht))).trans (h.cell ad e t ht)⟩
theorem add_block (ad:Addr)(t:Nat):(ad.add t).block=ad.block:=by unfold Addr.add;split<;>rfl
theorem Mem.spot (h:Mem w ao n l)(hn:0<n):∃b o,ao=some ⟨b,o,none⟩/\b<w.heap.size/\∀t,t<n->w.cell? ⟨b,o+t,none⟩=some (.int .u8 (bv l t)):=by
 cases ao with
 |none=>exact absurd (h.nil rfl) (by omega)
 |some ad=>
  obtain⟨b,o,s⟩:=ad;have hs:s=none:=by simpa[Addr.add]using avb (h.cell _ rfl 0 hn)
  subst hs;have hb:b<w.heap.size:=by simpa[Addr.add]using aug w _ (h.cell _ rfl 0 hn)
  exact⟨b,o,rfl,hb,fun t ht=>by rw[<-cz];exact h.cell _ rfl t ht⟩
theorem Mem.at (hl:l.length=n)(h:∀t,t<n->w.cell? ⟨b,o+t,none⟩=some (.int .u8 (bv l t))):Mem w (some ⟨b,o,none⟩) n l:=⟨hl,fun e=>(by cases e),fun ad e t ht=>by obtain rfl:=aum e;rw[cz];exact h t ht⟩
theorem Mem.none (w:World):Mem w none 0 []:=⟨rfl,fun _=>rfl,fun ad e=>(by cases e)⟩
def bc (l:List UInt8):List Value:=l.map fun b=>Value.int .u8 (b.toNat:Int)
theorem xW {j:Nat}{u:Value}(h:(bc l)[j]?=some u):j<l.length/\u=.int .u8 (bv l j):=by
 unfold bc at h;rw[apT]at h;cases hj:l[j]? with
 |none=>simp[hj]at h
 |some b=>
  rw[hj]at h;obtain⟨hlt,hb⟩:=apj.1 hj;refine⟨hlt,?_⟩;rw[<-ace hlt,hb];simpa using h.symm
theorem xX (l:List UInt8):∀u∈bc l,u.oneCell'=true:=by intro u hu;obtain⟨b,_,rfl⟩:=apK.1 hu;rfl
def Row (w:World) (g:Nat) (l:List UInt8):Prop:=∃rest:List Value,w.heap[g]?=some (.cells (bc l++rest).toArray 5 (0,0))
theorem Row.cell (h:Row w g l)(ht:t<l.length):w.cell? ⟨g,t,none⟩=some (.int .u8 (bv l t)):=by
 obtain⟨rest,hg⟩:=h;rw[atZ w g t _ _ (0,0) hg];have h1:t<(bc l).length:=by simpa[bc]using ht
 rw[apm,apA h1];have h2:=api h1;rw[h2,(xW h2).2]
theorem Row.frozen (h:Row w g l)(t:Nat):w.frozen? ⟨g,t,none⟩=false:=by obtain⟨rest,hg⟩:=h;simp[World.frozen?,hg]
theorem Row.set (h:Row w g l)(ht:t<l.length)(v:Int)(h0:0<=v)(h1:v<256):Row (w.setCell ⟨g,t,none⟩ (.int .u8 v)) g (l.set t (UInt8.ofNat v.toNat)):=by
 obtain⟨rest,hg⟩:=h;refine⟨rest,?_⟩;rw[aul w g t _ _ _ hg];have h2:t<(bc l).length:=by simpa[bc]using ht
 have e:(UInt8.ofNat v.toNat).toNat=v.toNat:=by rw[auG];omega
 have e2:(((UInt8.ofNat v.toNat).toNat:Nat):Int)=v:=by rw[e];omega
 have e3:bc (l.set t (UInt8.ofNat v.toNat))=(bc l).set t (.int .u8 v):=by
  unfold bc;rw[List.map_set];simp only[e2]
 rw[e3];simp[aqn _ _ h2]
theorem Row.mem (h:Row w g l):Mem w (some ⟨g,0,none⟩) l.length l:=Mem.at rfl fun t ht=>by rw[apu];exact h.cell ht
def qB (w:World) (g cap:Nat) (l:List UInt8):Prop:=∃rest:List Value,w.heap[g]?=some (.cells (bc l++rest).toArray 5 (0,0))/\(bc l++rest).length=cap/\cap<=maxLen
theorem qB.row {cap:Nat}(h:qB w g cap l):Row w g l:=by obtain⟨rest,hg,_⟩:=h;exact⟨rest,hg⟩
theorem qB.set {cap:Nat}(h:qB w g cap l)(ht:t<l.length)(v:Int)(h0:0<=v)(h1:v<256):qB (w.setCell ⟨g,t,none⟩ (.int .u8 v)) g cap (l.set t (UInt8.ofNat v.toNat)):=by obtain⟨rest,hg,hz,hm⟩:=h;obtain⟨rest',hr⟩:=Row.set ⟨rest,hg⟩ ht v h0 h1;refine⟨rest',hr,?_,hm⟩;rw[aul w g t _ _ _ hg]at hr;injection hr with hr;injection hr with hr;have h2:=congrArg Array.size hr;simp only[ap4,ap2]at h2;omega
theorem info5:(prog.info? 5).map (fun i=>(i.zero,i.size,i.bytes))=some (some (.int .u8 0),1,1):=by kernel_rfl
theorem au {k:IntKind}{a b:Int}(h:a=b):Ending.returned (.int k a)=.returned (.int k b):=by rw[h]
theorem aM {a b:Bool}(h:a=b):Ending.returned (.bool a)=.returned (.bool b):=by rw[h]
theorem acf {a:Int}(h0:0<n)(h1:a%(n:Int)=0)(h2:a+n<=m):true=qy m n a:=by simp[qy,h0,h1,h2]
theorem KY {a:Int}(h:¬(0<n/\a%(n:Int)=0/\a+n<=m)):false=qy m n a:=by simp only[qy];rw[auh h]
theorem Rq (x:Int)(h0:0<=x)(h1:x<256):IntKind.i8.wrap x%4294967296=if x<128 then x else x+4294967040:=by
 have e:IntKind.i8.wrap x=if 128<=x%256 then x%256-256 else x%256:=by simp[IntKind.wrap,IntKind.bits,IntKind.signed]
 rw[e];repeat' split
 all_goals omega
theorem KZ (x:Int)(h0:0<=x)(h1:x<65536):IntKind.i16.wrap x%4294967296=if x<32768 then x else x+4294901760:=by
 have e:IntKind.i16.wrap x=if 32768<=x%65536 then x%65536-65536 else x%65536:=by simp[IntKind.wrap,IntKind.bits,IntKind.signed]
 rw[e];repeat' split
 all_goals omega
theorem ofInt32 (a:Nat)(h:(a:Int)<4294967296):(BitVec.ofInt 32 (a:Int)).toNat=a:=by rw[BitVec.toNat_ofInt];omega
theorem Rt (x y:Int)(k:Nat)(hk:k<4)(h0:0<=x)(h1:x<256^k)(hy:0<=y)(hy':y<=255):bits .or .u32 x (y*2 ^ (8*k)%4294967296)=x+y*256^k:=by
 obtain⟨x,rfl⟩:=apt h0;obtain⟨y,rfl⟩:=apt hy;have e1:(256:Int) ^ k=((2 ^ (8*k):Nat):Int):=by
  rw[Nat.pow_mul];simp
 have hx:x<2 ^ (8*k):=by rw[e1]at h1;exact_mod_cast h1
 have hp:2 ^ (8*k)*256<=4294967296:=by
  have:2 ^ (8*k)<=2 ^ (8*3):=aqE (by omega) (by omega);omega
 have hpp:0<2 ^ (8*k):=aq4 _;have hyb:y*2 ^ (8*k)<=255*2 ^ (8*k):=aqQ _ (by omega);have hor:=arh hx y;have e2:((y:Int)*2 ^ (8*k)%4294967296)=((y*2 ^ (8*k):Nat):Int):=by
  have:((y:Int)*2 ^ (8*k))=((y*2 ^ (8*k):Nat):Int):=by simp
  rw[this];omega
 rw[e2,e1];show IntKind.u32.wrap ((BitVec.ofInt 32 (x:Int) |||BitVec.ofInt 32 ((y*2 ^ (8*k):Nat):Int)).toNat:Int)=_
 rw[BitVec.toNat_or,ofInt32 x (by omega),ofInt32 _ (by omega),arB,aqH y,<-hor];show(((2 ^ (8*k)*y+x:Nat):Int))%4294967296=_
 rw[aqH]at hyb;rw[show((y:Int)*((2 ^ (8*k):Nat):Int))=((2 ^ (8*k)*y:Nat):Int)by push_cast;rw[Int.mul_comm]];generalize 2 ^ (8*k)*y=z at *
 generalize 2 ^ (8*k)=p at *
 omega
theorem K4 {a:Nat}(h:(a:Int)%(mM op:Nat)=0)(ha:a<4294967296)(h0:0<mM op):a+mM op<=4294967296:=by
 have:mM op=1\/mM op=2\/mM op=4:=by
  have hh:mM op≠0:=by omega
  unfold mM at hh ⊢;repeat' split
  all_goals simp_all
 rcases this with e|e|e<;>rw[e]at h ⊢<;>omega
theorem E9 (l:List UInt8)(a:Nat)(op:Int):raw l a (mM op)<4294967296/\(op=11->raw l a (mM op)<256)/\(op=12->raw l a (mM op)<65536):=by
 have h:=(kI l a (mM op)).2;have q:=aqE (show 0<256 by omega) (CW op);have p:(256:Int) ^ mM op<=4294967296:=by
  rw[show(256:Int) ^ mM op=((256^mM op:Nat):Int)by simp];omega
 refine⟨by omega,fun e=>?_,fun e=>?_⟩
 ·subst e;exact h
 ·subst e;exact h
theorem xY {s:Nat}{a:Int}(h:qy n s a=true)(h0:0<=a):0<n:=by simp only[qy,auk]at h;omega
theorem K5 {a:Nat}(h:(a:Int)%(gG op:Nat)=0)(ha:a<4294967296)(h0:0<gG op):a+gG op<=4294967296:=by
 have:gG op=1\/gG op=2\/gG op=4:=by
  have hh:gG op≠0:=by omega
  unfold gG at hh ⊢;repeat' split
  all_goals simp_all
 rcases this with e|e|e<;>rw[e]at h ⊢<;>omega
theorem K6 {w0:World}{xs:List Value}(h:w0.ownsRow w.heap.size 5 1 (.slice (some ⟨w.heap.size,0,none⟩) n n) n xs):∃cur:List Value,cur.length=n/\w0.heap[w.heap.size]?=some (.cells cur.toArray 5 (0,0)):=by
 obtain⟨_,hc⟩:=h;rcases hc with⟨h0,_⟩|⟨g',cap',cur,hv,hb,hg,hn,hm,hs,htake⟩
 ·cases h0
 ·simp only[avg,auj,Addr.mk.injEq,au7,and_true]at hv;obtain⟨e,rfl⟩:=hv;rw[<-e]at hg;exact⟨cur.toList,by simpa using hs,by simpa using hg⟩
theorem CX {cur cs:List Value}(h:cs.length=cur.length):splice cur 0 cs=cs:=by simp[splice,h]
theorem gH (l:List UInt8):(bc l).length=l.length:=by simp[bc]
theorem XB (hl:l.length=n)(hc:∀t,t<n->w.cell? ⟨b,o+t,none⟩=some (.int .u8 (bv l t))):∀j v,(bc l)[j]?=some v->w.cell? ((⟨b,o,none⟩:Addr).add j)=some v:=by intro j v h;obtain⟨h1,rfl⟩:=xW h;rw[cz];exact hc j (by omega)
theorem acg:(prog.info? 5).map (·.size)=some 1:=by kernel_rfl
theorem Fb (x:Int)(k:Nat)(h0:0<=x):x/2 ^ (8*k)%256=x/256^k%256:=by rw[show(256:Int) ^ k=2 ^ (8*k)by rw[Int.pow_mul];rfl]
theorem xZ {a x:Int}(h:dX l op a=true):(il l op a x).length=l.length:=by unfold il;rw[h];exact iR _ _ _ _
end Mm
namespace Wd

variable {a x y :Int}
def sg (a:Int):Int:=if a<2147483648 then a else a-4294967296
def iw (a b:Int):Int:=((a.toNat &&& b.toNat:Nat):Int)
def rW (a b:Int):Int:=((a.toNat |||b.toNat:Nat):Int)
def zX (a b:Int):Int:=((a.toNat ^^^ b.toNat:Nat):Int)
def tr (b:Bool):Int:=if b then 1 else 0
def pw (b:Int):Int:=2 ^ (b%32).toNat
def lo (n:Int):Int:=n%4294967296
def hi (n:Int):Int:=n/4294967296%4294967296
def dv (a b:Int):Int:=if b=0 then 4294967295 else lo ((sg a).tdiv (sg b))
def rm (a b:Int):Int:=if b=0 then a else lo ((sg a).tmod (sg b))
def dvu (a b:Int):Int:=if b=0 then 4294967295 else a/b
def rmu (a b:Int):Int:=if b=0 then a else a%b
def eT (op a b:Int):Int:=
 if op=28 then lo (a+b)else if op=29 then lo (a-b)else if op=37 then iw a b else if op=36 then rW a b
 else if op=33 then zX a b else if op=30 then lo (a*pw b)else if op=34 then a/pw b else if op=35 then lo (sg a/pw b)
 else if op=31 then tr (decide (sg a<sg b))else if op=32 then tr (decide (a<b))else if op=38 then lo (a*b)
 else if op=39 then hi (sg a*sg b)else if op=40 then hi (sg a*b)else if op=41 then hi (a*b)
 else if op=42 then dv a b else if op=44 then rm a b else if op=43 then dvu a b else if op=45 then rmu a b else 0
def holds (op a b:Int):Bool:=
 if op=5 then decide (a=b)else if op=6 then decide (a≠b)else if op=7 then decide (sg a<sg b)else if op=8 then decide (sg b<=sg a)
 else if op=9 then decide (a<b)else if op=10 then decide (b<=a)else false
def mO (op a b:Int):Int:=
 if op=48 then b else if op=49 then lo (a+b)else if op=50 then zX a b else if op=51 then iw a b else if op=52 then rW a b
 else if op=53 then(if sg a<sg b then a else b)else if op=54 then(if sg a<sg b then b else a)
 else if op=55 then(if a<b then a else b)else if op=56 then(if a<b then b else a)else 0
theorem rA (h0:0<=a)(h1:a<4294967296) : -2147483648<=sg a/\sg a<2147483648:=by unfold sg;split<;>omega
theorem rC (h0:0<=a)(h1:a<4294967296):lo (sg a)=a:=by unfold sg lo;split<;>omega
theorem Ff (h0:0<=a)(h1:a<4294967296):sg a=0↔a=0:=by unfold sg;split<;>omega
theorem vX (n:Int):0<=lo n/\lo n<4294967296:=by unfold lo;omega
theorem XC (b:Int)(h:0<=b):pw b=((2 ^ (b.toNat%32):Nat):Int):=by unfold pw;rw[show(b%32).toNat=b.toNat%32 by omega];simp
theorem aci (b:Int)(h:0<=b):1<=pw b/\pw b<=2147483648:=by rw[XC b h];have h1:2 ^ (b.toNat%32)<=2^31:=aqE (by omega) (by omega);have h2:0<2 ^ (b.toNat%32):=aq4 _;omega
theorem K7 (hx : -2147483648<=x)(hx':x<=2147483648)(hy : -4294967296<y)(hy':y<4294967296) : -9223372036854775808<=x*y/\x*y<=9223372036854775807:=by
 by_cases h:0<=x
 ·have a1:x*y<=x*4294967295:=aqN (by omega) h;have a2:x*(-4294967295)<=x*y:=aqN (by omega) h;omega
 ·have a1:x*y<=x*(-4294967295):=aq9 (by omega) (by omega);have a2:x*4294967295<=x*y:=aq9 (by omega) (by omega);omega
theorem Rv (hx:0<=x)(hx':x<4294967296)(hy:0<=y)(hy':y<4294967296):0<=x*y/\x*y<=18446744065119617025:=by have a1:x*y<=x*4294967295:=aqN (by omega) hx;have a2:0<=x*y:=Int.mul_nonneg hx hy;omega
end Wd
namespace As

def dg (n:Nat):List Nat:=if h:n<10 then [48+n] else dg (n/10)++[48+n%10]
 termination_by n
 decreasing_by omega
theorem K8 {n:Nat}(h:n<10):dg n=[48+n]:=by rw[dg,dif_pos h]
theorem Wu {n:Nat}(h:¬n<10):dg n=dg (n/10)++[48+n%10]:=by rw[dg,dif_neg h]
def vl (l:List Nat):Nat:=l.foldl (fun n d=>10*n+(d-48)) 0
abbrev IsD (d:Nat):Prop:=48<=d/\d<=57
theorem x8 (k:Nat):∀n,n<10 ^ (k+1)->(dg n).length<=k+1:=by
 induction k with
 |zero=>intro n h;rw[K8 (by simpa using h)];simp
 |succ k ih=>
  intro n h;by_cases h10:n<10
  ·rw[K8 h10];simp
  ·rw[Wu h10,apo];have:=ih (n/10) (by rw[Nat.pow_succ]at h;omega);simp;omega
def num (n:Int):List Nat:=if n<0 then 45::dg n.natAbs else dg n.natAbs
end As
namespace Dc
open Wd

variable {w lo mi k :Int}
def pk (n:Int):List (Int×Int)→Int
 | []=>0
 |(a,o)::r=>if n=a then o else pk n r
def lB:List (Int×Int):=[(0,5),(1,6),(4,7),(5,8),(6,9),(7,10)]
def lL:List (Int×Int):=[(0,11),(1,12),(2,13),(4,14),(5,15)]
def lS:List (Int×Int):=[(0,16),(1,17),(2,18)]
def lH:List (Int×Int):=[(1,25),(5,26),(261,27)]
def lI:List (Int×Int):=[(0,19),(2,20),(3,21),(4,22),(6,23),(7,24)]
def lR0:List (Int×Int):=[(0,28),(1,30),(2,31),(3,32),(4,33),(5,34),(6,36),(7,37)]
def XD:List (Int×Int):=[(0,29),(5,35)]
def lR1:List (Int×Int):=[(0,38),(1,39),(2,40),(3,41),(4,42),(5,43),(6,44),(7,45)]
def lA:List (Int×Int):=[(2,46),(3,47),(1,48),(0,49),(4,50),(12,51),(8,52),(16,53),(20,54),(24,55),(28,56)]
def lE:List (Int×Int):=[(115,58),(1048691,59)]
def oV (w lo mi up:Int):Int:=
 if lo=55 then 1 else if lo=23 then 2 else if lo=111 then 3
 else if lo=103 then pk mi [(0,4)]else if lo=99 then pk mi lB else if lo=3 then pk mi lL else if lo=35 then pk mi lS
 else if lo=19 then(if mi=1\/mi=5 then pk (8*up+mi) lH else pk mi lI)
 else if lo=51 then(if up=0 then pk mi lR0 else if up=32 then pk mi XD else if up=1 then pk mi lR1 else 0)
 else if lo=47 then(if mi=2 then pk (up/4) lA else 0)
 else if lo=15 then pk mi [(0,57)]else if lo=115 then pk w lE else 0
def raw (w:Int):Int:=oV w (w%128) (w/4096%8) (w/33554432)
def aJ (k:Int):Int:=
 if k=1\/k=2 then 1 else if k=3 then 2 else if k=4 then 3 else if 5<=k/\k<=10 then 5 else if 11<=k/\k<=15 then 3
 else if 16<=k/\k<=18 then 6 else if 19<=k/\k<=24 then 3 else if 25<=k/\k<=27 then 4 else if 28<=k/\k<=45 then 7
 else if 46<=k/\k<=56 then 8 else if k=57 then 3 else if k=58\/k=59 then 9 else 0
def mask (f:Int):Int:=if f=1\/f=2 then 127 else if f=3\/f=5\/f=6 then 28799 else if f=4\/f=7 then 4261441663 else if f=8 then 4160778367 else if f=9 then 4294967295 else 0
def nth (l:List Int) (k:Int):Int:=l.getD k.toNat 0
def uppers:List Int:=[0,0,0,0,0,0,0,0,0,0,0,0,0,0,0,0,0,0,0,0,0,0,0,0,0,0,0,32,0,32,0,0,0,0,0,32,0,0,1,1,1,1,1,1,1,1,8,12,4,0,16,48,32,64,80,96,112,0,0,0]
def rowOf (op first low:Int) (af6:List Int):Int:=low+nth af6 (op-first)*4096+nth uppers op*33554432
def bK (k:Int):Int:=
 if k=1 then 55 else if k=2 then 23 else if k=3 then 111 else if k=4 then rowOf k 4 103 [0]else if 5<=k/\k<=10 then rowOf k 5 99 [0,1,4,5,6,7]
 else if 11<=k/\k<=15 then rowOf k 11 3 [0,1,2,4,5]else if 16<=k/\k<=18 then rowOf k 16 35 [0,1,2]else if 19<=k/\k<=24 then rowOf k 19 19 [0,2,3,4,6,7]
 else if 25<=k/\k<=27 then rowOf k 25 19 [1,5,5]else if 28<=k/\k<=37 then rowOf k 28 51 [0,0,1,2,3,4,5,5,6,7]else if 38<=k/\k<=45 then rowOf k 38 51 [0,1,2,3,4,5,6,7]
 else if 46<=k/\k<=56 then rowOf k k 47 [2]else if k=57 then rowOf k 57 15 [0]else if k=58 then 115 else if k=59 then 1048691 else 0
def aO (w:Int):Int:=if raw w=46/\w/1048576%32≠0 then 0 else raw w
def iT (h n:Int):Int:=if n>=h then n-2*h else n
def bS (f w:Int):Int:=
 if f=1 then sg w-w%4096
 else if f=2 then iT 1048576 (w/2147483648*1048576+w/4096%256*4096+w/1048576%2*2048+w/2097152%1024*2)
 else if f=3 then iT 2048 (w/1048576)
 else if f=4 then w/1048576%32
 else if f=5 then iT 4096 (w/2147483648*4096+w/128%2*2048+w/33554432%64*32+w/256%16*2)
 else if f=6 then iT 2048 (w/33554432*32+w/128%32)
 else if f=8 then w/33554432%4 else 0
def kV (f:Int):Bool:=f ==1 ||f ==2 ||f ==3 ||f ==4 ||f ==7 ||f ==8
def iG (f:Int):Bool:=f ==3 ||f ==4 ||f ==5 ||f ==6 ||f ==7 ||f ==8
def iJ (f:Int):Bool:=f ==5 ||f ==6 ||f ==7 ||f ==8
def iF (f w:Int):Int:=if kV f then w/128%32 else 0
def bZ (f w:Int):Int:=if iG f then w/32768%32 else 0
def bV (f w:Int):Int:=if iJ f then w/1048576%32 else 0
theorem jT (w i n:Nat):w &&& ((2^n-1)*2^i)=w/2^i%2^n*2^i:=by
 apply Nat.eq_of_testBit_eq;intro j;rw[Nat.testBit_and,Nat.testBit_mul_two_pow,Nat.testBit_mul_two_pow,Nat.testBit_two_pow_sub_one,Nat.testBit_mod_two_pow,Nat.testBit_div_two_pow];by_cases h:i<=j
 ·have e:j-i+i=j:=by omega
  simp[h,e];rw[Bool.and_comm]
 ·simp[h]
theorem jA (x y i:Nat)(h:x<2^i):y*2^i |||x=y*2^i+x:=by rw[aqH];exact(arh h y).symm
theorem Wx (w:Nat):w &&& 127=w%128:=by have:=jT w 0 7;simpa using this
theorem XE (w:Nat):w &&& 28672=w/4096%8*4096:=jT w 12 3
theorem XF (w:Nat):w &&& 4261412864=w/33554432%128*33554432:=jT w 25 7
theorem XG (w:Nat):w &&& 4160749568=w/134217728%32*134217728:=jT w 27 5
theorem K9 (w:Nat):w &&& 28799=w/4096%8*4096+w%128:=by rw[show(28799:Nat)=28672 |||127 by decide,aq0,Wx,XE,<-jA _ _ 12 (by omega)]
theorem ack (w:Nat):w &&& 4261441663=w/33554432%128*33554432+(w/4096%8*4096+w%128):=by rw[show(4261441663:Nat)=4261412864 |||28799 by decide,aq0,K9,XF,<-jA _ _ 25 (by omega)]
theorem acm (w:Nat):w &&& 4160778367=w/134217728%32*134217728+(w/4096%8*4096+w%128):=by rw[show(4160778367:Nat)=4160749568 |||28799 by decide,aq0,K9,XG,<-jA _ _ 27 (by omega)]
theorem Wy (h0:0<=w)(h1:w<4294967296):iw w 127=w%128:=by unfold iw;rw[show(127:Int).toNat=127 from rfl,Wx];omega
theorem acn (h0:0<=w)(h1:w<4294967296):iw w 28799=w%128+w/4096%8*4096:=by unfold iw;rw[show(28799:Int).toNat=28799 from rfl,K9];omega
theorem aco (h0:0<=w)(h1:w<4294967296):iw w 4261441663=w%128+w/4096%8*4096+w/33554432*33554432:=by unfold iw;rw[show(4261441663:Int).toNat=4261441663 from rfl,ack];omega
theorem acp (h0:0<=w)(h1:w<4294967296):iw w 4160778367=w%128+w/4096%8*4096+w/134217728*134217728:=by unfold iw;rw[show(4160778367:Int).toNat=4160778367 from rfl,acm];omega
theorem acr (h0:0<=w)(h1:w<4294967296):iw w 4294967295=w:=by unfold iw;rw[show(4294967295:Int).toNat=2^32-1 from rfl,aqL];omega
def part (f w:Int):Int:=
 if f=1\/f=2 then w%128 else if f=3\/f=5\/f=6 then w%128+w/4096%8*4096 else if f=4\/f=7 then w%128+w/4096%8*4096+w/33554432*33554432
 else if f=8 then w%128+w/4096%8*4096+w/134217728*134217728 else if f=9 then w else 0
theorem Ih {f:Int}(h0:0<=w)(h1:w<4294967296):iw w (mask f)=part f w:=by
 unfold mask part;split
 ·exact Wy h0 h1
 split
 ·exact acn h0 h1
 split
 ·exact aco h0 h1
 split
 ·exact acp h0 h1
 split
 ·exact acr h0 h1
 ·simp[iw]
theorem La (k:Int):0<=aJ k/\aJ k<=9:=by
 unfold aJ;repeat' split
 all_goals omega
theorem XH {up:Int}(h1:w%128=lo)(h2:w/4096%8=mi)(h3:w/33554432=up):raw w=oV w lo mi up:=by subst h1 h2 h3;rfl
theorem Rx (h1:w%128=lo):raw w=oV w lo (w/4096%8) (w/33554432):=by subst h1;rfl
theorem Fg (h1:w%128=lo)(h2:w/4096%8=mi):raw w=oV w lo mi (w/33554432):=by subst h1 h2;rfl
theorem t1 {T:Int}(h:w%128=T)(e:∀a b,oV w T a b=k):raw w=k:=by rw[Rx h];exact e _ _
theorem t2 {T:Int}(h:w%128+w/4096%8*4096=T)(e:∀b,oV w (T%128) (T/4096%8) b=k):raw w=k:=by rw[Fg (lo:=T%128) (mi:=T/4096%8) (by omega) (by omega)];exact e _
theorem t3 {T:Int}(h:w%128+w/4096%8*4096+w/33554432*33554432=T)(e:oV w (T%128) (T/4096%8) (T/33554432)=k):raw w=k:=by rw[XH (lo:=T%128) (mi:=T/4096%8) (up:=T/33554432) (by omega) (by omega) (by omega)];exact e
theorem t4 {T:Int}(h:w%128+w/4096%8*4096+w/134217728*134217728=T)(e:∀b,b/4=T/134217728->oV w (T%128) (T/4096%8) b=k):raw w=k:=by rw[Fg (lo:=T%128) (mi:=T/4096%8) (by omega) (by omega)];exact e _ (by omega)
theorem t5 {T:Int}(h:w=T)(e:raw T=k):raw w=k:=by rw[h];exact e
theorem zY (h0:0<=w)(h1:w<4294967296)(hk:1<=k)(hk':k<=59)(h:part (aJ k) w=bK k):raw w=k:=by
 have hd:(k=1\/k=2\/k=3)\/(k=4\/k=5\/k=6\/k=7\/k=8\/k=9\/k=10\/k=11\/k=12\/k=13\/k=14\/k=15\/k=16\/k=17\/k=18\/k=19\/k=20\/k=21\/k=22\/k=23\/k=24\/k=57)\/(k=25\/k=26\/k=27\/k=28\/k=29\/k=30\/k=31\/k=32\/k=33\/k=34\/k=35\/k=36\/k=37\/k=38\/k=39\/k=40\/k=41\/k=42\/k=43\/k=44\/k=45)\/(k=46\/k=47\/k=48\/k=49\/k=50\/k=51\/k=52\/k=53\/k=54\/k=55\/k=56)\/(k=58\/k=59):=by omega
 rcases hd with hd|hd|hd|hd|hd
 ·rcases hd with rfl|rfl|rfl<;>exact t1 h fun _ _=>rfl
 ·rcases hd with rfl|rfl|rfl|rfl|rfl|rfl|rfl|rfl|rfl|rfl|rfl|rfl|rfl|rfl|rfl|rfl|rfl|rfl|rfl|rfl|rfl|rfl<;>exact t2 h fun _=>rfl
 ·rcases hd with rfl|rfl|rfl|rfl|rfl|rfl|rfl|rfl|rfl|rfl|rfl|rfl|rfl|rfl|rfl|rfl|rfl|rfl|rfl|rfl|rfl<;>exact t3 h rfl
 ·rcases hd with rfl|rfl|rfl|rfl|rfl|rfl|rfl|rfl|rfl|rfl|rfl<;>exact t4 h fun b hb=>by show pk (b/4) lA=_;rw[hb];rfl
 ·rcases hd with rfl|rfl<;>exact t5 h (by decide)
theorem dD {n:Int}{P:Int→Prop}:(l:List (Int×Int))→(h0:P 0)→(∀x∈l,n=x.1→P x.2)→P (pk n l)
 | [],h0,_=>h0
 |(a,o)::r,h0,h=>by
  unfold pk;split
  ·exact h (a,o) (by simp) ‹_›
  ·exact dD r h0 fun x hx=>h x (by simp[hx])
def sp1 (lo:Int):Int:=if lo=55 then 1 else if lo=23 then 2 else if lo=111 then 3 else if lo=103 then 4 else if lo=99 then 5 else if lo=3 then 11 else if lo=35 then 16 else if lo=19 then 19 else if lo=51 then 28 else if lo=47 then 46 else if lo=15 then 57 else if lo=115 then 58 else 0
def sp2 (lo:Int):Int:=if lo=55 then 1 else if lo=23 then 2 else if lo=111 then 3 else if lo=103 then 4 else if lo=99 then 10 else if lo=3 then 15 else if lo=35 then 18 else if lo=19 then 27 else if lo=51 then 45 else if lo=47 then 56 else if lo=15 then 57 else if lo=115 then 59 else -1
def Q (w k:Int):Prop:=k≠0->part (aJ k) w=bK k/\1<=k/\k<=59/\sp1 (w%128)<=k/\k<=sp2 (w%128)
theorem Q0 (w:Int):Q w 0:=fun h=>absurd rfl h
theorem q_ {L:Int}(hl:w%128=L)(hp:part (aJ k) w=bK k)(hb:1<=k/\k<=59/\sp1 L<=k/\k<=sp2 L):Q w k:=fun _=>by subst hl;exact⟨hp,hb⟩
theorem qM {L M:Int}(hl:w%128=L)(hm:w/4096%8=M)(f:∀v,part (aJ k) v=v%128+v/4096%8*4096)(e:L+M*4096=bK k)(hb:1<=k/\k<=59/\sp1 L<=k/\k<=sp2 L):Q w k:=q_ hl (by rw[f,hl,hm];exact e) hb
theorem qU {L M U:Int}(hl:w%128=L)(hm:w/4096%8=M)(hu:w/33554432=U)(f:∀v,part (aJ k) v=v%128+v/4096%8*4096+v/33554432*33554432)(e:L+M*4096+U*33554432=bK k)(hb:1<=k/\k<=59/\sp1 L<=k/\k<=sp2 L):Q w k:=q_ hl (by rw[f,hl,hm,hu];exact e) hb
theorem qA {L M U:Int}(hl:w%128=L)(hm:w/4096%8=M)(hu:w/33554432/4=U)(f:∀v,part (aJ k) v=v%128+v/4096%8*4096+v/134217728*134217728)(e:L+M*4096+U*134217728=bK k)(hb:1<=k/\k<=59/\sp1 L<=k/\k<=sp2 L):Q w k:=q_ hl (by rw[f,hl,hm,show w/134217728=U by omega];exact e) hb
theorem sW (h0:0<=w)(h1:w<4294967296):Q w (raw w):=by
 unfold raw oV;by_cases hl:w%128=55
 ·rw[at7 hl];exact q_ hl hl (by decide)
 rw[at6 hl];clear hl;by_cases hl:w%128=23
 ·rw[at7 hl];exact q_ hl hl (by decide)
 rw[at6 hl];clear hl;by_cases hl:w%128=111
 ·rw[at7 hl];exact q_ hl hl (by decide)
 rw[at6 hl];clear hl;by_cases hl:w%128=103
 ·rw[at7 hl];refine dD [(0,4)] (Q0 w) fun x hx hn=>?_
  simp only[apx,apB,auw]at hx;subst hx;exact qM hl hn (fun _=>rfl) rfl (by decide)
 rw[at6 hl];clear hl;by_cases hl:w%128=99
 ·rw[at7 hl];refine dD lB (Q0 w) fun x hx hn=>?_
  simp only[lB,apx,apB,auw]at hx;rcases hx with rfl|rfl|rfl|rfl|rfl|rfl<;>exact qM hl hn (fun _=>rfl) rfl (by decide)
 rw[at6 hl];clear hl;by_cases hl:w%128=3
 ·rw[at7 hl];refine dD lL (Q0 w) fun x hx hn=>?_
  simp only[lL,apx,apB,auw]at hx;rcases hx with rfl|rfl|rfl|rfl|rfl<;>exact qM hl hn (fun _=>rfl) rfl (by decide)
 rw[at6 hl];clear hl;by_cases hl:w%128=35
 ·rw[at7 hl];refine dD lS (Q0 w) fun x hx hn=>?_
  simp only[lS,apx,apB,auw]at hx;rcases hx with rfl|rfl|rfl<;>exact qM hl hn (fun _=>rfl) rfl (by decide)
 rw[at6 hl];clear hl;by_cases hl:w%128=19
 ·rw[at7 hl];by_cases hm:w/4096%8=1\/w/4096%8=5
  ·rw[at7 hm];refine dD lH (Q0 w) fun x hx hn=>?_
   simp only[lH,apx,apB,auw]at hx;rcases hx with rfl|rfl|rfl
   ·exact qU (M:=1) (U:=0) hl (by simp only at hn;omega) (by simp only at hn;omega) (fun _=>rfl) rfl (by decide)
   ·exact qU (M:=5) (U:=0) hl (by simp only at hn;omega) (by simp only at hn;omega) (fun _=>rfl) rfl (by decide)
   ·exact qU (M:=5) (U:=32) hl (by simp only at hn;omega) (by simp only at hn;omega) (fun _=>rfl) rfl (by decide)
  ·rw[at6 hm];refine dD lI (Q0 w) fun x hx hn=>?_
   simp only[lI,apx,apB,auw]at hx;rcases hx with rfl|rfl|rfl|rfl|rfl|rfl<;>exact qM hl hn (fun _=>rfl) rfl (by decide)
 rw[at6 hl];clear hl;by_cases hl:w%128=51
 ·rw[at7 hl];by_cases hu:w/33554432=0
  ·rw[at7 hu];refine dD lR0 (Q0 w) fun x hx hn=>?_
   simp only[lR0,apx,apB,auw]at hx;rcases hx with rfl|rfl|rfl|rfl|rfl|rfl|rfl|rfl<;>exact qU hl hn hu (fun _=>rfl) rfl (by decide)
  rw[at6 hu];clear hu;by_cases hu:w/33554432=32
  ·rw[at7 hu];refine dD XD (Q0 w) fun x hx hn=>?_
   simp only[XD,apx,apB,auw]at hx;rcases hx with rfl|rfl<;>exact qU hl hn hu (fun _=>rfl) rfl (by decide)
  rw[at6 hu];clear hu;by_cases hu:w/33554432=1
  ·rw[at7 hu];refine dD lR1 (Q0 w) fun x hx hn=>?_
   simp only[lR1,apx,apB,auw]at hx;rcases hx with rfl|rfl|rfl|rfl|rfl|rfl|rfl|rfl<;>exact qU hl hn hu (fun _=>rfl) rfl (by decide)
  rw[at6 hu];clear hu;exact Q0 w
 rw[at6 hl];clear hl;by_cases hl:w%128=47
 ·rw[at7 hl];by_cases hm:w/4096%8=2
  ·rw[at7 hm];refine dD lA (Q0 w) fun x hx hn=>?_
   simp only[lA,apx,apB,auw]at hx;rcases hx with rfl|rfl|rfl|rfl|rfl|rfl|rfl|rfl|rfl|rfl|rfl<;>exact qA hl hm hn (fun _=>rfl) rfl (by decide)
  rw[at6 hm];exact Q0 w
 rw[at6 hl];clear hl;by_cases hl:w%128=15
 ·rw[at7 hl];refine dD [(0,57)] (Q0 w) fun x hx hn=>?_
  simp only[apx,apB,auw]at hx;subst hx;exact qM hl hn (fun _=>rfl) rfl (by decide)
 rw[at6 hl];clear hl;by_cases hl:w%128=115
 ·rw[at7 hl];refine dD lE (Q0 w) fun x hx hn=>?_
  simp only[lE,apx,apB,auw]at hx;rcases hx with rfl|rfl<;>exact q_ hl hn (by decide)
 rw[at6 hl];clear hl;exact Q0 w
theorem Lb (h0:0<=w)(h1:w<4294967296)(hk:1<=k)(hk':k<=59):iw w (mask (aJ k))=bK k↔raw w=k:=by rw[Ih h0 h1];refine⟨zY h0 h1 hk hk',fun h=>?_⟩;have:=(sW h0 h1 (by omega)).1;rwa[h]at this
theorem kI (h0:0<=w)(h1:w<4294967296):0<=raw w/\raw w<=59:=by
 by_cases h:raw w=0
 ·omega
 ·have:=sW h0 h1 h;omega
end Dc
namespace Dw
open Go.ChangeShapes Go.WideShapes Go.ChangeAt Go.RowKit

variable {w w' a :World} {v :Value}
def Gr (w w':World):Prop:=Below w.heap.size w w'/\∀a,w'.frozen? a=w.frozen? a
theorem Gr.refl (w:World):Gr w w:=⟨auC _ _,fun _=>rfl⟩
theorem Gr.size (h:Gr w w'):w.heap.size<=w'.heap.size:=h.1.size
theorem Gr.trans {b c:World}(h:Gr a b)(k:Gr b c):Gr a c:=⟨h.1.trans (k.1.mono h.1.size),fun x=>(k.2 x).trans (h.2 x)⟩
theorem Gr.alloc (h:Gr a w)(c:Array Value)(t:TypeId):Gr a (w.alloc (.cells c t)):=⟨h.1.alloc h.1.size _,fun x=>(frozen?_alloc_cells _ _ _ x).trans (h.2 x)⟩
theorem Gr.setCell (h:Gr a w){p:Addr}(hp:a.heap.size<=p.block)(v:Value):Gr a (w.setCell p v):=⟨h.1.setCell hp v,fun x=>(World.frozen?_setCell _ _ _ _).trans (h.2 x)⟩
theorem Gr.drewN (h:Gr a w)(n:Nat):Gr a (w.drewN n):=⟨⟨h.1.os,h.1.tape,h.1.output,h.1.size,h.1.block⟩,h.2⟩
theorem Gr.cell (h:Gr w w')(b o:Nat)(hb:b<w.heap.size):w'.cell? ⟨b,o,none⟩=w.cell? ⟨b,o,none⟩:=h.1.cell (p:=⟨b,o,none⟩) hb
theorem lt_of_cell {b o:Nat}(h:w.cell? ⟨b,o,none⟩=some v):b<w.heap.size:=by
 by_cases hb:b<w.heap.size
 ·exact hb
 ·have:w.heap[b]?=none:=by simp;omega
  simp[World.cell?,this]at h
def look {H:Type} (P:Program):Nat→TypeId→DataW H→Nat→Option Value
 |0,_,_,_=>none
 |n+1,t,d,i=>
  match P.underlying t,d with
  |some .bool,.lit (.bool b)=>if i=0 then some (.bool b)else none
  |some (.int _),.lit (.int k m)=>if i=0 then some (.int k m)else none
  |some (.struct fs),.agg ds=>
   match (List.range fs.size).find? (fun j=>match fs[j]? with|some f=>decide (f.offset<=i) && decide (i<f.offset+P.cellsOf f.type)|none=>false)with
   |some j=>match fs[j]?,ds[j]? with
    |some f,some e=>if f.offset<=i/\i<f.offset+P.cellsOf f.type then look P n f.type e (i-f.offset)else none
    |_,_=>none
   |none=>none
  |some (.array k e),.agg ds=>
   match ds[i/P.cellsOf e]? with
   |some x=>if 0<P.cellsOf e/\i/P.cellsOf e<k then look P n e x (i%P.cellsOf e)else none
   |none=>none
  |_,_=>none
theorem jI {α:Type}(cs:List α)(a n i:Nat)(v:α)(h:((cs.drop a).take n)[i]?=some v):cs[a+i]?=some v:=by
 rw[apS]at h;split at h
 ·rwa[ap3]at h
 ·cases h
theorem dN {H:Type}{enc:TypeId×Value->H}{P:Program}{base:Nat}{spare:Nat->Bool}{held:Bool}:(n:Nat)->∀{fuel:Nat} {t:TypeId} {cs:List Value} {d:DataW H} {ps:List MemPlace} {i:Nat} {v:Value},
  DataW.trod enc P w base spare held fuel t cs=some (d,ps)->look P n t d i=some v->cs[i]?=some v
 |0,_,_,_,_,_,_,_,_,hl=>by cases hl
 |n+1,fuel,t,cs,d,ps,i,v,h,hl=>by
  unfold look at hl;split at hl
  ·rename_i ht;obtain⟨b,rfl,hx⟩:=DataW.trod_bool ht h;simp at hx;split at hl
   ·subst_vars;simpa[hx.1]using hl
   ·cases hl
  ·rename_i ht;obtain⟨b,rfl,hx,_⟩:=DataW.trod_int ht h;simp at hx;split at hl
   ·subst_vars;simp at hl;rw[<-hl,hx.1.1,hx.1.2];rfl
   ·cases hl
  ·rename_i fs ds ht;obtain⟨xs,m,rfl,hx,_,hlen,hel⟩:=DataW.trod_struct ht h;simp only[auX,DataW.agg.injEq]at hx;split at hl
   ·rename_i j _;split at hl
    ·rename_i f e hf he;split at hl
     ·rename_i hi;have hE:=hel j f hf;rw[hx.1,apT]at he;cases hy:xs[j]? with
      |none=>simp[hy]at he
      |some y=>
       rw[hy]at hE he;simp at he;have:=dN n (d:=e) (ps:=y.2) (by rw[hE,<-he]) hl;have:=jI _ _ _ _ _ this;rwa[show f.offset+(i-f.offset)=i by omega]at this
     ·cases hl
    ·cases hl
   ·cases hl
  ·rename_i k e ds ht;obtain⟨xs,m,rfl,hx,_,hlen,hel⟩:=DataW.trod_array ht h;simp only[auX,DataW.agg.injEq]at hx;split at hl
   ·rename_i x he;split at hl
    ·rename_i hi;have hE:=hel _ hi.2;rw[hx.1,apT]at he;cases hy:xs[i/P.cellsOf e]? with
     |none=>simp[hy]at he
     |some y=>
      rw[hy]at hE he;simp at he;have:=dN n (d:=x) (ps:=y.2) (by rw[hE,<-he]) hl;have:=jI _ _ _ _ _ this;rwa[aqH,arw]at this
    ·cases hl
   ·cases hl
  ·cases hl
def shape (told:Int) (rd bL bT:Bool) (jw:List Int) (spare:Int):List Value:=[.int .u32 told,.bool rd,.bool bL,.bool bT]++jw.map (fun n=>.int .i64 n)++[.int .i64 spare]
def pieces (f:Nat):List Int:=match f with
 |1=>[12,12,20,0,0,0,0,0,0,0,0,0]|2=>[31,20,1,12,12,8,20,11,1,21,1,10]|3=>[20,0,12,0,0,0,0,0,0,0,0,0]|4=>[20,0,5,0,0,0,0,0,0,0,0,0]
 |5=>[31,12,1,7,11,1,25,5,6,8,1,4]|6=>[25,5,7,7,0,5,0,0,0,0,0,0]|8=>[25,0,2,0,0,0,0,0,0,0,0,0]|_=>[0,0,0,0,0,0,0,0,0,0,0,0]
def spare (f:Nat):Int:=match f with|2=>11|3=>20|5=>19|6=>20|_=>0
def shapes:List Value:=(List.range 10).flatMap fun(f:Nat)=>shape (Dc.mask f) (Dc.kV f) (Dc.iG f) (Dc.iJ f) (pieces f) (spare f)
structure nK (w:World):Prop where
 shapes:∀i v,shapes[i]?=some v->w.cell? ⟨0,i,none⟩=some v
 uppers:∀i n,Dc.uppers[i]?=some n->w.cell? ⟨3,i,none⟩=some (.int .u32 n)
theorem nK.of (h:nK w)(g:Gr w w'):nK w':=⟨fun i v hi=>(g.cell _ _ (lt_of_cell (h.shapes i v hi))).trans (h.shapes i v hi),fun i v hi=>(g.cell _ _ (lt_of_cell (h.uppers i v hi))).trans (h.uppers i v hi)⟩
theorem Fh : prog.globalNamed "ferrybridge/decode.shapes" = some 0 := by kernel_rfl
theorem Fj : prog.globalNamed "ferrybridge/decode.uppers" = some 3 := by kernel_rfl
theorem Fp:(prog.globals[0]?).map (·.type)=some 104:=by kernel_rfl
theorem Fs:(prog.globals[3]?).map (·.type)=some 185:=by kernel_rfl
theorem sZ:(List.range 170).map (look prog 5 104 (Rows.laid_ferrybridge_decode_shapes (H:=Unit)))=shapes.map some:=by kernel_rfl
theorem tC:(List.range 60).map (look prog 3 185 (Rows.laid_ferrybridge_decode_uppers (H:=Unit)))=Dc.uppers.map fun n=>some (.int .u32 n):=by kernel_rfl
theorem jB {d:DataW Unit}{n t N:Nat}{l:List Value}(h:(List.range N).map (look prog n t d)=l.map some){i:Nat}(hi:l[i]?=some v):look prog n t d i=some v:=by
 have e:=congrArg (·[i]?) h;simp only[apT,hi,ap7]at e;cases hr:(List.range N)[i]? with
 |none=>simp[hr]at e
 |some j=>
  rw[hr]at e;have:j=i:=by
   rw[apj]at hr;obtain⟨_,hr⟩:=hr;simpa using hr.symm
  subst this;simpa using e
end Dw
namespace Re
open Go.ChangeShapes Go.WideShapes Go.ChangeAt Go.RowKit Dw

end Re
end Go.Proofs.YtiadhbmnfjfioaaGreatDoor
