/- ours -/
import Derived.Deep.RegionHeld
import Derived.Great.BuildSlice
import Derived.Test.YtiadhbmnfjfioaaGreatDoorRows
import Derived.ProofKit
import Derived.OpenShut
import Derived.Laws.CopyOwn
import Derived.LaidMore
import Derived.Shelf.GgClosure.StringsTrimFunc
import Derived.Test.YtiadhbmnfjfioaaGreatDoorShelf
import Derived.Lib.AppendIntMem
import Derived.Stop.LaidErr
import Derived.SizedLaws
import Derived.Deep.Slices
import Derived.Deep.WholeRow
set_option linter.unusedVariables false
set_option linter.unusedSimpArgs false
set_option maxHeartbeats 8000000
set_option maxRecDepth 100000
set_option linter.unusedSectionVars false
namespace Go.Proofs.YtiadhbmnfjfioaaGreatDoor
variable{a:Act}{ops:Array Oper}{cs:Array Value}{held:Bool}{x f up T L M op:Int}{ss:List (Int×Int)}{os:List Int}{rest:List Oper}{l:List UInt8}{xs:List Value}{fuel g j i k s n b base:Nat}{fr:Nat×Nat}{oi o:Oper}{P:Program}{p c:Prop}{v a8 u:Value}{w w':World}{S:World->Prop}
theorem ab (h:p:=by omega):p:=h
theorem al (h:p:=by kernel_rfl):p:=h
theorem an (h:p:=by decide):p:=h
theorem aq (h:p:=by simp):p:=h
theorem ar (h:p:=by simp[Act.eval,Act.put]):p:=h
theorem aw (h:p:=by simp[Act.eval]):p:=h
theorem aE (h:p:=by simp;omega):p:=h
theorem bj (h:p:=by unfold maxLen;omega):p:=h
theorem bl (h:p:=by simp only;omega):p:=h
theorem bo (h:p:=by assumption):p:=h
set_option linter.defProp false
def api := @List.getElem?_eq_getElem
def apj := @List.getElem?_eq_some_iff
def apk := @Array.getElem?_eq_some_iff
def apl := @List.setIfInBounds_toArray
def apm := @List.getElem?_toArray
def apn := @Nat.le_refl
def apo := @List.length_append
def apq := @Nat.lt_of_lt_of_le
def apr := @Nat.le_trans
def aps := @List.mem_of_getElem?
def apt := @Int.eq_ofNat_of_zero_le
def apu := @Nat.zero_add
def apv := @List.getElem?_append_right
def apw := @List.getElem?_cons_zero
def apx := @List.mem_cons
def apy := @List.set_cons_succ
def apz := @List.append_nil
def apA := @List.getElem?_append_left
def apB := @List.not_mem_nil
def apC := @List.set_cons_zero
def apD := @Bool.and_eq_true
def apE := @List.mem_singleton
def apF := @Nat.zero_le
def apG := @Int.toNat_natCast
def apH := @List.length_cons
def apI := @List.getElem?_cons_succ
def apJ := @List.set_append_right
def apK := @List.mem_map
def apL := @List.flatMap_cons
def apM := @List.all_eq_true
def apN := @List.getElem_toArray
def apO := @List.nil_append
def apP := @List.getElem_cons_succ
def apQ := @List.getElem_cons_zero
def apR := @List.mem_append
def apS := @List.getElem?_take
def apT := @List.getElem?_map
def apU := @List.take_add_one
def apV := @List.getD_eq_getElem?_getD
def apW := @List.length_singleton
def apX := @List.eq_nil_of_length_eq_zero
def apY := @List.length_map
def apZ := @List.cons_append
def ap0 := @List.take_of_length_le
def ap1 := @List.getElem?_set
def ap2 := @List.size_toArray
def ap3 := @List.getElem?_drop
def ap4 := @Array.size_setIfInBounds
def ap5 := @List.length_take
def ap6 := @List.length_set
def ap7 := @Option.map_some
def ap8 := @List.length_nil
def ap9 := @List.take_length
def aqa := @List.append_assoc
def aqb := @List.map_append
def aqc := @List.singleton_append
def aqd := @List.take_append_drop
def aqe := @List.mem_iff_getElem?
def aqf := @List.getElem?_eq_none
def aqg := @List.flatMap_nil
def aqh := @List.length_drop
def aqi := @Nat.le_succ
def aqj := @Option.bind_some
def aqk := @Array.getElem?_eq_getElem
def aql := @List.ext_getElem?
def aqm := @Array.getD_eq_getD_getElem?
def aqn := @List.set_append_left
def aqo := @List.map_cons
def aqp := @Array.getElem?_setIfInBounds_ne
def aqr := @Int.emod_eq_of_lt
def aqs := @ByteArray.toList_eq
def aqt := @Nat.add_zero
def aqu := @List.getElem?_set_self
def aqv := @Option.map_eq_some_iff
def aqw := @Option.getD_some
def aqx := @List.mem_cons_of_mem
def aqy := @List.foldl_append
def aqz := @List.flatten_cons
def aqA := @Array.getElem?_setIfInBounds_self_of_lt
def aqB := @List.take_append_of_le_length
def aqC := @Array.ext_getElem?
def aqD := @Array.getElem?_toList
def aqE := @Nat.pow_le_pow_right
def aqF := @List.take_zero
def aqG := @List.drop_drop
def aqH := @Nat.mul_comm
def aqI := @Nat.zero_mul
def aqJ := @Nat.add_sub_cancel_left
def aqK := @List.getElem?_replicate
def aqL := @Nat.and_two_pow_sub_one_eq_mod
def aqM := @List.mem_cons_self
def aqN := @Int.mul_le_mul_of_nonneg_left
def aqO := @List.drop_append_of_le_length
def aqP := @Nat.le_of_lt
def aqQ := @Nat.mul_le_mul_right
def aqR := @List.mem_of_mem_drop
def aqS := @Array.size_replicate
def aqT := @List.flatten_nil
def aqU := @Nat.add_assoc
def aqV := @Bool.or_eq_true
def aqW := @Int.ediv_one
def aqX := @Array.getElem?_replicate
def aqY := @List.take_left
def aqZ := @List.mem_range
def aq0 := @Nat.and_or_distrib_left
def aq1 := @Bool.not_eq_false
def aq2 := @Int.mul_one
def aq3 := @Array.all_eq_true_iff_forall_mem
def aq4 := @Nat.two_pow_pos
def aq5 := @List.any_append
def aq6 := @Nat.le_of_eq
def aq7 := @List.mem_of_mem_take
def aq8 := @List.getElem?_set_ne
def aq9 := @Int.mul_le_mul_of_nonpos_left
def ara := @List.take_succ_cons
def arb := @List.toList_toArray
def arc := @List.getD_cons_zero
def ard := @List.getD_cons_succ
def arf := @Array.getElem?_setIfInBounds
def arh := @Nat.two_pow_add_eq_or_of_lt
def ari := @Nat.and_lt_two_pow
def arj := @List.pairwise_cons
def ark := @Nat.mod_two_eq_zero_or_one
def arl := @Bool.true_and
def arn := @Nat.or_lt_two_pow
def arp := @List.mem_flatMap
def art := @List.getElem_mem
def aru := @List.map_nil
def arw := @Nat.div_add_mod
def arx := @Bool.eq_iff_iff
def ary := @Int.ediv_nonneg
def arz := @List.mem_filter
def arA := @Nat.min_eq_left
def arB := @Nat.or_comm
def atZ := @Go.cell_of_row
def at5 := @Go.heap_alloc_new
def at6 := @if_neg
def at7 := @if_pos
def aua := @Go.AllReadyH.cons
def aub := @beq_eq_false_iff_ne
def auc := @Go.bodyPost_ret
def aud := @Go.AllReadyH.nil
def aue := @Go.wpAnyH_ready
def auf := @Go.wpList_store_row
def aug := @Go.World.block_lt_of_cell?
def auh := @decide_eq_false
def aui := @Go.World.cell?_of_block
def auj := @Option.some.injEq
def auk := @decide_eq_true_eq
def aul := @Go.heap_setCell_same
def aum := @Option.some.inj
def aun := @Go.RowKit.Below.mono
def auo := @Go.setRow_other
def aup := @Go.setRow_heap
def auq := @decide_eq_true
def aur := @Go.World.ownsRow_nil
def aus := @Go.frozen_of_row
def aut := @Go.wp_region_held_drew
def auu := @Go.Calls.quiet_of_same
def auv := @Go.heap_setCell_other
def auw := @or_false
def auy := @Go.wpAnyH_done
def auz := @Go.info_parts
def auA := @Go.wpList_load_mid
def auB := @Go.wp_region_quiet_lit
def auC := @Go.RowKit.Below.refl
def auD := @Go.results_cell_row
def auE := @Go.all_oneCell_toArray
def auF := @Go.wpAnyH_take
def auG := @UInt8.toNat_ofNat'
def auH := @Go.World.var?_cell
def auI := @Go.RowKit.Below.trans
def auJ := @Go.RowKit.Below.cell
def auK := @Go.wpList_append_own
def auL := @Go.wpList_load_row
def auM := @Go.Result.andThen_ok
def auN := @Go.yieldsIf_load_mid
def auO := @Go.wpQuiet_nil
def auP := @Go.AllReady.cons
def auQ := @Go.IntKind.wrap_i64
def auR := @Go.heap_alloc2_old
def auS := @Go.RowKit.Below.setCell
def auT := @Eq.trans
def auU := @beq_iff_eq
def auV := @Go.results_none
def auW := @Go.AllReady.nil
def auX := @Prod.mk.injEq
def auY := @Function.comp_def
def auZ := @Go.MakeChecks.laidMetH_plain
def au0 := @Go.Calls.mono
def au1 := @Go.RowKit.Below.block
def au2 := @Go.wpAny_ready
def au3 := @Go.Sem.run_bind
def au4 := @Go.run_loadVar_row
def au5 := @Go.wpList_plain
def au6 := @Go.run_append_own
def au7 := @true_and
def au8 := @Go.heap_alloc2_new
def au9 := @Go.wpList_buildTo
def ava := @of_decide_eq_true
def avb := @Go.World.cell?_spot
def avc := @Go.IntKind.wrap_u64
def avd := @Go.Sem.run_pure
def ave := @true_implies
def avf := @Go.World.ownsRow_made
def avg := @Go.Value.slice.injEq
def avk := @BitVec.toNat_and
def avm := @if_false
open Go.Proofs.Tryz hiding cs t0 t1 t2 t3 t4 t5 wide
open Go.ChangeShapes Go.WideShapes Go.ChangeAt Go.RowKit
theorem ak {h:Decidable c}{α:Sort _}{a b:α}(hn:¬c:=by omega):@ite α c h a b=b:=at6 hn
theorem dU {h:Decidable c}{α:Sort _}{a b:α}(hn:c:=by omega):@ite α c h a b=a:=at7 hn
theorem kH (h:p):Hid p:=h
theorem tK {md:Region.Mode}{Q:Exit->Act->World->Prop}(i:Nat)(v:Value){l l':Array Bool}{a':Act}(hS:S w)(h:wpAnyH P md ops Q S fuel l' a' w)(hi:ops[i]?=some oi:=by rfl)(hs:Region.noSelect ops=true:=by kernel_rfl)(hf:Region.free md ops l i=true:=by kernel_rfl)(hr:(Region.ready md ops l).contains i=true:=by kernel_rfl)(hQ:∀c a w,Q (.panic c) (a.put oi.dst v) w->Q (.panic c) a w:=by exact fun _ _ _ h=>h)(hy:YieldsIf P ops S oi v a:=by exact Or.inl ⟨by rfl,fun W hW=>by(repeat (obtain⟨_,hW⟩:=hW));go_simp⟩)(e1:l.setIfInBounds i true=l':=by(try simp only[apl,apC,apy]);try rfl)(e2:a.put oi.dst v=a':=by(try simp only[Act.put,apN,apP,apQ,apl,apC,apy]);try rfl):wpAnyH P md ops Q S (fuel+1) l a w:=by
 subst e1 e2;exact auF hi hs hf hr hQ hy hS h
variable {w :World} {g t :Nat} {fr :Nat × Nat} {a0 a1 a2 a3 a4 a5 a6 a7 :Value} {r :List Value}
theorem cr {t:TypeId}(h:w.heap[g]?=some (.cells cs t fr)):w.cell? ⟨g,j,none⟩=cs[j]?:=atZ _ _ _ _ _ _ h
theorem lh {t:TypeId}(h:w.heap[g]?=some (.cells cs t (0,0))):w.frozen? ⟨g,j,none⟩=false:=aus _ _ _ _ _ h
theorem hss {i:Nat}{t:TypeId}{v:Value}(h:w.heap[g]?=some (.cells cs t (0,0))):(w.setCell ⟨g,i,none⟩ v).heap[g]?=some (.cells (cs.setIfInBounds i v) t (0,0)):=aul _ _ _ _ _ _ h
theorem hso {w:World}{a:Addr}{k:Nat}{v:Value}(h:k≠a.block):(w.setCell a v).heap[k]?=w.heap[k]?:=auv _ _ _ _ h
theorem sV {cs:Array Value}(h:k≠g):(w.setRow g cs).heap[k]?=w.heap[k]?:=auo _ _ _ _ h
theorem Ih {old:Array Value}{t:TypeId}(h:w.heap[g]?=some (.cells old t (0,0))):(w.setRow g cs).heap[g]?=some (.cells cs t (0,0)):=aup _ _ _ _ _ (0,0) h
theorem gs {α:Type}{a:Array α}{x:α}(h:a[i]?=some x):∃h,a[i]=x:=apk.1 h
theorem iE (h:w.heap[g]?=some (.cells (a0::r).toArray t fr)):w.cell? ⟨g,0,none⟩=some a0:=(cr h).trans aq
theorem iY (h:w.heap[g]?=some (.cells (a0::a1::r).toArray t fr)):w.cell? ⟨g,1,none⟩=some a1:=(cr h).trans aq
theorem E8 (h:w.heap[g]?=some (.cells (a0::a1::a2::r).toArray t fr)):w.cell? ⟨g,2,none⟩=some a2:=(cr h).trans aq
theorem QQ (h:w.heap[g]?=some (.cells (a0::a1::a2::a3::r).toArray t fr)):w.cell? ⟨g,3,none⟩=some a3:=(cr h).trans aq
theorem E9 (h:w.heap[g]?=some (.cells (a0::a1::a2::a3::a4::r).toArray t fr)):w.cell? ⟨g,4,none⟩=some a4:=(cr h).trans aq
theorem cr5 (h:w.heap[g]?=some (.cells (a0::a1::a2::a3::a4::a5::r).toArray t fr)):w.cell? ⟨g,5,none⟩=some a5:=(cr h).trans aq
theorem cr6 (h:w.heap[g]?=some (.cells (a0::a1::a2::a3::a4::a5::a6::r).toArray t fr)):w.cell? ⟨g,6,none⟩=some a6:=(cr h).trans aq
theorem cr7 (h:w.heap[g]?=some (.cells (a0::a1::a2::a3::a4::a5::a6::a7::r).toArray t fr)):w.cell? ⟨g,7,none⟩=some a7:=(cr h).trans aq
theorem cr8 (h:w.heap[g]?=some (.cells (a0::a1::a2::a3::a4::a5::a6::a7::a8::r).toArray t fr)):w.cell? ⟨g,8,none⟩=some a8:=(cr h).trans aq
namespace Mm
variable{l:List UInt8}{a w w':World}{b n o g t m:Nat}{ao:Option Addr}{op:Int}
def bv (l:List UInt8) (i:Nat):Int:=((l.getD i 0).toNat:Int)
theorem Wx (l:List UInt8)(i:Nat):0<=bv l i/\bv l i<=255:=by unfold bv;have:=(l.getD i 0).toNat_lt;omega
theorem aci (h:i<l.length):(l[i].toNat:Int)=bv l i:=by unfold bv;simp[List.getD,h]
def mM (op:Int):Nat:=if op=11\/op=14 then 1 else if op=12\/op=15 then 2 else if op=13 then 4 else 0
def gG (op:Int):Nat:=if op=16 then 1 else if op=17 then 2 else if op=18 then 4 else 0
def qy (m n:Nat) (a:Int):Bool:=decide (0<n/\a%(n:Int)=0/\a+n<=m)
def raw (l:List UInt8) (a:Nat):Nat→Int
 |0=>0
 |n+1=>raw l a n+bv l (a+n)*256^n
def wide (op x:Int):Int:=if op=11 then(if x<128 then x else x+4294967040)else if op=12 then(if x<32768 then x else x+4294901760)else x
def bM (l:List UInt8) (op a:Int):Bool:=qy l.length (mM op) a
def aN (l:List UInt8) (op a:Int):Int:=if bM l op a=true then wide op (raw l a.toNat (mM op))else 0
def put (l:List UInt8) (a:Nat) (w:Int):Nat→List UInt8
 |0=>l
 |n+1=>(put l a w n).set (a+n) (UInt8.ofNat (w/256^n%256).toNat)
def dX (l:List UInt8) (op a:Int):Bool:=qy l.length (gG op) a
def il (l:List UInt8) (op a w:Int):List UInt8:=if dX l op a=true then put l a.toNat w (gG op)else[]
theorem CX (op:Int):mM op<=4:=by unfold mM;split<;>(try split)<;>(try split)<;>omega
theorem qz (op:Int):gG op<=4:=by unfold gG;split<;>(try split)<;>(try split)<;>omega
theorem iR (l:List UInt8)(a:Nat)(w:Int):∀n,(put l a w n).length=l.length
 |0=>rfl
 |n+1=>by simp[put,iR l a w n]
theorem KY (l:List UInt8)(a:Nat)(w:Int):∀n i,i<l.length→bv (put l a w n) i=if a≤i∧i<a+n then w/256 ^ (i-a)%256 else bv l i
 |0,i,hi=>by rw[ak];rfl
 |n+1,i,hi=>by
  have ih:=KY l a w n i hi;unfold bv at ih ⊢;unfold put;by_cases h:i=a+n
  ·subst h;rw[dU];simp only[List.getD,ap1,iR];simp only[hi,if_true,aqw];have hm:(0:Int)<=w/256^n%256/\w/256^n%256<256:=ab;rw[auG,aqJ];omega
  ·simp only[List.getD,ap1]at ih ⊢;rw[ak,ih];by_cases h2:a<=i/\i<a+n
   ·rw[at7 h2,dU]
   ·rw[at6 h2,ak]
theorem kI (l:List UInt8)(a:Nat):∀n,0≤raw l a n∧raw l a n<256 ^ n
 |0=>by simp[raw]
 |n+1=>by
  have h:=kI l a n;have hb:=Wx l (a+n);have hp:(0:Int)<256^n:=Int.pow_pos ab;have h1:bv l (a+n)*256^n<=255*256^n:=Int.mul_le_mul_of_nonneg_right hb.2 ab;have h0:0<=bv l (a+n)*256^n:=Int.mul_nonneg hb.1 ab;unfold raw;rw[Int.pow_succ];omega
def Gr (w w':World):Prop:=Below w.heap.size w w'
theorem Gr.refl (w:World):Gr w w:=auC _ _
theorem Gr.size (h:Gr w w'):w.heap.size<=w'.heap.size:=Below.size h
theorem Gr.trans {b c:World}(h:Gr a b)(k:Gr b c):Gr a c:=auI h (aun k h.size)
theorem Gr.alloc (h:Gr a w)(o:Obj):Gr a (w.alloc o):=Below.alloc h h.size _
theorem Gr.setCell (h:Gr a w){p:Addr}(hp:a.heap.size<=p.block)(v:Value):Gr a (w.setCell p v):=auS h hp v
theorem Gr.drewN (h:Gr a w)(n:Nat):Gr a (w.drewN n):=auI h ⟨rfl,rfl,rfl,apn _,fun _ _=>rfl⟩
theorem Gr.grown {row:Option Nat}(h:Gr a w)(g:w.grownBy w' row)(hr:∀k,row=some k->a.heap.size<=k):Gr a w':=Below.grown h g h.size hr
theorem Gr.cell (h:Gr w w')(p:Addr)(hb:p.block<w.heap.size):w'.cell? p=w.cell? p:=auJ h hb
theorem cz (b o t:Nat):(⟨b,o,none⟩:Addr).add t=⟨b,o+t,none⟩:=by unfold Addr.add;split<;>simp_all
structure Mem (w:World) (ao:Option Addr) (n:Nat) (l:List UInt8):Prop where
 len:l.length=n
 nil:ao=none->n=0
 cell:∀ad,ao=some ad->∀t,t<n->w.cell? (ad.add t)=some (.int .u8 (bv l t))
theorem Mem.of (h:Mem w ao n l)(g:Gr w w'):Mem w' ao n l:=⟨h.len,h.nil,fun ad e t ht=>(g.cell _ (aug w _ (h.cell ad e t ht))).trans (h.cell ad e t ht)⟩
theorem add_block (ad:Addr)(t:Nat):(ad.add t).block=ad.block:=by unfold Addr.add;split<;>rfl
theorem Mem.spot (h:Mem w ao n l)(hn:0<n):∃b o,ao=some ⟨b,o,none⟩/\b<w.heap.size/\∀t,t<n->w.cell? ⟨b,o+t,none⟩=some (.int .u8 (bv l t)):=by
 cases ao with
 |none=>exact absurd (h.nil rfl) ab
 |some ad=>
  obtain⟨b,o,s⟩:=ad;have hs:s=none:=by simpa[Addr.add]using avb (h.cell _ rfl 0 hn)
  subst hs;have hb:b<w.heap.size:=by simpa[Addr.add]using aug w _ (h.cell _ rfl 0 hn)
  exact⟨b,o,rfl,hb,fun t ht=>by rw[<-cz];exact h.cell _ rfl t ht⟩
theorem Mem.at (hl:l.length=n)(h:∀t,t<n->w.cell? ⟨b,o+t,none⟩=some (.int .u8 (bv l t))):Mem w (some ⟨b,o,none⟩) n l:=⟨hl,fun e=>(by cases e),fun ad e t ht=>by obtain rfl:=aum e;rw[cz];exact h t ht⟩
theorem Mem.none (w:World):Mem w none 0 []:=⟨rfl,fun _=>rfl,fun ad e=>(by cases e)⟩
def bc (l:List UInt8):List Value:=l.map fun b=>Value.int .u8 (b.toNat:Int)
theorem xW (h:(bc l)[j]?=some u):j<l.length/\u=.int .u8 (bv l j):=by
 unfold bc at h;rw[apT]at h;cases hj:l[j]? with
 |none=>simp[hj]at h
 |some b=>
  rw[hj]at h;obtain⟨hlt,hb⟩:=apj.1 hj;refine⟨hlt,?_⟩;rw[<-aci hlt,hb];simpa using h.symm
theorem xX (l:List UInt8):∀u∈bc l,u.oneCell'=true:=by intro u hu;obtain⟨b,_,rfl⟩:=apK.1 hu;rfl
def Row (w:World) (g:Nat) (l:List UInt8):Prop:=∃rest:List Value,w.heap[g]?=some (.cells (bc l++rest).toArray 5 (0,0))
theorem Row.cell (h:Row w g l)(ht:t<l.length):w.cell? ⟨g,t,none⟩=some (.int .u8 (bv l t)):=by
 obtain⟨rest,hg⟩:=h;rw[atZ w g t _ _ (0,0) hg];have h1:t<(bc l).length:=by simpa[bc]using ht
 rw[apm,apA h1];have h2:=api h1;rw[h2,(xW h2).2]
theorem Row.frozen (h:Row w g l)(t:Nat):w.frozen? ⟨g,t,none⟩=false:=by obtain⟨rest,hg⟩:=h;simp[World.frozen?,hg]
theorem Row.set (h:Row w g l)(ht:t<l.length)(v:Int)(h0:0<=v)(h1:v<256):Row (w.setCell ⟨g,t,none⟩ (.int .u8 v)) g (l.set t (UInt8.ofNat v.toNat)):=by
 obtain⟨rest,hg⟩:=h;refine⟨rest,?_⟩;rw[aul w g t _ _ _ hg];have h2:t<(bc l).length:=by simpa[bc]using ht
 have e:(UInt8.ofNat v.toNat).toNat=v.toNat:=by rw[auG];omega
 have e2:(((UInt8.ofNat v.toNat).toNat:Nat):Int)=v:=by rw[e];omega
 have e3:bc (l.set t (UInt8.ofNat v.toNat))=(bc l).set t (.int .u8 v):=by
  unfold bc;rw[List.map_set];simp only[e2]
 rw[e3];simp[aqn _ _ h2]
theorem Row.mem (h:Row w g l):Mem w (some ⟨g,0,none⟩) l.length l:=Mem.at rfl fun t ht=>by rw[apu];exact h.cell ht
def qB (w:World) (g cap:Nat) (l:List UInt8):Prop:=∃rest:List Value,w.heap[g]?=some (.cells (bc l++rest).toArray 5 (0,0))/\(bc l++rest).length=cap/\cap<=maxLen
theorem qB.row {cap:Nat}(h:qB w g cap l):Row w g l:=by obtain⟨rest,hg,_⟩:=h;exact⟨rest,hg⟩
theorem qB.set {cap:Nat}(h:qB w g cap l)(ht:t<l.length)(v:Int)(h0:0<=v)(h1:v<256):qB (w.setCell ⟨g,t,none⟩ (.int .u8 v)) g cap (l.set t (UInt8.ofNat v.toNat)):=by obtain⟨rest,hg,hz,hm⟩:=h;obtain⟨rest',hr⟩:=Row.set ⟨rest,hg⟩ ht v h0 h1;refine⟨rest',hr,?_,hm⟩;rw[aul w g t _ _ _ hg]at hr;injection hr with hr;injection hr with hr;have h2:=congrArg Array.size hr;simp only[ap4,ap2]at h2;omega
theorem info5:(prog.info? 5).map (fun i=>(i.zero,i.size,i.bytes))=some (some (.int .u8 0),1,1):=al
theorem au {k:IntKind}{a b:Int}(h:a=b):Ending.returned (.int k a)=.returned (.int k b):=by rw[h]
theorem aM {a b:Bool}(h:a=b):Ending.returned (.bool a)=.returned (.bool b):=by rw[h]
theorem acj {a:Int}(h0:0<n)(h1:a%(n:Int)=0)(h2:a+n<=m):true=qy m n a:=by simp[qy,h0,h1,h2]
theorem KZ {a:Int}(h:¬(0<n/\a%(n:Int)=0/\a+n<=m)):false=qy m n a:=by simp only[qy];rw[auh h]
theorem Rv (x:Int)(h0:0<=x)(h1:x<256):IntKind.i8.wrap x%4294967296=if x<128 then x else x+4294967040:=by
 have e:IntKind.i8.wrap x=if 128<=x%256 then x%256-256 else x%256:=by simp[IntKind.wrap,IntKind.bits,IntKind.signed]
 rw[e];repeat' split
 all_goals omega
theorem K4 (x:Int)(h0:0<=x)(h1:x<65536):IntKind.i16.wrap x%4294967296=if x<32768 then x else x+4294901760:=by
 have e:IntKind.i16.wrap x=if 32768<=x%65536 then x%65536-65536 else x%65536:=by simp[IntKind.wrap,IntKind.bits,IntKind.signed]
 rw[e];repeat' split
 all_goals omega
theorem ofInt32 (a:Nat)(h:(a:Int)<4294967296):(BitVec.ofInt 32 (a:Int)).toNat=a:=by rw[BitVec.toNat_ofInt];omega
theorem Rx (x y:Int)(k:Nat)(hk:k<4)(h0:0<=x)(h1:x<256^k)(hy:0<=y)(hy':y<=255):bits .or .u32 x (y*2 ^ (8*k)%4294967296)=x+y*256^k:=by
 obtain⟨x,rfl⟩:=apt h0;obtain⟨y,rfl⟩:=apt hy;have e1:(256:Int) ^ k=((2 ^ (8*k):Nat):Int):=by
  rw[Nat.pow_mul];simp
 have hx:x<2 ^ (8*k):=by rw[e1]at h1;exact_mod_cast h1
 have hp:2 ^ (8*k)*256<=4294967296:=by
  have:2 ^ (8*k)<=2 ^ (8*3):=aqE ab ab;omega
 have hpp:0<2 ^ (8*k):=aq4 _;have hyb:y*2 ^ (8*k)<=255*2 ^ (8*k):=aqQ _ ab;have hor:=arh hx y;have e2:((y:Int)*2 ^ (8*k)%4294967296)=((y*2 ^ (8*k):Nat):Int):=by
  have:((y:Int)*2 ^ (8*k))=((y*2 ^ (8*k):Nat):Int):=aq;rw[this];omega
 rw[e2,e1];show IntKind.u32.wrap ((BitVec.ofInt 32 (x:Int) |||BitVec.ofInt 32 ((y*2 ^ (8*k):Nat):Int)).toNat:Int)=_
 rw[BitVec.toNat_or,ofInt32 x ab,ofInt32 _ ab,arB,aqH y,<-hor];show(((2 ^ (8*k)*y+x:Nat):Int))%4294967296=_
 rw[aqH]at hyb;rw[show((y:Int)*((2 ^ (8*k):Nat):Int))=((2 ^ (8*k)*y:Nat):Int)by push_cast;rw[Int.mul_comm]];generalize 2 ^ (8*k)*y=z at *
 generalize 2 ^ (8*k)=p at *
 omega
theorem K5 {a:Nat}(h:(a:Int)%(mM op:Nat)=0)(ha:a<4294967296)(h0:0<mM op):a+mM op<=4294967296:=by
 have:mM op=1\/mM op=2\/mM op=4:=by
  have hh:mM op≠0:=ab;unfold mM at hh ⊢;repeat' split
  all_goals simp_all
 rcases this with e|e|e<;>rw[e]at h ⊢<;>omega
theorem Fb (l:List UInt8)(a:Nat)(op:Int):raw l a (mM op)<4294967296/\(op=11->raw l a (mM op)<256)/\(op=12->raw l a (mM op)<65536):=by
 have h:=(kI l a (mM op)).2;have q:=aqE (show 0<256 by omega) (CX op);have p:(256:Int) ^ mM op<=4294967296:=by
  rw[show(256:Int) ^ mM op=((256^mM op:Nat):Int)by simp];omega
 refine⟨ab,fun e=>?_,fun e=>?_⟩
 ·subst e;exact h
 ·subst e;exact h
theorem xY {a:Int}(h:qy n s a=true)(h0:0<=a):0<n:=by simp only[qy,auk]at h;omega
theorem K6 {a:Nat}(h:(a:Int)%(gG op:Nat)=0)(ha:a<4294967296)(h0:0<gG op):a+gG op<=4294967296:=by
 have:gG op=1\/gG op=2\/gG op=4:=by
  have hh:gG op≠0:=ab;unfold gG at hh ⊢;repeat' split
  all_goals simp_all
 rcases this with e|e|e<;>rw[e]at h ⊢<;>omega
theorem K7 {w0:World}(h:w0.ownsRow w.heap.size 5 1 (.slice (some ⟨w.heap.size,0,none⟩) n n) n xs):∃cur:List Value,cur.length=n/\w0.heap[w.heap.size]?=some (.cells cur.toArray 5 (0,0)):=by
 obtain⟨_,hc⟩:=h;rcases hc with⟨h0,_⟩|⟨g',cap',cur,hv,hb,hg,hn,hm,hs,htake⟩
 ·cases h0
 ·simp only[avg,auj,Addr.mk.injEq,au7,and_true]at hv;obtain⟨e,rfl⟩:=hv;rw[<-e]at hg;exact⟨cur.toList,by simpa using hs,by simpa using hg⟩
theorem CY {cur cs:List Value}(h:cs.length=cur.length):splice cur 0 cs=cs:=by simp[splice,h]
theorem gH (l:List UInt8):(bc l).length=l.length:=by simp[bc]
theorem XD (hl:l.length=n)(hc:∀t,t<n->w.cell? ⟨b,o+t,none⟩=some (.int .u8 (bv l t))):∀j v,(bc l)[j]?=some v->w.cell? ((⟨b,o,none⟩:Addr).add j)=some v:=by intro j v h;obtain⟨h1,rfl⟩:=xW h;rw[cz];exact hc j ab
theorem ack:(prog.info? 5).map (·.size)=some 1:=al
theorem Ff (x:Int)(k:Nat)(h0:0<=x):x/2 ^ (8*k)%256=x/256^k%256:=by rw[show(256:Int) ^ k=2 ^ (8*k)by rw[Int.pow_mul];rfl]
theorem xZ {a x:Int}(h:dX l op a=true):(il l op a x).length=l.length:=by unfold il;rw[h];exact iR _ _ _ _
end Mm
theorem br {o:Obj}:Mm.Gr w (w.alloc o):=(Mm.Gr.refl _).alloc _
theorem b9 {W:World}(h:Mm.Gr w W:=by repeat (first|exact Mm.Gr.refl _|refine Mm.Gr.drewN ?_ _|refine Mm.Gr.drew ?_|refine Mm.Gr.alloc ?_ _)):Mm.Gr w W:=h
namespace Wd
variable{a y:Int}
def sg (a:Int):Int:=if a<2147483648 then a else a-4294967296
def iw (a b:Int):Int:=((a.toNat &&& b.toNat:Nat):Int)
def rW (a b:Int):Int:=((a.toNat |||b.toNat:Nat):Int)
def zX (a b:Int):Int:=((a.toNat ^^^ b.toNat:Nat):Int)
def tr (b:Bool):Int:=if b then 1 else 0
def pw (b:Int):Int:=2 ^ (b%32).toNat
def lo (n:Int):Int:=n%4294967296
def hi (n:Int):Int:=n/4294967296%4294967296
def dv (a b:Int):Int:=if b=0 then 4294967295 else lo ((sg a).tdiv (sg b))
def rm (a b:Int):Int:=if b=0 then a else lo ((sg a).tmod (sg b))
def dvu (a b:Int):Int:=if b=0 then 4294967295 else a/b
def rmu (a b:Int):Int:=if b=0 then a else a%b
def eT (op a b:Int):Int:=
 if op=28 then lo (a+b)else if op=29 then lo (a-b)else if op=37 then iw a b else if op=36 then rW a b
 else if op=33 then zX a b else if op=30 then lo (a*pw b)else if op=34 then a/pw b else if op=35 then lo (sg a/pw b)
 else if op=31 then tr (decide (sg a<sg b))else if op=32 then tr (decide (a<b))else if op=38 then lo (a*b)
 else if op=39 then hi (sg a*sg b)else if op=40 then hi (sg a*b)else if op=41 then hi (a*b)
 else if op=42 then dv a b else if op=44 then rm a b else if op=43 then dvu a b else if op=45 then rmu a b else 0
def holds (op a b:Int):Bool:=
 if op=5 then decide (a=b)else if op=6 then decide (a≠b)else if op=7 then decide (sg a<sg b)else if op=8 then decide (sg b<=sg a)
 else if op=9 then decide (a<b)else if op=10 then decide (b<=a)else false
def mO (op a b:Int):Int:=
 if op=48 then b else if op=49 then lo (a+b)else if op=50 then zX a b else if op=51 then iw a b else if op=52 then rW a b
 else if op=53 then(if sg a<sg b then a else b)else if op=54 then(if sg a<sg b then b else a)
 else if op=55 then(if a<b then a else b)else if op=56 then(if a<b then b else a)else 0
theorem rA (h0:0<=a)(h1:a<4294967296) : -2147483648<=sg a/\sg a<2147483648:=by unfold sg;split<;>omega
theorem rC (h0:0<=a)(h1:a<4294967296):lo (sg a)=a:=by unfold sg lo;split<;>omega
theorem Fg (h0:0<=a)(h1:a<4294967296):sg a=0↔a=0:=by unfold sg;split<;>omega
theorem vW (n:Int):0<=lo n/\lo n<4294967296:=by unfold lo;omega
theorem XE (b:Int)(h:0<=b):pw b=((2 ^ (b.toNat%32):Nat):Int):=by unfold pw;rw[show(b%32).toNat=b.toNat%32 by omega];simp
theorem acn (b:Int)(h:0<=b):1<=pw b/\pw b<=2147483648:=by rw[XE b h];have h1:2 ^ (b.toNat%32)<=2^31:=aqE ab ab;have h2:0<2 ^ (b.toNat%32):=aq4 _;omega
theorem K8 (hx : -2147483648<=x)(hx':x<=2147483648)(hy : -4294967296<y)(hy':y<4294967296) : -9223372036854775808<=x*y/\x*y<=9223372036854775807:=by
 by_cases h:0<=x
 ·have a1:x*y<=x*4294967295:=aqN ab h;have a2:x*(-4294967295)<=x*y:=aqN ab h;omega
 ·have a1:x*y<=x*(-4294967295):=aq9 ab ab;have a2:x*4294967295<=x*y:=aq9 ab ab;omega
theorem Rz (hx:0<=x)(hx':x<4294967296)(hy:0<=y)(hy':y<4294967296):0<=x*y/\x*y<=18446744065119617025:=by have a1:x*y<=x*4294967295:=aqN ab hx;have a2:0<=x*y:=Int.mul_nonneg hx hy;omega
end Wd
namespace As
def QR:Nat→Nat→List Nat
 |0,n=>[48+n]
 |f+1,n=>if n<10 then[48+n]else QR f (n/10)++[48+n%10]
def dg (n:Nat):List Nat:=QR n n
theorem zY:∀f g n,n≤f→n≤g→QR f n=QR g n
 |0,0,n,_,_=>rfl
 |0,g+1,n,h1,h2=>by
  obtain rfl:n=0:=ab;rfl
 |f+1,0,n,h1,h2=>by
  obtain rfl:n=0:=ab;rfl
 |f+1,g+1,n,h1,h2=>by
  by_cases h:n<10
  ·rw[QR,QR,at7 h,at7 h]
  ·rw[QR,QR,at6 h,at6 h,zY f g (n/10) ab ab]
theorem K9 (h:n<10):dg n=[48+n]:=by
 cases n with
 |zero=>rfl
 |succ n=>rw[dg,QR,at7 h]
theorem Wy (h:¬n<10):dg n=dg (n/10)++[48+n%10]:=by
 cases n with
 |zero=>omega
 |succ n=>rw[dg,dg,QR,at6 h,zY n ((n+1)/10) ((n+1)/10) ab ab]
def vl (l:List Nat):Nat:=l.foldl (fun n d=>10*n+(d-48)) 0
abbrev IsD (d:Nat):Prop:=48<=d/\d<=57
theorem x8 (k:Nat):∀n,n<10 ^ (k+1)->(dg n).length<=k+1:=by
 induction k with
 |zero=>intro n h;rw[K9 (by simpa using h)];simp
 |succ k ih=>
  intro n h;by_cases h10:n<10
  ·rw[K9 h10];simp
  ·rw[Wy h10,apo];have:=ih (n/10) (by rw[Nat.pow_succ]at h;omega);simp;omega
def num (n:Int):List Nat:=if n<0 then 45::dg n.natAbs else dg n.natAbs
end As
namespace Dc
open Wd
variable{w lo mi k:Int}
def pk (n:Int):List (Int×Int)→Int
 | []=>0
 |(a,o)::r=>if n=a then o else pk n r
def lB:List (Int×Int):=[(0,5),(1,6),(4,7),(5,8),(6,9),(7,10)]
def lL:List (Int×Int):=[(0,11),(1,12),(2,13),(4,14),(5,15)]
def lS:List (Int×Int):=[(0,16),(1,17),(2,18)]
def lH:List (Int×Int):=[(1,25),(5,26),(261,27)]
def lI:List (Int×Int):=[(0,19),(2,20),(3,21),(4,22),(6,23),(7,24)]
def lR0:List (Int×Int):=[(0,28),(1,30),(2,31),(3,32),(4,33),(5,34),(6,36),(7,37)]
def XF:List (Int×Int):=[(0,29),(5,35)]
def lR1:List (Int×Int):=[(0,38),(1,39),(2,40),(3,41),(4,42),(5,43),(6,44),(7,45)]
def lA:List (Int×Int):=[(2,46),(3,47),(1,48),(0,49),(4,50),(12,51),(8,52),(16,53),(20,54),(24,55),(28,56)]
def lE:List (Int×Int):=[(115,58),(1048691,59)]
def oV (w lo mi up:Int):Int:=
 if lo=55 then 1 else if lo=23 then 2 else if lo=111 then 3
 else if lo=103 then pk mi [(0,4)]else if lo=99 then pk mi lB else if lo=3 then pk mi lL else if lo=35 then pk mi lS
 else if lo=19 then(if mi=1\/mi=5 then pk (8*up+mi) lH else pk mi lI)
 else if lo=51 then(if up=0 then pk mi lR0 else if up=32 then pk mi XF else if up=1 then pk mi lR1 else 0)
 else if lo=47 then(if mi=2 then pk (up/4) lA else 0)
 else if lo=15 then pk mi [(0,57)]else if lo=115 then pk w lE else 0
def raw (w:Int):Int:=oV w (w%128) (w/4096%8) (w/33554432)
def aJ (k:Int):Int:=
 if k=1\/k=2 then 1 else if k=3 then 2 else if k=4 then 3 else if 5<=k/\k<=10 then 5 else if 11<=k/\k<=15 then 3
 else if 16<=k/\k<=18 then 6 else if 19<=k/\k<=24 then 3 else if 25<=k/\k<=27 then 4 else if 28<=k/\k<=45 then 7
 else if 46<=k/\k<=56 then 8 else if k=57 then 3 else if k=58\/k=59 then 9 else 0
def mask (f:Int):Int:=if f=1\/f=2 then 127 else if f=3\/f=5\/f=6 then 28799 else if f=4\/f=7 then 4261441663 else if f=8 then 4160778367 else if f=9 then 4294967295 else 0
def nth (l:List Int) (k:Int):Int:=l.getD k.toNat 0
def uppers:List Int:=[0,0,0,0,0,0,0,0,0,0,0,0,0,0,0,0,0,0,0,0,0,0,0,0,0,0,0,32,0,32,0,0,0,0,0,32,0,0,1,1,1,1,1,1,1,1,8,12,4,0,16,48,32,64,80,96,112,0,0,0]
def rowOf (op first low:Int) (age:List Int):Int:=low+nth age (op-first)*4096+nth uppers op*33554432
def bK (k:Int):Int:=
 if k=1 then 55 else if k=2 then 23 else if k=3 then 111 else if k=4 then rowOf k 4 103 [0]else if 5<=k/\k<=10 then rowOf k 5 99 [0,1,4,5,6,7]
 else if 11<=k/\k<=15 then rowOf k 11 3 [0,1,2,4,5]else if 16<=k/\k<=18 then rowOf k 16 35 [0,1,2]else if 19<=k/\k<=24 then rowOf k 19 19 [0,2,3,4,6,7]
 else if 25<=k/\k<=27 then rowOf k 25 19 [1,5,5]else if 28<=k/\k<=37 then rowOf k 28 51 [0,0,1,2,3,4,5,5,6,7]else if 38<=k/\k<=45 then rowOf k 38 51 [0,1,2,3,4,5,6,7]
 else if 46<=k/\k<=56 then rowOf k k 47 [2]else if k=57 then rowOf k 57 15 [0]else if k=58 then 115 else if k=59 then 1048691 else 0
def aO (w:Int):Int:=if raw w=46/\w/1048576%32≠0 then 0 else raw w
def iT (h n:Int):Int:=if n>=h then n-2*h else n
def bS (f w:Int):Int:=
 if f=1 then sg w-w%4096
 else if f=2 then iT 1048576 (w/2147483648*1048576+w/4096%256*4096+w/1048576%2*2048+w/2097152%1024*2)
 else if f=3 then iT 2048 (w/1048576)
 else if f=4 then w/1048576%32
 else if f=5 then iT 4096 (w/2147483648*4096+w/128%2*2048+w/33554432%64*32+w/256%16*2)
 else if f=6 then iT 2048 (w/33554432*32+w/128%32)
 else if f=8 then w/33554432%4 else 0
def kV (f:Int):Bool:=f ==1 ||f ==2 ||f ==3 ||f ==4 ||f ==7 ||f ==8
def iG (f:Int):Bool:=f ==3 ||f ==4 ||f ==5 ||f ==6 ||f ==7 ||f ==8
def iJ (f:Int):Bool:=f ==5 ||f ==6 ||f ==7 ||f ==8
def iF (f w:Int):Int:=if kV f then w/128%32 else 0
def bZ (f w:Int):Int:=if iG f then w/32768%32 else 0
def bV (f w:Int):Int:=if iJ f then w/1048576%32 else 0
theorem jT (w i n:Nat):w &&& ((2^n-1)*2^i)=w/2^i%2^n*2^i:=by
 apply Nat.eq_of_testBit_eq;intro j;rw[Nat.testBit_and,Nat.testBit_mul_two_pow,Nat.testBit_mul_two_pow,Nat.testBit_two_pow_sub_one,Nat.testBit_mod_two_pow,Nat.testBit_div_two_pow];by_cases h:i<=j
 ·have e:j-i+i=j:=ab;simp[h,e];rw[Bool.and_comm]
 ·simp[h]
theorem jA (x y i:Nat)(h:x<2^i):y*2^i |||x=y*2^i+x:=by rw[aqH];exact(arh h y).symm
theorem Wz (w:Nat):w &&& 127=w%128:=by have:=jT w 0 7;simpa using this
theorem XG (w:Nat):w &&& 28672=w/4096%8*4096:=jT w 12 3
theorem XH (w:Nat):w &&& 4261412864=w/33554432%128*33554432:=jT w 25 7
theorem XI (w:Nat):w &&& 4160749568=w/134217728%32*134217728:=jT w 27 5
theorem La (w:Nat):w &&& 28799=w/4096%8*4096+w%128:=by rw[show(28799:Nat)=28672 |||127 by decide,aq0,Wz,XG,<-jA _ _ 12 ab]
theorem acp (w:Nat):w &&& 4261441663=w/33554432%128*33554432+(w/4096%8*4096+w%128):=by rw[show(4261441663:Nat)=4261412864 |||28799 by decide,aq0,La,XH,<-jA _ _ 25 ab]
theorem acr (w:Nat):w &&& 4160778367=w/134217728%32*134217728+(w/4096%8*4096+w%128):=by rw[show(4160778367:Nat)=4160749568 |||28799 by decide,aq0,La,XI,<-jA _ _ 27 ab]
theorem WA (h0:0<=w)(h1:w<4294967296):iw w 127=w%128:=by unfold iw;rw[show(127:Int).toNat=127 from rfl,Wz];omega
theorem acs (h0:0<=w)(h1:w<4294967296):iw w 28799=w%128+w/4096%8*4096:=by unfold iw;rw[show(28799:Int).toNat=28799 from rfl,La];omega
theorem acu (h0:0<=w)(h1:w<4294967296):iw w 4261441663=w%128+w/4096%8*4096+w/33554432*33554432:=by unfold iw;rw[show(4261441663:Int).toNat=4261441663 from rfl,acp];omega
theorem acv (h0:0<=w)(h1:w<4294967296):iw w 4160778367=w%128+w/4096%8*4096+w/134217728*134217728:=by unfold iw;rw[show(4160778367:Int).toNat=4160778367 from rfl,acr];omega
theorem acw (h0:0<=w)(h1:w<4294967296):iw w 4294967295=w:=by unfold iw;rw[show(4294967295:Int).toNat=2^32-1 from rfl,aqL];omega
def part (f w:Int):Int:=
 if f=1\/f=2 then w%128 else if f=3\/f=5\/f=6 then w%128+w/4096%8*4096 else if f=4\/f=7 then w%128+w/4096%8*4096+w/33554432*33554432
 else if f=8 then w%128+w/4096%8*4096+w/134217728*134217728 else if f=9 then w else 0
theorem Ii (h0:0<=w)(h1:w<4294967296):iw w (mask f)=part f w:=by
 unfold mask part;split
 ·exact WA h0 h1
 split
 ·exact acs h0 h1
 split
 ·exact acu h0 h1
 split
 ·exact acv h0 h1
 split
 ·exact acw h0 h1
 ·simp[iw]
theorem Lb (k:Int):0<=aJ k/\aJ k<=9:=by
 unfold aJ;repeat' split
 all_goals omega
theorem XJ {up:Int}(h1:w%128=lo)(h2:w/4096%8=mi)(h3:w/33554432=up):raw w=oV w lo mi up:=by subst h1 h2 h3;rfl
theorem RA (h1:w%128=lo):raw w=oV w lo (w/4096%8) (w/33554432):=by subst h1;rfl
theorem Fh (h1:w%128=lo)(h2:w/4096%8=mi):raw w=oV w lo mi (w/33554432):=by subst h1 h2;rfl
theorem t1 (h:w%128=T)(e:∀a b,oV w T a b=k):raw w=k:=by rw[RA h];exact e _ _
theorem t2 (h:w%128+w/4096%8*4096=T)(e:∀b,oV w (T%128) (T/4096%8) b=k):raw w=k:=by rw[Fh (lo:=T%128) (mi:=T/4096%8) ab ab];exact e _
theorem t3 (h:w%128+w/4096%8*4096+w/33554432*33554432=T)(e:oV w (T%128) (T/4096%8) (T/33554432)=k):raw w=k:=by rw[XJ (lo:=T%128) (mi:=T/4096%8) (up:=T/33554432) ab ab ab];exact e
theorem t4 (h:w%128+w/4096%8*4096+w/134217728*134217728=T)(e:∀b,b/4=T/134217728->oV w (T%128) (T/4096%8) b=k):raw w=k:=by rw[Fh (lo:=T%128) (mi:=T/4096%8) ab ab];exact e _ ab
theorem t5 (h:w=T)(e:raw T=k):raw w=k:=by rw[h];exact e
theorem zZ (h0:0<=w)(h1:w<4294967296)(hk:1<=k)(hk':k<=59)(h:part (aJ k) w=bK k):raw w=k:=by
 have hd:(k=1\/k=2\/k=3)\/(k=4\/k=5\/k=6\/k=7\/k=8\/k=9\/k=10\/k=11\/k=12\/k=13\/k=14\/k=15\/k=16\/k=17\/k=18\/k=19\/k=20\/k=21\/k=22\/k=23\/k=24\/k=57)\/(k=25\/k=26\/k=27\/k=28\/k=29\/k=30\/k=31\/k=32\/k=33\/k=34\/k=35\/k=36\/k=37\/k=38\/k=39\/k=40\/k=41\/k=42\/k=43\/k=44\/k=45)\/(k=46\/k=47\/k=48\/k=49\/k=50\/k=51\/k=52\/k=53\/k=54\/k=55\/k=56)\/(k=58\/k=59):=ab;rcases hd with hd|hd|hd|hd|hd
 ·rcases hd with rfl|rfl|rfl<;>exact t1 h fun _ _=>rfl
 ·rcases hd with rfl|rfl|rfl|rfl|rfl|rfl|rfl|rfl|rfl|rfl|rfl|rfl|rfl|rfl|rfl|rfl|rfl|rfl|rfl|rfl|rfl|rfl<;>exact t2 h fun _=>rfl
 ·rcases hd with rfl|rfl|rfl|rfl|rfl|rfl|rfl|rfl|rfl|rfl|rfl|rfl|rfl|rfl|rfl|rfl|rfl|rfl|rfl|rfl|rfl<;>exact t3 h rfl
 ·rcases hd with rfl|rfl|rfl|rfl|rfl|rfl|rfl|rfl|rfl|rfl|rfl<;>exact t4 h fun b hb=>by show pk (b/4) lA=_;rw[hb];rfl
 ·rcases hd with rfl|rfl<;>exact t5 h an
theorem dD {n:Int}{P:Int→Prop}:(l:List (Int×Int))→(h0:P 0)→(∀x∈l,n=x.1→P x.2)→P (pk n l)
 | [],h0,_=>h0
 |(a,o)::r,h0,h=>by
  unfold pk;split
  ·exact h (a,o) aq ‹_›
  ·exact dD r h0 fun x hx=>h x (by simp[hx])
def sp1 (lo:Int):Int:=if lo=55 then 1 else if lo=23 then 2 else if lo=111 then 3 else if lo=103 then 4 else if lo=99 then 5 else if lo=3 then 11 else if lo=35 then 16 else if lo=19 then 19 else if lo=51 then 28 else if lo=47 then 46 else if lo=15 then 57 else if lo=115 then 58 else 0
def sp2 (lo:Int):Int:=if lo=55 then 1 else if lo=23 then 2 else if lo=111 then 3 else if lo=103 then 4 else if lo=99 then 10 else if lo=3 then 15 else if lo=35 then 18 else if lo=19 then 27 else if lo=51 then 45 else if lo=47 then 56 else if lo=15 then 57 else if lo=115 then 59 else -1
def Q (w k:Int):Prop:=k≠0->part (aJ k) w=bK k/\1<=k/\k<=59/\sp1 (w%128)<=k/\k<=sp2 (w%128)
theorem Q0 (w:Int):Q w 0:=fun h=>absurd rfl h
theorem q_ (hl:w%128=L)(hp:part (aJ k) w=bK k)(hb:1<=k/\k<=59/\sp1 L<=k/\k<=sp2 L):Q w k:=fun _=>by subst hl;exact⟨hp,hb⟩
theorem qM (hl:w%128=L)(hm:w/4096%8=M)(f:∀v,part (aJ k) v=v%128+v/4096%8*4096)(e:L+M*4096=bK k)(hb:1<=k/\k<=59/\sp1 L<=k/\k<=sp2 L):Q w k:=q_ hl (by rw[f,hl,hm];exact e) hb
theorem qU {M U:Int}(hl:w%128=L)(hm:w/4096%8=M)(hu:w/33554432=U)(f:∀v,part (aJ k) v=v%128+v/4096%8*4096+v/33554432*33554432)(e:L+M*4096+U*33554432=bK k)(hb:1<=k/\k<=59/\sp1 L<=k/\k<=sp2 L):Q w k:=q_ hl (by rw[f,hl,hm,hu];exact e) hb
theorem qA {U:Int}(hl:w%128=L)(hm:w/4096%8=M)(hu:w/33554432/4=U)(f:∀v,part (aJ k) v=v%128+v/4096%8*4096+v/134217728*134217728)(e:L+M*4096+U*134217728=bK k)(hb:1<=k/\k<=59/\sp1 L<=k/\k<=sp2 L):Q w k:=q_ hl (by rw[f,hl,hm,show w/134217728=U by omega];exact e) hb
theorem sW (h0:0<=w)(h1:w<4294967296):Q w (raw w):=by
 unfold raw oV;by_cases hl:w%128=55
 ·rw[at7 hl];exact q_ hl hl an
 rw[at6 hl];clear hl;by_cases hl:w%128=23
 ·rw[at7 hl];exact q_ hl hl an
 rw[at6 hl];clear hl;by_cases hl:w%128=111
 ·rw[at7 hl];exact q_ hl hl an
 rw[at6 hl];clear hl;by_cases hl:w%128=103
 ·rw[at7 hl];refine dD [(0,4)] (Q0 w) fun x hx hn=>?_
  simp only[apx,apB,auw]at hx;subst hx;exact qM hl hn (fun _=>rfl) rfl an
 rw[at6 hl];clear hl;by_cases hl:w%128=99
 ·rw[at7 hl];refine dD lB (Q0 w) fun x hx hn=>?_
  simp only[lB,apx,apB,auw]at hx;rcases hx with rfl|rfl|rfl|rfl|rfl|rfl<;>exact qM hl hn (fun _=>rfl) rfl an
 rw[at6 hl];clear hl;by_cases hl:w%128=3
 ·rw[at7 hl];refine dD lL (Q0 w) fun x hx hn=>?_
  simp only[lL,apx,apB,auw]at hx;rcases hx with rfl|rfl|rfl|rfl|rfl<;>exact qM hl hn (fun _=>rfl) rfl an
 rw[at6 hl];clear hl;by_cases hl:w%128=35
 ·rw[at7 hl];refine dD lS (Q0 w) fun x hx hn=>?_
  simp only[lS,apx,apB,auw]at hx;rcases hx with rfl|rfl|rfl<;>exact qM hl hn (fun _=>rfl) rfl an
 rw[at6 hl];clear hl;by_cases hl:w%128=19
 ·rw[at7 hl];by_cases hm:w/4096%8=1\/w/4096%8=5
  ·rw[at7 hm];refine dD lH (Q0 w) fun x hx hn=>?_
   simp only[lH,apx,apB,auw]at hx;rcases hx with rfl|rfl|rfl
   ·exact qU (M:=1) (U:=0) hl (by simp only at hn;omega) (by simp only at hn;omega) (fun _=>rfl) rfl an
   ·exact qU (M:=5) (U:=0) hl (by simp only at hn;omega) (by simp only at hn;omega) (fun _=>rfl) rfl an
   ·exact qU (M:=5) (U:=32) hl (by simp only at hn;omega) (by simp only at hn;omega) (fun _=>rfl) rfl an
  ·rw[at6 hm];refine dD lI (Q0 w) fun x hx hn=>?_
   simp only[lI,apx,apB,auw]at hx;rcases hx with rfl|rfl|rfl|rfl|rfl|rfl<;>exact qM hl hn (fun _=>rfl) rfl an
 rw[at6 hl];clear hl;by_cases hl:w%128=51
 ·rw[at7 hl];by_cases hu:w/33554432=0
  ·rw[at7 hu];refine dD lR0 (Q0 w) fun x hx hn=>?_
   simp only[lR0,apx,apB,auw]at hx;rcases hx with rfl|rfl|rfl|rfl|rfl|rfl|rfl|rfl<;>exact qU hl hn hu (fun _=>rfl) rfl an
  rw[at6 hu];clear hu;by_cases hu:w/33554432=32
  ·rw[at7 hu];refine dD XF (Q0 w) fun x hx hn=>?_
   simp only[XF,apx,apB,auw]at hx;rcases hx with rfl|rfl<;>exact qU hl hn hu (fun _=>rfl) rfl an
  rw[at6 hu];clear hu;by_cases hu:w/33554432=1
  ·rw[at7 hu];refine dD lR1 (Q0 w) fun x hx hn=>?_
   simp only[lR1,apx,apB,auw]at hx;rcases hx with rfl|rfl|rfl|rfl|rfl|rfl|rfl|rfl<;>exact qU hl hn hu (fun _=>rfl) rfl an
  rw[at6 hu];clear hu;exact Q0 w
 rw[at6 hl];clear hl;by_cases hl:w%128=47
 ·rw[at7 hl];by_cases hm:w/4096%8=2
  ·rw[at7 hm];refine dD lA (Q0 w) fun x hx hn=>?_
   simp only[lA,apx,apB,auw]at hx;rcases hx with rfl|rfl|rfl|rfl|rfl|rfl|rfl|rfl|rfl|rfl|rfl<;>exact qA hl hm hn (fun _=>rfl) rfl an
  rw[at6 hm];exact Q0 w
 rw[at6 hl];clear hl;by_cases hl:w%128=15
 ·rw[at7 hl];refine dD [(0,57)] (Q0 w) fun x hx hn=>?_
  simp only[apx,apB,auw]at hx;subst hx;exact qM hl hn (fun _=>rfl) rfl an
 rw[at6 hl];clear hl;by_cases hl:w%128=115
 ·rw[at7 hl];refine dD lE (Q0 w) fun x hx hn=>?_
  simp only[lE,apx,apB,auw]at hx;rcases hx with rfl|rfl<;>exact q_ hl hn an
 rw[at6 hl];clear hl;exact Q0 w
theorem Ld (h0:0<=w)(h1:w<4294967296)(hk:1<=k)(hk':k<=59):iw w (mask (aJ k))=bK k↔raw w=k:=by rw[Ii h0 h1];refine⟨zZ h0 h1 hk hk',fun h=>?_⟩;have:=(sW h0 h1 ab).1;rwa[h]at this
theorem kI (h0:0<=w)(h1:w<4294967296):0<=raw w/\raw w<=59:=by
 by_cases h:raw w=0
 ·omega
 ·have:=sW h0 h1 h;omega
end Dc
namespace Dw
variable{w w' a:World}{v:Value}
def Gr (w w':World):Prop:=Below w.heap.size w w'/\∀a,w'.frozen? a=w.frozen? a
theorem Gr.refl (w:World):Gr w w:=⟨auC _ _,fun _=>rfl⟩
theorem Gr.size (h:Gr w w'):w.heap.size<=w'.heap.size:=h.1.size
theorem Gr.trans {b c:World}(h:Gr a b)(k:Gr b c):Gr a c:=⟨h.1.trans (k.1.mono h.1.size),fun x=>(k.2 x).trans (h.2 x)⟩
theorem Gr.alloc (h:Gr a w)(c:Array Value)(t:TypeId):Gr a (w.alloc (.cells c t)):=⟨h.1.alloc h.1.size _,fun x=>(frozen?_alloc_cells _ _ _ x).trans (h.2 x)⟩
theorem Gr.setCell (h:Gr a w){p:Addr}(hp:a.heap.size<=p.block)(v:Value):Gr a (w.setCell p v):=⟨h.1.setCell hp v,fun x=>(World.frozen?_setCell _ _ _ _).trans (h.2 x)⟩
theorem Gr.drewN (h:Gr a w)(n:Nat):Gr a (w.drewN n):=⟨⟨h.1.os,h.1.tape,h.1.output,h.1.size,h.1.block⟩,h.2⟩
theorem Gr.cell (h:Gr w w')(b o:Nat)(hb:b<w.heap.size):w'.cell? ⟨b,o,none⟩=w.cell? ⟨b,o,none⟩:=h.1.cell (p:=⟨b,o,none⟩) hb
theorem lt_of_cell {o:Nat}(h:w.cell? ⟨b,o,none⟩=some v):b<w.heap.size:=by
 by_cases hb:b<w.heap.size
 ·exact hb
 ·have:w.heap[b]?=none:=by simp;omega
  simp[World.cell?,this]at h
def look {H:Type} (P:Program):Nat→TypeId→DataW H→Nat→Option Value
 |0,_,_,_=>none
 |n+1,t,d,i=>
  match P.underlying t,d with
  |some .bool,.lit (.bool b)=>if i=0 then some (.bool b)else none
  |some (.int _),.lit (.int k m)=>if i=0 then some (.int k m)else none
  |some (.struct fs),.agg ds=>
   match (List.range fs.size).find? (fun j=>match fs[j]? with|some f=>decide (f.offset<=i) && decide (i<f.offset+P.cellsOf f.type)|none=>false)with
   |some j=>match fs[j]?,ds[j]? with
    |some f,some e=>if f.offset<=i/\i<f.offset+P.cellsOf f.type then look P n f.type e (i-f.offset)else none
    |_,_=>none
   |none=>none
  |some (.array k e),.agg ds=>
   match ds[i/P.cellsOf e]? with
   |some x=>if 0<P.cellsOf e/\i/P.cellsOf e<k then look P n e x (i%P.cellsOf e)else none
   |none=>none
  |_,_=>none
theorem jI {α:Type}(cs:List α)(a n i:Nat)(v:α)(h:((cs.drop a).take n)[i]?=some v):cs[a+i]?=some v:=by
 rw[apS]at h;split at h
 ·rwa[ap3]at h
 ·cases h
theorem dN {H:Type}{enc:TypeId×Value->H}{P:Program}{base:Nat}{spare:Nat->Bool}{held:Bool}:(n:Nat)->∀{fuel:Nat} {t:TypeId} {cs:List Value} {d:DataW H} {ps:List MemPlace} {i:Nat} {v:Value},
  DataW.trod enc P w base spare held fuel t cs=some (d,ps)->look P n t d i=some v->cs[i]?=some v
 |0,_,_,_,_,_,_,_,_,hl=>by cases hl
 |n+1,fuel,t,cs,d,ps,i,v,h,hl=>by
  unfold look at hl;split at hl
  ·rename_i ht;obtain⟨b,rfl,hx⟩:=DataW.trod_bool ht h;simp at hx;split at hl
   ·subst_vars;simpa[hx.1]using hl
   ·cases hl
  ·rename_i ht;obtain⟨b,rfl,hx,_⟩:=DataW.trod_int ht h;simp at hx;split at hl
   ·subst_vars;simp at hl;rw[<-hl,hx.1.1,hx.1.2];rfl
   ·cases hl
  ·rename_i fs ds ht;obtain⟨xs,m,rfl,hx,_,hlen,hel⟩:=DataW.trod_struct ht h;simp only[auX,DataW.agg.injEq]at hx;split at hl
   ·rename_i j _;split at hl
    ·rename_i f e hf he;split at hl
     ·rename_i hi;have hE:=hel j f hf;rw[hx.1,apT]at he;cases hy:xs[j]? with
      |none=>simp[hy]at he
      |some y=>
       rw[hy]at hE he;simp at he;have:=dN n (d:=e) (ps:=y.2) (by rw[hE,<-he]) hl;have:=jI _ _ _ _ _ this;rwa[show f.offset+(i-f.offset)=i by omega]at this
     ·cases hl
    ·cases hl
   ·cases hl
  ·rename_i k e ds ht;obtain⟨xs,m,rfl,hx,_,hlen,hel⟩:=DataW.trod_array ht h;simp only[auX,DataW.agg.injEq]at hx;split at hl
   ·rename_i x he;split at hl
    ·rename_i hi;have hE:=hel _ hi.2;rw[hx.1,apT]at he;cases hy:xs[i/P.cellsOf e]? with
     |none=>simp[hy]at he
     |some y=>
      rw[hy]at hE he;simp at he;have:=dN n (d:=x) (ps:=y.2) (by rw[hE,<-he]) hl;have:=jI _ _ _ _ _ this;rwa[aqH,arw]at this
    ·cases hl
   ·cases hl
  ·cases hl
def shape (told:Int) (rd bL bT:Bool) (jw:List Int) (spare:Int):List Value:=[.int .u32 told,.bool rd,.bool bL,.bool bT]++jw.map (fun n=>.int .i64 n)++[.int .i64 spare]
def pieces (f:Nat):List Int:=match f with
 |1=>[12,12,20,0,0,0,0,0,0,0,0,0]|2=>[31,20,1,12,12,8,20,11,1,21,1,10]|3=>[20,0,12,0,0,0,0,0,0,0,0,0]|4=>[20,0,5,0,0,0,0,0,0,0,0,0]
 |5=>[31,12,1,7,11,1,25,5,6,8,1,4]|6=>[25,5,7,7,0,5,0,0,0,0,0,0]|8=>[25,0,2,0,0,0,0,0,0,0,0,0]|_=>[0,0,0,0,0,0,0,0,0,0,0,0]
def spare (f:Nat):Int:=match f with|2=>11|3=>20|5=>19|6=>20|_=>0
def shapes:List Value:=(List.range 10).flatMap fun(f:Nat)=>shape (Dc.mask f) (Dc.kV f) (Dc.iG f) (Dc.iJ f) (pieces f) (spare f)
structure nK (w:World):Prop where
 shapes:∀i v,shapes[i]?=some v->w.cell? ⟨0,i,none⟩=some v
 uppers:∀i n,Dc.uppers[i]?=some n->w.cell? ⟨3,i,none⟩=some (.int .u32 n)
theorem nK.of (h:nK w)(g:Gr w w'):nK w':=⟨fun i v hi=>(g.cell _ _ (lt_of_cell (h.shapes i v hi))).trans (h.shapes i v hi),fun i v hi=>(g.cell _ _ (lt_of_cell (h.uppers i v hi))).trans (h.uppers i v hi)⟩
theorem Fj : prog.globalNamed "ferrybridge/decode.shapes" = some 0 := by kernel_rfl
theorem Fp : prog.globalNamed "ferrybridge/decode.uppers" = some 3 := by kernel_rfl
theorem Fs:(prog.globals[0]?).map (·.type)=some 104:=al
theorem Fu:(prog.globals[3]?).map (·.type)=some 185:=al
theorem sZ:(List.range 170).map (look prog 5 104 (Rows.laid_ferrybridge_decode_shapes (H:=Unit)))=shapes.map some:=al
theorem tC:(List.range 60).map (look prog 3 185 (Rows.laid_ferrybridge_decode_uppers (H:=Unit)))=Dc.uppers.map fun n=>some (.int .u32 n):=al
theorem jB {d:DataW Unit}{t N:Nat}{l:List Value}(h:(List.range N).map (look prog n t d)=l.map some){i:Nat}(hi:l[i]?=some v):look prog n t d i=some v:=by
 have e:=congrArg (·[i]?) h;simp only[apT,hi,ap7]at e;cases hr:(List.range N)[i]? with
 |none=>simp[hr]at e
 |some j=>
  rw[hr]at e;have:j=i:=by
   rw[apj]at hr;obtain⟨_,hr⟩:=hr;simpa using hr.symm
  subst this;simpa using e
end Dw
namespace Re
open Dw
end Re
namespace Re
open Dw
end Re
namespace Re
open Dw
end Re
namespace Re
open Dw
end Re
namespace Re
open Dw
variable{rd bL bT n:Int}
def XK (op rd bL bT n:Int):Prop:=(1<=op/\op<=59/\0<=rd/\rd<=31/\0<=bL/\bL<=31/\0<=bT/\bT<=31)/\
 ((1<=op/\op<=2/\bL=0/\bT=0/\n.tmod 4096=0)\/(3<=op/\op<=3/\bL=0/\bT=0 /\ -1048576<=n/\n<=1048574/\n.tmod 2=0)\/(4<=op/\op<=4/\bT=0 /\ -2048<=n/\n<=2047)\/(5<=op/\op<=10/\rd=0 /\ -4096<=n/\n<=4094/\n.tmod 2=0)\/(11<=op/\op<=15/\bT=0 /\ -2048<=n/\n<=2047)\/(16<=op/\op<=18/\rd=0 /\ -2048<=n/\n<=2047)\/(19<=op/\op<=24/\bT=0 /\ -2048<=n/\n<=2047)\/(25<=op/\op<=27/\bT=0/\0<=n/\n<=31)\/(28<=op/\op<=45/\n=0)\/(46<=op/\op<=56/\0<=n/\n<=3/\(op≠46\/bT=0))\/(57<=op/\op<=57/\bT=0 /\ -2048<=n/\n<=2047)\/(58<=op/\op<=59/\rd=0/\bL=0/\bT=0/\n=0))
end Re
namespace As
def names:List (List Nat):=[[108,117,105],[97,117,105,112,99],[106,97,108],[106,97,108,114],[98,101,113],[98,110,101],[98,108,116],[98,103,101],[98,108,116,117],[98,103,101,117],[108,98],[108,104],[108,119],[108,98,117],[108,104,117],[115,98],[115,104],[115,119],[97,100,100,105],[115,108,116,105],[115,108,116,105,117],[120,111,114,105],[111,114,105],[97,110,100,105],[115,108,108,105],[115,114,108,105],[115,114,97,105],[97,100,100],[115,117,98],[115,108,108],[115,108,116],[115,108,116,117],[120,111,114],[115,114,108],[115,114,97],[111,114],[97,110,100],[109,117,108],[109,117,108,104],[109,117,108,104,115,117],[109,117,108,104,117],[100,105,118],[100,105,118,117],[114,101,109],[114,101,109,117],[108,114],[115,99],[97,109,111,115,119,97,112],[97,109,111,97,100,100],[97,109,111,120,111,114],[97,109,111,97,110,100],[97,109,111,111,114],[97,109,111,109,105,110],[97,109,111,109,97,120],[97,109,111,109,105,110,117],[97,109,111,109,97,120,117],[102,101,110,99,101],[101,99,97,108,108],[101,98,114,101,97,107]]
def RB (m:Int):List Nat:=if m=1 then[46,114,108]else if m=2 then[46,97,113]else if m=3 then[46,97,113,114,108]else[]
def rD (op m:Int):List Nat:=if 46<=op/\op<=56 then names.getD (op-1).toNat []++[46,119]++RB m else names.getD (op-1).toNat []
def rg (n:Int):List Nat:=120::num n
abbrev F2 (op:Int):Prop:=op=4\/19<=op/\op<=27\/op=57
def Le (op rd a b n:Int):List Nat:=
 if 58<=op then[]
 else if op<=3 then 32::(rg rd++44::num n)
 else if F2 op then 32::(rg rd++44::(rg a++44::num n))
 else if op<=10 then 32::(rg a++44::(rg b++44::num n))
 else if op<=15 then 32::(rg rd++44::(num n++40::(rg a++[41])))
 else if op<=18 then 32::(rg b++44::(num n++40::(rg a++[41])))
 else if op<=45 then 32::(rg rd++44::(rg a++44::rg b))
 else if op=46 then 32::(rg rd++44::40::(rg a++[41]))
 else 32::(rg rd++44::(rg b++44::40::(rg a++[41])))
def nw (op n:Int):Int:=if op<=2 then n/4096 else n
def vX (op rd a b n:Int):List Nat:=rD op n++Le op rd a b (nw op n)
abbrev Fo:=Int×Int×Int×Int
abbrev Fi:=Int×Int×Int×Int×Int
end As
namespace As
open Mm
def str (l:List Nat):Value:=.string ⟨(l.map UInt8.ofNat).toArray⟩
theorem mP (a b:List Nat):Value.string (⟨(a.map UInt8.ofNat).toArray⟩++⟨(b.map UInt8.ofNat).toArray⟩)=str (a++b):=by unfold str;congr 1;apply ByteArray.ext;simp[ByteArray.data_append]
theorem mQ {n:Int}(h0 : -1000000000000<n)(h1:n<1000000000000):(num n).length<=20:=by have:=x8 17 n.natAbs ab;unfold num;split<;>simp<;>omega
end As
namespace As
open Mm
theorem tF {Q:Exit→Act→World→Prop}(hg:o.guard=none)(t t2:TypeId)(x y:Operand)(ho:o.op=.binOp .add t x y t2)(A B:List Nat)(hx:a.eval x=str A)(hy:a.eval y=str B)(hl:A.length+B.length<=1000000)(h:wpList P ops Q rest (a.put o.dst (str (A++B))) w):wpList P ops Q (o::rest) a w:=by
 have e:(Op.stringOp .add ⟨(A.map UInt8.ofNat).toArray⟩ ⟨(B.map UInt8.ofNat).toArray⟩).run P w=.ok (str (A++B)) w:=by
  rw[<-mP];exact run_string_add_sum _ _ _ (by show(A.map UInt8.ofNat).toArray.size+(B.map UInt8.ofNat).toArray.size<=9223372036854775807;simp;omega)
 refine au5 hg fun K hK=>?_
 unfold Oper.wp execOp;simp only[ho,hx,hy];unfold str at e ⊢;simp only[eqGuard_add,au3,avd,auM,binOp_string_add,e];exact hK _ _ h
theorem z8 (h1:1<=op)(h2:op<=59)(m:Int):(rD op m).length<=20:=by
 obtain⟨k,rfl⟩:∃k:Nat,op=(k:Int)+1:=⟨(op-1).toNat,ab⟩;have:∀k:Fin 59,(names.getD k.val []).length<=10:=an;have:=this ⟨k,ab⟩;unfold rD RB;rw[show((k:Int)+1-1).toNat=k by omega];simp only at this;generalize names.getD k []=a at *
 repeat' split
 all_goals simp;omega
end As
namespace As
open Go.Lib
def bs (L:List Nat):ByteArray:=⟨(L.map UInt8.ofNat).toArray⟩
theorem bU (L:List Nat):(bs L).data.toList=L.map UInt8.ofNat:=by simp[bs]
theorem dz (L:List Nat):(bs L).size=L.length:=by rw[size_eq,bU];simp
theorem nU {a b:ByteArray}(h:a.data.toList=b.data.toList):a=b:=by obtain⟨⟨a⟩⟩:=a;obtain⟨⟨b⟩⟩:=b;simp at h;rw[h]
theorem RD (L:List Nat)(i:Nat):(bs L).extract i (bs L).size=bs (L.drop i):=nU (by rw[extract_data,bU,bU,dz,<-List.map_drop,ap0 aq])
theorem RF (L:List Nat)(i:Nat):(bs L).extract 0 i=bs (L.take i):=nU (by rw[extract_data,bU,bU,List.drop_zero,Nat.sub_zero,<-List.map_take])
def WB (s:ByteArray):List Nat:=s.data.toList.map UInt8.toNat
theorem Lf (s:ByteArray):bs (WB s)=s:=nU (by
 rw[bU];unfold WB;rw[List.map_map]
 conv=>rhs;rw[<-List.map_id s.data.toList]
 apply List.map_congr_left;intro x _;simp)
theorem Lg {L:List Nat}(h:∀c∈L,c<256):WB (bs L)=L:=by
 unfold WB;rw[bU,List.map_map]
 conv=>rhs;rw[<-List.map_id L]
 apply List.map_congr_left;intro c hc;have:=h c hc;show(UInt8.ofNat c).toNat=c
 simp;omega
theorem CZ {A B:List Nat}(ha:∀c∈A,c<256)(hb:∀c∈B,c<256)(h:bs A=bs B):A=B:=by rw[<-Lg ha,<-Lg hb,h]
theorem Lh (s:ByteArray):∀c∈WB s,c<256:=by intro c hc;obtain⟨x,_,rfl⟩:=apK.1 hc;exact x.toNat_lt
theorem C8 (n:Nat):decDigits n=(dg n).map UInt8.ofNat:=by
 induction n using Nat.strongRecOn with
 |_ n ih=>
  by_cases h:n<10
  ·rw[K9 h,decDigits,dif_pos h];rfl
  ·rw[Wy h,decDigits,dif_neg h,ih (n/10) ab,aqb];rfl
theorem Li (n:Int):itoa n=(num n).map UInt8.ofNat:=by
 unfold itoa num;by_cases h:n<0
 ·rw[at7 h,at7 h,C8];rfl
 ·rw[at6 h,at6 h,C8,show n.toNat=n.natAbs by omega]
def vg (acc:Nat) (l:List Nat):Nat:=l.foldl (fun n d=>10*n+(d-48)) acc
theorem WC:∀(l:List Nat) (acc:Nat),acc≤vg acc l
 | [],acc=>apn _
 |d::l,acc=>by
  have:=WC l (10*acc+(d-48));show acc<=vg (10*acc+(d-48)) l
  omega
theorem WE {M:Nat}(hM:M<18446744073709551616):∀(l:List Nat) (acc:Nat),(∀d∈l,IsD d)→vg acc l≤M→parseUintM M acc (l.map UInt8.ofNat)=.ok (vg acc l)
 | [],acc,_,_=>rfl
 |d::l,acc,hd,hv=>by
  have h1:=hd d aq;unfold IsD at h1;have e:(UInt8.ofNat d).toNat=d:=by simp;omega
  have hv':vg (10*acc+(d-48)) l<=M:=hv;have h2:=WC l (10*acc+(d-48));have ih:=WE hM l (10*acc+(d-48)) (fun x hx=>hd x (by simp[hx])) hv';rw[aqo,parseUintM,at7 (by rw[e];exact h1),ak,at6 (by rw[e];omega),e,show acc*10+(d-48)=10*acc+(d-48)by omega,ih];rfl
def jU (op:Int):List Nat:=
 if 1<=op/\op<=2 then[100,44,117]
 else if op=3 then[100,44,105]
 else if op=4\/(19<=op/\op<=27)\/op=57 then[100,44,115,44,105]
 else if 5<=op/\op<=10 then[115,44,116,44,105]
 else if 11<=op/\op<=15 then[100,44,105,40,115,41]
 else if 16<=op/\op<=18 then[116,44,105,40,115,41]
 else if 28<=op/\op<=45 then[100,44,115,44,116]
 else if op=46 then[100,44,40,115,41]
 else if 47<=op/\op<=56 then[100,44,116,44,40,115,41]
 else[]
def dA (rd a b n:Int) (c:Nat):List Nat:=if c=100 then rg rd else if c=115 then rg a else if c=116 then rg b else if c=105 then num n else if c=117 then num (n/4096)else[c]
def nV (op rd a b n:Int):List Nat:=(jU op).flatMap (dA rd a b n)
theorem vv (rd a b n:Int):dA rd a b n 100=rg rd:=rfl
theorem vw (rd a b n:Int):dA rd a b n 115=rg a:=rfl
theorem vz (rd a b n:Int):dA rd a b n 116=rg b:=rfl
theorem vB (rd a b n:Int):dA rd a b n 105=num n:=rfl
theorem vC (rd a b n:Int):dA rd a b n 117=num (n/4096):=rfl
theorem vD (rd a b n:Int):dA rd a b n 44=[44]:=rfl
theorem vE (rd a b n:Int):dA rd a b n 40=[40]:=rfl
theorem vF (rd a b n:Int):dA rd a b n 41=[41]:=rfl
theorem acx (h:1<=op/\op<=2):jU op=[100,44,117]:=by unfold jU;rw[at7 h]
theorem wr0 (h:1<=op/\op<=2)(rd a b n:Int):nV op rd a b n=rg rd++44::num (n/4096):=by unfold nV;rw[acx h];simp only[apL,aqg,vv,vw,vz,vB,vC,vD,vE,vF,apz,aqc,apZ,apO]
theorem acy (h:op=3):jU op=[100,44,105]:=by unfold jU;rw[ak,at7 h]
theorem wr1 (h:op=3)(rd a b n:Int):nV op rd a b n=rg rd++44::num n:=by unfold nV;rw[acy h];simp only[apL,aqg,vv,vw,vz,vB,vC,vD,vE,vF,apz,aqc,apZ,apO]
theorem RH (h:F2 op):jU op=[100,44,115,44,105]:=by unfold F2 at h;unfold jU;rw[ak,ak,at7 h]
theorem wr2 (h:F2 op)(rd a b n:Int):nV op rd a b n=rg rd++44::(rg a++44::num n):=by unfold nV;rw[RH h];simp only[apL,aqg,vv,vw,vz,vB,vC,vD,vE,vF,apz,aqc,apZ,apO]
theorem acz (h:5<=op/\op<=10):jU op=[115,44,116,44,105]:=by unfold jU;rw[ak,ak,ak,at7 h]
theorem wr3 (h:5<=op/\op<=10)(rd a b n:Int):nV op rd a b n=rg a++44::(rg b++44::num n):=by unfold nV;rw[acz h];simp only[apL,aqg,vv,vw,vz,vB,vC,vD,vE,vF,apz,aqc,apZ,apO]
theorem acA (h:11<=op/\op<=15):jU op=[100,44,105,40,115,41]:=by unfold jU;rw[ak,ak,ak,ak,at7 h]
theorem wr4 (h:11<=op/\op<=15)(rd a b n:Int):nV op rd a b n=rg rd++44::(num n++40::(rg a++[41])):=by unfold nV;rw[acA h];simp only[apL,aqg,vv,vw,vz,vB,vC,vD,vE,vF,apz,aqc,apZ,apO]
theorem acB (h:16<=op/\op<=18):jU op=[116,44,105,40,115,41]:=by unfold jU;rw[ak,ak,ak,ak,ak,at7 h]
theorem wr5 (h:16<=op/\op<=18)(rd a b n:Int):nV op rd a b n=rg b++44::(num n++40::(rg a++[41])):=by unfold nV;rw[acB h];simp only[apL,aqg,vv,vw,vz,vB,vC,vD,vE,vF,apz,aqc,apZ,apO]
theorem acC (h:28<=op/\op<=45):jU op=[100,44,115,44,116]:=by unfold jU;rw[ak,ak,ak,ak,ak,ak,at7 h]
theorem wr6 (h:28<=op/\op<=45)(rd a b n:Int):nV op rd a b n=rg rd++44::(rg a++44::rg b):=by unfold nV;rw[acC h];simp only[apL,aqg,vv,vw,vz,vB,vC,vD,vE,vF,apz,aqc,apZ,apO]
theorem acD (h:op=46):jU op=[100,44,40,115,41]:=by unfold jU;rw[ak,ak,ak,ak,ak,ak,ak,at7 h]
theorem wr7 (h:op=46)(rd a b n:Int):nV op rd a b n=rg rd++44::40::(rg a++[41]):=by unfold nV;rw[acD h];simp only[apL,aqg,vv,vw,vz,vB,vC,vD,vE,vF,apz,aqc,apZ,apO]
theorem acE (h:47<=op/\op<=56):jU op=[100,44,116,44,40,115,41]:=by unfold jU;rw[ak,ak,ak,ak,ak,ak,ak,ak,at7 h]
theorem wr8 (h:47<=op/\op<=56)(rd a b n:Int):nV op rd a b n=rg rd++44::(rg b++44::40::(rg a++[41])):=by unfold nV;rw[acE h];simp only[apL,aqg,vv,vw,vz,vB,vC,vD,vE,vF,apz,aqc,apZ,apO]
theorem acF (h:op<1\/58<=op):jU op=[]:=by unfold jU;rw[ak,ak,ak,ak,ak,ak,ak,ak,ak]
theorem wr9 (h:op<1\/58<=op)(rd a b n:Int):nV op rd a b n=[]:=by unfold nV;rw[acF h];simp only[apL,aqg,vv,vw,vz,vB,vC,vD,vE,vF,apz,aqc,apZ,apO]
theorem cls (h1:1<=op)(h2:op<=59):(1<=op/\op<=2)\/op=3\/F2 op\/(5<=op/\op<=10)\/(11<=op/\op<=15)\/(16<=op/\op<=18)\/(28<=op/\op<=45)\/op=46\/(47<=op/\op<=56)\/(op<1\/58<=op):=by unfold F2;omega
theorem Aa (h1:1<=op)(h2:op<=59)(rd a b n:Int):Le op rd a b (nw op n)=if nV op rd a b n=[]then[]else 32::nV op rd a b n:=by
 unfold Le nw;rcases cls h1 h2 with h|h|h|h|h|h|h|h|h|h
 ·rw[wr0 h,at6 (show¬(rg _++_=[])by simp[rg])];rw[ak,dU,dU]
 ·rw[wr1 h,at6 (show¬(rg _++_=[])by simp[rg])];rw[ak,dU,ak]
 ·rw[wr2 h,at6 (show¬(rg _++_=[])by simp[rg])];have h':=h;unfold F2 at h';rw[ak,ak,at7 h,ak]
 ·rw[wr3 h,at6 (show¬(rg _++_=[])by simp[rg])];have h2:¬F2 op:=(by unfold F2;omega);rw[ak,ak,at6 h2,dU,ak]
 ·rw[wr4 h,at6 (show¬(rg _++_=[])by simp[rg])];have h2:¬F2 op:=(by unfold F2;omega);rw[ak,ak,at6 h2,ak,dU,ak]
 ·rw[wr5 h,at6 (show¬(rg _++_=[])by simp[rg])];have h2:¬F2 op:=(by unfold F2;omega);rw[ak,ak,at6 h2,ak,ak,dU,ak]
 ·rw[wr6 h,at6 (show¬(rg _++_=[])by simp[rg])];have h2:¬F2 op:=(by unfold F2;omega);rw[ak,ak,at6 h2,ak,ak,ak,dU]
 ·rw[wr7 h,at6 (show¬(rg _++_=[])by simp[rg])];have h2:¬F2 op:=(by unfold F2;omega);rw[ak,ak,at6 h2,ak,ak,ak,ak,dU]
 ·rw[wr8 h,at6 (show¬(rg _++_=[])by simp[rg])];have h2:¬F2 op:=(by unfold F2;omega);rw[ak,ak,at6 h2,ak,ak,ak,ak,ak]
 ·rw[wr9 h,at7 rfl,dU]
end As
namespace As
open Mm
structure gz (w:World):Prop where
 tb:Dw.nK w
 pw : Lib.TabIs prog w "internal/strconv.uint64pow10" .u64 Lib.pow10Tab
 nm:∀k,k<59->w.cell? ⟨1,k+1,none⟩=some (str (names.getD k []))
 ad:∀k:Nat,k<4->w.cell? ⟨2,k,none⟩=some (str (RB (k:Int)))
theorem vY (G:Gr w w'){o:Nat}(h:w.cell? ⟨b,o,none⟩=some v):w'.cell? ⟨b,o,none⟩=some v:=(G.cell _ (Dw.lt_of_cell h)).trans h
theorem gz.of (h:gz w)(G:Gr w w'):gz w':=⟨⟨fun i v e=>vY G (h.tb.shapes i v e),fun i v e=>vY G (h.tb.uppers i v e)⟩,Lib.tabBelow_of_tabIs h.pw w' G,fun k hk=>vY G (h.nm k hk),fun k hk=>vY G (h.ad k hk)⟩
structure Lj (w:World):Prop where
 s:∃te pe,w.cell? ⟨8,0,none⟩=some (.iface te pe)
 r:∃te pe,w.cell? ⟨9,0,none⟩=some (.iface te pe)
theorem Lj.of (h:Lj w)(G:Gr w w'):Lj w':=by obtain⟨⟨a,b,h1⟩,c,d,h2⟩:=h;exact⟨⟨a,b,vY G h1⟩,c,d,vY G h2⟩
theorem tH {n:Int}(h0 : -9223372036854775808<=n)(h1:n<=9223372036854775807)(T:gz w):Calls prog 96 #[.int .i64 n] w fun e w'=>e=.returned (str (num n))/\Gr w w':=(Tryz.strconv_Itoa n h0 h1 w T.pw).mono fun e w' ⟨he,k,os,hw⟩=>⟨by rw[he,Li];rfl,hw ▸ Lib.below_grow _ w (apn _) k os⟩
theorem kJ {n:Int}(h0 : -2147483648<=n)(h1:n<2147483648)(T:gz w):Calls prog 95 #[.int .i64 n] w fun e w'=>e=.returned (str (rg n))/\Gr w w':=by
 have HD:Hid (Calls prog 96 #[.int .i64 n] w fun e w'=>e=.returned (str (num n))/\Gr w w'):=tH ab ab T;have hl:¬9223372036854775807<1+(num n).length:=by have:=mQ (n:=n) ab ab;omega
 unfold rg;generalize num n=a at *
 go_enter func95,ntmps95;go_wp2_with fail;refine HD.mono ?_;rintro e w1 ⟨rfl,G1⟩;unfold str;go_wp2_with fail;go_ret;exact⟨congrArg Ending.returned (mP [120] _),G1⟩
end As
namespace As
open Mm
theorem vZ {H:Type}{enc:TypeId×Value→H}{W:World}{spare:Nat→Bool}{t e:TypeId}{cs:List Value}{ds:List (DataW H)}{ps:List MemPlace}(ht:P.underlying t=some (.array n e))(he:P.underlying e=some .string)(hc:P.cellsOf e=1)(h:DataW.trod enc P W base spare held fuel t cs=some (.agg ds,ps))(hi:i<n)(hd:ds[i]?=some (.lit (.string l))):cs[i]?=some (.string ⟨l.toArray⟩):=by
 obtain⟨xs,m,rfl,hx,_,hlen,hel⟩:=DataW.trod_array ht h;simp only[auX,DataW.agg.injEq]at hx;have hE:=hel i hi;rw[hx.1,apT]at hd;cases hy:xs[i]? with
 |none=>simp[hy]at hd
 |some y=>
  rw[hy]at hE hd;simp at hd;obtain⟨s,h1,h2,_⟩:=DataW.trod_string he hE;rw[h2]at hd;simp only[DataW.lit.injEq,Lit.string.injEq]at hd;rw[hc,Nat.mul_one]at h1;have:((cs.drop i).take 1)[0]?=some (.string s):=by rw[h1];rfl
  have:=Dw.jI _ _ _ _ _ this;rw[aqt]at this;rw[this,<-hd]
theorem XM : prog.globalNamed "ferrybridge/asm.names" = some 1 := by kernel_rfl
theorem XN : prog.globalNamed "ferrybridge/asm.added" = some 2 := by kernel_rfl
theorem agf : prog.globalNamed "internal/strconv.uint64pow10" = some 5 := by kernel_rfl
theorem gEs : prog.globalNamed "strconv.ErrSyntax" = some 8 := by kernel_rfl
theorem gEr : prog.globalNamed "strconv.ErrRange" = some 9 := by kernel_rfl
theorem XO:(prog.globals[1]?).map (·.type)=some 152:=al
theorem XP:(prog.globals[2]?).map (·.type)=some 153:=al
theorem agh:(prog.globals[5]?).map (·.type)=some 250:=al
theorem tEs:(prog.globals[8]?).map (·.type)=some 78:=al
theorem tEr:(prog.globals[9]?).map (·.type)=some 78:=al
theorem sF:prog.cellsOf 9=1:=al
theorem WG:prog.cellsOf 280=1:=al
theorem agi:prog.cellsOf 173=1:=al
theorem agj:prog.cellsOf 250=20:=al
theorem star : "*" ++ "errors.errorString" = "*errors.errorString" := by decide
theorem acG (u : TypeId)(h : prog.typeName? 3 u = some "*errors.errorString") : u = 278 :=
 typeName_ptr_named (nm := "errors.errorString") (by rw [star]; kernel_rfl) al an u (by rw [star]; exact h)
abbrev Lm:=List (String×DataW Unit)
theorem agk:(Rows.laid_internal_strconv_uint64pow10:DataW Unit)=Lib.tabData .u64 Lib.pow10Tab:=al
theorem agl (h:k<59):(match (Rows.laid_ferrybridge_asm_names:DataW Unit)with|.agg ds=>ds[k+1]?|_=>none)=some (.lit (.string ((names.getD k []).map UInt8.ofNat))):=by
 have:∀k:Fin 59,(match (Rows.laid_ferrybridge_asm_names:DataW Unit)with|.agg ds=>ds[k.val+1]?|_=>none)=some (.lit (.string ((names.getD k.val []).map UInt8.ofNat))):=by
  intro k;have e:(List.range 59).map (fun k=>match (Rows.laid_ferrybridge_asm_names:DataW Unit)with|.agg ds=>ds[k+1]?|_=>none)=(List.range 59).map (fun k=>some (.lit (.string ((names.getD k []).map UInt8.ofNat)))):=al;have:=congrArg (·[k.val]?) e;simpa[k.isLt]using this
 exact this ⟨k,h⟩
theorem agm (h:k<4):(match (Rows.laid_ferrybridge_asm_added:DataW Unit)with|.agg ds=>ds[k]?|_=>none)=some (.lit (.string ((RB (k:Int)).map UInt8.ofNat))):=by
 match k,h with
 |0,_=>rfl
 |1,_=>rfl
 |2,_=>rfl
 |3,_=>rfl
theorem XQ {W : World}{x y : String × DataW Unit}{r r' : Lm}(h : laidMet prog (("ferrybridge/decode.shapes", Rows.laid_ferrybridge_decode_shapes) :: ("ferrybridge/decode.uppers", Rows.laid_ferrybridge_decode_uppers) :: x :: y :: ("internal/strconv.uint64pow10", Rows.laid_internal_strconv_uint64pow10) :: r) W)
  (h' : laidMet prog (("ferrybridge/asm.names", Rows.laid_ferrybridge_asm_names) :: ("ferrybridge/asm.added", Rows.laid_ferrybridge_asm_added) :: r') W) : gz W := by
 have hp:=h.tail.tail.tail.tail;rw[agk]at hp;refine⟨?_,Lib.tabIs_of_head agf agh underlying250 underlying173 agi agj hp,?_,?_⟩
 ·obtain⟨ps,⟨g0,t0,cs0,f0,p0,q0,hg0,ht0,hv0,hd0,⟨g1,t1,cs1,f1,p1,q1,hg1,ht1,hv1,hd1,_,_⟩,_⟩,_,_⟩:=h;obtain rfl:=aum (Dw.Fj.symm.trans hg0);obtain rfl:=aum (Dw.Fp.symm.trans hg1);obtain rfl:=aum (Dw.Fs.symm.trans ht0);obtain rfl:=aum (Dw.Fu.symm.trans ht1);refine⟨fun i v hi=>?_,fun i n hi=>?_⟩
  ·have:=Dw.dN 5 hd0 (Dw.jB Dw.sZ hi);rw[auH hg0 hv0 i];simpa using this
  ·have:=Dw.dN 3 hd1 (Dw.jB (l:=Dc.uppers.map fun n=>.int .u32 n) (i:=i) (v:=.int .u32 n) (by rw[Dw.tC];simp[auY]) (by simp[hi]));rw[auH hg1 hv1 i];simpa using this
 ·obtain⟨ps,⟨g0,t0,cs0,f0,p0,q0,hg0,ht0,hv0,hd0,_,_⟩,_,_⟩:=h';obtain rfl:=aum (XM.symm.trans hg0);obtain rfl:=aum (XO.symm.trans ht0);intro k hk;have e:=agl hk;unfold Rows.laid_ferrybridge_asm_names at e hd0;have:=vZ underlying152 underlying9 sF hd0 (i:=k+1) ab e;rw[auH hg0 hv0 (k+1)];simpa[str]using this
 ·obtain⟨ps,⟨g0,t0,cs0,f0,p0,q0,hg0,ht0,hv0,hd0,_,_⟩,_,_⟩:=h'.tail;obtain rfl:=aum (XN.symm.trans hg0);obtain rfl:=aum (XP.symm.trans ht0);intro k hk;have e:=agm hk;unfold Rows.laid_ferrybridge_asm_added at e hd0;have:=vZ underlying153 underlying9 sF hd0 (i:=k) hk e;rw[auH hg0 hv0 k];simpa[str]using this
theorem XR {W : World}{r : Lm}(h : laidMet prog (("strconv.ErrRange", Rows.laid_strconv_ErrRange) :: ("strconv.ErrSyntax", Rows.laid_strconv_ErrSyntax) :: r) W) : Lj W := by
 obtain⟨a0,s0,hv0, -, -, -⟩:=laid_sentinel h gEr tEr underlying78 acG underlying278 underlying280 rfl rfl underlying9 WG sF;obtain⟨a1,s1,hv1, -, -, -⟩:=laid_sentinel h.tail gEs tEs underlying78 acG underlying278 underlying280 rfl rfl underlying9 WG sF;exact⟨⟨_,_,by have h0:=auH gEs hv1 0;simpa using h0⟩,_,_,by have h0:=auH gEr hv0 0;simpa using h0⟩
def WH {H : Type} : List (String × DataW H) := [("ferrybridge/decode.shapes", Rows.laid_ferrybridge_decode_shapes), ("ferrybridge/decode.uppers", Rows.laid_ferrybridge_decode_uppers), ("math/bits.deBruijn32tab", Rows.laid_math_bits_deBruijn32tab), ("math/bits.deBruijn64tab", Rows.laid_math_bits_deBruijn64tab), ("internal/strconv.uint64pow10", Rows.laid_internal_strconv_uint64pow10), ("strconv.ErrRange", Rows.laid_strconv_ErrRange), ("strconv.ErrSyntax", Rows.laid_strconv_ErrSyntax), ("ferrybridge/asm.names", Rows.laid_ferrybridge_asm_names), ("ferrybridge/asm.added", Rows.laid_ferrybridge_asm_added)]
theorem agn {W:World}(h:laidMetH prog WH W):gz W/\Lj W:=by rw[auZ _ _ _ al]at h;exact⟨XQ h h.tail.tail.tail.tail.tail.tail.tail,XR h.tail.tail.tail.tail.tail⟩
end As
namespace Ts
open Mm
variable{ao:Option Addr}{n:Int}
structure Iv where
 op:Int
 rd:Int
 r1:Int
 r2:Int
 im:Int
def Ll (i:Iv):List Value:=[.int .i64 i.op,.int .i64 i.rd,.int .i64 i.r1,.int .i64 i.r2,.int .i32 i.im]
def WI (n:Int):Prop := -9223372036854775808<=n/\n<=9223372036854775807
structure Iv.Ok (i:Iv):Prop where
 op:WI i.op
 rd:WI i.rd
 r1:WI i.r1
 r2:WI i.r2
 im : -2147483648<=i.im/\i.im<=2147483647
structure Is (w:World) (ao:Option Addr) (n:Nat) (is:List Iv):Prop where
 len:is.length=n
 ok:∀i∈is,i.Ok
 spot:0<n->∃b o,ao=some ⟨b,o,none⟩/\b<w.heap.size/\∀j i,is[j]?=some i->w.cell? ⟨b,o+j*5,none⟩=some (.int .i64 i.op)/\w.cell? ⟨b,o+j*5+1,none⟩=some (.int .i64 i.rd)/\w.cell? ⟨b,o+j*5+2,none⟩=some (.int .i64 i.r1)/\w.cell? ⟨b,o+j*5+3,none⟩=some (.int .i64 i.r2)/\w.cell? ⟨b,o+j*5+4,none⟩=some (.int .i32 i.im)
theorem Is.of {n:Nat}{is:List Iv}(h:Is w ao n is)(g:Gr w w'):Is w' ao n is:=
 ⟨h.len,h.ok,fun hn=>by
  obtain⟨b,o,e,hb,hc⟩:=h.spot hn;refine⟨b,o,e,apq hb g.size,fun j i hj=>?_⟩;obtain⟨h0,h1,h2,h3,h4⟩:=hc j i hj;exact⟨(g.cell _ (by exact hb)).trans h0,(g.cell _ (by exact hb)).trans h1,(g.cell _ (by exact hb)).trans h2,(g.cell _ (by exact hb)).trans h3,(g.cell _ (by exact hb)).trans h4⟩⟩
end Ts
namespace Kc
open Mm Ts
structure Bv where
 pc:Int
 is:List Iv
def place (pc:Int):List Bv→Nat→Int
 | [],_ => -1
 |b::bs,k=>if b.pc=pc then(k:Int)else place pc bs (k+1)
def hasB (b:Bv) (f t:Int):Bool:=decide (max b.pc f<min (b.pc+4*(b.is.length:Int)) t)
def Bc (w:World) (b:Bv) (x y:Value):Prop:=x=.int .u32 b.pc/\(0<=b.pc/\b.pc<4294967296)/\∃sa sn sc,y=.slice sa sn sc/\Is w sa sn b.is/\sn*40<=140737488351232
theorem Bc.of {w w':World}{b:Bv}{x y:Value}(h:Bc w b x y)(G:Gr w w'):Bc w' b x y:=by obtain⟨e,p,sa,sn,sc,e2,I,hb⟩:=h;exact⟨e,p,sa,sn,sc,e2,I.of G,hb⟩
structure Bs (w:World) (ao:Option Addr) (n:Nat) (bs:List Bv):Prop where
 len:bs.length=n
 spot:0<n->∃b o,ao=some ⟨b,o,none⟩/\b<w.heap.size/\∀j x,bs[j]?=some x->∃u v,w.cell? ⟨b,o+j*2,none⟩=some u/\w.cell? ⟨b,o+j*2+1,none⟩=some v/\Bc w x u v
theorem Bs.of {w w':World}{ao:Option Addr}{n:Nat}{bs:List Bv}(h:Bs w ao n bs)(g:Gr w w'):Bs w' ao n bs:=
 ⟨h.len,fun hn=>by
  obtain⟨b,o,e,hb,hc⟩:=h.spot hn;refine⟨b,o,e,apq hb g.size,fun j i hj=>?_⟩;obtain⟨u,v,h0,h1,h2⟩:=hc j i hj;exact⟨u,v,(g.cell _ (by exact hb)).trans h0,(g.cell _ (by exact hb)).trans h1,h2.of g⟩⟩
theorem Ab {pc:Int}:∀{bs:List Bv} {j k:Nat} {x:Bv},bs[j]?=some x→x.pc=pc→(∀(i:Nat) (y:Bv),i<j→bs[i]?=some y→¬y.pc=pc)→place pc bs k=((k+j:Nat):Int)
 | [],j,k,x,h,_,_=>by simp at h
 |b::r,0,k,x,h,e,_=>by
  simp at h;subst h;unfold place;rw[at7 e,aqt]
 |b::r,j+1,k,x,h,e,hn=>by
  unfold place;rw[at6 (hn 0 b ab rfl)];have:=Ab (k:=k+1) (bs:=r) (j:=j) (by simpa using h) e fun i y hi hy=>hn (i+1) y ab (by simpa using hy)
  rw[this];congr 1;omega
end Kc
namespace Kc
open Mm Ts
end Kc
namespace Kc
open Mm Ts
end Kc
namespace Hh
open Mm
structure Hv where
 regs:List Int
 pc:Int
 held:Bool
 aP:Int
 state:Int
 cause:Int
variable{h:Hv}
def hL (h:Hv):List Value:=h.regs.map (Value.int .u32)++[.int .u32 h.pc,.bool h.held,.int .u32 h.aP,.int .i64 h.state,.int .i64 h.cause]
def hA (h:Hv):Array Value:=(hL h).toArray
def rg (h:Hv) (i:Nat):Int:=h.regs.getD i 0
structure Hv.Ok (h:Hv):Prop where
 len:h.regs.length=32
 reg:∀i,0<=rg h i/\rg h i<4294967296
 nH:0<=h.pc
 jV:h.pc<4294967296
 x9:0<=h.aP
 zO:h.aP<4294967296
def Hv.set (h:Hv) (r:Nat) (x:Int):Hv:=if r=0 then h else { h with regs:=h.regs.set r x }
def Hv.go (h:Hv) (x:Int):Hv:={ h with pc:=x }
def Hv.trap (h:Hv) (c:Int):Hv:={ h with state:=2,cause:=c }
def Hv.hold (h:Hv) (b:Bool) (x:Int):Hv:={ h with held:=b,aP:=x }
def Hv.halt (h:Hv):Hv:={ h with state:=1 }
theorem Lr (h:Hv)(r:Nat)(x:Int)(i:Nat):rg { h with regs:=h.regs.set r x } i=if i=r/\r<h.regs.length then x else rg h i:=by
 unfold rg;simp only[List.getD,ap1];by_cases e:r=i
 ·subst e;by_cases l:r<h.regs.length
  ·simp[l]
  ·simp[l]
 ·have e2:¬i=r:=fun q=>e q.symm
  simp[e,e2]
theorem Hv.Ok.set {h:Hv}(o:h.Ok)(r:Nat){x:Int}(h0:0<=x)(h1:x<4294967296):(h.set r x).Ok:=by
 unfold Hv.set;split
 ·exact o
 ·refine⟨by simp[o.len],fun i=>?_,o.nH,o.jV,o.x9,o.zO⟩;rw[Lr];split
  ·exact⟨h0,h1⟩
  ·exact o.reg i
theorem Hv.Ok.go {h:Hv}(o:h.Ok){x:Int}(h0:0<=x)(h1:x<4294967296):(h.go x).Ok:=⟨o.len,o.reg,h0,h1,o.x9,o.zO⟩
theorem Hv.Ok.trap {h:Hv}(o:h.Ok)(c:Int):(h.trap c).Ok:=⟨o.len,o.reg,o.nH,o.jV,o.x9,o.zO⟩
theorem Hv.Ok.halt {h:Hv}(o:h.Ok):h.halt.Ok:=⟨o.len,o.reg,o.nH,o.jV,o.x9,o.zO⟩
theorem Hv.Ok.hold {h:Hv}(o:h.Ok)(b:Bool){x:Int}(h0:0<=x)(h1:x<4294967296):(h.hold b x).Ok:=⟨o.len,o.reg,o.nH,o.jV,h0,h1⟩
theorem aD (o:h.Ok):(hL h).length=37:=by simp[hL,o.len]
theorem jC (o:h.Ok):(hA h).size=37:=by simp[hA,aD o]
theorem lC (o:h.Ok)(hi:i<32):(hL h)[i]?=some (.int .u32 (rg h i)):=by have:=o.len;unfold hL;rw[apA aE,apT,api ab];simp[rg,List.getD,api (show i<h.regs.length by omega)]
theorem aW {h:Hv}(o:h.Ok)(j:Nat):(hL h)[32+j]?=[Value.int .u32 h.pc,.bool h.held,.int .u32 h.aP,.int .i64 h.state,.int .i64 h.cause][j]?:=by unfold hL;rw[apv (by simp[o.len])];simp[o.len]
theorem yc (o:h.Ok)(hi:i<32)(x:Int):(hL h).set i (.int .u32 x)=hL { h with regs:=h.regs.set i x }:=by have:=o.len;unfold hL;rw[aqn _ _ aE,List.map_set]
theorem C9 (o:h.Ok)(x:Int):(hL h).set 32 (.int .u32 x)=hL { h with pc:=x }:=by unfold hL;rw[apJ _ _ (by simp[o.len])];simp[o.len]
theorem jW (o:h.Ok)(x:Bool):(hL h).set 33 (.bool x)=hL { h with held:=x }:=by unfold hL;rw[apJ _ _ (by simp[o.len])];simp[o.len]
theorem gI {h:Hv}(o:h.Ok)(x:Int):(hL h).set 34 (.int .u32 x)=hL { h with aP:=x }:=by unfold hL;rw[apJ _ _ (by simp[o.len])];simp[o.len]
theorem mR (o:h.Ok)(x:Int):(hL h).set 35 (.int .i64 x)=hL { h with state:=x }:=by unfold hL;rw[apJ _ _ (by simp[o.len])];simp[o.len]
theorem wh (o:h.Ok)(x:Int):(hL h).set 36 (.int .i64 x)=hL { h with cause:=x }:=by unfold hL;rw[apJ _ _ (by simp[o.len])];simp[o.len]
theorem qC (h:Hv):(hA h).all (·.oneCell')=true:=by refine auE ?_;intro v hv;simp only[hL,apR,apK,apx,apB,auw]at hv;rcases hv with⟨n,_,rfl⟩|rfl|rfl|rfl|rfl|rfl<;>rfl
theorem ag {a:World}(h:Gr a w)(hg:a.heap.size<=g)(cs:Array Value):Gr a (w.setRow g cs):=below_setRow h hg cs
end Hh
namespace Hh
open Mm Wd
def opn (op:Int):Int:=if op=19 then 28 else if op=20 then 31 else if op=21 then 32 else if op=22 then 33 else if op=23 then 36 else if op=24 then 37 else if op=25 then 30 else if op=26 then 34 else 35
structure Ev where
 h:Hv
 m:List UInt8
 out:List Int
 av:List (Int×Int)
 res:Option Int
def bF (h:Hv) (l:List UInt8) (op at':Int):Ev:=if bM l op at'=true then⟨h,l,[],[],some (aN l op at')⟩else⟨h.trap 3,l,[],[],none⟩
def aH (h:Hv) (l:List UInt8) (op at' b:Int):Ev:=if dX l op at'=true then⟨h,il l op at' b,[],[(at',(gG op:Nat))],none⟩else⟨h.trap 4,l,[],[],none⟩
def gB (h:Hv) (l:List UInt8) (a:Int):Ev:=if bM l 13 a=true then⟨h.hold true a,l,[],[],some (aN l 13 a)⟩else⟨h.trap 3,l,[],[],none⟩
def eU (h:Hv) (l:List UInt8) (a b:Int):Ev:=if bM l 13 a=true then(if h.held=true/\h.aP=a then⟨h.hold false 0,il l 18 a b,[],[(a,4)],some 0⟩else⟨h.hold false 0,l,[],[],some 1⟩)else⟨h.trap 4,l,[],[],none⟩
def iN (h:Hv) (l:List UInt8) (op a b:Int):Ev:=if bM l 13 a=true then⟨h,il l 18 a (mO op (aN l 13 a) b),[],[(a,4)],some (aN l 13 a)⟩else⟨h.trap 4,l,[],[],none⟩
def aK (h:Hv) (l:List UInt8) (op a b:Int):Ev:=if op=46 then gB h l a else if op=47 then eU h l a b else iN h l op a b
def bA (h:Hv) (l:List UInt8):Ev:=if rg h 17=0 then⟨h.halt,l,[],[],none⟩else if rg h 17=1 then⟨h,l,[rg h 10],[],none⟩else⟨h.trap 5,l,[],[],none⟩
def fT (h:Hv) (l:List UInt8) (op a b n:Int):Ev:=
 if op=1 then⟨h,l,[],[],some n⟩else if op=2 then⟨h,l,[],[],some (lo (h.pc+n))⟩else if op=3\/op=4 then⟨h,l,[],[],some (lo (h.pc+4))⟩
 else if 11<=op/\op<=15 then bF h l op (lo (a+n))else if 16<=op/\op<=18 then aH h l op (lo (a+n)) b
 else if 19<=op/\op<=27 then⟨h,l,[],[],some (eT (opn op) a n)⟩else if 28<=op/\op<=45 then⟨h,l,[],[],some (eT op a b)⟩
 else if 46<=op/\op<=56 then aK h l op a b else if op=58 then bA h l else if op=59 then⟨h.trap 6,l,[],[],none⟩else⟨h,l,[],[],none⟩
def qD (h:Hv) (op a b n:Int):Int:=if op=4 then lo (a+n)-lo (a+n)%2 else if op=3\/holds op a b=true then lo (h.pc+n)else lo (h.pc+4)
structure Sv where
 h:Hv
 m:List UInt8
 out:List Int
 av:List (Int×Int)
def Hv.put (h:Hv) (rd:Nat):Option Int→Hv
 |some x=>h.set rd x
 |none=>h
def Hv.on (h:Hv) (x:Int):Hv:=if h.state=0 then h.go x else h
def done (e:Ev) (rd:Nat) (nx:Int):Sv:=⟨(e.h.put rd e.res).on nx,e.m,e.out,e.av⟩
def ins (h:Hv) (l:List UInt8) (op rd r1 r2 im:Int):Sv:=done (fT h l op (rg h r1.toNat) (rg h r2.toNat) (lo im)) rd.toNat (qD h op (rg h r1.toNat) (rg h r2.toNat) (lo im))
def oW (h:Hv) (l:List UInt8) (x:Int):Sv:=if Dc.aO x=0 then⟨h.trap 2,l,[],[]⟩else ins h l (Dc.aO x) (Dc.iF (Dc.aJ (Dc.aO x)) x) (Dc.bZ (Dc.aJ (Dc.aO x)) x) (Dc.bV (Dc.aJ (Dc.aO x)) x) (Dc.bS (Dc.aJ (Dc.aO x)) x)
def dV (h:Hv) (l:List UInt8):Sv:=if bM l 13 h.pc=true then oW h l (aN l 13 h.pc)else⟨h.trap 1,l,[],[]⟩
def may (h:Hv):Bool:=decide (rg h 0=0/\(h.held=false->h.aP=0)/\(((h.state=0\/h.state=1)/\h.cause=0)\/(h.state=2/\1<=h.cause/\h.cause<=6)))
end Hh
namespace Hc
open Mm Hh
structure Cv where
 h:Hv
 m:Value
 out:Value
 av:Value
variable{c:Cv}
def cA (c:Cv):Array Value:=(hL c.h++[c.m,c.out,c.av]).toArray
theorem jD {c:Cv}(o:c.h.Ok):(cA c).size=40:=by simp[cA,aD o]
theorem Lt {c:Cv}(o:c.h.Ok)(hi:i<37):(cA c)[i]?=(hL c.h)[i]?:=by have:=aD o;unfold cA;rw[apm,apA ab]
theorem qE {c:Cv}(o:c.h.Ok)(j:Nat):(cA c)[37+j]?=[c.m,c.out,c.av][j]?:=by unfold cA;rw[apm,apv (by simp[aD o])];simp[aD o]
theorem XT (o:c.h.Ok)(hi:i<37){h':Hv}(e:(hL c.h).set i v=hL h'):(cA c).setIfInBounds i v=cA { c with h:=h' }:=by have:=aD o;unfold cA;simp only[apl];rw[aqn _ _ ab,e]
theorem RI (o:c.h.Ok)(v:Value):(cA c).setIfInBounds 37 v=cA { c with m:=v }:=by have:=aD o;unfold cA;simp only[apl];rw[apJ _ _ ab,this];rfl
theorem RJ (o:c.h.Ok)(v:Value):(cA c).setIfInBounds 38 v=cA { c with out:=v }:=by have:=aD o;unfold cA;simp only[apl];rw[apJ _ _ ab,this];rfl
theorem RL (o:c.h.Ok)(v:Value):(cA c).setIfInBounds 39 v=cA { c with av:=v }:=by have:=aD o;unfold cA;simp only[apl];rw[apJ _ _ ab,this];rfl
structure bN where
 b:Nat
def mb [Inhabited bN]:Nat:=(default:bN).b
def Own (w:World) (base:Nat) (v:Value) (l:List UInt8):Prop:=(v=.slice none 0 0/\l=[])\/∃k cap,v=.slice (some ⟨k,0,none⟩) l.length cap/\(base<=k/\l.length<=cap)/\qB w k cap l
theorem Own.mem {w:World}{base:Nat}{v:Value}{l:List UInt8}(h:Own w base v l):∃ao cap,v=.slice ao l.length cap/\Mem w ao l.length l:=by
 rcases h with⟨rfl,rfl⟩|⟨k,cap,rfl,_,R⟩
 ·exact⟨none,0,rfl,Mem.none w⟩
 ·exact⟨some ⟨k,0,none⟩,cap,rfl,R.row.mem⟩
def rE (ss:List (Int×Int)):List Value:=ss.flatMap fun p=>[.int .u32 p.1,.int .u32 (Wd.lo (p.1+p.2))]
theorem jX (ss:List (Int×Int))(p:Int×Int):rE (ss++[p])=rE ss++[.int .u32 p.1,.int .u32 (Wd.lo (p.1+p.2))]:=by simp[rE]
variable[Inhabited bN]
structure Inv (w:World) (base g:Nat) (c:Cv) (l:List UInt8) (os:List Int) (ss:List (Int×Int)):Prop where
 ok:c.h.Ok
 bg:base<=g
 core:w.heap[g]?=some (.cells (cA c) 197 (0,0))
 mem:Own w mb c.m l
 RO:mb<=base
 out:w.ownsRow base 37 1 c.out os.length (os.map (Value.int .u32))
 av:w.ownsRow base 175 2 c.av ss.length (rE ss)
def In (w:World) (base g:Nat) (h:Hv) (l:List UInt8) (os:List Int) (ss:List (Int×Int)):Prop:=∃c:Cv,c.h=h/\Inv w base g c l os ss
theorem Own.to {w':World}(h:Own w base v l)(e:∀(k:Nat) (o:Array Value) (f:Nat×Nat),w.heap[k]?=some (.cells o 5 f)->w'.heap[k]?=w.heap[k]?):Own w' base v l:=by
 rcases h with h|⟨k,cap,hv,hb,rest,hr,hz⟩
 ·exact .inl h
 ·exact .inr ⟨k,cap,hv,hb,rest,(e k _ _ hr).trans hr,hz⟩
theorem aj {w':World}{e sz:Nat}(h:w.ownsRow base e sz v n xs)(q:∀(k:Nat) (o:Array Value) (f:Nat×Nat),w.heap[k]?=some (.cells o e f)->w'.heap[k]?=w.heap[k]?):w'.ownsRow base e sz v n xs:=by
 obtain⟨h1,h2⟩:=h;refine⟨h1,?_⟩;rcases h2 with h2|⟨g,cap,cur,hv,hb,hg,r⟩
 ·exact .inl h2
 ·exact .inr ⟨g,cap,cur,hv,hb,(q g _ _ hg).trans hg,r⟩
theorem aa {a:Nat}{o p:Array Value}{f f':Nat×Nat}(h:w.heap[k]?=some (.cells o a f))(h':w.heap[g]?=some (.cells p b f'))(hab:a≠b):k≠g:=by rintro rfl;rw[h]at h';exact hab (by injection h' with h';injection h')
def Ch (g:Nat) (w w':World):Prop:=w.grownBy w' (some g)
theorem Ch.refl (g:Nat)(w:World):Ch g w w:=⟨rfl,rfl,rfl,apn _,fun _ _ _=>rfl⟩
theorem Ch.trans {g:Nat}{a b c:World}(h:Ch g a b)(k:Ch g b c):Ch g a c:=⟨k.os.trans h.os,k.tape.trans h.tape,k.output.trans h.output,apr h.size k.size,fun i hi hn=>(k.block i (apq hi h.size) hn).trans (h.block i hi hn)⟩
theorem Ch.setCell {g:Nat}{a w:World}(h:Ch g a w)(o:Nat)(v:Value):Ch g a (w.setCell ⟨g,o,none⟩ v):=h.trans ⟨rfl,rfl,rfl,by simp[World.setCell],fun k hk hn=>Below.heap_setCell _ _ _ _ (fun e=>hn (by rw[e]))⟩
theorem Ch.gr {g:Nat}{a b c:World}(h:Ch g a b)(k:Gr b c):Ch g a c:=h.trans ⟨k.os,k.tape,k.output,k.size,fun i hi _=>k.block i hi⟩
theorem Ch.below (h:Ch g w w')(hg:base<=g)(hb:base<=w.heap.size):Below base w w':=(auC base w).grown h hb (fun k e=>by injection e with e;omega)
theorem Inv.toM {c':Cv}{l':List UInt8}(I:Inv w base g c l os ss)(q:Ch g w w')(hc:w'.heap[g]?=some (.cells (cA c') 197 (0,0)))(ok:c'.h.Ok)(em:Own w' mb c'.m l')(eo:c'.out=c.out)(es:c'.av=c.av):Inv w' base g c' l' os ss:=by
 have st:∀t:Nat,t≠197->∀(k:Nat) (o:Array Value) (f:Nat×Nat),w.heap[k]?=some (.cells o t f)->w'.heap[k]?=w.heap[k]?:=fun t ht k o f hk=>
  q.block k (apk.1 hk).1 (fun e=>aa hk I.core ht (by injection e))
 refine⟨ok,I.bg,hc,em,I.RO,?_,?_⟩
 ·rw[eo];exact aj I.out (st _ an)
 ·rw[es];exact aj I.av (st _ an)
theorem Inv.to {w w':World}{base g:Nat}{c c':Cv}{l:List UInt8}{os:List Int}{ss:List (Int×Int)}(I:Inv w base g c l os ss)(q:Ch g w w')(hc:w'.heap[g]?=some (.cells (cA c') 197 (0,0)))(ok:c'.h.Ok)(em:c'.m=c.m)(eo:c'.out=c.out)(es:c'.av=c.av):Inv w' base g c' l os ss:=by
 have st:∀t:Nat,t≠197->∀(k:Nat) (o:Array Value) (f:Nat×Nat),w.heap[k]?=some (.cells o t f)->w'.heap[k]?=w.heap[k]?:=fun t ht k o f hk=>
  q.block k (apk.1 hk).1 (fun e=>aa hk I.core ht (by injection e))
 exact I.toM q hc ok (by rw[em];exact I.mem.to (st _ an)) eo es
theorem Inv.of (I:Inv w base g c l os ss)(q:Gr w w'):Inv w' base g c l os ss:=I.to ((Ch.refl g w).gr q) ((q.block g (apk.1 I.core).1).trans I.core) I.ok rfl rfl rfl
theorem In.of {w w':World}{base g:Nat}{h:Hv}{l:List UInt8}{os:List Int}{ss:List (Int×Int)}(I:In w base g h l os ss)(q:Gr w w'):In w' base g h l os ss:=by obtain⟨c,e,I⟩:=I;exact⟨c,e,I.of q⟩
theorem Inv.lt (I:Inv w base g c l os ss):g<w.heap.size:=(apk.1 I.core).1
theorem Inv.hcell (I:Inv w base g c l os ss)(hi:i<37):w.cell? ⟨g,i,none⟩=(hL c.h)[i]?:=(atZ _ _ _ _ _ _ I.core).trans (Lt I.ok hi)
theorem Inv.dJ (I:Inv w base g c l os ss)(j:Nat):w.cell? ⟨g,37+j,none⟩=[c.m,c.out,c.av][j]?:=(atZ _ _ _ _ _ _ I.core).trans (qE I.ok j)
theorem Inv.reg (I:Inv w base g c l os ss)(hi:i<32):w.cell? ⟨g,i,none⟩=some (.int .u32 (rg c.h i)):=(I.hcell ab).trans (lC I.ok hi)
theorem Inv.fz (I:Inv w base g c l os ss)(j:Nat):w.frozen? ⟨g,j,none⟩=false:=aus _ _ j _ _ I.core
theorem Inv.set {w:World}{base g:Nat}{c:Cv}{l:List UInt8}{os:List Int}{ss:List (Int×Int)}(I:Inv w base g c l os ss){i:Nat}(hi:i<37){v:Value}{h':Hv}(e:(hL c.h).set i v=hL h')(ok:h'.Ok):Inv (w.setCell ⟨g,i,none⟩ v) base g { c with h:=h' } l os ss:=I.to ((Ch.refl g w).setCell i v) (by rw[aul _ _ _ _ _ _ I.core,XT I.ok hi e]) ok rfl rfl rfl
theorem Inv.rF (I:Inv w base g c l os ss):In w base g c.h l os ss:=⟨c,rfl,I⟩
theorem Inv.ay (I:Inv w base g c l os ss):base<=w.heap.size:=apr I.bg (aqP I.lt)
structure Fr (base:Nat) (w w':World):Prop where
 below:Below base w w'
 keep:∀(k:Nat) (o:Array Value) (t:Nat) (f:Nat×Nat),w.heap[k]?=some (.cells o t f)->t≠197->t≠37->t≠175->w'.heap[k]?=w.heap[k]?
theorem Fr.refl (base:Nat)(w:World):Fr base w w:=⟨auC _ _,fun _ _ _ _ _ _ _ _=>rfl⟩
theorem Fr.trans {base:Nat}{a b c:World}(h:Fr base a b)(q:Fr base b c):Fr base a c:=
 ⟨h.below.trans q.below,fun k o t f e n1 n2 n3=>by
  have e1:=h.keep k o t f e n1 n2 n3;exact(q.keep k o t f (e1.trans e) n1 n2 n3).trans e1⟩
theorem Fr.bD (h:Gr w w')(hb:base<=w.heap.size):Fr base w w':=⟨aun h hb,fun k o t f e _ _ _=>h.block k (apk.1 e).1⟩
theorem In.below {w w':World}{base g:Nat}{h:Hv}{l:List UInt8}{os:List Int}{ss:List (Int×Int)}(I:In w base g h l os ss)(q:Ch g w w'):Fr base w w':=by obtain⟨c,_,I⟩:=I;exact⟨q.below I.bg I.ay,fun k o t f e n1 _ _=>q.block k (apk.1 e).1 (fun q=>aa e I.core n1 (by injection q))⟩
theorem Inv.gJ {W:World}{n:Nat}{ss':List (Int×Int)}(I:Inv w base g c l os ss)(G:Gr w W)(q:W.grownBy w' c.av.ownBlock)(hn:ss'.length=n)(ho:w'.ownsRow base 175 2 v n (rE ss')):w'.cell? ⟨g,39,none⟩=some c.av/\w'.frozen? ⟨g,39,none⟩=false/\Inv (w'.setCell ⟨g,39,none⟩ v) base g { c with av:=v } l os ss'/\Fr base w (w'.setCell ⟨g,39,none⟩ v):=by
 subst hn;have I1:=I.of G;have st:∀t:Nat,t≠175->∀(k:Nat) (o:Array Value) (f:Nat×Nat),W.heap[k]?=some (.cells o t f)->w'.heap[k]?=W.heap[k]?:=fun t ht k o f hk=>
  q.block k (apk.1 hk).1 (fun e=>by
   rcases I1.av.2 with⟨h0,_⟩|⟨g',cap,cur,hv,_,hg,_⟩
   ·rw[h0]at e;cases e
   ·rw[hv]at e;injection e with e;exact aa hk hg ht e)
 have hb:∀k,c.av.ownBlock=some k->base<=k:=fun k e=>(I1.av.lt k e).1
 have hcore:=(st _ an g _ _ I1.core).trans I1.core;have ne:∀t:Nat,t≠197->∀(k:Nat) (o:Array Value) (f:Nat×Nat),w'.heap[k]?=some (.cells o t f)->(w'.setCell ⟨g,39,none⟩ v).heap[k]?=w'.heap[k]?:=fun t ht k o f hk=>
  auv _ _ _ _ (by exact aa hk hcore ht)
 refine⟨(atZ _ _ _ _ _ _ hcore).trans (qE I.ok 2),aus _ _ _ _ _ hcore,⟨I.ok,I.bg,?_,?_,?_,?_,?_⟩,?_⟩
 ·rw[aul _ _ _ _ _ _ hcore,RL I.ok]
 ·exact(I1.mem.to (st _ an)).to (ne _ an)
 ·exact I1.RO
 ·exact aj (aj I1.out (st _ an)) (ne _ an)
 ·exact aj ho (ne _ an)
 ·refine⟨auS ((aun G I.ay).grown q I1.ay hb) (by exact I.bg) _,fun k o t f e n1 n2 n3=>?_⟩;have e1:=(apk.1 e).1;have e2:=(G.block k e1).trans e;have e3:=(st _ n3 k _ _ e2).trans e2;exact((ne _ n1 k _ _ e3).trans e3).trans e.symm
theorem Inv.qF {W:World}{n:Nat}{os':List Int}(I:Inv w base g c l os ss)(G:Gr w W)(q:W.grownBy w' c.out.ownBlock)(hn:os'.length=n)(ho:w'.ownsRow base 37 1 v n (os'.map (Value.int .u32))):w'.cell? ⟨g,38,none⟩=some c.out/\w'.frozen? ⟨g,38,none⟩=false/\Inv (w'.setCell ⟨g,38,none⟩ v) base g { c with out:=v } l os' ss/\Fr base w (w'.setCell ⟨g,38,none⟩ v):=by
 subst hn;have I1:=I.of G;have st:∀t:Nat,t≠37->∀(k:Nat) (o:Array Value) (f:Nat×Nat),W.heap[k]?=some (.cells o t f)->w'.heap[k]?=W.heap[k]?:=fun t ht k o f hk=>
  q.block k (apk.1 hk).1 (fun e=>by
   rcases I1.out.2 with⟨h0,_⟩|⟨g',cap,cur,hv,_,hg,_⟩
   ·rw[h0]at e;cases e
   ·rw[hv]at e;injection e with e;exact aa hk hg ht e)
 have hb:∀k,c.out.ownBlock=some k->base<=k:=fun k e=>(I1.out.lt k e).1
 have hcore:=(st _ an g _ _ I1.core).trans I1.core;have ne:∀t:Nat,t≠197->∀(k:Nat) (o:Array Value) (f:Nat×Nat),w'.heap[k]?=some (.cells o t f)->(w'.setCell ⟨g,38,none⟩ v).heap[k]?=w'.heap[k]?:=fun t ht k o f hk=>
  auv _ _ _ _ (by exact aa hk hcore ht)
 refine⟨(atZ _ _ _ _ _ _ hcore).trans (qE I.ok 1),aus _ _ _ _ _ hcore,⟨I.ok,I.bg,?_,?_,?_,?_,?_⟩,?_⟩
 ·rw[aul _ _ _ _ _ _ hcore,RJ I.ok]
 ·exact(I1.mem.to (st _ an)).to (ne _ an)
 ·exact I1.RO
 ·exact aj ho (ne _ an)
 ·exact aj (aj I1.av (st _ an)) (ne _ an)
 ·refine⟨auS ((aun G I.ay).grown q I1.ay hb) (by exact I.bg) _,fun k o t f e n1 n2 n3=>?_⟩;have e1:=(apk.1 e).1;have e2:=(G.block k e1).trans e;have e3:=(st _ n2 k _ _ e2).trans e2;exact((ne _ n1 k _ _ e3).trans e3).trans e.symm
theorem Inv.stored {w1:World}{k:List UInt8}(I:Inv w base g c l os ss)(G:Gr w w1)(R:qB w1 w.heap.size n k)(hk:k.length=n):Inv (w1.setCell ⟨g,37,none⟩ (.slice (some ⟨w.heap.size,0,none⟩) n n)) base g { c with m:=.slice (some ⟨w.heap.size,0,none⟩) n n } k os ss:=by have I1:=I.of G;obtain⟨rest,hr,hz⟩:=R;refine I1.toM ((Ch.refl g w1).setCell _ _) (by rw[aul _ _ _ _ _ _ I1.core,RI I.ok]) I.ok (.inr ⟨w.heap.size,n,by rw[hk],⟨apr I.RO I.ay,by rw[hk];exact apn _⟩,rest,?_,hz⟩) rfl rfl;rw[auv _ _ _ _ (by exact aa hr I1.core an)];exact hr
end Hc
end Go.Proofs.YtiadhbmnfjfioaaGreatDoor
