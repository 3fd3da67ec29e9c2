/- ours -/
import Derived.Great.BuildSlice
import Derived.Test.YtiadhbmnfjfioaaGreatDoorRows
import Derived.ProofKit
import Derived.OpenShut
import Derived.Laws.CopyOwn
import Derived.LaidMore
import Derived.Shelf.GgClosure.StringsTrimFunc
import Derived.Test.YtiadhbmnfjfioaaGreatDoorShelf
import Derived.Lib.AppendIntMem
import Derived.Stop.LaidErr
import Derived.Deep.Slices
import Derived.Deep.WholeRow
import Derived.Lib.SliceRun
import Derived.Deep.RegionHeld3
import Derived.Lib.SlMapFilter
set_option linter.unusedVariables false
set_option linter.unusedSimpArgs false
set_option maxHeartbeats 8000000
set_option maxRecDepth 100000
set_option linter.unusedSectionVars false
namespace Go.Proofs.YtiadhbmnfjfioaaGreatDoor
open Go.Value (int slice pointer agg tuple)
open Go.IntKind (i64)
open Go.Ending (returned)
open Go.Obj (cells)
open Go.Operand (tmp)
variable{a:Act}{K:Act->World->Prop}{ops:Array Oper}{cs:Array Value}{held:Bool}{x f up T L M op pc:Int}{ss:List (Int×Int)}{os:List Int}{rest:List Oper}{l:List UInt8}{xs ys vs:List Value}{fuel g j i k s n b base sz m B cap:Nat}{fr:Nat×Nat}{oi o:Oper}{ao:Option Addr}{P:Program}{p c E:Prop}{v a8 u y V:Value}{w w':World}{S:World->Prop}
theorem ab (h:p:=by omega):p:=h
theorem al (h:p:=by kernel_rfl):p:=h
theorem an (h:p:=by decide):p:=h
theorem aq (h:p:=by simp):p:=h
theorem ar (h:p:=by simp[Act.eval,Act.put]):p:=h
theorem aw (h:p:=by simp[Act.eval]):p:=h
theorem aE (h:p:=by simp;omega):p:=h
theorem bj (h:p:=by unfold maxLen;omega):p:=h
theorem bl (h:p:=by simp only;omega):p:=h
theorem bo (h:p:=by assumption):p:=h
set_option linter.defProp false
def arp := @List.setIfInBounds_toArray
def arq := @List.getElem?_eq_getElem
def ars := @List.set_cons_succ
def art := @List.set_cons_zero
def aru := @List.getElem_cons_succ
def arv := @List.getElem_cons_zero
def arw := @List.getElem?_eq_some_iff
def arx := @List.getElem_toArray
def ary := @List.length_append
def arz := @Array.getElem?_eq_some_iff
def arA := @Nat.le_refl
def arB := @List.getElem?_toArray
def arC := @List.getElem?_cons_zero
def arD := @Nat.lt_of_lt_of_le
def arE := @List.mem_of_getElem?
def arF := @Nat.le_trans
def arG := @List.mem_cons
def arH := @Nat.zero_add
def arI := @Int.eq_ofNat_of_zero_le
def arJ := @List.getElem?_cons_succ
def arK := @List.getElem?_append_right
def arL := @List.mem_singleton
def arM := @List.length_cons
def arN := @List.not_mem_nil
def arO := @List.getElem?_append_left
def arP := @List.append_nil
def arQ := @Nat.zero_le
def arR := @Bool.and_eq_true
def arS := @Int.toNat_natCast
def arT := @List.nil_append
def arU := @List.cons_append
def arV := @Option.bind_some
def arW := @List.take_add_one
def arX := @List.set_append_right
def arY := @List.mem_map
def arZ := @List.flatMap_cons
def ar0 := @List.all_eq_true
def ar1 := @ByteArray.toList_eq
def ar2 := @List.getD_eq_getElem?_getD
def ar3 := @List.getElem?_map
def ar4 := @List.length_singleton
def ar5 := @List.take_of_length_le
def ar6 := @Option.map_some
def ar7 := @List.mem_append
def ar8 := @List.length_nil
def ar9 := @List.getElem?_take
def asa := @List.eq_nil_of_length_eq_zero
def asb := @List.size_toArray
def asc := @List.getElem?_drop
def ase := @List.length_take
def asf := @List.length_map
def asg := @List.getElem?_set
def ash := @List.take_length
def asi := @Option.getD_some
def asj := @Array.size_setIfInBounds
def asl := @List.map_append
def asn := @List.length_set
def aso := @List.mem_cons_of_mem
def asq := @List.append_assoc
def asr := @List.take_append_drop
def ass := @List.singleton_append
def ast := @List.getD_cons_zero
def asu := @List.getD_cons_succ
def asv := @List.mem_iff_getElem?
def asw := @List.getElem?_eq_none
def asx := @List.mem_cons_self
def asy := @List.flatMap_nil
def asz := @List.length_drop
def asA := @Nat.le_succ
def asB := @Array.getElem?_eq_getElem
def asC := @List.ext_getElem?
def asD := @List.map_cons
def asE := @Array.getD_eq_getD_getElem?
def asF := @List.set_append_left
def asG := @Array.getElem?_setIfInBounds_ne
def asH := @Int.emod_eq_of_lt
def asI := @Nat.pow_le_pow_right
def asJ := @List.foldl_append
def asK := @Nat.add_zero
def asL := @List.getElem?_set_self
def asM := @Option.map_eq_some_iff
def asN := @Nat.mul_le_mul_right
def asO := @Nat.mul_comm
def asP := @List.mem_of_mem_take
def asQ := @List.flatten_cons
def asR := @Array.getElem?_setIfInBounds_self_of_lt
def asS := @List.take_append_of_le_length
def asT := @List.drop_drop
def asU := @Array.ext_getElem?
def asV := @Array.getElem?_toList
def asW := @List.drop_eq_getElem_cons
def asX := @List.take_zero
def asY := @Nat.zero_mul
def asZ := @Nat.add_sub_cancel_left
def as0 := @List.getElem?_replicate
def as1 := @Nat.and_two_pow_sub_one_eq_mod
def as2 := @Option.toList_some
def as3 := @List.head?_eq_getElem?
def as4 := @Int.mul_le_mul_of_nonneg_left
def as5 := @List.drop_append_of_le_length
def as6 := @Nat.le_of_lt
def as7 := @List.mem_of_mem_drop
def as8 := @List.getElem_mem
def as9 := @Array.size_replicate
def ata := @List.flatten_nil
def atb := @Nat.add_assoc
def atc := @List.take_succ_cons
def atd := @List.length_pos_iff
def ate := @Bool.or_eq_true
def atf := @Int.ediv_one
def atg := @Array.getElem?_replicate
def ath := @List.take_left
def ati := @List.mem_range
def atj := @Nat.and_or_distrib_left
def atl := @Bool.not_eq_false
def atm := @Int.mul_one
def atn := @Array.all_eq_true_iff_forall_mem
def ato := @Nat.two_pow_pos
def atp := @Nat.pow_succ
def atq := @List.any_append
def atr := @Nat.le_of_eq
def att := @Nat.min_eq_left
def atu := @List.getElem?_set_ne
def atv := @List.map_nil
def atw := @Int.mul_le_mul_of_nonpos_left
def atx := @List.map_eq_nil_iff
def aty := @List.toList_toArray
def atz := @Array.getElem?_setIfInBounds
def atA := @Nat.two_pow_add_eq_or_of_lt
def atB := @Nat.and_lt_two_pow
def atC := @List.pairwise_cons
def atD := @Nat.mod_two_eq_zero_or_one
def atE := @Bool.true_and
def atF := @Nat.or_lt_two_pow
def atH := @List.mem_flatMap
def atK := @List.drop_length
def atM := @Nat.div_add_mod
def atN := @Bool.eq_iff_iff
def atO := @Int.ediv_nonneg
def atP := @List.mem_filter
def atQ := @Nat.or_comm
def awk := @Go.heap_alloc_new
def awl := @Go.cell_of_row
def awm := @if_neg
def awn := @if_pos
def awo := @Go.World.block_lt_of_cell?
def awp := @Go.AllReadyH.cons
def awq := @decide_eq_false
def awr := @beq_eq_false_iff_ne
def aws := @Option.some.inj
def awt := @Go.bodyPost_ret
def awu := @Go.AllReadyH.nil
def awv := @Go.World.cell?_of_block
def aww := @Go.wpAnyH_ready
def awx := @Go.wpList_store_row
def awy := @Go.AllReady.cons
def awz := @Option.some.injEq
def awC := @decide_eq_true
def awD := @decide_eq_true_eq
def awE := @Go.heap_setCell_same
def awF := @Go.AllReady.nil
def awG := @Go.World.ownsRow_nil
def awH := @Go.RowKit.Below.mono
def awI := @Go.setRow_other
def awJ := @Go.setRow_heap
def awK := @Go.wpAny_ready
def awL := @Go.wpAny_take
def awM := @Go.frozen_of_row
def awN := @Go.wp_region_held_drew
def awO := @Go.IntKind.wrap_i64
def awP := @Go.Calls.quiet_of_same
def awQ := @or_false
def awR := @Go.heap_setCell_other
def awS := @Go.info_parts
def awT := @Go.wpAnyH_done
def awU := @Go.wpList_load_mid
def awV := @Go.wp_region_quiet_lit
def awW := @Go.wpList_append_own
def awX := @Go.RowKit.Below.refl
def awY := @UInt8.toNat_ofNat'
def awZ := @Go.results_cell_row
def aw0 := @Go.all_oneCell_toArray
def aw1 := @Go.wpAnyH_take
def aw2 := @Go.RowKit.Below.trans
def aw3 := @Go.World.var?_cell
def aw4 := @Go.RowKit.Below.cell
def aw5 := @true_implies
def aw6 := @Go.wpList_load_row
def aw7 := @true_and
def aw8 := @Go.Result.andThen_ok
def aw9 := @Go.yieldsIf_load_mid
def axa := @Go.wpQuiet_nil
def axb := @Go.heap_alloc2_old
def axc := @Go.RowKit.Below.setCell
def axd := @Eq.trans
def axe := @beq_iff_eq
def axf := @Go.results_none
def axg := @Prod.mk.injEq
def axh := @Function.comp_def
def axi := @Go.MakeChecks.laidMetH_plain
def axj := @Go.Calls.mono
def axk := @Go.RowKit.Below.block
def axl := @Go.Sem.run_bind
def axm := @Go.run_build
def axn := @Go.run_loadVar_row
def axo := @Go.wpList_plain
def axp := @Go.run_append_own
def axq := @true_or
def axr := @or_true
def axs := @Go.heap_alloc2_new
def axt := @Go.wpList_buildTo
def axu := @of_decide_eq_true
def axv := @Go.World.cell?_spot
def axw := @Go.IntKind.wrap_u64
def axx := @Go.IntKind.wrap_u32
def axy := @Go.Sem.run_pure
def axz := @Go.World.ownsRow_made
def axA := @Go.wp_region_any
def axB := @Go.Value.slice.injEq
def axD := @BitVec.toNat_and
def axF := @if_false
open Go.Proofs.Tryz hiding cs t0 t1 t2 t3 t4 t5 wide
open Go.ChangeShapes Go.WideShapes Go.ChangeAt Go.RowKit
theorem ak {h:Decidable c}{α:Sort _}{a b:α}(hn:¬c:=by omega):@ite α c h a b=b:=awm hn
theorem eB {h:Decidable c}{α:Sort _}{a b:α}(hn:c:=by omega):@ite α c h a b=a:=awn hn
theorem kH (h:p):Hid p:=h
theorem tK {md:Region.Mode}{Q:Exit->Act->World->Prop}(i:Nat)(v:Value){l l':Array Bool}{a':Act}(hS:S w)(h:wpAnyH P md ops Q S fuel l' a' w)(hi:ops[i]?=some oi:=by rfl)(hs:Region.noSelect ops=true:=by kernel_rfl)(hf:Region.free md ops l i=true:=by kernel_rfl)(hr:(Region.ready md ops l).contains i=true:=by kernel_rfl)(hQ:∀c a w,Q (.panic c) (a.put oi.dst v) w->Q (.panic c) a w:=by exact fun _ _ _ h=>h)(hy:YieldsIf P ops S oi v a:=by exact Or.inl ⟨by rfl,fun W hW=>by(repeat (obtain⟨_,hW⟩:=hW));go_simp⟩)(e1:l.setIfInBounds i true=l':=by(try simp only[arp,art,ars]);try rfl)(e2:a.put oi.dst v=a':=by(try simp only[Act.put,arx,aru,arv,arp,art,ars]);try rfl):wpAnyH P md ops Q S (fuel+1) l a w:=by
 subst e1 e2;exact aw1 hi hs hf hr hQ hy hS h
variable {w :World} {g t :Nat} {fr :Nat × Nat} {a0 a1 a2 a3 a4 a5 a6 a7 :Value} {r :List Value}
theorem cr {t}(h:w.heap[g]?=some (cells cs t fr)):w.cell? ⟨g,j,none⟩=cs[j]?:=awl _ _ _ _ _ _ h
theorem iA {t}(h:w.heap[g]?=some (cells cs t (0,0))):w.frozen? ⟨g,j,none⟩=false:=awM _ _ _ _ _ h
theorem hss {i}{t}{v}(h:w.heap[g]?=some (cells cs t (0,0))):(w.setCell ⟨g,i,none⟩ v).heap[g]?=some (cells (cs.setIfInBounds i v) t (0,0)):=awE _ _ _ _ _ _ h
theorem hso {w:World}{a}{k}{v}(h:k≠a.block):(w.setCell a v).heap[k]?=w.heap[k]?:=awR _ _ _ _ h
theorem uI {cs}(h:k≠g):(w.setRow g cs).heap[k]?=w.heap[k]?:=awI _ _ _ _ h
theorem J6 {old}{t}(h:w.heap[g]?=some (cells old t (0,0))):(w.setRow g cs).heap[g]?=some (cells cs t (0,0)):=awJ _ _ _ _ _ (0,0) h
theorem gs {α:Type}{a:Array α}{x:α}(h:a[i]?=some x):∃h,a[i]=x:=arz.1 h
theorem fA (h:w.heap[g]?=some (cells (a0::r).toArray t fr)):w.cell? ⟨g,0,none⟩=some a0:=(cr h).trans aq
theorem eH (h:w.heap[g]?=some (cells (a0::a1::r).toArray t fr)):w.cell? ⟨g,1,none⟩=some a1:=(cr h).trans aq
theorem uJ (h:w.heap[g]?=some (cells (a0::a1::a2::r).toArray t fr)):w.cell? ⟨g,2,none⟩=some a2:=(cr h).trans aq
theorem Ca (h:w.heap[g]?=some (cells (a0::a1::a2::a3::r).toArray t fr)):w.cell? ⟨g,3,none⟩=some a3:=(cr h).trans aq
theorem tO (h:w.heap[g]?=some (cells (a0::a1::a2::a3::a4::r).toArray t fr)):w.cell? ⟨g,4,none⟩=some a4:=(cr h).trans aq
theorem cr5 (h:w.heap[g]?=some (cells (a0::a1::a2::a3::a4::a5::r).toArray t fr)):w.cell? ⟨g,5,none⟩=some a5:=(cr h).trans aq
theorem cr6 (h:w.heap[g]?=some (cells (a0::a1::a2::a3::a4::a5::a6::r).toArray t fr)):w.cell? ⟨g,6,none⟩=some a6:=(cr h).trans aq
theorem cr7 (h:w.heap[g]?=some (cells (a0::a1::a2::a3::a4::a5::a6::a7::r).toArray t fr)):w.cell? ⟨g,7,none⟩=some a7:=(cr h).trans aq
theorem cr8 (h:w.heap[g]?=some (cells (a0::a1::a2::a3::a4::a5::a6::a7::a8::r).toArray t fr)):w.cell? ⟨g,8,none⟩=some a8:=(cr h).trans aq
namespace Mm
variable{l:List UInt8}{a w w':World}{b n o g t m:Nat}{ao:Option Addr}{op:Int}
def bv (l:List UInt8) (i:Nat):Int:=((l.getD i 0).toNat:Int)
theorem Y2 (l)(i):0<=bv l i/\bv l i<=255:=by unfold bv;have:=(l.getD i 0).toNat_lt;omega
theorem aeu (h:i<l.length):(l[i].toNat:Int)=bv l i:=by unfold bv;simp[List.getD,h]
def nW (op:Int):Nat:=if op=11\/op=14 then 1 else if op=12\/op=15 then 2 else if op=13 then 4 else 0
def iD (op:Int):Nat:=if op=16 then 1 else if op=17 then 2 else if op=18 then 4 else 0
def rR (m n:Nat) (a:Int):Bool:=decide (0<n/\a%(n:Int)=0/\a+n<=m)
def raw (l:List UInt8) (a:Nat):Nat→Int
 |0=>0
 |n+1=>raw l a n+bv l (a+n)*256^n
def wide (op x:Int):Int:=if op=11 then(if x<128 then x else x+4294967040)else if op=12 then(if x<32768 then x else x+4294901760)else x
def bR (l:List UInt8) (op a:Int):Bool:=rR l.length (nW op) a
def aT (l:List UInt8) (op a:Int):Int:=if bR l op a=true then wide op (raw l a.toNat (nW op))else 0
def put (l:List UInt8) (a:Nat) (w:Int):Nat→List UInt8
 |0=>l
 |n+1=>(put l a w n).set (a+n) (UInt8.ofNat (w/256^n%256).toNat)
def eP (l:List UInt8) (op a:Int):Bool:=rR l.length (iD op) a
def jb (l:List UInt8) (op a w:Int):List UInt8:=if eP l op a=true then put l a.toNat w (iD op)else[]
theorem ET (op):nW op<=4:=by unfold nW;split<;>(try split)<;>(try split)<;>omega
theorem rT (op):iD op<=4:=by unfold iD;split<;>(try split)<;>(try split)<;>omega
theorem jD (l:List UInt8)(a:Nat)(w:Int):∀n,(put l a w n).length=l.length
 |0=>rfl
 |n+1=>by simp[put,jD l a w n]
theorem NN (l:List UInt8)(a:Nat)(w:Int):∀n i,i<l.length→bv (put l a w n) i=if a≤i∧i<a+n then w/256 ^ (i-a)%256 else bv l i
 |0,i,hi=>by rw[ak];rfl
 |n+1,i,hi=>by
  have ih:=NN l a w n i hi;unfold bv at ih ⊢;unfold put;by_cases h:i=a+n
  ·subst h;rw[eB];simp only[List.getD,asg,jD];simp only[hi,if_true,asi];have hm:(0:Int)<=w/256^n%256/\w/256^n%256<256:=ab;rw[awY,asZ];omega
  ·simp only[List.getD,asg]at ih ⊢;rw[ak,ih];by_cases h2:a<=i/\i<a+n
   ·rw[awn h2,eB]
   ·rw[awm h2,ak]
theorem l9 (l:List UInt8)(a:Nat):∀n,0≤raw l a n∧raw l a n<256 ^ n
 |0=>by simp[raw]
 |n+1=>by
  have h:=l9 l a n;have hb:=Y2 l (a+n);have hp:(0:Int)<256^n:=Int.pow_pos ab;have h1:bv l (a+n)*256^n<=255*256^n:=Int.mul_le_mul_of_nonneg_right hb.2 ab;have h0:0<=bv l (a+n)*256^n:=Int.mul_nonneg hb.1 ab;unfold raw;rw[Int.pow_succ];omega
def Gr (w w':World):Prop:=Below w.heap.size w w'
theorem Gr.refl (w):Gr w w:=awX _ _
theorem Gr.size (h:Gr w w'):w.heap.size<=w'.heap.size:=Below.size h
theorem Gr.trans {b c}(h:Gr a b)(k:Gr b c):Gr a c:=aw2 h (awH k h.size)
theorem Gr.alloc (h:Gr a w)(o):Gr a (w.alloc o):=Below.alloc h h.size _
theorem Gr.setCell (h:Gr a w){p}(hp:a.heap.size<=p.block)(v):Gr a (w.setCell p v):=axc h hp v
theorem Gr.drewN (h:Gr a w)(n):Gr a (w.drewN n):=aw2 h ⟨rfl,rfl,rfl,arA _,fun _ _=>rfl⟩
theorem Gr.grown {row}(h:Gr a w)(g:w.grownBy w' row)(hr:∀k,row=some k->a.heap.size<=k):Gr a w':=Below.grown h g h.size hr
theorem Gr.cell (h:Gr w w')(p)(hb:p.block<w.heap.size):w'.cell? p=w.cell? p:=aw4 h hb
theorem cK (b o t):(⟨b,o,none⟩:Addr).add t=⟨b,o+t,none⟩:=by unfold Addr.add;split<;>simp_all
structure Mem (w:World) (ao:Option Addr) (n:Nat) (l:List UInt8):Prop where
 len:l.length=n
 nil:ao=none->n=0
 cell:∀ad,ao=some ad->∀t,t<n->w.cell? (ad.add t)=some (int .u8 (bv l t))
theorem Mem.of (h:Mem w ao n l)(g:Gr w w'):Mem w' ao n l:=⟨h.len,h.nil,fun ad e t ht=>(g.cell _ (awo w _ (h.cell ad e t ht))).trans (h.cell ad e t ht)⟩
theorem add_block (ad:Addr)(t):(ad.add t).block=ad.block:=by unfold Addr.add;split<;>rfl
theorem Mem.spot (h:Mem w ao n l)(hn:0<n):∃b o,ao=some ⟨b,o,none⟩/\b<w.heap.size/\∀t,t<n->w.cell? ⟨b,o+t,none⟩=some (int .u8 (bv l t)):=by
 cases ao with
 |none=>exact absurd (h.nil rfl) ab
 |some ad=>
  obtain⟨b,o,s⟩:=ad;have hs:s=none:=by simpa[Addr.add]using axv (h.cell _ rfl 0 hn)
  subst hs;have hb:b<w.heap.size:=by simpa[Addr.add]using awo w _ (h.cell _ rfl 0 hn)
  exact⟨b,o,rfl,hb,fun t ht=>by rw[<-cK];exact h.cell _ rfl t ht⟩
theorem Mem.at (hl:l.length=n)(h:∀t,t<n->w.cell? ⟨b,o+t,none⟩=some (int .u8 (bv l t))):Mem w (some ⟨b,o,none⟩) n l:=⟨hl,fun e=>(by cases e),fun ad e t ht=>by obtain rfl:=aws e;rw[cK];exact h t ht⟩
theorem Mem.none (w:World):Mem w none 0 []:=⟨rfl,fun _=>rfl,fun ad e=>(by cases e)⟩
def bc (l:List UInt8):List Value:=l.map fun b=>Value.int .u8 (b.toNat:Int)
theorem zt (h:(bc l)[j]?=some u):j<l.length/\u=int .u8 (bv l j):=by
 unfold bc at h;rw[ar3]at h;cases hj:l[j]? with
 |none=>simp[hj]at h
 |some b=>
  rw[hj]at h;obtain⟨hlt,hb⟩:=arw.1 hj;refine⟨hlt,?_⟩;rw[<-aeu hlt,hb];simpa using h.symm
theorem zu (l):∀u∈bc l,u.oneCell'=true:=by intro u hu;obtain⟨b,_,rfl⟩:=arY.1 hu;rfl
def Row (w:World) (g:Nat) (l:List UInt8):Prop:=∃rest:List Value,w.heap[g]?=some (cells (bc l++rest).toArray 5 (0,0))
theorem Row.cell (h:Row w g l)(ht:t<l.length):w.cell? ⟨g,t,none⟩=some (int .u8 (bv l t)):=by
 obtain⟨rest,hg⟩:=h;rw[awl w g t _ _ (0,0) hg];have h1:t<(bc l).length:=by simpa[bc]using ht
 rw[arB,arO h1];have h2:=arq h1;rw[h2,(zt h2).2]
theorem Row.frozen (h:Row w g l)(t):w.frozen? ⟨g,t,none⟩=false:=by obtain⟨rest,hg⟩:=h;simp[World.frozen?,hg]
theorem Row.set (h:Row w g l)(ht:t<l.length)(v)(h0:0<=v)(h1:v<256):Row (w.setCell ⟨g,t,none⟩ (int .u8 v)) g (l.set t (UInt8.ofNat v.toNat)):=by
 obtain⟨rest,hg⟩:=h;refine⟨rest,?_⟩;rw[awE w g t _ _ _ hg];have h2:t<(bc l).length:=by simpa[bc]using ht
 have e:(UInt8.ofNat v.toNat).toNat=v.toNat:=by rw[awY];omega
 have e2:(((UInt8.ofNat v.toNat).toNat:Nat):Int)=v:=by rw[e];omega
 have e3:bc (l.set t (UInt8.ofNat v.toNat))=(bc l).set t (int .u8 v):=by
  unfold bc;rw[List.map_set];simp only[e2]
 rw[e3];simp[asF _ _ h2]
theorem Row.mem (h:Row w g l):Mem w (some ⟨g,0,none⟩) l.length l:=Mem.at rfl fun t ht=>by rw[arH];exact h.cell ht
def rU (w:World) (g cap:Nat) (l:List UInt8):Prop:=∃rest:List Value,w.heap[g]?=some (cells (bc l++rest).toArray 5 (0,0))/\(bc l++rest).length=cap/\cap<=maxLen
theorem rU.row {cap}(h:rU w g cap l):Row w g l:=by obtain⟨rest,hg,_⟩:=h;exact⟨rest,hg⟩
theorem rU.set {cap}(h:rU w g cap l)(ht:t<l.length)(v)(h0:0<=v)(h1:v<256):rU (w.setCell ⟨g,t,none⟩ (int .u8 v)) g cap (l.set t (UInt8.ofNat v.toNat)):=by obtain⟨rest,hg,hz,hm⟩:=h;obtain⟨rest',hr⟩:=Row.set ⟨rest,hg⟩ ht v h0 h1;refine⟨rest',hr,?_,hm⟩;rw[awE w g t _ _ _ hg]at hr;injection hr with hr;injection hr with hr;have h2:=congrArg Array.size hr;simp only[asj,asb]at h2;omega
theorem info5:(prog.info? 5).map (fun i=>(i.zero,i.size,i.bytes))=some (some (int .u8 0),1,1):=al
theorem av {k}{a b}(h:a=b):Ending.returned (int k a)=returned (int k b):=by rw[h]
theorem aR {a b}(h:a=b):Ending.returned (.bool a)=returned (.bool b):=by rw[h]
theorem aev {a}(h0:0<n)(h1:a%(n:Int)=0)(h2:a+n<=m):true=rR m n a:=by simp[rR,h0,h1,h2]
theorem NP {a}(h:¬(0<n/\a%(n:Int)=0/\a+n<=m)):false=rR m n a:=by simp only[rR];rw[awq h]
theorem UH (x)(h0:0<=x)(h1:x<256):IntKind.i8.wrap x%4294967296=if x<128 then x else x+4294967040:=by
 have e:IntKind.i8.wrap x=if 128<=x%256 then x%256-256 else x%256:=by simp[IntKind.wrap,IntKind.bits,IntKind.signed]
 rw[e];repeat' split
 all_goals omega
theorem NQ (x)(h0:0<=x)(h1:x<65536):IntKind.i16.wrap x%4294967296=if x<32768 then x else x+4294901760:=by
 have e:IntKind.i16.wrap x=if 32768<=x%65536 then x%65536-65536 else x%65536:=by simp[IntKind.wrap,IntKind.bits,IntKind.signed]
 rw[e];repeat' split
 all_goals omega
theorem ofInt32 (a:Nat)(h:(a:Int)<4294967296):(BitVec.ofInt 32 (a:Int)).toNat=a:=by rw[BitVec.toNat_ofInt];omega
theorem UI (x y)(k)(hk:k<4)(h0:0<=x)(h1:x<256^k)(hy:0<=y)(hy':y<=255):bits .or .u32 x (y*2 ^ (8*k)%4294967296)=x+y*256^k:=by
 obtain⟨x,rfl⟩:=arI h0;obtain⟨y,rfl⟩:=arI hy;have e1:(256:Int) ^ k=((2 ^ (8*k):Nat):Int):=by
  rw[Nat.pow_mul];simp
 have hx:x<2 ^ (8*k):=by rw[e1]at h1;exact_mod_cast h1
 have hp:2 ^ (8*k)*256<=4294967296:=by
  have:2 ^ (8*k)<=2 ^ (8*3):=asI ab ab;omega
 have hpp:0<2 ^ (8*k):=ato _;have hyb:y*2 ^ (8*k)<=255*2 ^ (8*k):=asN _ ab;have hor:=atA hx y;have e2:((y:Int)*2 ^ (8*k)%4294967296)=((y*2 ^ (8*k):Nat):Int):=by
  have:((y:Int)*2 ^ (8*k))=((y*2 ^ (8*k):Nat):Int):=aq;rw[this];omega
 rw[e2,e1];show IntKind.u32.wrap ((BitVec.ofInt 32 (x:Int) |||BitVec.ofInt 32 ((y*2 ^ (8*k):Nat):Int)).toNat:Int)=_
 rw[BitVec.toNat_or,ofInt32 x ab,ofInt32 _ ab,atQ,asO y,<-hor];show(((2 ^ (8*k)*y+x:Nat):Int))%4294967296=_
 rw[asO]at hyb;rw[show((y:Int)*((2 ^ (8*k):Nat):Int))=((2 ^ (8*k)*y:Nat):Int)by push_cast;rw[Int.mul_comm]];generalize 2 ^ (8*k)*y=z at *
 generalize 2 ^ (8*k)=p at *
 omega
theorem NS {a:Nat}(h:(a:Int)%(nW op:Nat)=0)(ha:a<4294967296)(h0:0<nW op):a+nW op<=4294967296:=by
 have:nW op=1\/nW op=2\/nW op=4:=by
  have hh:nW op≠0:=ab;unfold nW at hh ⊢;repeat' split
  all_goals simp_all
 rcases this with e|e|e<;>rw[e]at h ⊢<;>omega
theorem Ig (l)(a)(op):raw l a (nW op)<4294967296/\(op=11->raw l a (nW op)<256)/\(op=12->raw l a (nW op)<65536):=by
 have h:=(l9 l a (nW op)).2;have q:=asI (show 0<256 by omega) (ET op);have p:(256:Int) ^ nW op<=4294967296:=by
  rw[show(256:Int) ^ nW op=((256^nW op:Nat):Int)by simp];omega
 refine⟨ab,fun e=>?_,fun e=>?_⟩
 ·subst e;exact h
 ·subst e;exact h
theorem zw {a}(h:rR n s a=true)(h0:0<=a):0<n:=by simp only[rR,awD]at h;omega
theorem NT {a:Nat}(h:(a:Int)%(iD op:Nat)=0)(ha:a<4294967296)(h0:0<iD op):a+iD op<=4294967296:=by
 have:iD op=1\/iD op=2\/iD op=4:=by
  have hh:iD op≠0:=ab;unfold iD at hh ⊢;repeat' split
  all_goals simp_all
 rcases this with e|e|e<;>rw[e]at h ⊢<;>omega
theorem NU {w0:World}(h:w0.ownsRow w.heap.size 5 1 (slice (some ⟨w.heap.size,0,none⟩) n n) n xs):∃cur:List Value,cur.length=n/\w0.heap[w.heap.size]?=some (cells cur.toArray 5 (0,0)):=by
 obtain⟨_,hc⟩:=h;rcases hc with⟨h0,_⟩|⟨g',cap',cur,hv,hb,hg,hn,hm,hs,htake⟩
 ·cases h0
 ·simp only[axB,awz,Addr.mk.injEq,aw7,and_true]at hv;obtain⟨e,rfl⟩:=hv;rw[<-e]at hg;exact⟨cur.toList,by simpa using hs,by simpa using hg⟩
theorem EU {cur cs:List Value}(h:cs.length=cur.length):splice cur 0 cs=cs:=by simp[splice,h]
theorem iE (l):(bc l).length=l.length:=by simp[bc]
theorem Z5 (hl:l.length=n)(hc:∀t,t<n->w.cell? ⟨b,o+t,none⟩=some (int .u8 (bv l t))):∀j v,(bc l)[j]?=some v->w.cell? ((⟨b,o,none⟩:Addr).add j)=some v:=by intro j v h;obtain⟨h1,rfl⟩:=zt h;rw[cK];exact hc j ab
theorem aew:(prog.info? 5).map (·.size)=some 1:=al
theorem Ih (x:Int)(k)(h0:0<=x):x/2 ^ (8*k)%256=x/256^k%256:=by rw[show(256:Int) ^ k=2 ^ (8*k)by rw[Int.pow_mul];rfl]
theorem zx {a x}(h:eP l op a=true):(jb l op a x).length=l.length:=by unfold jb;rw[h];exact jD _ _ _ _
end Mm
theorem br {o}:Mm.Gr w (w.alloc o):=(Mm.Gr.refl _).alloc _
theorem b9 {W:World}(h:Mm.Gr w W:=by repeat (first|exact Mm.Gr.refl _|refine Mm.Gr.drewN ?_ _|refine Mm.Gr.drew ?_|refine Mm.Gr.alloc ?_ _)):Mm.Gr w W:=h
namespace Wd
variable{a y:Int}
def sg (a:Int):Int:=if a<2147483648 then a else a-4294967296
def jc (a b:Int):Int:=((a.toNat &&& b.toNat:Nat):Int)
def uw (a b:Int):Int:=((a.toNat |||b.toNat:Nat):Int)
def Cb (a b:Int):Int:=((a.toNat ^^^ b.toNat:Nat):Int)
def tr (b:Bool):Int:=if b then 1 else 0
def pw (b:Int):Int:=2 ^ (b%32).toNat
def lo (n:Int):Int:=n%4294967296
def hi (n:Int):Int:=n/4294967296%4294967296
def dv (a b:Int):Int:=if b=0 then 4294967295 else lo ((sg a).tdiv (sg b))
def rm (a b:Int):Int:=if b=0 then a else lo ((sg a).tmod (sg b))
def dvu (a b:Int):Int:=if b=0 then 4294967295 else a/b
def rmu (a b:Int):Int:=if b=0 then a else a%b
def fB (op a b:Int):Int:=
 if op=28 then lo (a+b)else if op=29 then lo (a-b)else if op=37 then jc a b else if op=36 then uw a b
 else if op=33 then Cb a b else if op=30 then lo (a*pw b)else if op=34 then a/pw b else if op=35 then lo (sg a/pw b)
 else if op=31 then tr (decide (sg a<sg b))else if op=32 then tr (decide (a<b))else if op=38 then lo (a*b)
 else if op=39 then hi (sg a*sg b)else if op=40 then hi (sg a*b)else if op=41 then hi (a*b)
 else if op=42 then dv a b else if op=44 then rm a b else if op=43 then dvu a b else if op=45 then rmu a b else 0
def holds (op a b:Int):Bool:=
 if op=5 then decide (a=b)else if op=6 then decide (a≠b)else if op=7 then decide (sg a<sg b)else if op=8 then decide (sg b<=sg a)
 else if op=9 then decide (a<b)else if op=10 then decide (b<=a)else false
def nX (op a b:Int):Int:=
 if op=48 then b else if op=49 then lo (a+b)else if op=50 then Cb a b else if op=51 then jc a b else if op=52 then uw a b
 else if op=53 then(if sg a<sg b then a else b)else if op=54 then(if sg a<sg b then b else a)
 else if op=55 then(if a<b then a else b)else if op=56 then(if a<b then b else a)else 0
theorem tQ (h0:0<=a)(h1:a<4294967296) : -2147483648<=sg a/\sg a<2147483648:=by unfold sg;split<;>omega
theorem tT (h0:0<=a)(h1:a<4294967296):lo (sg a)=a:=by unfold sg lo;split<;>omega
theorem Ii (h0:0<=a)(h1:a<4294967296):sg a=0↔a=0:=by unfold sg;split<;>omega
theorem xQ (n):0<=lo n/\lo n<4294967296:=by unfold lo;omega
theorem Z9 (b)(h:0<=b):pw b=((2 ^ (b.toNat%32):Nat):Int):=by unfold pw;rw[show(b%32).toNat=b.toNat%32 by omega];simp
theorem aey (b)(h:0<=b):1<=pw b/\pw b<=2147483648:=by rw[Z9 b h];have h1:2 ^ (b.toNat%32)<=2^31:=asI ab ab;have h2:0<2 ^ (b.toNat%32):=ato _;omega
theorem NV (hx : -2147483648<=x)(hx':x<=2147483648)(hy : -4294967296<y)(hy':y<4294967296) : -9223372036854775808<=x*y/\x*y<=9223372036854775807:=by
 by_cases h:0<=x
 ·have a1:x*y<=x*4294967295:=as4 ab h;have a2:x*(-4294967295)<=x*y:=as4 ab h;omega
 ·have a1:x*y<=x*(-4294967295):=atw ab ab;have a2:x*4294967295<=x*y:=atw ab ab;omega
theorem UJ (hx:0<=x)(hx':x<4294967296)(hy:0<=y)(hy':y<4294967296):0<=x*y/\x*y<=18446744065119617025:=by have a1:x*y<=x*4294967295:=as4 ab hx;have a2:0<=x*y:=Int.mul_nonneg hx hy;omega
end Wd
namespace As
def Uh:Nat→Nat→List Nat
 |0,n=>[48+n]
 |f+1,n=>if n<10 then[48+n]else Uh f (n/10)++[48+n%10]
def dg (n:Nat):List Nat:=Uh n n
theorem Cc:∀f g n,n≤f→n≤g→Uh f n=Uh g n
 |0,0,n,_,_=>rfl
 |0,g+1,n,h1,h2=>by
  obtain rfl:n=0:=ab;rfl
 |f+1,0,n,h1,h2=>by
  obtain rfl:n=0:=ab;rfl
 |f+1,g+1,n,h1,h2=>by
  by_cases h:n<10
  ·rw[Uh,Uh,awn h,awn h]
  ·rw[Uh,Uh,awm h,awm h,Cc f g (n/10) ab ab]
theorem Ij (h:n<10):dg n=[48+n]:=by
 cases n with
 |zero=>rfl
 |succ n=>rw[dg,Uh,awn h]
theorem NW (h:¬n<10):dg n=dg (n/10)++[48+n%10]:=by
 cases n with
 |zero=>omega
 |succ n=>rw[dg,dg,Uh,awm h,Cc n ((n+1)/10) ((n+1)/10) ab ab]
def vl (l:List Nat):Nat:=l.foldl (fun n d=>10*n+(d-48)) 0
theorem aaa (l)(d):vl (l++[d])=10*vl l+(d-48):=by simp[vl,asJ]
abbrev EX (d:Nat):Prop:=48<=d/\d<=57
theorem rV (k):∀n,n<10 ^ (k+1)->(dg n).length<=k+1:=by
 induction k with
 |zero=>intro n h;rw[Ij (by simpa using h)];simp
 |succ k ih=>
  intro n h;by_cases h10:n<10
  ·rw[Ij h10];simp
  ·rw[NW h10,ary];have:=ih (n/10) (by rw[atp]at h;omega);simp;omega
def num (n:Int):List Nat:=if n<0 then 45::dg n.natAbs else dg n.natAbs
end As
namespace Dc
open Wd
variable{w lo mi k:Int}
def pk (n:Int):List (Int×Int)→Int
 | []=>0
 |(a,o)::r=>if n=a then o else pk n r
def lB:List (Int×Int):=[(0,5),(1,6),(4,7),(5,8),(6,9),(7,10)]
def lL:List (Int×Int):=[(0,11),(1,12),(2,13),(4,14),(5,15)]
def lS:List (Int×Int):=[(0,16),(1,17),(2,18)]
def lH:List (Int×Int):=[(1,25),(5,26),(261,27)]
def lI:List (Int×Int):=[(0,19),(2,20),(3,21),(4,22),(6,23),(7,24)]
def lR0:List (Int×Int):=[(0,28),(1,30),(2,31),(3,32),(4,33),(5,34),(6,36),(7,37)]
def aab:List (Int×Int):=[(0,29),(5,35)]
def lR1:List (Int×Int):=[(0,38),(1,39),(2,40),(3,41),(4,42),(5,43),(6,44),(7,45)]
def lA:List (Int×Int):=[(2,46),(3,47),(1,48),(0,49),(4,50),(12,51),(8,52),(16,53),(20,54),(24,55),(28,56)]
def lE:List (Int×Int):=[(115,58),(1048691,59)]
def qy (w lo mi up:Int):Int:=
 if lo=55 then 1 else if lo=23 then 2 else if lo=111 then 3
 else if lo=103 then pk mi [(0,4)]else if lo=99 then pk mi lB else if lo=3 then pk mi lL else if lo=35 then pk mi lS
 else if lo=19 then(if mi=1\/mi=5 then pk (8*up+mi) lH else pk mi lI)
 else if lo=51 then(if up=0 then pk mi lR0 else if up=32 then pk mi aab else if up=1 then pk mi lR1 else 0)
 else if lo=47 then(if mi=2 then pk (up/4) lA else 0)
 else if lo=15 then pk mi [(0,57)]else if lo=115 then pk w lE else 0
def raw (w:Int):Int:=qy w (w%128) (w/4096%8) (w/33554432)
def aM (k:Int):Int:=
 if k=1\/k=2 then 1 else if k=3 then 2 else if k=4 then 3 else if 5<=k/\k<=10 then 5 else if 11<=k/\k<=15 then 3
 else if 16<=k/\k<=18 then 6 else if 19<=k/\k<=24 then 3 else if 25<=k/\k<=27 then 4 else if 28<=k/\k<=45 then 7
 else if 46<=k/\k<=56 then 8 else if k=57 then 3 else if k=58\/k=59 then 9 else 0
def mask (f:Int):Int:=if f=1\/f=2 then 127 else if f=3\/f=5\/f=6 then 28799 else if f=4\/f=7 then 4261441663 else if f=8 then 4160778367 else if f=9 then 4294967295 else 0
def nth (l:List Int) (k:Int):Int:=l.getD k.toNat 0
def uppers:List Int:=[0,0,0,0,0,0,0,0,0,0,0,0,0,0,0,0,0,0,0,0,0,0,0,0,0,0,0,32,0,32,0,0,0,0,0,32,0,0,1,1,1,1,1,1,1,1,8,12,4,0,16,48,32,64,80,96,112,0,0,0]
def rowOf (op first low:Int) (aip:List Int):Int:=low+nth aip (op-first)*4096+nth uppers op*33554432
def bP (k:Int):Int:=
 if k=1 then 55 else if k=2 then 23 else if k=3 then 111 else if k=4 then rowOf k 4 103 [0]else if 5<=k/\k<=10 then rowOf k 5 99 [0,1,4,5,6,7]
 else if 11<=k/\k<=15 then rowOf k 11 3 [0,1,2,4,5]else if 16<=k/\k<=18 then rowOf k 16 35 [0,1,2]else if 19<=k/\k<=24 then rowOf k 19 19 [0,2,3,4,6,7]
 else if 25<=k/\k<=27 then rowOf k 25 19 [1,5,5]else if 28<=k/\k<=37 then rowOf k 28 51 [0,0,1,2,3,4,5,5,6,7]else if 38<=k/\k<=45 then rowOf k 38 51 [0,1,2,3,4,5,6,7]
 else if 46<=k/\k<=56 then rowOf k k 47 [2]else if k=57 then rowOf k 57 15 [0]else if k=58 then 115 else if k=59 then 1048691 else 0
def aO (w:Int):Int:=if raw w=46/\w/1048576%32≠0 then 0 else raw w
def jE (h n:Int):Int:=if n>=h then n-2*h else n
def bU (f w:Int):Int:=
 if f=1 then sg w-w%4096
 else if f=2 then jE 1048576 (w/2147483648*1048576+w/4096%256*4096+w/1048576%2*2048+w/2097152%1024*2)
 else if f=3 then jE 2048 (w/1048576)
 else if f=4 then w/1048576%32
 else if f=5 then jE 4096 (w/2147483648*4096+w/128%2*2048+w/33554432%64*32+w/256%16*2)
 else if f=6 then jE 2048 (w/33554432*32+w/128%32)
 else if f=8 then w/33554432%4 else 0
def mI (f:Int):Bool:=f ==1 ||f ==2 ||f ==3 ||f ==4 ||f ==7 ||f ==8
def jm (f:Int):Bool:=f ==3 ||f ==4 ||f ==5 ||f ==6 ||f ==7 ||f ==8
def jo (f:Int):Bool:=f ==5 ||f ==6 ||f ==7 ||f ==8
def jd (f w:Int):Int:=if mI f then w/128%32 else 0
def dh (f w:Int):Int:=if jm f then w/32768%32 else 0
def cz (f w:Int):Int:=if jo f then w/1048576%32 else 0
theorem kZ (w i n):w &&& ((2^n-1)*2^i)=w/2^i%2^n*2^i:=by
 apply Nat.eq_of_testBit_eq;intro j;rw[Nat.testBit_and,Nat.testBit_mul_two_pow,Nat.testBit_mul_two_pow,Nat.testBit_two_pow_sub_one,Nat.testBit_mod_two_pow,Nat.testBit_div_two_pow];by_cases h:i<=j
 ·have e:j-i+i=j:=ab;simp[h,e];rw[Bool.and_comm]
 ·simp[h]
theorem kC (x y i)(h:x<2^i):y*2^i |||x=y*2^i+x:=by rw[asO];exact(atA h y).symm
theorem Y3 (w):w &&& 127=w%128:=by have:=kZ w 0 7;simpa using this
theorem aac (w):w &&& 28672=w/4096%8*4096:=kZ w 12 3
theorem aad (w):w &&& 4261412864=w/33554432%128*33554432:=kZ w 25 7
theorem aae (w):w &&& 4160749568=w/134217728%32*134217728:=kZ w 27 5
theorem NY (w):w &&& 28799=w/4096%8*4096+w%128:=by rw[show(28799:Nat)=28672 |||127 by decide,atj,Y3,aac,<-kC _ _ 12 ab]
theorem aez (w):w &&& 4261441663=w/33554432%128*33554432+(w/4096%8*4096+w%128):=by rw[show(4261441663:Nat)=4261412864 |||28799 by decide,atj,NY,aad,<-kC _ _ 25 ab]
theorem aeA (w):w &&& 4160778367=w/134217728%32*134217728+(w/4096%8*4096+w%128):=by rw[show(4160778367:Nat)=4160749568 |||28799 by decide,atj,NY,aae,<-kC _ _ 27 ab]
theorem Y4 (h0:0<=w)(h1:w<4294967296):jc w 127=w%128:=by unfold jc;rw[show(127:Int).toNat=127 from rfl,Y3];omega
theorem aeB (h0:0<=w)(h1:w<4294967296):jc w 28799=w%128+w/4096%8*4096:=by unfold jc;rw[show(28799:Int).toNat=28799 from rfl,NY];omega
theorem aeC (h0:0<=w)(h1:w<4294967296):jc w 4261441663=w%128+w/4096%8*4096+w/33554432*33554432:=by unfold jc;rw[show(4261441663:Int).toNat=4261441663 from rfl,aez];omega
theorem aeD (h0:0<=w)(h1:w<4294967296):jc w 4160778367=w%128+w/4096%8*4096+w/134217728*134217728:=by unfold jc;rw[show(4160778367:Int).toNat=4160778367 from rfl,aeA];omega
theorem aeE (h0:0<=w)(h1:w<4294967296):jc w 4294967295=w:=by unfold jc;rw[show(4294967295:Int).toNat=2^32-1 from rfl,as1];omega
def part (f w:Int):Int:=
 if f=1\/f=2 then w%128 else if f=3\/f=5\/f=6 then w%128+w/4096%8*4096 else if f=4\/f=7 then w%128+w/4096%8*4096+w/33554432*33554432
 else if f=8 then w%128+w/4096%8*4096+w/134217728*134217728 else if f=9 then w else 0
theorem J7 (h0:0<=w)(h1:w<4294967296):jc w (mask f)=part f w:=by
 unfold mask part;split
 ·exact Y4 h0 h1
 split
 ·exact aeB h0 h1
 split
 ·exact aeC h0 h1
 split
 ·exact aeD h0 h1
 split
 ·exact aeE h0 h1
 ·simp[jc]
theorem NZ (k):0<=aM k/\aM k<=9:=by
 unfold aM;repeat' split
 all_goals omega
theorem aaf {up}(h1:w%128=lo)(h2:w/4096%8=mi)(h3:w/33554432=up):raw w=qy w lo mi up:=by subst h1 h2 h3;rfl
theorem UK (h1:w%128=lo):raw w=qy w lo (w/4096%8) (w/33554432):=by subst h1;rfl
theorem Il (h1:w%128=lo)(h2:w/4096%8=mi):raw w=qy w lo mi (w/33554432):=by subst h1 h2;rfl
theorem t1 (h:w%128=T)(e:∀a b,qy w T a b=k):raw w=k:=by rw[UK h];exact e _ _
theorem t2 (h:w%128+w/4096%8*4096=T)(e:∀b,qy w (T%128) (T/4096%8) b=k):raw w=k:=by rw[Il (lo:=T%128) (mi:=T/4096%8) ab ab];exact e _
theorem t3 (h:w%128+w/4096%8*4096+w/33554432*33554432=T)(e:qy w (T%128) (T/4096%8) (T/33554432)=k):raw w=k:=by rw[aaf (lo:=T%128) (mi:=T/4096%8) (up:=T/33554432) ab ab ab];exact e
theorem t4 (h:w%128+w/4096%8*4096+w/134217728*134217728=T)(e:∀b,b/4=T/134217728->qy w (T%128) (T/4096%8) b=k):raw w=k:=by rw[Il (lo:=T%128) (mi:=T/4096%8) ab ab];exact e _ ab
theorem t5 (h:w=T)(e:raw T=k):raw w=k:=by rw[h];exact e
theorem Ce (h0:0<=w)(h1:w<4294967296)(hk:1<=k)(hk':k<=59)(h:part (aM k) w=bP k):raw w=k:=by
 have hd:(k=1\/k=2\/k=3)\/(k=4\/k=5\/k=6\/k=7\/k=8\/k=9\/k=10\/k=11\/k=12\/k=13\/k=14\/k=15\/k=16\/k=17\/k=18\/k=19\/k=20\/k=21\/k=22\/k=23\/k=24\/k=57)\/(k=25\/k=26\/k=27\/k=28\/k=29\/k=30\/k=31\/k=32\/k=33\/k=34\/k=35\/k=36\/k=37\/k=38\/k=39\/k=40\/k=41\/k=42\/k=43\/k=44\/k=45)\/(k=46\/k=47\/k=48\/k=49\/k=50\/k=51\/k=52\/k=53\/k=54\/k=55\/k=56)\/(k=58\/k=59):=ab;rcases hd with hd|hd|hd|hd|hd
 ·rcases hd with rfl|rfl|rfl<;>exact t1 h fun _ _=>rfl
 ·rcases hd with rfl|rfl|rfl|rfl|rfl|rfl|rfl|rfl|rfl|rfl|rfl|rfl|rfl|rfl|rfl|rfl|rfl|rfl|rfl|rfl|rfl|rfl<;>exact t2 h fun _=>rfl
 ·rcases hd with rfl|rfl|rfl|rfl|rfl|rfl|rfl|rfl|rfl|rfl|rfl|rfl|rfl|rfl|rfl|rfl|rfl|rfl|rfl|rfl|rfl<;>exact t3 h rfl
 ·rcases hd with rfl|rfl|rfl|rfl|rfl|rfl|rfl|rfl|rfl|rfl|rfl<;>exact t4 h fun b hb=>by show pk (b/4) lA=_;rw[hb];rfl
 ·rcases hd with rfl|rfl<;>exact t5 h an
theorem dJ {n:Int}{P:Int→Prop}:(l:List (Int×Int))→(h0:P 0)→(∀x∈l,n=x.1→P x.2)→P (pk n l)
 | [],h0,_=>h0
 |(a,o)::r,h0,h=>by
  unfold pk;split
  ·exact h (a,o) aq ‹_›
  ·exact dJ r h0 fun x hx=>h x (by simp[hx])
def sp1 (lo:Int):Int:=if lo=55 then 1 else if lo=23 then 2 else if lo=111 then 3 else if lo=103 then 4 else if lo=99 then 5 else if lo=3 then 11 else if lo=35 then 16 else if lo=19 then 19 else if lo=51 then 28 else if lo=47 then 46 else if lo=15 then 57 else if lo=115 then 58 else 0
def sp2 (lo:Int):Int:=if lo=55 then 1 else if lo=23 then 2 else if lo=111 then 3 else if lo=103 then 4 else if lo=99 then 10 else if lo=3 then 15 else if lo=35 then 18 else if lo=19 then 27 else if lo=51 then 45 else if lo=47 then 56 else if lo=15 then 57 else if lo=115 then 59 else -1
def Q (w k:Int):Prop:=k≠0->part (aM k) w=bP k/\1<=k/\k<=59/\sp1 (w%128)<=k/\k<=sp2 (w%128)
theorem Q0 (w):Q w 0:=fun h=>absurd rfl h
theorem q_ (hl:w%128=L)(hp:part (aM k) w=bP k)(hb:1<=k/\k<=59/\sp1 L<=k/\k<=sp2 L):Q w k:=fun _=>by subst hl;exact⟨hp,hb⟩
theorem qM (hl:w%128=L)(hm:w/4096%8=M)(f:∀v,part (aM k) v=v%128+v/4096%8*4096)(e:L+M*4096=bP k)(hb:1<=k/\k<=59/\sp1 L<=k/\k<=sp2 L):Q w k:=q_ hl (by rw[f,hl,hm];exact e) hb
theorem qU {M U}(hl:w%128=L)(hm:w/4096%8=M)(hu:w/33554432=U)(f:∀v,part (aM k) v=v%128+v/4096%8*4096+v/33554432*33554432)(e:L+M*4096+U*33554432=bP k)(hb:1<=k/\k<=59/\sp1 L<=k/\k<=sp2 L):Q w k:=q_ hl (by rw[f,hl,hm,hu];exact e) hb
theorem qA {U}(hl:w%128=L)(hm:w/4096%8=M)(hu:w/33554432/4=U)(f:∀v,part (aM k) v=v%128+v/4096%8*4096+v/134217728*134217728)(e:L+M*4096+U*134217728=bP k)(hb:1<=k/\k<=59/\sp1 L<=k/\k<=sp2 L):Q w k:=q_ hl (by rw[f,hl,hm,show w/134217728=U by omega];exact e) hb
theorem uY (h0:0<=w)(h1:w<4294967296):Q w (raw w):=by
 unfold raw qy;by_cases hl:w%128=55
 ·rw[awn hl];exact q_ hl hl an
 rw[awm hl];clear hl;by_cases hl:w%128=23
 ·rw[awn hl];exact q_ hl hl an
 rw[awm hl];clear hl;by_cases hl:w%128=111
 ·rw[awn hl];exact q_ hl hl an
 rw[awm hl];clear hl;by_cases hl:w%128=103
 ·rw[awn hl];refine dJ [(0,4)] (Q0 w) fun x hx hn=>?_
  simp only[arG,arN,awQ]at hx;subst hx;exact qM hl hn (fun _=>rfl) rfl an
 rw[awm hl];clear hl;by_cases hl:w%128=99
 ·rw[awn hl];refine dJ lB (Q0 w) fun x hx hn=>?_
  simp only[lB,arG,arN,awQ]at hx;rcases hx with rfl|rfl|rfl|rfl|rfl|rfl<;>exact qM hl hn (fun _=>rfl) rfl an
 rw[awm hl];clear hl;by_cases hl:w%128=3
 ·rw[awn hl];refine dJ lL (Q0 w) fun x hx hn=>?_
  simp only[lL,arG,arN,awQ]at hx;rcases hx with rfl|rfl|rfl|rfl|rfl<;>exact qM hl hn (fun _=>rfl) rfl an
 rw[awm hl];clear hl;by_cases hl:w%128=35
 ·rw[awn hl];refine dJ lS (Q0 w) fun x hx hn=>?_
  simp only[lS,arG,arN,awQ]at hx;rcases hx with rfl|rfl|rfl<;>exact qM hl hn (fun _=>rfl) rfl an
 rw[awm hl];clear hl;by_cases hl:w%128=19
 ·rw[awn hl];by_cases hm:w/4096%8=1\/w/4096%8=5
  ·rw[awn hm];refine dJ lH (Q0 w) fun x hx hn=>?_
   simp only[lH,arG,arN,awQ]at hx;rcases hx with rfl|rfl|rfl
   ·exact qU (M:=1) (U:=0) hl (by simp only at hn;omega) (by simp only at hn;omega) (fun _=>rfl) rfl an
   ·exact qU (M:=5) (U:=0) hl (by simp only at hn;omega) (by simp only at hn;omega) (fun _=>rfl) rfl an
   ·exact qU (M:=5) (U:=32) hl (by simp only at hn;omega) (by simp only at hn;omega) (fun _=>rfl) rfl an
  ·rw[awm hm];refine dJ lI (Q0 w) fun x hx hn=>?_
   simp only[lI,arG,arN,awQ]at hx;rcases hx with rfl|rfl|rfl|rfl|rfl|rfl<;>exact qM hl hn (fun _=>rfl) rfl an
 rw[awm hl];clear hl;by_cases hl:w%128=51
 ·rw[awn hl];by_cases hu:w/33554432=0
  ·rw[awn hu];refine dJ lR0 (Q0 w) fun x hx hn=>?_
   simp only[lR0,arG,arN,awQ]at hx;rcases hx with rfl|rfl|rfl|rfl|rfl|rfl|rfl|rfl<;>exact qU hl hn hu (fun _=>rfl) rfl an
  rw[awm hu];clear hu;by_cases hu:w/33554432=32
  ·rw[awn hu];refine dJ aab (Q0 w) fun x hx hn=>?_
   simp only[aab,arG,arN,awQ]at hx;rcases hx with rfl|rfl<;>exact qU hl hn hu (fun _=>rfl) rfl an
  rw[awm hu];clear hu;by_cases hu:w/33554432=1
  ·rw[awn hu];refine dJ lR1 (Q0 w) fun x hx hn=>?_
   simp only[lR1,arG,arN,awQ]at hx;rcases hx with rfl|rfl|rfl|rfl|rfl|rfl|rfl|rfl<;>exact qU hl hn hu (fun _=>rfl) rfl an
  rw[awm hu];clear hu;exact Q0 w
 rw[awm hl];clear hl;by_cases hl:w%128=47
 ·rw[awn hl];by_cases hm:w/4096%8=2
  ·rw[awn hm];refine dJ lA (Q0 w) fun x hx hn=>?_
   simp only[lA,arG,arN,awQ]at hx;rcases hx with rfl|rfl|rfl|rfl|rfl|rfl|rfl|rfl|rfl|rfl|rfl<;>exact qA hl hm hn (fun _=>rfl) rfl an
  rw[awm hm];exact Q0 w
 rw[awm hl];clear hl;by_cases hl:w%128=15
 ·rw[awn hl];refine dJ [(0,57)] (Q0 w) fun x hx hn=>?_
  simp only[arG,arN,awQ]at hx;subst hx;exact qM hl hn (fun _=>rfl) rfl an
 rw[awm hl];clear hl;by_cases hl:w%128=115
 ·rw[awn hl];refine dJ lE (Q0 w) fun x hx hn=>?_
  simp only[lE,arG,arN,awQ]at hx;rcases hx with rfl|rfl<;>exact q_ hl hn an
 rw[awm hl];clear hl;exact Q0 w
theorem Oa (h0:0<=w)(h1:w<4294967296)(hk:1<=k)(hk':k<=59):jc w (mask (aM k))=bP k↔raw w=k:=by rw[J7 h0 h1];refine⟨Ce h0 h1 hk hk',fun h=>?_⟩;have:=(uY h0 h1 ab).1;rwa[h]at this
theorem l9 (h0:0<=w)(h1:w<4294967296):0<=raw w/\raw w<=59:=by
 by_cases h:raw w=0
 ·omega
 ·have:=uY h0 h1 h;omega
end Dc
namespace Dw
variable{w w' a:World}{v:Value}
def Gr (w w':World):Prop:=Below w.heap.size w w'/\∀a,w'.frozen? a=w.frozen? a
theorem Gr.refl (w):Gr w w:=⟨awX _ _,fun _=>rfl⟩
theorem Gr.size (h:Gr w w'):w.heap.size<=w'.heap.size:=h.1.size
theorem Gr.trans {b c}(h:Gr a b)(k:Gr b c):Gr a c:=⟨h.1.trans (k.1.mono h.1.size),fun x=>(k.2 x).trans (h.2 x)⟩
theorem Gr.alloc (h:Gr a w)(c)(t):Gr a (w.alloc (cells c t)):=⟨h.1.alloc h.1.size _,fun x=>(frozen?_alloc_cells _ _ _ x).trans (h.2 x)⟩
theorem Gr.setCell (h:Gr a w){p}(hp:a.heap.size<=p.block)(v):Gr a (w.setCell p v):=⟨h.1.setCell hp v,fun x=>(World.frozen?_setCell _ _ _ _).trans (h.2 x)⟩
theorem Gr.drewN (h:Gr a w)(n):Gr a (w.drewN n):=⟨⟨h.1.os,h.1.tape,h.1.output,h.1.size,h.1.block⟩,h.2⟩
theorem Gr.cell (h:Gr w w')(b o)(hb:b<w.heap.size):w'.cell? ⟨b,o,none⟩=w.cell? ⟨b,o,none⟩:=h.1.cell (p:=⟨b,o,none⟩) hb
theorem lt_of_cell {o}(h:w.cell? ⟨b,o,none⟩=some v):b<w.heap.size:=by
 by_cases hb:b<w.heap.size
 ·exact hb
 ·have:w.heap[b]?=none:=by simp;omega
  simp[World.cell?,this]at h
def look {H:Type} (P:Program):Nat→TypeId→DataW H→Nat→Option Value
 |0,_,_,_=>none
 |n+1,t,d,i=>
  match P.underlying t,d with
  |some .bool,.lit (.bool b)=>if i=0 then some (.bool b)else none
  |some (.int _),.lit (.int k m)=>if i=0 then some (.int k m)else none
  |some (.struct fs),.agg ds=>
   match (List.range fs.size).find? (fun j=>match fs[j]? with|some f=>decide (f.offset<=i) && decide (i<f.offset+P.cellsOf f.type)|none=>false)with
   |some j=>match fs[j]?,ds[j]? with
    |some f,some e=>if f.offset<=i/\i<f.offset+P.cellsOf f.type then look P n f.type e (i-f.offset)else none
    |_,_=>none
   |none=>none
  |some (.array k e),.agg ds=>
   match ds[i/P.cellsOf e]? with
   |some x=>if 0<P.cellsOf e/\i/P.cellsOf e<k then look P n e x (i%P.cellsOf e)else none
   |none=>none
  |_,_=>none
theorem kN {α:Type}(cs:List α)(a n i)(v:α)(h:((cs.drop a).take n)[i]?=some v):cs[a+i]?=some v:=by
 rw[ar9]at h;split at h
 ·rwa[asc]at h
 ·cases h
theorem dV {H:Type}{enc:TypeId×Value->H}{P:Program}{base:Nat}{spare:Nat->Bool}{held:Bool}:(n:Nat)->∀{fuel:Nat} {t:TypeId} {cs:List Value} {d:DataW H} {ps:List MemPlace} {i:Nat} {v:Value},
  DataW.trod enc P w base spare held fuel t cs=some (d,ps)->look P n t d i=some v->cs[i]?=some v
 |0,_,_,_,_,_,_,_,_,hl=>by cases hl
 |n+1,fuel,t,cs,d,ps,i,v,h,hl=>by
  unfold look at hl;split at hl
  ·rename_i ht;obtain⟨b,rfl,hx⟩:=DataW.trod_bool ht h;simp at hx;split at hl
   ·subst_vars;simpa[hx.1]using hl
   ·cases hl
  ·rename_i ht;obtain⟨b,rfl,hx,_⟩:=DataW.trod_int ht h;simp at hx;split at hl
   ·subst_vars;simp at hl;rw[<-hl,hx.1.1,hx.1.2];rfl
   ·cases hl
  ·rename_i fs ds ht;obtain⟨xs,m,rfl,hx,_,hlen,hel⟩:=DataW.trod_struct ht h;simp only[axg,DataW.agg.injEq]at hx;split at hl
   ·rename_i j _;split at hl
    ·rename_i f e hf he;split at hl
     ·rename_i hi;have hE:=hel j f hf;rw[hx.1,ar3]at he;cases hy:xs[j]? with
      |none=>simp[hy]at he
      |some y=>
       rw[hy]at hE he;simp at he;have:=dV n (d:=e) (ps:=y.2) (by rw[hE,<-he]) hl;have:=kN _ _ _ _ _ this;rwa[show f.offset+(i-f.offset)=i by omega]at this
     ·cases hl
    ·cases hl
   ·cases hl
  ·rename_i k e ds ht;obtain⟨xs,m,rfl,hx,_,hlen,hel⟩:=DataW.trod_array ht h;simp only[axg,DataW.agg.injEq]at hx;split at hl
   ·rename_i x he;split at hl
    ·rename_i hi;have hE:=hel _ hi.2;rw[hx.1,ar3]at he;cases hy:xs[i/P.cellsOf e]? with
     |none=>simp[hy]at he
     |some y=>
      rw[hy]at hE he;simp at he;have:=dV n (d:=x) (ps:=y.2) (by rw[hE,<-he]) hl;have:=kN _ _ _ _ _ this;rwa[asO,atM]at this
    ·cases hl
   ·cases hl
  ·cases hl
def shape (told:Int) (rd bQ cu:Bool) (j6:List Int) (spare:Int):List Value:=[int .u32 told,.bool rd,.bool bQ,.bool cu]++j6.map (fun n=>int i64 n)++[int i64 spare]
def pieces (f:Nat):List Int:=match f with
 |1=>[12,12,20,0,0,0,0,0,0,0,0,0]|2=>[31,20,1,12,12,8,20,11,1,21,1,10]|3=>[20,0,12,0,0,0,0,0,0,0,0,0]|4=>[20,0,5,0,0,0,0,0,0,0,0,0]
 |5=>[31,12,1,7,11,1,25,5,6,8,1,4]|6=>[25,5,7,7,0,5,0,0,0,0,0,0]|8=>[25,0,2,0,0,0,0,0,0,0,0,0]|_=>[0,0,0,0,0,0,0,0,0,0,0,0]
def spare (f:Nat):Int:=match f with|2=>11|3=>20|5=>19|6=>20|_=>0
def shapes:List Value:=(List.range 10).flatMap fun(f:Nat)=>shape (Dc.mask f) (Dc.mI f) (Dc.jm f) (Dc.jo f) (pieces f) (spare f)
structure oV (w:World):Prop where
 shapes:∀i v,shapes[i]?=some v->w.cell? ⟨0,i,none⟩=some v
 uppers:∀i n,Dc.uppers[i]?=some n->w.cell? ⟨3,i,none⟩=some (int .u32 n)
theorem oV.of (h:oV w)(g:Gr w w'):oV w':=⟨fun i v hi=>(g.cell _ _ (lt_of_cell (h.shapes i v hi))).trans (h.shapes i v hi),fun i v hi=>(g.cell _ _ (lt_of_cell (h.uppers i v hi))).trans (h.uppers i v hi)⟩
theorem Im : prog.globalNamed "ferrybridge/decode.shapes" = some 0 := by kernel_rfl
theorem Ip : prog.globalNamed "ferrybridge/decode.uppers" = some 3 := by kernel_rfl
theorem Iq:(prog.globals[0]?).map (·.type)=some 104:=al
theorem Ir:(prog.globals[3]?).map (·.type)=some 185:=al
theorem uZ:(List.range 170).map (look prog 5 104 (Rows.laid_ferrybridge_decode_shapes (H:=Unit)))=shapes.map some:=al
theorem u6:(List.range 60).map (look prog 3 185 (Rows.laid_ferrybridge_decode_uppers (H:=Unit)))=Dc.uppers.map fun n=>some (int .u32 n):=al
theorem kD {d:DataW Unit}{t N:Nat}{l:List Value}(h:(List.range N).map (look prog n t d)=l.map some){i}(hi:l[i]?=some v):look prog n t d i=some v:=by
 have e:=congrArg (·[i]?) h;simp only[ar3,hi,ar6]at e;cases hr:(List.range N)[i]? with
 |none=>simp[hr]at e
 |some j=>
  rw[hr]at e;have:j=i:=by
   rw[arw]at hr;obtain⟨_,hr⟩:=hr;simpa using hr.symm
  subst this;simpa using e
end Dw
namespace Re
open Dw
end Re
namespace Re
open Dw
end Re
namespace Re
open Dw
end Re
namespace Re
open Dw
end Re
namespace Re
open Dw
variable{rd bQ cu n:Int}
def IsP (op rd bQ cu n:Int):Prop:=(1<=op/\op<=59/\0<=rd/\rd<=31/\0<=bQ/\bQ<=31/\0<=cu/\cu<=31)/\
 ((1<=op/\op<=2/\bQ=0/\cu=0/\n.tmod 4096=0)\/(3<=op/\op<=3/\bQ=0/\cu=0 /\ -1048576<=n/\n<=1048574/\n.tmod 2=0)\/(4<=op/\op<=4/\cu=0 /\ -2048<=n/\n<=2047)\/(5<=op/\op<=10/\rd=0 /\ -4096<=n/\n<=4094/\n.tmod 2=0)\/(11<=op/\op<=15/\cu=0 /\ -2048<=n/\n<=2047)\/(16<=op/\op<=18/\rd=0 /\ -2048<=n/\n<=2047)\/(19<=op/\op<=24/\cu=0 /\ -2048<=n/\n<=2047)\/(25<=op/\op<=27/\cu=0/\0<=n/\n<=31)\/(28<=op/\op<=45/\n=0)\/(46<=op/\op<=56/\0<=n/\n<=3/\(op≠46\/cu=0))\/(57<=op/\op<=57/\cu=0 /\ -2048<=n/\n<=2047)\/(58<=op/\op<=59/\rd=0/\bQ=0/\cu=0/\n=0))
end Re
namespace As
def names:List (List Nat):=[[108,117,105],[97,117,105,112,99],[106,97,108],[106,97,108,114],[98,101,113],[98,110,101],[98,108,116],[98,103,101],[98,108,116,117],[98,103,101,117],[108,98],[108,104],[108,119],[108,98,117],[108,104,117],[115,98],[115,104],[115,119],[97,100,100,105],[115,108,116,105],[115,108,116,105,117],[120,111,114,105],[111,114,105],[97,110,100,105],[115,108,108,105],[115,114,108,105],[115,114,97,105],[97,100,100],[115,117,98],[115,108,108],[115,108,116],[115,108,116,117],[120,111,114],[115,114,108],[115,114,97],[111,114],[97,110,100],[109,117,108],[109,117,108,104],[109,117,108,104,115,117],[109,117,108,104,117],[100,105,118],[100,105,118,117],[114,101,109],[114,101,109,117],[108,114],[115,99],[97,109,111,115,119,97,112],[97,109,111,97,100,100],[97,109,111,120,111,114],[97,109,111,97,110,100],[97,109,111,111,114],[97,109,111,109,105,110],[97,109,111,109,97,120],[97,109,111,109,105,110,117],[97,109,111,109,97,120,117],[102,101,110,99,101],[101,99,97,108,108],[101,98,114,101,97,107]]
def UL (m:Int):List Nat:=if m=1 then[46,114,108]else if m=2 then[46,97,113]else if m=3 then[46,97,113,114,108]else[]
def tV (op m:Int):List Nat:=if 46<=op/\op<=56 then names.getD (op-1).toNat []++[46,119]++UL m else names.getD (op-1).toNat []
def rg (n:Int):List Nat:=120::num n
abbrev F2 (op:Int):Prop:=op=4\/19<=op/\op<=27\/op=57
def Oc (op rd a b n:Int):List Nat:=
 if 58<=op then[]
 else if op<=3 then 32::(rg rd++44::num n)
 else if F2 op then 32::(rg rd++44::(rg a++44::num n))
 else if op<=10 then 32::(rg a++44::(rg b++44::num n))
 else if op<=15 then 32::(rg rd++44::(num n++40::(rg a++[41])))
 else if op<=18 then 32::(rg b++44::(num n++40::(rg a++[41])))
 else if op<=45 then 32::(rg rd++44::(rg a++44::rg b))
 else if op=46 then 32::(rg rd++44::40::(rg a++[41]))
 else 32::(rg rd++44::(rg b++44::40::(rg a++[41])))
def nw (op n:Int):Int:=if op<=2 then n/4096 else n
def xR (op rd a b n:Int):List Nat:=tV op n++Oc op rd a b (nw op n)
abbrev Fo:=Int×Int×Int×Int
abbrev Fi:=Int×Int×Int×Int×Int
end As
namespace As
open Mm
def str (l:List Nat):Value:=.string ⟨(l.map UInt8.ofNat).toArray⟩
theorem jF (a b):Value.string (⟨(a.map UInt8.ofNat).toArray⟩++⟨(b.map UInt8.ofNat).toArray⟩)=str (a++b):=by unfold str;congr 1;apply ByteArray.ext;simp[ByteArray.data_append]
theorem nY {n}(h0 : -1000000000000<n)(h1:n<1000000000000):(num n).length<=20:=by have:=rV 17 n.natAbs ab;unfold num;split<;>simp<;>omega
theorem Cf (w:World)(x)(c):Sem.run prog (convert 25 9 (slice (some ⟨w.heap.size,0,none⟩) 1 c)) (w.alloc (cells #[int .u8 x] 5))=.ok (str [x.toNat]) (w.alloc (cells #[int .u8 x] 5)):=by
 rw[run_convert_bytes_string _ _ _ _ _ _ _ underlying25 underlying5 underlying9];have h:Sem.run prog (loadCells ⟨w.heap.size,0,none⟩ 1) (w.alloc (cells #[int .u8 x] 5))=.ok ([x].map (Value.int .u8)).toArray (w.alloc (cells #[int .u8 x] 5)):=
  run_loadCells_list _ _ ([x].map (Value.int .u8)) fun j v hv=>by
   have hj:j<1:=by have:=(arw.1 hv).1;simpa using this
   obtain rfl:j=0:=ab;simp at hv;rw[show(⟨w.heap.size,0,none⟩:Addr).add 0=⟨w.heap.size,0,none⟩by simp[Addr.add],cr (awk w _)];simp[hv]
 rw[run_bytesToString _ _ _ _ [x] h];rfl
end As
namespace As
open Mm
theorem u7 {Q}(hg:o.guard=none)(t t2)(x y)(ho:o.op=.binOp .add t x y t2)(A B)(hx:a.eval x=str A)(hy:a.eval y=str B)(hl:A.length+B.length<=1000000)(h:wpList P ops Q rest (a.put o.dst (str (A++B))) w):wpList P ops Q (o::rest) a w:=by
 have e:(Op.stringOp .add ⟨(A.map UInt8.ofNat).toArray⟩ ⟨(B.map UInt8.ofNat).toArray⟩).run P w=.ok (str (A++B)) w:=by
  rw[<-jF];exact run_string_add_sum _ _ _ (by show(A.map UInt8.ofNat).toArray.size+(B.map UInt8.ofNat).toArray.size<=9223372036854775807;simp;omega)
 refine axo hg fun K hK=>?_
 unfold Oper.wp execOp;simp only[ho,hx,hy];unfold str at e ⊢;simp only[eqGuard_add,axl,axy,aw8,binOp_string_add,e];exact hK _ _ h
theorem Cg (h1:1<=op)(h2:op<=59)(m):(tV op m).length<=20:=by
 obtain⟨k,rfl⟩:∃k:Nat,op=(k:Int)+1:=⟨(op-1).toNat,ab⟩;have:∀k:Fin 59,(names.getD k.val []).length<=10:=an;have:=this ⟨k,ab⟩;unfold tV UL;rw[show((k:Int)+1-1).toNat=k by omega];simp only at this;generalize names.getD k []=a at *
 repeat' split
 all_goals simp;omega
end As
namespace As
open Go.Lib
def bs (L:List Nat):ByteArray:=⟨(L.map UInt8.ofNat).toArray⟩
theorem bV (L):(bs L).data.toList=L.map UInt8.ofNat:=by simp[bs]
theorem df (L):(bs L).size=L.length:=by rw[size_eq,bV];simp
theorem pG {a b:ByteArray}(h:a.data.toList=b.data.toList):a=b:=by obtain⟨⟨a⟩⟩:=a;obtain⟨⟨b⟩⟩:=b;simp at h;rw[h]
theorem UM (L)(i):(bs L).extract i (bs L).size=bs (L.drop i):=pG (by rw[extract_data,bV,bV,df,<-List.map_drop,ar5 aq])
theorem UN (L)(i):(bs L).extract 0 i=bs (L.take i):=pG (by rw[extract_data,bV,bV,List.drop_zero,Nat.sub_zero,<-List.map_take])
def Ci (s:ByteArray):List Nat:=s.data.toList.map UInt8.toNat
theorem aah (s):bs (Ci s)=s:=pG (by
 rw[bV];unfold Ci;rw[List.map_map]
 conv=>rhs;rw[<-List.map_id s.data.toList]
 apply List.map_congr_left;intro x _;simp)
theorem Od {L}(h:∀c∈L,c<256):Ci (bs L)=L:=by
 unfold Ci;rw[bV,List.map_map]
 conv=>rhs;rw[<-List.map_id L]
 apply List.map_congr_left;intro c hc;have:=h c hc;show(UInt8.ofNat c).toNat=c
 simp;omega
theorem EY {A B}(ha:∀c∈A,c<256)(hb:∀c∈B,c<256)(h:bs A=bs B):A=B:=by rw[<-Od ha,<-Od hb,h]
theorem aai (s):∀c∈Ci s,c<256:=by intro c hc;obtain⟨x,_,rfl⟩:=arY.1 hc;exact x.toNat_lt
theorem EZ (n):decDigits n=(dg n).map UInt8.ofNat:=by
 induction n using Nat.strongRecOn with
 |_ n ih=>
  by_cases h:n<10
  ·rw[Ij h,decDigits,dif_pos h];rfl
  ·rw[NW h,decDigits,dif_neg h,ih (n/10) ab,asl];rfl
theorem Oe (n):itoa n=(num n).map UInt8.ofNat:=by
 unfold itoa num;by_cases h:n<0
 ·rw[awn h,awn h,EZ];rfl
 ·rw[awm h,awm h,EZ,show n.toNat=n.natAbs by omega]
def vg (acc:Nat) (l:List Nat):Nat:=l.foldl (fun n d=>10*n+(d-48)) acc
theorem Y5:∀(l:List Nat) (acc:Nat),acc≤vg acc l
 | [],acc=>arA _
 |d::l,acc=>by
  have:=Y5 l (10*acc+(d-48));show acc<=vg (10*acc+(d-48)) l
  omega
theorem Y6 {M:Nat}(hM:M<18446744073709551616):∀(l:List Nat) (acc:Nat),(∀d∈l,EX d)→vg acc l≤M→parseUintM M acc (l.map UInt8.ofNat)=.ok (vg acc l)
 | [],acc,_,_=>rfl
 |d::l,acc,hd,hv=>by
  have h1:=hd d aq;unfold EX at h1;have e:(UInt8.ofNat d).toNat=d:=by simp;omega
  have hv':vg (10*acc+(d-48)) l<=M:=hv;have h2:=Y5 l (10*acc+(d-48));have ih:=Y6 hM l (10*acc+(d-48)) (fun x hx=>hd x (by simp[hx])) hv';rw[asD,parseUintM,awn (by rw[e];exact h1),ak,awm (by rw[e];omega),e,show acc*10+(d-48)=10*acc+(d-48)by omega,ih];rfl
def lg (op:Int):List Nat:=
 if 1<=op/\op<=2 then[100,44,117]
 else if op=3 then[100,44,105]
 else if op=4\/(19<=op/\op<=27)\/op=57 then[100,44,115,44,105]
 else if 5<=op/\op<=10 then[115,44,116,44,105]
 else if 11<=op/\op<=15 then[100,44,105,40,115,41]
 else if 16<=op/\op<=18 then[116,44,105,40,115,41]
 else if 28<=op/\op<=45 then[100,44,115,44,116]
 else if op=46 then[100,44,40,115,41]
 else if 47<=op/\op<=56 then[100,44,116,44,40,115,41]
 else[]
def dG (rd a b n:Int) (c:Nat):List Nat:=if c=100 then rg rd else if c=115 then rg a else if c=116 then rg b else if c=105 then num n else if c=117 then num (n/4096)else[c]
def pI (op rd a b n:Int):List Nat:=(lg op).flatMap (dG rd a b n)
theorem wZ (rd a b n):dG rd a b n 100=rg rd:=rfl
theorem xk (rd a b n):dG rd a b n 115=rg a:=rfl
theorem xq (rd a b n):dG rd a b n 116=rg b:=rfl
theorem xu (rd a b n):dG rd a b n 105=num n:=rfl
theorem xw (rd a b n):dG rd a b n 117=num (n/4096):=rfl
theorem xx (rd a b n):dG rd a b n 44=[44]:=rfl
theorem xy (rd a b n):dG rd a b n 40=[40]:=rfl
theorem xz (rd a b n):dG rd a b n 41=[41]:=rfl
theorem aeF (h:1<=op/\op<=2):lg op=[100,44,117]:=by unfold lg;rw[awn h]
theorem wr0 (h:1<=op/\op<=2)(rd a b n):pI op rd a b n=rg rd++44::num (n/4096):=by unfold pI;rw[aeF h];simp only[arZ,asy,wZ,xk,xq,xu,xw,xx,xy,xz,arP,ass,arU,arT]
theorem aeG (h:op=3):lg op=[100,44,105]:=by unfold lg;rw[ak,awn h]
theorem wr1 (h:op=3)(rd a b n):pI op rd a b n=rg rd++44::num n:=by unfold pI;rw[aeG h];simp only[arZ,asy,wZ,xk,xq,xu,xw,xx,xy,xz,arP,ass,arU,arT]
theorem UO (h:F2 op):lg op=[100,44,115,44,105]:=by unfold F2 at h;unfold lg;rw[ak,ak,awn h]
theorem wr2 (h:F2 op)(rd a b n):pI op rd a b n=rg rd++44::(rg a++44::num n):=by unfold pI;rw[UO h];simp only[arZ,asy,wZ,xk,xq,xu,xw,xx,xy,xz,arP,ass,arU,arT]
theorem aeH (h:5<=op/\op<=10):lg op=[115,44,116,44,105]:=by unfold lg;rw[ak,ak,ak,awn h]
theorem wr3 (h:5<=op/\op<=10)(rd a b n):pI op rd a b n=rg a++44::(rg b++44::num n):=by unfold pI;rw[aeH h];simp only[arZ,asy,wZ,xk,xq,xu,xw,xx,xy,xz,arP,ass,arU,arT]
theorem aeI (h:11<=op/\op<=15):lg op=[100,44,105,40,115,41]:=by unfold lg;rw[ak,ak,ak,ak,awn h]
theorem wr4 (h:11<=op/\op<=15)(rd a b n):pI op rd a b n=rg rd++44::(num n++40::(rg a++[41])):=by unfold pI;rw[aeI h];simp only[arZ,asy,wZ,xk,xq,xu,xw,xx,xy,xz,arP,ass,arU,arT]
theorem aeJ (h:16<=op/\op<=18):lg op=[116,44,105,40,115,41]:=by unfold lg;rw[ak,ak,ak,ak,ak,awn h]
theorem wr5 (h:16<=op/\op<=18)(rd a b n):pI op rd a b n=rg b++44::(num n++40::(rg a++[41])):=by unfold pI;rw[aeJ h];simp only[arZ,asy,wZ,xk,xq,xu,xw,xx,xy,xz,arP,ass,arU,arT]
theorem aeK (h:28<=op/\op<=45):lg op=[100,44,115,44,116]:=by unfold lg;rw[ak,ak,ak,ak,ak,ak,awn h]
theorem wr6 (h:28<=op/\op<=45)(rd a b n):pI op rd a b n=rg rd++44::(rg a++44::rg b):=by unfold pI;rw[aeK h];simp only[arZ,asy,wZ,xk,xq,xu,xw,xx,xy,xz,arP,ass,arU,arT]
theorem aeL (h:op=46):lg op=[100,44,40,115,41]:=by unfold lg;rw[ak,ak,ak,ak,ak,ak,ak,awn h]
theorem wr7 (h:op=46)(rd a b n):pI op rd a b n=rg rd++44::40::(rg a++[41]):=by unfold pI;rw[aeL h];simp only[arZ,asy,wZ,xk,xq,xu,xw,xx,xy,xz,arP,ass,arU,arT]
theorem aeM (h:47<=op/\op<=56):lg op=[100,44,116,44,40,115,41]:=by unfold lg;rw[ak,ak,ak,ak,ak,ak,ak,ak,awn h]
theorem wr8 (h:47<=op/\op<=56)(rd a b n):pI op rd a b n=rg rd++44::(rg b++44::40::(rg a++[41])):=by unfold pI;rw[aeM h];simp only[arZ,asy,wZ,xk,xq,xu,xw,xx,xy,xz,arP,ass,arU,arT]
theorem aeN (h:op<1\/58<=op):lg op=[]:=by unfold lg;rw[ak,ak,ak,ak,ak,ak,ak,ak,ak]
theorem wr9 (h:op<1\/58<=op)(rd a b n):pI op rd a b n=[]:=by unfold pI;rw[aeN h];simp only[arZ,asy,wZ,xk,xq,xu,xw,xx,xy,xz,arP,ass,arU,arT]
theorem cls (h1:1<=op)(h2:op<=59):(1<=op/\op<=2)\/op=3\/F2 op\/(5<=op/\op<=10)\/(11<=op/\op<=15)\/(16<=op/\op<=18)\/(28<=op/\op<=45)\/op=46\/(47<=op/\op<=56)\/(op<1\/58<=op):=by unfold F2;omega
theorem Cj (h1:1<=op)(h2:op<=59)(rd a b n):Oc op rd a b (nw op n)=if pI op rd a b n=[]then[]else 32::pI op rd a b n:=by
 unfold Oc nw;rcases cls h1 h2 with h|h|h|h|h|h|h|h|h|h
 ·rw[wr0 h,awm (show¬(rg _++_=[])by simp[rg])];rw[ak,eB,eB]
 ·rw[wr1 h,awm (show¬(rg _++_=[])by simp[rg])];rw[ak,eB,ak]
 ·rw[wr2 h,awm (show¬(rg _++_=[])by simp[rg])];have h':=h;unfold F2 at h';rw[ak,ak,awn h,ak]
 ·rw[wr3 h,awm (show¬(rg _++_=[])by simp[rg])];have h2:¬F2 op:=(by unfold F2;omega);rw[ak,ak,awm h2,eB,ak]
 ·rw[wr4 h,awm (show¬(rg _++_=[])by simp[rg])];have h2:¬F2 op:=(by unfold F2;omega);rw[ak,ak,awm h2,ak,eB,ak]
 ·rw[wr5 h,awm (show¬(rg _++_=[])by simp[rg])];have h2:¬F2 op:=(by unfold F2;omega);rw[ak,ak,awm h2,ak,ak,eB,ak]
 ·rw[wr6 h,awm (show¬(rg _++_=[])by simp[rg])];have h2:¬F2 op:=(by unfold F2;omega);rw[ak,ak,awm h2,ak,ak,ak,eB]
 ·rw[wr7 h,awm (show¬(rg _++_=[])by simp[rg])];have h2:¬F2 op:=(by unfold F2;omega);rw[ak,ak,awm h2,ak,ak,ak,ak,eB]
 ·rw[wr8 h,awm (show¬(rg _++_=[])by simp[rg])];have h2:¬F2 op:=(by unfold F2;omega);rw[ak,ak,awm h2,ak,ak,ak,ak,ak]
 ·rw[wr9 h,awn rfl,eB]
end As
namespace As
open Mm
structure ig (w:World):Prop where
 tb:Dw.oV w
 pw : Lib.TabIs prog w "internal/strconv.uint64pow10" .u64 Lib.pow10Tab
 nm:∀k,k<59->w.cell? ⟨1,k+1,none⟩=some (str (names.getD k []))
 ad:∀k:Nat,k<4->w.cell? ⟨2,k,none⟩=some (str (UL (k:Int)))
theorem xS (G:Gr w w'){o}(h:w.cell? ⟨b,o,none⟩=some v):w'.cell? ⟨b,o,none⟩=some v:=(G.cell _ (Dw.lt_of_cell h)).trans h
theorem ig.of (h:ig w)(G:Gr w w'):ig w':=⟨⟨fun i v e=>xS G (h.tb.shapes i v e),fun i v e=>xS G (h.tb.uppers i v e)⟩,Lib.tabBelow_of_tabIs h.pw w' G,fun k hk=>xS G (h.nm k hk),fun k hk=>xS G (h.ad k hk)⟩
structure Oh (w:World):Prop where
 s:∃te pe,w.cell? ⟨8,0,none⟩=some (.iface te pe)
 r:∃te pe,w.cell? ⟨9,0,none⟩=some (.iface te pe)
theorem Oh.of (h:Oh w)(G:Gr w w'):Oh w':=by obtain⟨⟨a,b,h1⟩,c,d,h2⟩:=h;exact⟨⟨a,b,xS G h1⟩,c,d,xS G h2⟩
theorem ve {n}(h0 : -9223372036854775808<=n)(h1:n<=9223372036854775807)(T:ig w):Calls prog 96 #[int i64 n] w fun e w'=>e=returned (str (num n))/\Gr w w':=(Tryz.strconv_Itoa n h0 h1 w T.pw).mono fun e w' ⟨he,k,os,hw⟩=>⟨by rw[he,Oe];rfl,hw ▸ Lib.below_grow _ w (arA _) k os⟩
theorem mf {n}(h0 : -2147483648<=n)(h1:n<2147483648)(T:ig w):Calls prog 95 #[int i64 n] w fun e w'=>e=returned (str (rg n))/\Gr w w':=by
 have HD:Hid (Calls prog 96 #[int i64 n] w fun e w'=>e=returned (str (num n))/\Gr w w'):=ve ab ab T;have hl:¬9223372036854775807<1+(num n).length:=by have:=nY (n:=n) ab ab;omega
 unfold rg;generalize num n=a at *
 go_enter func95,ntmps95;go_wp2_with fail;refine HD.mono ?_;rintro e w1 ⟨rfl,G1⟩;unfold str;go_wp2_with fail;go_ret;exact⟨congrArg Ending.returned (jF [120] _),G1⟩
end As
namespace As
open Mm
theorem xU {H:Type}{enc:TypeId×Value→H}{W}{spare}{t e}{cs}{ds}{ps}(ht:P.underlying t=some (.array n e))(he:P.underlying e=some .string)(hc:P.cellsOf e=1)(h:DataW.trod enc P W base spare held fuel t cs=some (.agg ds,ps))(hi:i<n)(hd:ds[i]?=some (.lit (.string l))):cs[i]?=some (.string ⟨l.toArray⟩):=by
 obtain⟨xs,m,rfl,hx,_,hlen,hel⟩:=DataW.trod_array ht h;simp only[axg,DataW.agg.injEq]at hx;have hE:=hel i hi;rw[hx.1,ar3]at hd;cases hy:xs[i]? with
 |none=>simp[hy]at hd
 |some y=>
  rw[hy]at hE hd;simp at hd;obtain⟨s,h1,h2,_⟩:=DataW.trod_string he hE;rw[h2]at hd;simp only[DataW.lit.injEq,Lit.string.injEq]at hd;rw[hc,Nat.mul_one]at h1;have:((cs.drop i).take 1)[0]?=some (.string s):=by rw[h1];rfl
  have:=Dw.kN _ _ _ _ _ this;rw[asK]at this;rw[this,<-hd]
theorem aaj : prog.globalNamed "ferrybridge/asm.names" = some 1 := by kernel_rfl
theorem aak : prog.globalNamed "ferrybridge/asm.added" = some 2 := by kernel_rfl
theorem aiq : prog.globalNamed "internal/strconv.uint64pow10" = some 5 := by kernel_rfl
theorem gEs : prog.globalNamed "strconv.ErrSyntax" = some 8 := by kernel_rfl
theorem gEr : prog.globalNamed "strconv.ErrRange" = some 9 := by kernel_rfl
theorem aal:(prog.globals[1]?).map (·.type)=some 152:=al
theorem aam:(prog.globals[2]?).map (·.type)=some 153:=al
theorem air:(prog.globals[5]?).map (·.type)=some 250:=al
theorem tEs:(prog.globals[8]?).map (·.type)=some 78:=al
theorem tEr:(prog.globals[9]?).map (·.type)=some 78:=al
theorem uK:prog.cellsOf 9=1:=al
theorem Y7:prog.cellsOf 280=1:=al
theorem ais:prog.cellsOf 173=1:=al
theorem ait:prog.cellsOf 250=20:=al
theorem star : "*" ++ "errors.errorString" = "*errors.errorString" := by decide
theorem aeO (u )(h : prog.typeName? 3 u = some "*errors.errorString") : u = 278 :=
 typeName_ptr_named (nm := "errors.errorString") (by rw [star]; kernel_rfl) al an u (by rw [star]; exact h)
abbrev Lm:=List (String×DataW Unit)
theorem aiu:(Rows.laid_internal_strconv_uint64pow10:DataW Unit)=Lib.tabData .u64 Lib.pow10Tab:=al
theorem aiv (h:k<59):(match (Rows.laid_ferrybridge_asm_names:DataW Unit)with|.agg ds=>ds[k+1]?|_=>none)=some (.lit (.string ((names.getD k []).map UInt8.ofNat))):=by
 have:∀k:Fin 59,(match (Rows.laid_ferrybridge_asm_names:DataW Unit)with|.agg ds=>ds[k.val+1]?|_=>none)=some (.lit (.string ((names.getD k.val []).map UInt8.ofNat))):=by
  intro k;have e:(List.range 59).map (fun k=>match (Rows.laid_ferrybridge_asm_names:DataW Unit)with|.agg ds=>ds[k+1]?|_=>none)=(List.range 59).map (fun k=>some (.lit (.string ((names.getD k []).map UInt8.ofNat)))):=al;have:=congrArg (·[k.val]?) e;simpa[k.isLt]using this
 exact this ⟨k,h⟩
theorem aiw (h:k<4):(match (Rows.laid_ferrybridge_asm_added:DataW Unit)with|.agg ds=>ds[k]?|_=>none)=some (.lit (.string ((UL (k:Int)).map UInt8.ofNat))):=by
 match k,h with
 |0,_=>rfl
 |1,_=>rfl
 |2,_=>rfl
 |3,_=>rfl
theorem aan {W }{x y }{r r' : Lm}(h : laidMet prog (("ferrybridge/decode.shapes", Rows.laid_ferrybridge_decode_shapes) :: ("ferrybridge/decode.uppers", Rows.laid_ferrybridge_decode_uppers) :: x :: y :: ("internal/strconv.uint64pow10", Rows.laid_internal_strconv_uint64pow10) :: r) W)
  (h' : laidMet prog (("ferrybridge/asm.names", Rows.laid_ferrybridge_asm_names) :: ("ferrybridge/asm.added", Rows.laid_ferrybridge_asm_added) :: r') W) : ig W := by
 have hp:=h.tail.tail.tail.tail;rw[aiu]at hp;refine⟨?_,Lib.tabIs_of_head aiq air underlying250 underlying173 ais ait hp,?_,?_⟩
 ·obtain⟨ps,⟨g0,t0,cs0,f0,p0,q0,hg0,ht0,hv0,hd0,⟨g1,t1,cs1,f1,p1,q1,hg1,ht1,hv1,hd1,_,_⟩,_⟩,_,_⟩:=h;obtain rfl:=aws (Dw.Im.symm.trans hg0);obtain rfl:=aws (Dw.Ip.symm.trans hg1);obtain rfl:=aws (Dw.Iq.symm.trans ht0);obtain rfl:=aws (Dw.Ir.symm.trans ht1);refine⟨fun i v hi=>?_,fun i n hi=>?_⟩
  ·have:=Dw.dV 5 hd0 (Dw.kD Dw.uZ hi);rw[aw3 hg0 hv0 i];simpa using this
  ·have:=Dw.dV 3 hd1 (Dw.kD (l:=Dc.uppers.map fun n=>.int .u32 n) (i:=i) (v:=.int .u32 n) (by rw[Dw.u6];simp[axh]) (by simp[hi]));rw[aw3 hg1 hv1 i];simpa using this
 ·obtain⟨ps,⟨g0,t0,cs0,f0,p0,q0,hg0,ht0,hv0,hd0,_,_⟩,_,_⟩:=h';obtain rfl:=aws (aaj.symm.trans hg0);obtain rfl:=aws (aal.symm.trans ht0);intro k hk;have e:=aiv hk;unfold Rows.laid_ferrybridge_asm_names at e hd0;have:=xU underlying152 underlying9 uK hd0 (i:=k+1) ab e;rw[aw3 hg0 hv0 (k+1)];simpa[str]using this
 ·obtain⟨ps,⟨g0,t0,cs0,f0,p0,q0,hg0,ht0,hv0,hd0,_,_⟩,_,_⟩:=h'.tail;obtain rfl:=aws (aak.symm.trans hg0);obtain rfl:=aws (aam.symm.trans ht0);intro k hk;have e:=aiw hk;unfold Rows.laid_ferrybridge_asm_added at e hd0;have:=xU underlying153 underlying9 uK hd0 (i:=k) hk e;rw[aw3 hg0 hv0 k];simpa[str]using this
theorem aao {W }{r : Lm}(h : laidMet prog (("strconv.ErrRange", Rows.laid_strconv_ErrRange) :: ("strconv.ErrSyntax", Rows.laid_strconv_ErrSyntax) :: r) W) : Oh W := by
 obtain⟨a0,s0,hv0, -, -, -⟩:=laid_sentinel h gEr tEr underlying78 aeO underlying278 underlying280 rfl rfl underlying9 Y7 uK;obtain⟨a1,s1,hv1, -, -, -⟩:=laid_sentinel h.tail gEs tEs underlying78 aeO underlying278 underlying280 rfl rfl underlying9 Y7 uK;exact⟨⟨_,_,by have h0:=aw3 gEs hv1 0;simpa using h0⟩,_,_,by have h0:=aw3 gEr hv0 0;simpa using h0⟩
def Y8 {H : Type} : List (String × DataW H) := [("ferrybridge/decode.shapes", Rows.laid_ferrybridge_decode_shapes), ("ferrybridge/decode.uppers", Rows.laid_ferrybridge_decode_uppers), ("math/bits.deBruijn32tab", Rows.laid_math_bits_deBruijn32tab), ("math/bits.deBruijn64tab", Rows.laid_math_bits_deBruijn64tab), ("internal/strconv.uint64pow10", Rows.laid_internal_strconv_uint64pow10), ("strconv.ErrRange", Rows.laid_strconv_ErrRange), ("strconv.ErrSyntax", Rows.laid_strconv_ErrSyntax), ("ferrybridge/asm.names", Rows.laid_ferrybridge_asm_names), ("ferrybridge/asm.added", Rows.laid_ferrybridge_asm_added)]
theorem aix {W}(h:laidMetH prog Y8 W):ig W/\Oh W:=by rw[axi _ _ _ al]at h;exact⟨aan h h.tail.tail.tail.tail.tail.tail.tail,aao h.tail.tail.tail.tail.tail⟩
end As
namespace Ts
open Mm
variable{n:Int}
structure Iv where
 op:Int
 rd:Int
 r1:Int
 r2:Int
 im:Int
def Oi (i:Iv):List Value:=[int i64 i.op,int i64 i.rd,int i64 i.r1,int i64 i.r2,int .i32 i.im]
def Y9 (n:Int):Prop := -9223372036854775808<=n/\n<=9223372036854775807
structure Iv.Ok (i:Iv):Prop where
 op:Y9 i.op
 rd:Y9 i.rd
 r1:Y9 i.r1
 r2:Y9 i.r2
 im : -2147483648<=i.im/\i.im<=2147483647
structure Is (w:World) (ao:Option Addr) (n:Nat) (is:List Iv):Prop where
 len:is.length=n
 ok:∀i∈is,i.Ok
 spot:0<n->∃b o,ao=some ⟨b,o,none⟩/\b<w.heap.size/\∀j i,is[j]?=some i->w.cell? ⟨b,o+j*5,none⟩=some (int i64 i.op)/\w.cell? ⟨b,o+j*5+1,none⟩=some (int i64 i.rd)/\w.cell? ⟨b,o+j*5+2,none⟩=some (int i64 i.r1)/\w.cell? ⟨b,o+j*5+3,none⟩=some (int i64 i.r2)/\w.cell? ⟨b,o+j*5+4,none⟩=some (int .i32 i.im)
theorem Is.of {n}{is}(h:Is w ao n is)(g:Gr w w'):Is w' ao n is:=
 ⟨h.len,h.ok,fun hn=>by
  obtain⟨b,o,e,hb,hc⟩:=h.spot hn;refine⟨b,o,e,arD hb g.size,fun j i hj=>?_⟩;obtain⟨h0,h1,h2,h3,h4⟩:=hc j i hj;exact⟨(g.cell _ (by exact hb)).trans h0,(g.cell _ (by exact hb)).trans h1,(g.cell _ (by exact hb)).trans h2,(g.cell _ (by exact hb)).trans h3,(g.cell _ (by exact hb)).trans h4⟩⟩
end Ts
namespace Kc
open Mm Ts
structure Bv where
 pc:Int
 is:List Iv
def place (pc:Int):List Bv→Nat→Int
 | [],_ => -1
 |b::bs,k=>if b.pc=pc then(k:Int)else place pc bs (k+1)
def hasB (b:Bv) (f t:Int):Bool:=decide (max b.pc f<min (b.pc+4*(b.is.length:Int)) t)
def Bc (w:World) (b:Bv) (x y:Value):Prop:=x=int .u32 b.pc/\(0<=b.pc/\b.pc<4294967296)/\∃sa sn sc,y=slice sa sn sc/\Is w sa sn b.is/\sn*40<=140737488351232
theorem Bc.of {w w'}{b}{x y}(h:Bc w b x y)(G:Gr w w'):Bc w' b x y:=by obtain⟨e,p,sa,sn,sc,e2,I,hb⟩:=h;exact⟨e,p,sa,sn,sc,e2,I.of G,hb⟩
structure Bs (w:World) (ao:Option Addr) (n:Nat) (bs:List Bv):Prop where
 len:bs.length=n
 spot:0<n->∃b o,ao=some ⟨b,o,none⟩/\b<w.heap.size/\∀j x,bs[j]?=some x->∃u v,w.cell? ⟨b,o+j*2,none⟩=some u/\w.cell? ⟨b,o+j*2+1,none⟩=some v/\Bc w x u v
theorem Bs.of {w w'}{ao}{n}{bs}(h:Bs w ao n bs)(g:Gr w w'):Bs w' ao n bs:=
 ⟨h.len,fun hn=>by
  obtain⟨b,o,e,hb,hc⟩:=h.spot hn;refine⟨b,o,e,arD hb g.size,fun j i hj=>?_⟩;obtain⟨u,v,h0,h1,h2⟩:=hc j i hj;exact⟨u,v,(g.cell _ (by exact hb)).trans h0,(g.cell _ (by exact hb)).trans h1,h2.of g⟩⟩
theorem Ck {pc:Int}:∀{bs:List Bv} {j k:Nat} {x:Bv},bs[j]?=some x→x.pc=pc→(∀(i:Nat) (y:Bv),i<j→bs[i]?=some y→¬y.pc=pc)→place pc bs k=((k+j:Nat):Int)
 | [],j,k,x,h,_,_=>by simp at h
 |b::r,0,k,x,h,e,_=>by
  simp at h;subst h;unfold place;rw[awn e,asK]
 |b::r,j+1,k,x,h,e,hn=>by
  unfold place;rw[awm (hn 0 b ab rfl)];have:=Ck (k:=k+1) (bs:=r) (j:=j) (by simpa using h) e fun i y hi hy=>hn (i+1) y ab (by simpa using hy)
  rw[this];congr 1;omega
end Kc
namespace Kc
open Mm Ts
end Kc
namespace Kc
open Mm Ts
end Kc
namespace Hh
open Mm
structure Hv where
 regs:List Int
 pc:Int
 held:Bool
 aW:Int
 state:Int
 cause:Int
variable{h:Hv}
def hL (h:Hv):List Value:=h.regs.map (Value.int .u32)++[int .u32 h.pc,.bool h.held,int .u32 h.aW,int i64 h.state,int i64 h.cause]
def hA (h:Hv):Array Value:=(hL h).toArray
def rg (h:Hv) (i:Nat):Int:=h.regs.getD i 0
structure Hv.Ok (h:Hv):Prop where
 len:h.regs.length=32
 reg:∀i,0<=rg h i/\rg h i<4294967296
 oW:0<=h.pc
 gP:h.pc<4294967296
 zy:0<=h.aW
 BO:h.aW<4294967296
def Hv.set (h:Hv) (r:Nat) (x:Int):Hv:=if r=0 then h else { h with regs:=h.regs.set r x }
def Hv.go (h:Hv) (x:Int):Hv:={ h with pc:=x }
def Hv.trap (h:Hv) (c:Int):Hv:={ h with state:=2,cause:=c }
def Hv.hold (h:Hv) (b:Bool) (x:Int):Hv:={ h with held:=b,aW:=x }
def Hv.halt (h:Hv):Hv:={ h with state:=1 }
theorem Oj (h)(r)(x)(i):rg { h with regs:=h.regs.set r x } i=if i=r/\r<h.regs.length then x else rg h i:=by
 unfold rg;simp only[List.getD,asg];by_cases e:r=i
 ·subst e;by_cases l:r<h.regs.length
  ·simp[l]
  ·simp[l]
 ·have e2:¬i=r:=fun q=>e q.symm
  simp[e,e2]
theorem Hv.Ok.set {h:Hv}(o:h.Ok)(r){x}(h0:0<=x)(h1:x<4294967296):(h.set r x).Ok:=by
 unfold Hv.set;split
 ·exact o
 ·refine⟨by simp[o.len],fun i=>?_,o.oW,o.gP,o.zy,o.BO⟩;rw[Oj];split
  ·exact⟨h0,h1⟩
  ·exact o.reg i
theorem Hv.Ok.go {h:Hv}(o:h.Ok){x}(h0:0<=x)(h1:x<4294967296):(h.go x).Ok:=⟨o.len,o.reg,h0,h1,o.zy,o.BO⟩
theorem Hv.Ok.trap {h:Hv}(o:h.Ok)(c):(h.trap c).Ok:=⟨o.len,o.reg,o.oW,o.gP,o.zy,o.BO⟩
theorem Hv.Ok.halt {h:Hv}(o:h.Ok):h.halt.Ok:=⟨o.len,o.reg,o.oW,o.gP,o.zy,o.BO⟩
theorem Hv.Ok.hold {h:Hv}(o:h.Ok)(b){x}(h0:0<=x)(h1:x<4294967296):(h.hold b x).Ok:=⟨o.len,o.reg,o.oW,o.gP,h0,h1⟩
theorem aF (o:h.Ok):(hL h).length=37:=by simp[hL,o.len]
theorem kE (o:h.Ok):(hA h).size=37:=by simp[hA,aF o]
theorem mg (o:h.Ok)(hi:i<32):(hL h)[i]?=some (int .u32 (rg h i)):=by have:=o.len;unfold hL;rw[arO aE,ar3,arq ab];simp[rg,List.getD,arq (show i<h.regs.length by omega)]
theorem bu {h}(o:h.Ok)(j):(hL h)[32+j]?=[Value.int .u32 h.pc,.bool h.held,int .u32 h.aW,int i64 h.state,int i64 h.cause][j]?:=by unfold hL;rw[arK (by simp[o.len])];simp[o.len]
theorem zz (o:h.Ok)(hi:i<32)(x):(hL h).set i (int .u32 x)=hL { h with regs:=h.regs.set i x }:=by have:=o.len;unfold hL;rw[asF _ _ aE,List.map_set]
theorem E8 (o:h.Ok)(x):(hL h).set 32 (int .u32 x)=hL { h with pc:=x }:=by unfold hL;rw[arX _ _ (by simp[o.len])];simp[o.len]
theorem lh (o:h.Ok)(x):(hL h).set 33 (.bool x)=hL { h with held:=x }:=by unfold hL;rw[arX _ _ (by simp[o.len])];simp[o.len]
theorem iF {h}(o:h.Ok)(x):(hL h).set 34 (int .u32 x)=hL { h with aW:=x }:=by unfold hL;rw[arX _ _ (by simp[o.len])];simp[o.len]
theorem nZ (o:h.Ok)(x):(hL h).set 35 (int i64 x)=hL { h with state:=x }:=by unfold hL;rw[arX _ _ (by simp[o.len])];simp[o.len]
theorem xV (o:h.Ok)(x):(hL h).set 36 (int i64 x)=hL { h with cause:=x }:=by unfold hL;rw[arX _ _ (by simp[o.len])];simp[o.len]
theorem rW (h):(hA h).all (·.oneCell')=true:=by refine aw0 ?_;intro v hv;simp only[hL,ar7,arY,arG,arN,awQ]at hv;rcases hv with⟨n,_,rfl⟩|rfl|rfl|rfl|rfl|rfl<;>rfl
theorem ag {a}(h:Gr a w)(hg:a.heap.size<=g)(cs):Gr a (w.setRow g cs):=below_setRow h hg cs
end Hh
namespace Hh
open Mm Wd
def opn (op:Int):Int:=if op=19 then 28 else if op=20 then 31 else if op=21 then 32 else if op=22 then 33 else if op=23 then 36 else if op=24 then 37 else if op=25 then 30 else if op=26 then 34 else 35
structure Ev where
 h:Hv
 m:List UInt8
 out:List Int
 ax:List (Int×Int)
 res:Option Int
def bJ (h:Hv) (l:List UInt8) (op at':Int):Ev:=if bR l op at'=true then⟨h,l,[],[],some (aT l op at')⟩else⟨h.trap 3,l,[],[],none⟩
def aI (h:Hv) (l:List UInt8) (op at' b:Int):Ev:=if eP l op at'=true then⟨h,jb l op at' b,[],[(at',(iD op:Nat))],none⟩else⟨h.trap 4,l,[],[],none⟩
def ik (h:Hv) (l:List UInt8) (a:Int):Ev:=if bR l 13 a=true then⟨h.hold true a,l,[],[],some (aT l 13 a)⟩else⟨h.trap 3,l,[],[],none⟩
def fC (h:Hv) (l:List UInt8) (a b:Int):Ev:=if bR l 13 a=true then(if h.held=true/\h.aW=a then⟨h.hold false 0,jb l 18 a b,[],[(a,4)],some 0⟩else⟨h.hold false 0,l,[],[],some 1⟩)else⟨h.trap 4,l,[],[],none⟩
def jv (h:Hv) (l:List UInt8) (op a b:Int):Ev:=if bR l 13 a=true then⟨h,jb l 18 a (nX op (aT l 13 a) b),[],[(a,4)],some (aT l 13 a)⟩else⟨h.trap 4,l,[],[],none⟩
def aN (h:Hv) (l:List UInt8) (op a b:Int):Ev:=if op=46 then ik h l a else if op=47 then fC h l a b else jv h l op a b
def bE (h:Hv) (l:List UInt8):Ev:=if rg h 17=0 then⟨h.halt,l,[],[],none⟩else if rg h 17=1 then⟨h,l,[rg h 10],[],none⟩else⟨h.trap 5,l,[],[],none⟩
def gN (h:Hv) (l:List UInt8) (op a b n:Int):Ev:=
 if op=1 then⟨h,l,[],[],some n⟩else if op=2 then⟨h,l,[],[],some (lo (h.pc+n))⟩else if op=3\/op=4 then⟨h,l,[],[],some (lo (h.pc+4))⟩
 else if 11<=op/\op<=15 then bJ h l op (lo (a+n))else if 16<=op/\op<=18 then aI h l op (lo (a+n)) b
 else if 19<=op/\op<=27 then⟨h,l,[],[],some (fB (opn op) a n)⟩else if 28<=op/\op<=45 then⟨h,l,[],[],some (fB op a b)⟩
 else if 46<=op/\op<=56 then aN h l op a b else if op=58 then bE h l else if op=59 then⟨h.trap 6,l,[],[],none⟩else⟨h,l,[],[],none⟩
def rX (h:Hv) (op a b n:Int):Int:=if op=4 then lo (a+n)-lo (a+n)%2 else if op=3\/holds op a b=true then lo (h.pc+n)else lo (h.pc+4)
structure Sv where
 h:Hv
 m:List UInt8
 out:List Int
 ax:List (Int×Int)
def Hv.put (h:Hv) (rd:Nat):Option Int→Hv
 |some x=>h.set rd x
 |none=>h
def Hv.on (h:Hv) (x:Int):Hv:=if h.state=0 then h.go x else h
def done (e:Ev) (rd:Nat) (nx:Int):Sv:=⟨(e.h.put rd e.res).on nx,e.m,e.out,e.ax⟩
def ins (h:Hv) (l:List UInt8) (op rd r1 r2 im:Int):Sv:=done (gN h l op (rg h r1.toNat) (rg h r2.toNat) (lo im)) rd.toNat (rX h op (rg h r1.toNat) (rg h r2.toNat) (lo im))
def qz (h:Hv) (l:List UInt8) (x:Int):Sv:=if Dc.aO x=0 then⟨h.trap 2,l,[],[]⟩else ins h l (Dc.aO x) (Dc.jd (Dc.aM (Dc.aO x)) x) (Dc.dh (Dc.aM (Dc.aO x)) x) (Dc.cz (Dc.aM (Dc.aO x)) x) (Dc.bU (Dc.aM (Dc.aO x)) x)
def eF (h:Hv) (l:List UInt8):Sv:=if bR l 13 h.pc=true then qz h l (aT l 13 h.pc)else⟨h.trap 1,l,[],[]⟩
def may (h:Hv):Bool:=decide (rg h 0=0/\(h.held=false->h.aW=0)/\(((h.state=0\/h.state=1)/\h.cause=0)\/(h.state=2/\1<=h.cause/\h.cause<=6)))
end Hh
namespace Hc
open Mm Hh
structure Cv where
 h:Hv
 m:Value
 out:Value
 ax:Value
variable{c:Cv}
def cA (c:Cv):Array Value:=(hL c.h++[c.m,c.out,c.ax]).toArray
theorem kF {c}(o:c.h.Ok):(cA c).size=40:=by simp[cA,aF o]
theorem Ol {c}(o:c.h.Ok)(hi:i<37):(cA c)[i]?=(hL c.h)[i]?:=by have:=aF o;unfold cA;rw[arB,arO ab]
theorem rY {c}(o:c.h.Ok)(j):(cA c)[37+j]?=[c.m,c.out,c.ax][j]?:=by unfold cA;rw[arB,arK (by simp[aF o])];simp[aF o]
theorem aap (o:c.h.Ok)(hi:i<37){h'}(e:(hL c.h).set i v=hL h'):(cA c).setIfInBounds i v=cA { c with h:=h' }:=by have:=aF o;unfold cA;simp only[arp];rw[asF _ _ ab,e]
theorem UQ (o:c.h.Ok)(v):(cA c).setIfInBounds 37 v=cA { c with m:=v }:=by have:=aF o;unfold cA;simp only[arp];rw[arX _ _ ab,this];rfl
theorem UR (o:c.h.Ok)(v):(cA c).setIfInBounds 38 v=cA { c with out:=v }:=by have:=aF o;unfold cA;simp only[arp];rw[arX _ _ ab,this];rfl
theorem UT (o:c.h.Ok)(v):(cA c).setIfInBounds 39 v=cA { c with ax:=v }:=by have:=aF o;unfold cA;simp only[arp];rw[arX _ _ ab,this];rfl
structure bH where
 b:Nat
def mb [Inhabited bH]:Nat:=(default:bH).b
def Own (w:World) (base:Nat) (v:Value) (l:List UInt8):Prop:=(v=slice none 0 0/\l=[])\/∃k cap,v=slice (some ⟨k,0,none⟩) l.length cap/\(base<=k/\l.length<=cap)/\rU w k cap l
theorem Own.mem {w}{base}{v}{l}(h:Own w base v l):∃ao cap,v=slice ao l.length cap/\Mem w ao l.length l:=by
 rcases h with⟨rfl,rfl⟩|⟨k,cap,rfl,_,R⟩
 ·exact⟨none,0,rfl,Mem.none w⟩
 ·exact⟨some ⟨k,0,none⟩,cap,rfl,R.row.mem⟩
def tX (ss:List (Int×Int)):List Value:=ss.flatMap fun p=>[int .u32 p.1,int .u32 (Wd.lo (p.1+p.2))]
theorem ll (ss)(p):tX (ss++[p])=tX ss++[int .u32 p.1,int .u32 (Wd.lo (p.1+p.2))]:=by simp[tX]
variable[Inhabited bH]
structure Inv (w:World) (base g:Nat) (c:Cv) (l:List UInt8) (os:List Int) (ss:List (Int×Int)):Prop where
 ok:c.h.Ok
 bg:base<=g
 core:w.heap[g]?=some (cells (cA c) 197 (0,0))
 mem:Own w mb c.m l
 UU:mb<=base
 out:w.ownsRow base 37 1 c.out os.length (os.map (Value.int .u32))
 ax:w.ownsRow base 175 2 c.ax ss.length (tX ss)
def In (w:World) (base g:Nat) (h:Hv) (l:List UInt8) (os:List Int) (ss:List (Int×Int)):Prop:=∃c:Cv,c.h=h/\Inv w base g c l os ss
theorem Own.to {w'}(h:Own w base v l)(e:∀(k:Nat) (o) (f),w.heap[k]?=some (cells o 5 f)->w'.heap[k]?=w.heap[k]?):Own w' base v l:=by
 rcases h with h|⟨k,cap,hv,hb,rest,hr,hz⟩
 ·exact .inl h
 ·exact .inr ⟨k,cap,hv,hb,rest,(e k _ _ hr).trans hr,hz⟩
theorem aj {w':World}{e:Nat}(h:w.ownsRow base e sz v n xs)(q:∀(k:Nat) (o) (f),w.heap[k]?=some (cells o e f)->w'.heap[k]?=w.heap[k]?):w'.ownsRow base e sz v n xs:=by
 obtain⟨h1,h2⟩:=h;refine⟨h1,?_⟩;rcases h2 with h2|⟨g,cap,cur,hv,hb,hg,r⟩
 ·exact .inl h2
 ·exact .inr ⟨g,cap,cur,hv,hb,(q g _ _ hg).trans hg,r⟩
theorem aa {a:Nat}{o p}{f f'}(h:w.heap[k]?=some (cells o a f))(h':w.heap[g]?=some (cells p b f'))(hab:a≠b):k≠g:=by rintro rfl;rw[h]at h';exact hab (by injection h' with h';injection h')
def Ch (g:Nat) (w w':World):Prop:=w.grownBy w' (some g)
theorem Ch.refl (g)(w):Ch g w w:=⟨rfl,rfl,rfl,arA _,fun _ _ _=>rfl⟩
theorem Ch.trans {g}{a b c}(h:Ch g a b)(k:Ch g b c):Ch g a c:=⟨k.os.trans h.os,k.tape.trans h.tape,k.output.trans h.output,arF h.size k.size,fun i hi hn=>(k.block i (arD hi h.size) hn).trans (h.block i hi hn)⟩
theorem Ch.setCell {g}{a w}(h:Ch g a w)(o)(v):Ch g a (w.setCell ⟨g,o,none⟩ v):=h.trans ⟨rfl,rfl,rfl,by simp[World.setCell],fun k hk hn=>Below.heap_setCell _ _ _ _ (fun e=>hn (by rw[e]))⟩
theorem Ch.gr {g}{a b c}(h:Ch g a b)(k:Gr b c):Ch g a c:=h.trans ⟨k.os,k.tape,k.output,k.size,fun i hi _=>k.block i hi⟩
theorem Ch.below (h:Ch g w w')(hg:base<=g)(hb:base<=w.heap.size):Below base w w':=(awX base w).grown h hb (fun k e=>by injection e with e;omega)
theorem Inv.toM {c'}{l'}(I:Inv w base g c l os ss)(q:Ch g w w')(hc:w'.heap[g]?=some (cells (cA c') 197 (0,0)))(ok:c'.h.Ok)(em:Own w' mb c'.m l')(eo:c'.out=c.out)(es:c'.ax=c.ax):Inv w' base g c' l' os ss:=by
 have st:∀t:Nat,t≠197->∀(k:Nat) (o:Array Value) (f:Nat×Nat),w.heap[k]?=some (cells o t f)->w'.heap[k]?=w.heap[k]?:=fun t ht k o f hk=>
  q.block k (arz.1 hk).1 (fun e=>aa hk I.core ht (by injection e))
 refine⟨ok,I.bg,hc,em,I.UU,?_,?_⟩
 ·rw[eo];exact aj I.out (st _ an)
 ·rw[es];exact aj I.ax (st _ an)
theorem Inv.to {w w'}{base g}{c c'}{l}{os}{ss}(I:Inv w base g c l os ss)(q:Ch g w w')(hc:w'.heap[g]?=some (cells (cA c') 197 (0,0)))(ok:c'.h.Ok)(em:c'.m=c.m)(eo:c'.out=c.out)(es:c'.ax=c.ax):Inv w' base g c' l os ss:=by
 have st:∀t:Nat,t≠197->∀(k:Nat) (o:Array Value) (f:Nat×Nat),w.heap[k]?=some (cells o t f)->w'.heap[k]?=w.heap[k]?:=fun t ht k o f hk=>
  q.block k (arz.1 hk).1 (fun e=>aa hk I.core ht (by injection e))
 exact I.toM q hc ok (by rw[em];exact I.mem.to (st _ an)) eo es
theorem Inv.of (I:Inv w base g c l os ss)(q:Gr w w'):Inv w' base g c l os ss:=I.to ((Ch.refl g w).gr q) ((q.block g (arz.1 I.core).1).trans I.core) I.ok rfl rfl rfl
theorem In.of {w w'}{base g}{h}{l}{os}{ss}(I:In w base g h l os ss)(q:Gr w w'):In w' base g h l os ss:=by obtain⟨c,e,I⟩:=I;exact⟨c,e,I.of q⟩
theorem Inv.lt (I:Inv w base g c l os ss):g<w.heap.size:=(arz.1 I.core).1
theorem Inv.hcell (I:Inv w base g c l os ss)(hi:i<37):w.cell? ⟨g,i,none⟩=(hL c.h)[i]?:=(awl _ _ _ _ _ _ I.core).trans (Ol I.ok hi)
theorem Inv.dQ (I:Inv w base g c l os ss)(j):w.cell? ⟨g,37+j,none⟩=[c.m,c.out,c.ax][j]?:=(awl _ _ _ _ _ _ I.core).trans (rY I.ok j)
theorem Inv.reg (I:Inv w base g c l os ss)(hi:i<32):w.cell? ⟨g,i,none⟩=some (int .u32 (rg c.h i)):=(I.hcell ab).trans (mg I.ok hi)
theorem Inv.fz (I:Inv w base g c l os ss)(j):w.frozen? ⟨g,j,none⟩=false:=awM _ _ j _ _ I.core
theorem Inv.set {w}{base g}{c}{l}{os}{ss}(I:Inv w base g c l os ss){i}(hi:i<37){v}{h'}(e:(hL c.h).set i v=hL h')(ok:h'.Ok):Inv (w.setCell ⟨g,i,none⟩ v) base g { c with h:=h' } l os ss:=I.to ((Ch.refl g w).setCell i v) (by rw[awE _ _ _ _ _ _ I.core,aap I.ok hi e]) ok rfl rfl rfl
theorem Inv.tY (I:Inv w base g c l os ss):In w base g c.h l os ss:=⟨c,rfl,I⟩
theorem Inv.az (I:Inv w base g c l os ss):base<=w.heap.size:=arF I.bg (as6 I.lt)
structure Fr (base:Nat) (w w':World):Prop where
 below:Below base w w'
 keep:∀(k:Nat) (o:Array Value) (t:Nat) (f:Nat×Nat),w.heap[k]?=some (cells o t f)->t≠197->t≠37->t≠175->w'.heap[k]?=w.heap[k]?
theorem Fr.refl (base)(w):Fr base w w:=⟨awX _ _,fun _ _ _ _ _ _ _ _=>rfl⟩
theorem Fr.trans {base}{a b c}(h:Fr base a b)(q:Fr base b c):Fr base a c:=
 ⟨h.below.trans q.below,fun k o t f e n1 n2 n3=>by
  have e1:=h.keep k o t f e n1 n2 n3;exact(q.keep k o t f (e1.trans e) n1 n2 n3).trans e1⟩
theorem Fr.aJ (h:Gr w w')(hb:base<=w.heap.size):Fr base w w':=⟨awH h hb,fun k o t f e _ _ _=>h.block k (arz.1 e).1⟩
theorem In.below {w w'}{base g}{h}{l}{os}{ss}(I:In w base g h l os ss)(q:Ch g w w'):Fr base w w':=by obtain⟨c,_,I⟩:=I;exact⟨q.below I.bg I.az,fun k o t f e n1 _ _=>q.block k (arz.1 e).1 (fun q=>aa e I.core n1 (by injection q))⟩
theorem Inv.iG {W}{n}{ss'}(I:Inv w base g c l os ss)(G:Gr w W)(q:W.grownBy w' c.ax.ownBlock)(hn:ss'.length=n)(ho:w'.ownsRow base 175 2 v n (tX ss')):w'.cell? ⟨g,39,none⟩=some c.ax/\w'.frozen? ⟨g,39,none⟩=false/\Inv (w'.setCell ⟨g,39,none⟩ v) base g { c with ax:=v } l os ss'/\Fr base w (w'.setCell ⟨g,39,none⟩ v):=by
 subst hn;have I1:=I.of G;have st:∀t:Nat,t≠175->∀(k:Nat) (o:Array Value) (f:Nat×Nat),W.heap[k]?=some (cells o t f)->w'.heap[k]?=W.heap[k]?:=fun t ht k o f hk=>
  q.block k (arz.1 hk).1 (fun e=>by
   rcases I1.ax.2 with⟨h0,_⟩|⟨g',cap,cur,hv,_,hg,_⟩
   ·rw[h0]at e;cases e
   ·rw[hv]at e;injection e with e;exact aa hk hg ht e)
 have hb:∀k,c.ax.ownBlock=some k->base<=k:=fun k e=>(I1.ax.lt k e).1
 have hcore:=(st _ an g _ _ I1.core).trans I1.core;have ne:∀t:Nat,t≠197->∀(k:Nat) (o:Array Value) (f:Nat×Nat),w'.heap[k]?=some (cells o t f)->(w'.setCell ⟨g,39,none⟩ v).heap[k]?=w'.heap[k]?:=fun t ht k o f hk=>
  awR _ _ _ _ (by exact aa hk hcore ht)
 refine⟨(awl _ _ _ _ _ _ hcore).trans (rY I.ok 2),awM _ _ _ _ _ hcore,⟨I.ok,I.bg,?_,?_,?_,?_,?_⟩,?_⟩
 ·rw[awE _ _ _ _ _ _ hcore,UT I.ok]
 ·exact(I1.mem.to (st _ an)).to (ne _ an)
 ·exact I1.UU
 ·exact aj (aj I1.out (st _ an)) (ne _ an)
 ·exact aj ho (ne _ an)
 ·refine⟨axc ((awH G I.az).grown q I1.az hb) (by exact I.bg) _,fun k o t f e n1 n2 n3=>?_⟩;have e1:=(arz.1 e).1;have e2:=(G.block k e1).trans e;have e3:=(st _ n3 k _ _ e2).trans e2;exact((ne _ n1 k _ _ e3).trans e3).trans e.symm
theorem Inv.rZ {W}{n}{os'}(I:Inv w base g c l os ss)(G:Gr w W)(q:W.grownBy w' c.out.ownBlock)(hn:os'.length=n)(ho:w'.ownsRow base 37 1 v n (os'.map (Value.int .u32))):w'.cell? ⟨g,38,none⟩=some c.out/\w'.frozen? ⟨g,38,none⟩=false/\Inv (w'.setCell ⟨g,38,none⟩ v) base g { c with out:=v } l os' ss/\Fr base w (w'.setCell ⟨g,38,none⟩ v):=by
 subst hn;have I1:=I.of G;have st:∀t:Nat,t≠37->∀(k:Nat) (o:Array Value) (f:Nat×Nat),W.heap[k]?=some (cells o t f)->w'.heap[k]?=W.heap[k]?:=fun t ht k o f hk=>
  q.block k (arz.1 hk).1 (fun e=>by
   rcases I1.out.2 with⟨h0,_⟩|⟨g',cap,cur,hv,_,hg,_⟩
   ·rw[h0]at e;cases e
   ·rw[hv]at e;injection e with e;exact aa hk hg ht e)
 have hb:∀k,c.out.ownBlock=some k->base<=k:=fun k e=>(I1.out.lt k e).1
 have hcore:=(st _ an g _ _ I1.core).trans I1.core;have ne:∀t:Nat,t≠197->∀(k:Nat) (o:Array Value) (f:Nat×Nat),w'.heap[k]?=some (cells o t f)->(w'.setCell ⟨g,38,none⟩ v).heap[k]?=w'.heap[k]?:=fun t ht k o f hk=>
  awR _ _ _ _ (by exact aa hk hcore ht)
 refine⟨(awl _ _ _ _ _ _ hcore).trans (rY I.ok 1),awM _ _ _ _ _ hcore,⟨I.ok,I.bg,?_,?_,?_,?_,?_⟩,?_⟩
 ·rw[awE _ _ _ _ _ _ hcore,UR I.ok]
 ·exact(I1.mem.to (st _ an)).to (ne _ an)
 ·exact I1.UU
 ·exact aj ho (ne _ an)
 ·exact aj (aj I1.ax (st _ an)) (ne _ an)
 ·refine⟨axc ((awH G I.az).grown q I1.az hb) (by exact I.bg) _,fun k o t f e n1 n2 n3=>?_⟩;have e1:=(arz.1 e).1;have e2:=(G.block k e1).trans e;have e3:=(st _ n2 k _ _ e2).trans e2;exact((ne _ n1 k _ _ e3).trans e3).trans e.symm
theorem Inv.stored {w1}{k}(I:Inv w base g c l os ss)(G:Gr w w1)(R:rU w1 w.heap.size n k)(hk:k.length=n):Inv (w1.setCell ⟨g,37,none⟩ (slice (some ⟨w.heap.size,0,none⟩) n n)) base g { c with m:=slice (some ⟨w.heap.size,0,none⟩) n n } k os ss:=by have I1:=I.of G;obtain⟨rest,hr,hz⟩:=R;refine I1.toM ((Ch.refl g w1).setCell _ _) (by rw[awE _ _ _ _ _ _ I1.core,UQ I.ok]) I.ok (.inr ⟨w.heap.size,n,by rw[hk],⟨arF I.UU I.az,by rw[hk];exact arA _⟩,rest,?_,hz⟩) rfl rfl;rw[awR _ _ _ _ (by exact aa hr I1.core an)];exact hr
end Hc
namespace Mm
theorem qB (op)(w):Calls prog 90 #[int i64 op] w fun e w'=>e=returned (int .u32 (nW op:Nat))/\w'=w:=by
 go_enter func90,ntmps90;go_wp2
 all_goals
  go_ret;refine⟨av ?_,rfl⟩;simp only[axe,awr,ne_eq]at *
  unfold nW;repeat' split
  all_goals omega
theorem o6 (op)(w):Calls prog 202 #[int i64 op] w fun e w'=>e=returned (int .u32 (iD op:Nat))/\w'=w:=by
 go_enter func202,ntmps202;go_wp2
 all_goals
  go_ret;refine⟨av ?_,rfl⟩;simp only[axe,awr,ne_eq]at *
  unfold iD;repeat' split
  all_goals omega
theorem dK (ao)(n cap)(s)(a)(w)(hn:n<=140737488351232)(hs:s<=4)(h0:0<=a)(h1:a<4294967296):Calls prog 91 #[slice ao n cap,int .u32 (s:Nat),int .u32 a] w fun e w'=>e=returned (.bool (rR n s a))/\w'=w:=by
 by_cases hs0:s=0
 ·subst hs0;go_enter func91,ntmps91;go_wp2;go_ret;exact⟨aR (NP ab),rfl⟩
 by_cases hm:a%(s:Int)=0
 ·by_cases hl:a+s<=n
  ·go_enter func91,ntmps91;go_wp2;go_ret;exact⟨aR (aev ab hm hl),rfl⟩
  ·go_enter func91,ntmps91;go_wp2;go_ret;exact⟨aR (NP ab),rfl⟩
 ·go_enter func91,ntmps91;go_wp2;go_ret;exact⟨aR (NP ab),rfl⟩
theorem Cn (op x ) (w ) (h0 :0 <= x) (h1 :x < 4294967296) (h8 :op =11 -> x < 256) (h16 :op =12 -> x < 65536) :Calls prog 92 #[int i64 op, int .u32 x] w fun e w' => e = returned (int .u32 (wide op x)) /\ w' =w :=by
  go_enter func92, ntmps92;go_wp2
  all_goals
    go_ret;refine⟨av ?_, rfl⟩;simp only[axe, awr, ne_eq]at *
    unfold wide
    first
      | (have hq : op = 11 := by assumption
         rw[UH x h0 (h8 hq)]; simp[hq])
      | (have hq : op = 12 := by assumption
         rw[NQ x h0 (h16 hq)]; simp[hq])
      | (have hq : ¬ op = 11 := by assumption
         have hr : ¬ op =12 :=bo;simp[hq, hr])
theorem Om (b o n cap)(l)(op)(a:Nat)(w)(hn:n≤140737488351232)(hl:l.length=n)(ha:a<4294967296)(hc:∀t,t<n->w.cell? ⟨b,o+t,none⟩=some (int .u8 (bv l t)))(hok:rR n (nW op) (a)=true):Calls prog 64 #[slice (some ⟨b,o,none⟩) n cap,int i64 op,int .u32 a] w fun e w'=>e=returned (tuple #[int .u32 (wide op (raw l a (nW op))),.bool true])/\w'=w:=by
 have hs:=ET op;have hk:=hok;simp only[rR,awD]at hk;obtain⟨k0,k1,k2⟩:=hk;have hroom:=NS k1 ha k0;go_enter func64,ntmps64;go_wp2_with (first|(go_at_call 90;refine(qB _ _).mono ?_;rintro e w' ⟨rfl,rfl⟩)|(go_at_call 91;refine(dK _ _ _ _ _ _ hn hs ab ab).mono ?_;rintro e w' ⟨rfl,rfl⟩));go_loop [9,19] (fun x i=>∃k:Nat,k<=nW op/\i=int .u32 k/\x=int .u32 (raw l a k)) (fun _ i=>nW op-(intOf i).toNat)
 case atStart=>exact⟨0,arQ _,rfl,rfl⟩
 case round=>
  obtain⟨k,hk,rfl,rfl⟩:=hrel;have rb:=l9 l a k;have bb:=Y2 l (a+k);by_cases hlt:k<nW op
  ·have hck:=hc (a+k) ab;have hk4:k<4:=ab;have hw:(a+k)%4294967296=a+k:=ab;have HR:Hid (bits .or .u32 (raw l a k) (bv l (a+k)*2 ^ (8*k)%4294967296)=raw l a (k+1)):=UI _ _ k hk4 rb.1 rb.2 bb.1 bb.2;go_wp2;go_round
   case rel=>exact⟨k+1,ab,by go_num,by rw[HR.out]⟩
   case measure=>simp[intOf];omega
  ·obtain rfl:k=nW op:=ab;have rx:=Ig l a op;have HX:Hid (wide op (raw l a (nW op))=wide op (raw l a (nW op))):=rfl;go_wp2_with (go_at_call 92;refine(Cn _ _ _ rb.1 rx.1 rx.2.1 rx.2.2).mono ?_;rintro e w' ⟨rfl,rfl⟩);go_ret2;exact⟨rfl,rfl⟩
theorem UW (ao)(n cap)(op a)(w)(hn:n<=140737488351232)(h0:0<=a)(h1:a<4294967296)(hok:rR n (nW op) a=false):Calls prog 64 #[slice ao n cap,int i64 op,int .u32 a] w fun e w'=>e=returned (tuple #[int .u32 0,.bool false])/\w'=w:=by have hs:=ET op;go_enter func64,ntmps64;go_wp2_with (first|(go_at_call 90;refine(qB _ _).mono ?_;rintro e w' ⟨rfl,rfl⟩)|(go_at_call 91;refine(dK _ _ _ _ _ _ hn hs ab ab).mono ?_;rintro e w' ⟨rfl,rfl⟩));go_ret2;exact⟨rfl,rfl⟩
theorem eQ (cap)(op a)(M:Mem w ao n l)(hn:n<=140737488351232)(h0:0<=a)(h1:a<4294967296):Calls prog 64 #[slice ao n cap,int i64 op,int .u32 a] w fun e w'=>e=returned (tuple #[int .u32 (aT l op a),.bool (bR l op a)])/\w'=w:=by
 have hl:=M.len;cases hok:rR n (nW op) a with
 |false=>
  have e1:bR l op a=false:=by unfold bR;rw[hl];exact hok
  have e2:aT l op a=0:=by unfold aT;rw[e1];rfl
  rw[e1,e2];exact UW ao n cap op a w hn h0 h1 hok
 |true=>
  have e1:bR l op a=true:=by unfold bR;rw[hl];exact hok
  have e2:aT l op a=wide op (raw l a.toNat (nW op)):=by unfold aT;rw[e1];rfl
  rw[e1,e2];obtain⟨b,o,rfl,_,hc⟩:=M.spot (zw hok h0);obtain⟨a,rfl⟩:=arI h0;exact Om b o n cap l op a w hn hl ab hc hok
theorem mQ (ao)(n cap)(op a x)(w)(hn:n<=140737488351232)(h0:0<=a)(h1:a<4294967296)(hok:rR n (iD op) a=false):Calls prog 189 #[slice ao n cap,int i64 op,int .u32 a,int .u32 x] w fun e w'=>e=returned (tuple #[slice none 0 0,.bool false])/\w'=w:=by have hs:=rT op;go_enter func189,ntmps189;go_wp2_with (first|(go_at_call 202;refine(o6 _ _).mono ?_;rintro e w' ⟨rfl,rfl⟩)|(go_at_call 91;refine(dK _ _ _ _ _ _ hn hs ab ab).mono ?_;rintro e w' ⟨rfl,rfl⟩));go_ret2;exact⟨rfl,rfl⟩
theorem jJ (b o n cap)(l)(op x)(a:Nat)(w)(hn:n≤140737488351232)(hl:l.length=n)(ha:a<4294967296)(hb:b<w.heap.size)(hx0:0≤x)(hx1:x<4294967296)(hc:∀t,t<n->w.cell? ⟨b,o+t,none⟩=some (int .u8 (bv l t)))(hok:rR n (iD op) (a)=true):Calls prog 189 #[slice (some ⟨b,o,none⟩) n cap,int i64 op,int .u32 a,int .u32 x] w fun e w'=>e=returned (tuple #[slice (some ⟨w.heap.size,0,none⟩) n n,.bool true])/\rU w' w.heap.size n (put l a x (iD op))/\Gr w w':=by
 have hs:=rT op;have hk:=hok;simp only[rR,awD]at hk;obtain⟨k0,k1,k2⟩:=hk;have hroom:=NT k1 ha k0;obtain⟨i0,hi,hz0,hz1,hz2⟩:=awS info5;have HC:=kH hc;go_enter func189,ntmps189
 go_wp2_with (first
  |(go_at_call 202;refine(o6 _ _).mono ?_;rintro e w' ⟨rfl,rfl⟩)
  |(go_at_call 91;refine(dK _ _ _ _ _ _ hn hs ab ab).mono ?_;rintro e w' ⟨rfl,rfl⟩)
  |(at_make;refine wpList_make_full _ rfl _ _ 25 rfl _ 5 i0 (int .u8 0) 1 underlying25 hi hz0 hz1 _ _ _ _ n rfl rfl rfl rfl (by rw[hz2];omega) bj (arA _) ?_;intro w0 hown0 vk;obtain⟨cur,hcl,hcg⟩:=NU hown0;have B0:=(Gr.refl _).grown vk (fun k h=>by cases h);clear hown0 vk)
  |(refine wpList_copy_splice rfl (tmp 23) (tmp 24) 25 25 rfl 5 underlying25 aew _ _ _ _ _ _ rfl rfl _ 0 cur 5 hcg (bc l) (by rw[iE,hl];simp) (fun _=>⟨rfl,_,rfl,Z5 hl (fun t ht=>(Gr.cell B0 _ (by exact hb)).trans (HC t ht))⟩) (by rw[iE,hl,hcl];omega) (zu l) _ _ B0 (arA _) ?_;intro w2 HG2 hB2))
 have R0:rU w2 w'.heap.size n l:=⟨[],by rw[arP];have:=HG2.out;rwa[EU (by rw[iE,hl,hcl])]at this,by rw[arP,iE,hl],bj⟩;go_loopw [27] (fun i wr=>∃k:Nat,k<=iD op/\i=int .u32 k/\rU wr w'.heap.size n (put l a x k)/\Gr w' wr) (fun i _=>iD op-(intOf i).toNat)
 case atStart=>exact⟨0,arQ _,rfl,R0,hB2⟩
 case round=>
  obtain⟨k,hk,rfl,R,G⟩:=hrel;by_cases hlt:k<iD op
  ·have hp:=jD l a x k;have hck:=R.row.cell (t:=a+k) ab;have hfk:=R.row.frozen (a+k);have hw:(a+k)%4294967296=a+k:=ab;have RS:=R.set (t:=a+k) ab (x/2 ^ (8*k)%256) ab ab;rw[Ih x k hx0]at RS;have HR:=kH R;have HG:=kH G;have HS:Hid (rU (wr.setCell ⟨w'.heap.size,a+k,none⟩ (int .u8 (x/256^k%256))) w'.heap.size n (put l a x (k+1))):=RS;have HB:Hid (x/2 ^ (8*k)%256=x/256^k%256):=Ih x k hx0;clear R G RS R0 hB2 hp;go_wp2;go_roundw
   case rel=>exact⟨k+1,ab,by go_num,by have:=HS;rw[<-HB.out]at this;exact this,HG.setCell (arA _) _⟩
   case measure=>simp[intOf];omega
  ·obtain rfl:k=iD op:=ab;have HR:=kH R;have HG:=kH G;go_wp2;go_ret2;exact⟨rfl,HR,HG⟩
theorem J8 (cap)(op a x)(M:Mem w ao n l)(hn:n<=140737488351232)(h0:0<=a)(h1:a<4294967296)(hx0:0<=x)(hx1:x<4294967296):Calls prog 189 #[slice ao n cap,int i64 op,int .u32 a,int .u32 x] w fun e w'=> ∃Ui n' cap',e=returned (tuple #[slice Ui n' cap',.bool (eP l op a)])/\Mem w' Ui n' (jb l op a x)/\Gr w w'/\∀ad,Ui=some ad->w.heap.size<=ad.block:=by
 have hl:=M.len;cases hok:rR n (iD op) a with
 |false=>
  have e1:eP l op a=false:=by unfold eP;rw[hl];exact hok
  have e2:jb l op a x=[]:=by unfold jb;rw[e1];rfl
  rw[e1,e2];refine(mQ ao n cap op a x w hn h0 h1 hok).mono ?_;rintro e w' ⟨rfl,rfl⟩;exact⟨none,0,0,rfl,Mem.none _,Gr.refl _,fun ad h=>by cases h⟩
 |true=>
  have e1:eP l op a=true:=by unfold eP;rw[hl];exact hok
  have e2:jb l op a x=put l a.toNat x (iD op):=by unfold jb;rw[e1];rfl
  rw[e1,e2];obtain⟨b,o,rfl,hb,hc⟩:=M.spot (zw hok h0);obtain⟨a,rfl⟩:=arI h0;refine(jJ b o n cap l op x a w hn hl ab hb hx0 hx1 hc hok).mono ?_;rintro e w' ⟨rfl,R,G⟩;refine⟨_,_,_,rfl,?_,G,fun ad h=>by cases h;exact arA _⟩;have:=R.row.mem;rwa[jD,hl]at this
theorem dW (cap)(op a x)(M:Mem w ao n l)(hn:n<=140737488351232)(h0:0<=a)(h1:a<4294967296)(hx0:0<=x)(hx1:x<4294967296):Calls prog 189 #[slice ao n cap,int i64 op,int .u32 a,int .u32 x] w fun e w'=> ∃Ui n' cap',e=returned (tuple #[slice Ui n' cap',.bool (eP l op a)])/\Mem w' Ui n' (jb l op a x)/\Gr w w':=by refine(J8 cap op a x M hn h0 h1 hx0 hx1).mono ?_;rintro e w' ⟨a1,n1,c1,rfl,M1,G1,_⟩;exact⟨a1,n1,c1,rfl,M1,G1⟩
end Mm
namespace Ww
theorem av {k}{a b}(h:a=b):Ending.returned (int k a)=returned (int k b):=by rw[h]
theorem aR {a b}(h:a=b):Ending.returned (.bool a)=returned (.bool b):=by rw[h]
theorem wrap_u32' (n):IntKind.u32.wrap n=n%4294967296:=by rfl
theorem ofInt32 (a:Nat)(ha:(a:Int)<4294967296):(BitVec.ofInt 32 (a:Int)).toNat=a:=by rw[BitVec.ofInt_natCast,BitVec.toNat_ofNat];exact Nat.mod_eq_of_lt ab
theorem fD (a b)(ha:0<=a)(ha':a<4294967296)(hb:0<=b)(hb':b<4294967296):bits .and .u32 a b=Wd.jc a b:=by
 obtain⟨a,rfl⟩:=arI ha;obtain⟨b,rfl⟩:=arI hb;have hx:a &&& b<2^32:=atB _ ab;show IntKind.u32.wrap ((BitVec.ofInt 32 (a:Int) &&& BitVec.ofInt 32 (b:Int)).toNat:Int)=_
 rw[axD,ofInt32 a ha',ofInt32 b hb',wrap_u32'];simp only[Wd.jc,arS];omega
theorem dx (a b)(ha:0<=a)(ha':a<4294967296)(hb:0<=b)(hb':b<4294967296):bits .or .u32 a b=Wd.uw a b:=by
 obtain⟨a,rfl⟩:=arI ha;obtain⟨b,rfl⟩:=arI hb;have hx:a |||b<2^32:=atF ab ab
 show IntKind.u32.wrap ((BitVec.ofInt 32 (a:Int) |||BitVec.ofInt 32 (b:Int)).toNat:Int)=_
 rw[BitVec.toNat_or,ofInt32 a ha',ofInt32 b hb',wrap_u32'];simp only[Wd.uw,arS];omega
theorem zA (a b)(ha:0<=a)(ha':a<4294967296)(hb:0<=b)(hb':b<4294967296):bits .xor .u32 a b=Wd.Cb a b:=by
 obtain⟨a,rfl⟩:=arI ha;obtain⟨b,rfl⟩:=arI hb;have hx:a ^^^ b<2^32:=Nat.xor_lt_two_pow ab ab;show IntKind.u32.wrap ((BitVec.ofInt 32 (a:Int) ^^^ BitVec.ofInt 32 (b:Int)).toNat:Int)=_
 rw[BitVec.toNat_xor,ofInt32 a ha',ofInt32 b hb',wrap_u32'];simp only[Wd.Cb,arS];omega
theorem J9 (a)(ha:0<=a)(ha':a<4294967296):wrap32 a=Wd.sg a:=by unfold wrap32 Wd.sg;split<;>omega
theorem Ka (n):wrap32 n%4294967296=Wd.lo n:=by unfold wrap32 Wd.lo;omega
theorem UX (a)(ha:0<=a):Wd.jc a 31=a%32:=by unfold Wd.jc;have h:a.toNat &&& (31:Int).toNat=a.toNat%32:=as1 a.toNat 5;rw[h];omega
theorem Oo (a):IntKind.u64.wrap a/4294967296%4294967296=Wd.hi a:=by rw[axw];unfold Wd.hi;omega
theorem bL (a)(w)(ha:0<=a)(ha':a<4294967296):Calls prog 188 #[int .u32 a] w fun e w'=>e=returned (int .i32 (Wd.sg a))/\w'=w:=by go_enter func188,ntmps188;go_wp2;go_ret;exact⟨av (J9 a ha ha'),rfl⟩
theorem pJ (a)(w)(ha:0<=a)(ha':a<4294967296):Calls prog 190 #[int .u32 a] w fun e w'=>e=returned (int .u32 (a%32))/\w'=w:=by go_enter func190,ntmps190;go_wp2;go_ret;exact⟨av ((fD a 31 ha ha' ab ab).trans (UX a ha)),rfl⟩
theorem xW (b)(w):Calls prog 191 #[.bool b] w fun e w'=>e=returned (int .u32 (Wd.tr b))/\w'=w:=by
 cases b
 all_goals
  go_enter func191,ntmps191;go_wp2;go_ret;exact⟨rfl,rfl⟩
theorem xX (a)(w)(ha : -9223372036854775808<=a)(ha':a<=9223372036854775807):Calls prog 192 #[int i64 a] w fun e w'=>e=returned (int .u32 (Wd.hi a))/\w'=w:=by go_enter func192,ntmps192;go_wp2;go_ret;exact⟨av (Oo a),rfl⟩
theorem zB (a b)(w)(ha:0<=a)(ha':a<4294967296)(hb:0<=b)(hb':b<4294967296):Calls prog 193 #[int .u32 a,int .u32 b] w fun e w'=>e=returned (int .u32 (Wd.dv a b))/\w'=w:=by
 by_cases h0:b=0
 ·subst h0;go_enter func193,ntmps193;go_wp2;go_ret;exact⟨rfl,rfl⟩
 ·have hz:¬Wd.sg b=0:=fun h=>h0 ((Wd.Ii hb hb').1 h)
  have hb0:(b ==0)=false:=by simpa using h0
  have sa:=Wd.tQ ha ha';have sb:=Wd.tQ hb hb';have H:Hid (Wd.dv a b=Wd.lo ((Wd.sg a).tdiv (Wd.sg b))):=(by unfold Wd.dv;rw[awm h0]:_=_);go_enter func193,ntmps193;go_wp2_with (go_at_call 188;refine(bL _ _ ab ab).mono ?_;rintro e w' ⟨rfl,rfl⟩);go_ret;exact⟨av ((Ka _).trans H.symm),rfl⟩
theorem xA (a b)(w)(ha:0<=a)(ha':a<4294967296)(hb:0<=b)(hb':b<4294967296):Calls prog 194 #[int .u32 a,int .u32 b] w fun e w'=>e=returned (int .u32 (Wd.rm a b))/\w'=w:=by
 by_cases h0:b=0
 ·subst h0;go_enter func194,ntmps194;go_wp2;go_ret;exact⟨rfl,rfl⟩
 ·have hz:¬Wd.sg b=0:=fun h=>h0 ((Wd.Ii hb hb').1 h)
  have hb0:(b ==0)=false:=by simpa using h0
  have sa:=Wd.tQ ha ha';have sb:=Wd.tQ hb hb';have H:Hid (Wd.rm a b=Wd.lo ((Wd.sg a).tmod (Wd.sg b))):=(by unfold Wd.rm;rw[awm h0]:_=_);go_enter func194,ntmps194;go_wp2_with (go_at_call 188;refine(bL _ _ ab ab).mono ?_;rintro e w' ⟨rfl,rfl⟩);go_ret;exact⟨av (H.symm),rfl⟩
theorem qC (a b)(w)(ha:0<=a)(ha':a<4294967296)(hb:0<=b)(hb':b<4294967296):Calls prog 195 #[int .u32 a,int .u32 b] w fun e w'=>e=returned (int .u32 (Wd.dvu a b))/\w'=w:=by
 by_cases h0:b=0
 ·subst h0;go_enter func195,ntmps195;go_wp2;go_ret;exact⟨rfl,rfl⟩
 ·have hb0:(b ==0)=false:=by simpa using h0
  have H:Hid (Wd.dvu a b=a/b):=(by unfold Wd.dvu;rw[awm h0]:_=_);go_enter func195,ntmps195;go_wp2;go_ret;exact⟨av H.symm,rfl⟩
theorem pK (a b)(w)(ha:0<=a)(ha':a<4294967296)(hb:0<=b)(hb':b<4294967296):Calls prog 196 #[int .u32 a,int .u32 b] w fun e w'=>e=returned (int .u32 (Wd.rmu a b))/\w'=w:=by
 by_cases h0:b=0
 ·subst h0;go_enter func196,ntmps196;go_wp2;go_ret;exact⟨rfl,rfl⟩
 ·have hb0:(b ==0)=false:=by simpa using h0
  have H:Hid (Wd.rmu a b=a%b):=(by unfold Wd.rmu;rw[awm h0]:_=_);go_enter func196,ntmps196;go_wp2;go_ret;exact⟨av H.symm,rfl⟩
theorem aaq (a b)(w)(ha:0<=a)(ha':a<4294967296)(hb:0<=b)(hb':b<4294967296):Calls prog 179 #[int i64 28,int .u32 a,int .u32 b] w fun e w'=>e=returned (int .u32 (Wd.fB 28 a b))/\w'=w:=by go_enter func179,ntmps179;go_wp2;go_ret;exact⟨av (rfl),rfl⟩
theorem aar (a b)(w)(ha:0<=a)(ha':a<4294967296)(hb:0<=b)(hb':b<4294967296):Calls prog 179 #[int i64 29,int .u32 a,int .u32 b] w fun e w'=>e=returned (int .u32 (Wd.fB 29 a b))/\w'=w:=by go_enter func179,ntmps179;go_wp2;go_ret;exact⟨av (rfl),rfl⟩
theorem aas (a b)(w)(ha:0<=a)(ha':a<4294967296)(hb:0<=b)(hb':b<4294967296):Calls prog 179 #[int i64 37,int .u32 a,int .u32 b] w fun e w'=>e=returned (int .u32 (Wd.fB 37 a b))/\w'=w:=by go_enter func179,ntmps179;go_wp2;go_ret;exact⟨av (fD a b ha ha' hb hb'),rfl⟩
theorem aat (a b)(w)(ha:0<=a)(ha':a<4294967296)(hb:0<=b)(hb':b<4294967296):Calls prog 179 #[int i64 36,int .u32 a,int .u32 b] w fun e w'=>e=returned (int .u32 (Wd.fB 36 a b))/\w'=w:=by go_enter func179,ntmps179;go_wp2;go_ret;exact⟨av (dx a b ha ha' hb hb'),rfl⟩
theorem aau (a b)(w)(ha:0<=a)(ha':a<4294967296)(hb:0<=b)(hb':b<4294967296):Calls prog 179 #[int i64 33,int .u32 a,int .u32 b] w fun e w'=>e=returned (int .u32 (Wd.fB 33 a b))/\w'=w:=by go_enter func179,ntmps179;go_wp2;go_ret;exact⟨av (zA a b ha ha' hb hb'),rfl⟩
theorem aav (a b)(w)(ha:0<=a)(ha':a<4294967296)(hb:0<=b)(hb':b<4294967296):Calls prog 179 #[int i64 30,int .u32 a,int .u32 b] w fun e w'=>e=returned (int .u32 (Wd.fB 30 a b))/\w'=w:=by go_enter func179,ntmps179;go_wp2_with (go_at_call 190;refine(pJ _ _ ab ab).mono ?_;rintro e w' ⟨rfl,rfl⟩);go_ret;exact⟨av (rfl),rfl⟩
theorem aaw (a b)(w)(ha:0<=a)(ha':a<4294967296)(hb:0<=b)(hb':b<4294967296):Calls prog 179 #[int i64 34,int .u32 a,int .u32 b] w fun e w'=>e=returned (int .u32 (Wd.fB 34 a b))/\w'=w:=by go_enter func179,ntmps179;go_wp2_with (go_at_call 190;refine(pJ _ _ ab ab).mono ?_;rintro e w' ⟨rfl,rfl⟩);go_ret;exact⟨av (rfl),rfl⟩
theorem aax (a b)(w)(ha:0<=a)(ha':a<4294967296)(hb:0<=b)(hb':b<4294967296):Calls prog 179 #[int i64 35,int .u32 a,int .u32 b] w fun e w'=>e=returned (int .u32 (Wd.fB 35 a b))/\w'=w:=by go_enter func179,ntmps179;go_wp2_with (first|(go_at_call 188;refine(bL _ _ ab ab).mono ?_;rintro e w' ⟨rfl,rfl⟩)|(go_at_call 190;refine(pJ _ _ ab ab).mono ?_;rintro e w' ⟨rfl,rfl⟩));go_ret;exact⟨av (rfl),rfl⟩
theorem aay (a b)(w)(ha:0<=a)(ha':a<4294967296)(hb:0<=b)(hb':b<4294967296):Calls prog 179 #[int i64 31,int .u32 a,int .u32 b] w fun e w'=>e=returned (int .u32 (Wd.fB 31 a b))/\w'=w:=by go_enter func179,ntmps179;go_wp2_with (first|(go_at_call 188;refine(bL _ _ ab ab).mono ?_;rintro e w' ⟨rfl,rfl⟩)|(go_at_call 191;refine(xW _ _).mono ?_;rintro e w' ⟨rfl,rfl⟩));go_ret;exact⟨av (rfl),rfl⟩
theorem aaz (a b)(w)(ha:0<=a)(ha':a<4294967296)(hb:0<=b)(hb':b<4294967296):Calls prog 179 #[int i64 32,int .u32 a,int .u32 b] w fun e w'=>e=returned (int .u32 (Wd.fB 32 a b))/\w'=w:=by go_enter func179,ntmps179;go_wp2_with (go_at_call 191;refine(xW _ _).mono ?_;rintro e w' ⟨rfl,rfl⟩);go_ret;exact⟨av (rfl),rfl⟩
theorem aaA (a b)(w)(ha:0<=a)(ha':a<4294967296)(hb:0<=b)(hb':b<4294967296):Calls prog 179 #[int i64 38,int .u32 a,int .u32 b] w fun e w'=>e=returned (int .u32 (Wd.fB 38 a b))/\w'=w:=by go_enter func179,ntmps179;go_wp2;go_ret;exact⟨av (rfl),rfl⟩
theorem aaB (a b)(w)(ha:0<=a)(ha':a<4294967296)(hb:0<=b)(hb':b<4294967296):Calls prog 179 #[int i64 39,int .u32 a,int .u32 b] w fun e w'=>e=returned (int .u32 (Wd.fB 39 a b))/\w'=w:=by have sa:=Wd.tQ ha ha';have sb:=Wd.tQ hb hb';have mb:=Wd.NV (x:=Wd.sg a) (y:=Wd.sg b) ab ab ab ab;go_enter func179,ntmps179;go_wp2_with (first|(go_at_call 188;refine(bL _ _ ab ab).mono ?_;rintro e w' ⟨rfl,rfl⟩)|(go_at_call 192;refine(xX _ _ ab ab).mono ?_;rintro e w' ⟨rfl,rfl⟩));go_ret;exact⟨av (rfl),rfl⟩
theorem aaC (a b)(w)(ha:0<=a)(ha':a<4294967296)(hb:0<=b)(hb':b<4294967296):Calls prog 179 #[int i64 40,int .u32 a,int .u32 b] w fun e w'=>e=returned (int .u32 (Wd.fB 40 a b))/\w'=w:=by have sa:=Wd.tQ ha ha';have sb:=Wd.tQ hb hb';have mb:=Wd.NV (x:=Wd.sg a) (y:=b) ab ab ab ab;go_enter func179,ntmps179;go_wp2_with (first|(go_at_call 188;refine(bL _ _ ab ab).mono ?_;rintro e w' ⟨rfl,rfl⟩)|(go_at_call 192;refine(xX _ _ ab ab).mono ?_;rintro e w' ⟨rfl,rfl⟩));go_ret;exact⟨av (rfl),rfl⟩
theorem aaD (a b)(w)(ha:0<=a)(ha':a<4294967296)(hb:0<=b)(hb':b<4294967296):Calls prog 179 #[int i64 41,int .u32 a,int .u32 b] w fun e w'=>e=returned (int .u32 (Wd.fB 41 a b))/\w'=w:=by have mb:=Wd.UJ ha ha' hb hb';go_enter func179,ntmps179;go_wp2;go_ret;exact⟨av (by show _=Wd.hi (a*b);unfold Wd.hi;omega),rfl⟩
theorem aaE (a b)(w)(ha:0<=a)(ha':a<4294967296)(hb:0<=b)(hb':b<4294967296):Calls prog 179 #[int i64 42,int .u32 a,int .u32 b] w fun e w'=>e=returned (int .u32 (Wd.fB 42 a b))/\w'=w:=by go_enter func179,ntmps179;go_wp2_with (go_at_call 193;refine(zB _ _ _ ab ab ab ab).mono ?_;rintro e w' ⟨rfl,rfl⟩);go_ret;exact⟨av (rfl),rfl⟩
theorem aaF (a b)(w)(ha:0<=a)(ha':a<4294967296)(hb:0<=b)(hb':b<4294967296):Calls prog 179 #[int i64 44,int .u32 a,int .u32 b] w fun e w'=>e=returned (int .u32 (Wd.fB 44 a b))/\w'=w:=by go_enter func179,ntmps179;go_wp2_with (go_at_call 194;refine(xA _ _ _ ab ab ab ab).mono ?_;rintro e w' ⟨rfl,rfl⟩);go_ret;exact⟨av (rfl),rfl⟩
theorem aaG (a b)(w)(ha:0<=a)(ha':a<4294967296)(hb:0<=b)(hb':b<4294967296):Calls prog 179 #[int i64 43,int .u32 a,int .u32 b] w fun e w'=>e=returned (int .u32 (Wd.fB 43 a b))/\w'=w:=by go_enter func179,ntmps179;go_wp2_with (go_at_call 195;refine(qC _ _ _ ab ab ab ab).mono ?_;rintro e w' ⟨rfl,rfl⟩);go_ret;exact⟨av (rfl),rfl⟩
theorem aaH (a b)(w)(ha:0<=a)(ha':a<4294967296)(hb:0<=b)(hb':b<4294967296):Calls prog 179 #[int i64 45,int .u32 a,int .u32 b] w fun e w'=>e=returned (int .u32 (Wd.fB 45 a b))/\w'=w:=by go_enter func179,ntmps179;go_wp2_with (go_at_call 196;refine(pK _ _ _ ab ab ab ab).mono ?_;rintro e w' ⟨rfl,rfl⟩);go_ret;exact⟨av (rfl),rfl⟩
theorem kG (op a b)(w)(ha:0<=a)(ha':a<4294967296)(hb:0<=b)(hb':b<4294967296):Calls prog 179 #[int i64 op,int .u32 a,int .u32 b] w fun e w'=>e=returned (int .u32 (Wd.fB op a b))/\w'=w:=by
 by_cases h28:op=28
 ·subst h28;exact aaq a b w ha ha' hb hb'
 by_cases h29:op=29
 ·subst h29;exact aar a b w ha ha' hb hb'
 by_cases h37:op=37
 ·subst h37;exact aas a b w ha ha' hb hb'
 by_cases h36:op=36
 ·subst h36;exact aat a b w ha ha' hb hb'
 by_cases h33:op=33
 ·subst h33;exact aau a b w ha ha' hb hb'
 by_cases h30:op=30
 ·subst h30;exact aav a b w ha ha' hb hb'
 by_cases h34:op=34
 ·subst h34;exact aaw a b w ha ha' hb hb'
 by_cases h35:op=35
 ·subst h35;exact aax a b w ha ha' hb hb'
 by_cases h31:op=31
 ·subst h31;exact aay a b w ha ha' hb hb'
 by_cases h32:op=32
 ·subst h32;exact aaz a b w ha ha' hb hb'
 by_cases h38:op=38
 ·subst h38;exact aaA a b w ha ha' hb hb'
 by_cases Za:op=39
 ·subst Za;exact aaB a b w ha ha' hb hb'
 by_cases Oq:op=40
 ·subst Oq;exact aaC a b w ha ha' hb hb'
 by_cases h41:op=41
 ·subst h41;exact aaD a b w ha ha' hb hb'
 by_cases h42:op=42
 ·subst h42;exact aaE a b w ha ha' hb hb'
 by_cases h44:op=44
 ·subst h44;exact aaF a b w ha ha' hb hb'
 by_cases h43:op=43
 ·subst h43;exact aaG a b w ha ha' hb hb'
 by_cases h45:op=45
 ·subst h45;exact aaH a b w ha ha' hb hb'
 have H:Hid (Wd.fB op a b=0):=(by unfold Wd.fB;rw[awm h28,awm h29,awm h37,awm h36,awm h33,awm h30,awm h34,awm h35,awm h31,awm h32,awm h38,awm Za,awm Oq,awm h41,awm h42,awm h44,awm h43,awm h45]:_=_);replace h28:(op ==28)=false:=awr.2 h28;replace h29:(op ==29)=false:=awr.2 h29;replace h37:(op ==37)=false:=awr.2 h37;replace h36:(op ==36)=false:=awr.2 h36;replace h33:(op ==33)=false:=awr.2 h33;replace h30:(op ==30)=false:=awr.2 h30;replace h34:(op ==34)=false:=awr.2 h34;replace h35:(op ==35)=false:=awr.2 h35;replace h31:(op ==31)=false:=awr.2 h31;replace h32:(op ==32)=false:=awr.2 h32;replace h38:(op ==38)=false:=awr.2 h38;replace Za:(op ==39)=false:=awr.2 Za;replace Oq:(op ==40)=false:=awr.2 Oq;replace h41:(op ==41)=false:=awr.2 h41;replace h42:(op ==42)=false:=awr.2 h42;replace h44:(op ==44)=false:=awr.2 h44;replace h43:(op ==43)=false:=awr.2 h43;replace h45:(op ==45)=false:=awr.2 h45;go_enter func179,ntmps179;go_wp2;go_ret;exact⟨av H.symm,rfl⟩
theorem UY (a b)(w)(ha:0<=a)(ha':a<4294967296)(hb:0<=b)(hb':b<4294967296):Calls prog 176 #[int i64 5,int .u32 a,int .u32 b] w fun e w'=>e=returned (.bool (Wd.holds 5 a b))/\w'=w:=by go_enter func176,ntmps176;go_wp2_with (go_at_call 188;refine(bL _ _ ab ab).mono ?_;rintro e w' ⟨rfl,rfl⟩);go_ret;exact⟨aR (rfl),rfl⟩
theorem UZ (a b)(w)(ha:0<=a)(ha':a<4294967296)(hb:0<=b)(hb':b<4294967296):Calls prog 176 #[int i64 6,int .u32 a,int .u32 b] w fun e w'=>e=returned (.bool (Wd.holds 6 a b))/\w'=w:=by go_enter func176,ntmps176;go_wp2_with (go_at_call 188;refine(bL _ _ ab ab).mono ?_;rintro e w' ⟨rfl,rfl⟩);go_ret;exact⟨aR (by show(a !=b)=decide (a≠b);rw[atN];simp),rfl⟩
theorem U3 (a b)(w)(ha:0<=a)(ha':a<4294967296)(hb:0<=b)(hb':b<4294967296):Calls prog 176 #[int i64 7,int .u32 a,int .u32 b] w fun e w'=>e=returned (.bool (Wd.holds 7 a b))/\w'=w:=by go_enter func176,ntmps176;go_wp2_with (go_at_call 188;refine(bL _ _ ab ab).mono ?_;rintro e w' ⟨rfl,rfl⟩);go_ret;exact⟨aR (rfl),rfl⟩
theorem U4 (a b)(w)(ha:0<=a)(ha':a<4294967296)(hb:0<=b)(hb':b<4294967296):Calls prog 176 #[int i64 8,int .u32 a,int .u32 b] w fun e w'=>e=returned (.bool (Wd.holds 8 a b))/\w'=w:=by go_enter func176,ntmps176;go_wp2_with (go_at_call 188;refine(bL _ _ ab ab).mono ?_;rintro e w' ⟨rfl,rfl⟩);go_ret;exact⟨aR (rfl),rfl⟩
theorem U5 (a b)(w)(ha:0<=a)(ha':a<4294967296)(hb:0<=b)(hb':b<4294967296):Calls prog 176 #[int i64 9,int .u32 a,int .u32 b] w fun e w'=>e=returned (.bool (Wd.holds 9 a b))/\w'=w:=by go_enter func176,ntmps176;go_wp2_with (go_at_call 188;refine(bL _ _ ab ab).mono ?_;rintro e w' ⟨rfl,rfl⟩);go_ret;exact⟨aR (rfl),rfl⟩
theorem Ot (a b)(w)(ha:0<=a)(ha':a<4294967296)(hb:0<=b)(hb':b<4294967296):Calls prog 176 #[int i64 10,int .u32 a,int .u32 b] w fun e w'=>e=returned (.bool (Wd.holds 10 a b))/\w'=w:=by go_enter func176,ntmps176;go_wp2_with (go_at_call 188;refine(bL _ _ ab ab).mono ?_;rintro e w' ⟨rfl,rfl⟩);go_ret;exact⟨aR (rfl),rfl⟩
theorem xY (op a b)(w)(ha:0<=a)(ha':a<4294967296)(hb:0<=b)(hb':b<4294967296):Calls prog 176 #[int i64 op,int .u32 a,int .u32 b] w fun e w'=>e=returned (.bool (Wd.holds op a b))/\w'=w:=by
 by_cases h5:op=5
 ·subst h5;exact UY a b w ha ha' hb hb'
 by_cases h6:op=6
 ·subst h6;exact UZ a b w ha ha' hb hb'
 by_cases h7:op=7
 ·subst h7;exact U3 a b w ha ha' hb hb'
 by_cases h8:op=8
 ·subst h8;exact U4 a b w ha ha' hb hb'
 by_cases h9:op=9
 ·subst h9;exact U5 a b w ha ha' hb hb'
 by_cases h10:op=10
 ·subst h10;exact Ot a b w ha ha' hb hb'
 have H:Hid (Wd.holds op a b=false):=(by unfold Wd.holds;rw[awm h5,awm h6,awm h7,awm h8,awm h9,awm h10]:_=_);replace h5:(op ==5)=false:=awr.2 h5;replace h6:(op ==6)=false:=awr.2 h6;replace h7:(op ==7)=false:=awr.2 h7;replace h8:(op ==8)=false:=awr.2 h8;replace h9:(op ==9)=false:=awr.2 h9;replace h10:(op ==10)=false:=awr.2 h10;go_enter func176,ntmps176;go_wp2;go_ret;exact⟨aR H.symm,rfl⟩
theorem aaI (a b)(w)(ha:0<=a)(ha':a<4294967296)(hb:0<=b)(hb':b<4294967296):Calls prog 199 #[int i64 48,int .u32 a,int .u32 b] w fun e w'=>e=returned (int .u32 (Wd.nX 48 a b))/\w'=w:=by go_enter func199,ntmps199;go_wp2_with fail;go_ret;exact⟨av (rfl),rfl⟩
theorem aaJ (a b)(w)(ha:0<=a)(ha':a<4294967296)(hb:0<=b)(hb':b<4294967296):Calls prog 199 #[int i64 49,int .u32 a,int .u32 b] w fun e w'=>e=returned (int .u32 (Wd.nX 49 a b))/\w'=w:=by go_enter func199,ntmps199;go_wp2_with (go_at_call 179;refine(kG _ _ _ _ ab ab ab ab).mono ?_;rintro e w' ⟨rfl,rfl⟩);go_ret;exact⟨av (rfl),rfl⟩
theorem aaK (a b)(w)(ha:0<=a)(ha':a<4294967296)(hb:0<=b)(hb':b<4294967296):Calls prog 199 #[int i64 50,int .u32 a,int .u32 b] w fun e w'=>e=returned (int .u32 (Wd.nX 50 a b))/\w'=w:=by go_enter func199,ntmps199;go_wp2_with (go_at_call 179;refine(kG _ _ _ _ ab ab ab ab).mono ?_;rintro e w' ⟨rfl,rfl⟩);go_ret;exact⟨av (rfl),rfl⟩
theorem aaL (a b)(w)(ha:0<=a)(ha':a<4294967296)(hb:0<=b)(hb':b<4294967296):Calls prog 199 #[int i64 51,int .u32 a,int .u32 b] w fun e w'=>e=returned (int .u32 (Wd.nX 51 a b))/\w'=w:=by go_enter func199,ntmps199;go_wp2_with (go_at_call 179;refine(kG _ _ _ _ ab ab ab ab).mono ?_;rintro e w' ⟨rfl,rfl⟩);go_ret;exact⟨av (rfl),rfl⟩
theorem aaM (a b)(w)(ha:0<=a)(ha':a<4294967296)(hb:0<=b)(hb':b<4294967296):Calls prog 199 #[int i64 52,int .u32 a,int .u32 b] w fun e w'=>e=returned (int .u32 (Wd.nX 52 a b))/\w'=w:=by go_enter func199,ntmps199;go_wp2_with (go_at_call 179;refine(kG _ _ _ _ ab ab ab ab).mono ?_;rintro e w' ⟨rfl,rfl⟩);go_ret;exact⟨av (rfl),rfl⟩
theorem aaN (a b)(w)(ha:0<=a)(ha':a<4294967296)(hb:0<=b)(hb':b<4294967296):Calls prog 199 #[int i64 53,int .u32 a,int .u32 b] w fun e w'=>e=returned (int .u32 (Wd.nX 53 a b))/\w'=w:=by
 have la:Hid (Wd.sg a%4294967296=a):=Wd.tT ha ha';have lb:Hid (Wd.sg b%4294967296=b):=Wd.tT hb hb';go_enter func199,ntmps199;go_wp2_with (go_at_call 188;refine(bL _ _ ab ab).mono ?_;rintro e w' ⟨rfl,rfl⟩)
 all_goals
  go_ret;exact⟨av (by have:=la.out;have:=lb.out;show _=(if Wd.sg a<Wd.sg b then a else b);split<;>omega),rfl⟩
theorem aaO (a b)(w)(ha:0<=a)(ha':a<4294967296)(hb:0<=b)(hb':b<4294967296):Calls prog 199 #[int i64 54,int .u32 a,int .u32 b] w fun e w'=>e=returned (int .u32 (Wd.nX 54 a b))/\w'=w:=by
 have la:Hid (Wd.sg a%4294967296=a):=Wd.tT ha ha';have lb:Hid (Wd.sg b%4294967296=b):=Wd.tT hb hb';go_enter func199,ntmps199;go_wp2_with (go_at_call 188;refine(bL _ _ ab ab).mono ?_;rintro e w' ⟨rfl,rfl⟩)
 all_goals
  go_ret;exact⟨av (by have:=la.out;have:=lb.out;show _=(if Wd.sg a<Wd.sg b then b else a);split<;>omega),rfl⟩
theorem aaP (a b)(w)(ha:0<=a)(ha':a<4294967296)(hb:0<=b)(hb':b<4294967296):Calls prog 199 #[int i64 55,int .u32 a,int .u32 b] w fun e w'=>e=returned (int .u32 (Wd.nX 55 a b))/\w'=w:=by
 have la:=kH (Wd.tT ha ha');have lb:=kH (Wd.tT hb hb');go_enter func199,ntmps199;go_wp2_with (go_at_call 188;refine(bL _ _ ab ab).mono ?_;rintro e w' ⟨rfl,rfl⟩)
 all_goals
  go_ret;exact⟨av (by have:=la;have:=lb;show _=(if a<b then a else b);split<;>omega),rfl⟩
theorem aaQ (a b)(w)(ha:0<=a)(ha':a<4294967296)(hb:0<=b)(hb':b<4294967296):Calls prog 199 #[int i64 56,int .u32 a,int .u32 b] w fun e w'=>e=returned (int .u32 (Wd.nX 56 a b))/\w'=w:=by
 have la:=kH (Wd.tT ha ha');have lb:=kH (Wd.tT hb hb');go_enter func199,ntmps199;go_wp2_with (go_at_call 188;refine(bL _ _ ab ab).mono ?_;rintro e w' ⟨rfl,rfl⟩)
 all_goals
  go_ret;exact⟨av (by have:=la;have:=lb;show _=(if a<b then b else a);split<;>omega),rfl⟩
theorem Iu (op a b)(w)(ha:0<=a)(ha':a<4294967296)(hb:0<=b)(hb':b<4294967296):Calls prog 199 #[int i64 op,int .u32 a,int .u32 b] w fun e w'=>e=returned (int .u32 (Wd.nX op a b))/\w'=w:=by
 by_cases h48:op=48
 ·subst h48;exact aaI a b w ha ha' hb hb'
 by_cases h49:op=49
 ·subst h49;exact aaJ a b w ha ha' hb hb'
 by_cases h50:op=50
 ·subst h50;exact aaK a b w ha ha' hb hb'
 by_cases h51:op=51
 ·subst h51;exact aaL a b w ha ha' hb hb'
 by_cases h52:op=52
 ·subst h52;exact aaM a b w ha ha' hb hb'
 by_cases h53:op=53
 ·subst h53;exact aaN a b w ha ha' hb hb'
 by_cases h54:op=54
 ·subst h54;exact aaO a b w ha ha' hb hb'
 by_cases h55:op=55
 ·subst h55;exact aaP a b w ha ha' hb hb'
 by_cases h56:op=56
 ·subst h56;exact aaQ a b w ha ha' hb hb'
 have H:Hid (Wd.nX op a b=0):=(by unfold Wd.nX;rw[awm h48,awm h49,awm h50,awm h51,awm h52,awm h53,awm h54,awm h55,awm h56]:_=_);replace h48:(op ==48)=false:=awr.2 h48;replace h49:(op ==49)=false:=awr.2 h49;replace h50:(op ==50)=false:=awr.2 h50;replace h51:(op ==51)=false:=awr.2 h51;replace h52:(op ==52)=false:=awr.2 h52;replace h53:(op ==53)=false:=awr.2 h53;replace h54:(op ==54)=false:=awr.2 h54;replace h55:(op ==55)=false:=awr.2 h55;replace h56:(op ==56)=false:=awr.2 h56;go_enter func199,ntmps199;go_wp2;go_ret;exact⟨av H.symm,rfl⟩
end Ww
namespace Hc
variable[Inhabited Hc.bH]
open Mm Hh
variable{h:Hv}
theorem aH (n a b)(w):Calls prog 97 #[int i64 n,int i64 a,int i64 b] w fun e w'=>e=returned (.bool (decide (a<=n) && decide (n<=b)))/\w'=w:=by
 by_cases h1:a<=n
 ·by_cases h2:n<=b
  ·go_enter func97,ntmps97;go_wp2;go_ret;exact⟨aR (by simp[h1,h2]),rfl⟩
  ·go_enter func97,ntmps97;go_wp2;go_ret;exact⟨aR (by simp[h1,h2]),rfl⟩
 ·go_enter func97,ntmps97;go_wp2;go_ret;exact⟨aR aE,rfl⟩
theorem Iw (h)(o:h.Ok):(hA h)[0]?=some (int .u32 (rg h 0))/\(hA h)[33]?=some (.bool h.held)/\(hA h)[34]?=some (int .u32 h.aW)/\(hA h)[35]?=some (int i64 h.state)/\(hA h)[36]?=some (int i64 h.cause):=by unfold hA;simp only[arB];exact⟨mg o ab,bu o 1,bu o 2,bu o 3,bu o 4⟩
theorem zC (o:h.Ok)(w):Calls prog 69 #[agg (hA h)] w fun e w'=>e=returned (.bool (may h))/\Gr w w':=by
 obtain⟨c0,c1,c2,c3,c4⟩:=Iw h o;have HM:Hid (may h=decide (rg h 0=0/\(h.held=false->h.aW=0)/\(((h.state=0\/h.state=1)/\h.cause=0)\/(h.state=2/\1<=h.cause/\h.cause<=6)))):=rfl;generalize may h=M at *
 generalize hA h=A at *
 generalize rg h 0=x0 at *
 generalize h.held=x1 at *
 generalize h.aW=x2 at *
 generalize h.state=x3 at *
 generalize h.cause=x4 at *
 cases x1
 all_goals
  go_enter func69,ntmps69;go_wp2_with (go_at_call 97;refine(aH _ _ _ _).mono ?_;rintro e w' ⟨rfl,rfl⟩)
  all_goals
   go_ret;refine⟨aR ?_,(Gr.refl _).alloc _⟩;rw[HM.out,atN];simp at *
   omega
theorem dR (I:In w base g h l os ss)(c):Calls prog 134 #[pointer (some ⟨g,0,none⟩),int i64 c] w fun e w'=>e=returned (tuple #[])/\In w' base g (h.trap c) l os ss/\Ch g w w':=by
 obtain⟨c0,rfl,I⟩:=I;have k1:=(I.hcell ab).trans (bu I.ok 3);have k2:=(I.hcell ab).trans (bu I.ok 4);have fz:=I.fz;have o1:Hv.Ok { c0.h with state:=2 }:=⟨I.ok.len,I.ok.reg,I.ok.oW,I.ok.gP,I.ok.zy,I.ok.BO⟩;have J:Hid (Inv ((w.setCell ⟨g,35,none⟩ (int i64 2)).setCell ⟨g,36,none⟩ (int i64 c)) base g { c0 with h:=c0.h.trap c } l os ss):=
  (I.set ab (nZ I.ok 2) o1).set (c:={ c0 with h:={ c0.h with state:=2 } }) ab (xV o1 c) (I.ok.trap c)
 generalize c0.h.state=x1 at k1;generalize c0.h.cause=x2 at k2;go_enter func134,ntmps134;go_wp2;go_end0;exact⟨rfl,⟨_,rfl,J⟩,((Ch.refl g w).setCell _ _).setCell _ _⟩
theorem zD (I:In w base g h l os ss)(r x)(h0:0<=r)(h1:r<32)(hx0:0<=x)(hx1:x<4294967296):Calls prog 162 #[pointer (some ⟨g,0,none⟩),int i64 r,int .u32 x] w fun e w'=>e=returned (tuple #[])/\In w' base g (h.set r.toNat x) l os ss/\Ch g w w':=by
 obtain⟨c0,rfl,I⟩:=I;obtain⟨r,rfl⟩:=arI h0;simp only[arS];by_cases hr:r=0
 ·subst hr;have J:=kH I;go_enter func162,ntmps162;go_wp2;go_end0;exact⟨rfl,⟨c0,rfl,J⟩,Ch.refl g w⟩
 ·have hr2:r<32:=ab;have k1:=I.reg hr2;have fz:=I.fz;have e:c0.h.set r x={ c0.h with regs:=c0.h.regs.set r x }:=awm hr;have ok:=I.ok.set r hx0 hx1;rw[e]at ok ⊢;have J:=kH (I.set ab (zz I.ok hr2 x) ok);have hr':¬(r:Int)=0:=ab;generalize rg c0.h r=y at k1;go_enter func162,ntmps162;go_wp2;go_end0;exact⟨rfl,⟨_,rfl,J⟩,(Ch.refl g w).setCell _ _⟩
theorem eQ (I:In w base g h l os ss)(hl:l.length<=140737488351232)(op a)(h0:0<=a)(h1:a<4294967296):Calls prog 177 #[pointer (some ⟨g,0,none⟩),int i64 op,int .u32 a] w fun e w'=>e=returned (tuple #[int .u32 (aT l op a),.bool (bR l op a)])/\In w' base g (if bR l op a=true then h else h.trap 3) l os ss/\Ch g w w':=by
 have T:Hid (∀c,_):=fun c=>dR I c
 have HI:=kH I;obtain⟨c0,rfl,I⟩:=I;obtain⟨ao,cap,hm,M⟩:=I.mem.mem;have k1:w.cell? ⟨g,37,none⟩=some (slice ao l.length cap):=(I.dQ 0).trans (by rw[hm];rfl);have L:=kH (Mm.eQ cap op a M hl h0 h1);generalize aT l op a=X at *
 generalize bR l op a=B at *
 generalize l.length=n at *
 cases B
 ·go_enter func177,ntmps177;go_wp2_with fail;refine L.mono ?_;rintro e w' ⟨rfl,rfl⟩;go_wp2_with fail;refine(T 3).mono ?_;rintro e w2 ⟨rfl,I2,C2⟩;have HI2:=kH I2;go_wp2;go_ret2;exact⟨rfl,HI2,C2⟩
 ·go_enter func177,ntmps177;go_wp2_with fail;refine L.mono ?_;rintro e w' ⟨rfl,rfl⟩;go_wp2;go_ret2;exact⟨rfl,HI,Ch.refl _ _⟩
theorem Iy (x)(h0:0<=x)(h1:x<4294967296):bits .andNot .u32 x 1=x-x%2:=by
 obtain⟨x,rfl⟩:=arI h0;show IntKind.u32.wrap ((BitVec.ofInt 32 (x:Int) &&& ~~~ BitVec.ofInt 32 1).toNat:Int)=_
 have e:(~~~ BitVec.ofInt 32 1).toNat=(2^31-1)*2^1:=an;rw[axD,ofInt32 x h1,e,Dc.kZ];show((x/2^1%2^31*2^1:Nat):Int)%4294967296=_
 omega
theorem Ou (I:In w base g h l os ss)(op a b n)(ha:0<=a)(ha':a<4294967296)(hb:0<=b)(hb':b<4294967296)(hn:0<=n)(hn':n<4294967296):Calls prog 160 #[pointer (some ⟨g,0,none⟩),int i64 op,int .u32 a,int .u32 b,int .u32 n] w fun e w'=>e=returned (int .u32 (rX h op a b n))/\w'=w:=by
 obtain⟨c0,rfl,I⟩:=I;have k1:=(I.hcell ab).trans (bu I.ok 0);have p0:=I.ok.oW;have p1:=I.ok.gP;have HN:Hid (rX c0.h op a b n=if op=4 then Wd.lo (a+n)-Wd.lo (a+n)%2 else if op=3\/Wd.holds op a b=true then Wd.lo (c0.h.pc+n)else Wd.lo (c0.h.pc+4)):=rfl;generalize rX c0.h op a b n=N at *
 generalize c0.h.pc=pc at *
 have H:Hid (∀w,_):=fun w=>Ww.xY op a b w ha ha' hb hb'
 by_cases h4:op=4
 ·have b4:(op ==4)=true:=by simp[h4]
  have HE:Hid (N=Wd.lo (a+n)-Wd.lo (a+n)%2):=by unfold Hid;rw[HN.out,awn h4]
  go_enter func160,ntmps160;go_wp2_with fail;go_ret;refine⟨av ?_,rfl⟩;rw[HE.out,Iy _ ab ab];rfl
 ·have b4:(op ==4)=false:=by simp[h4]
  by_cases h3:op=3
  ·have b3:(op ==3)=true:=by simp[h3]
   have HE:Hid (N=Wd.lo (pc+n)):=by unfold Hid;rw[HN.out,awm h4,awn (.inl h3)]
   go_enter func160,ntmps160;go_wp2_with fail;go_ret;exact⟨av (by rw[HE.out];rfl),rfl⟩
  ·have b3:(op ==3)=false:=by simp[h3]
   have HE:Hid (N=if Wd.holds op a b=true then Wd.lo (pc+n)else Wd.lo (pc+4)):=by unfold Hid;rw[HN.out,awm h4];simp[h3]
   generalize Wd.holds op a b=B at *
   cases B
   ·go_enter func160,ntmps160;go_wp2_with fail;refine(H _).mono ?_;rintro e w' ⟨rfl,rfl⟩;go_wp2_with fail;go_ret;exact⟨av (by rw[HE.out];rfl),rfl⟩
   ·go_enter func160,ntmps160;go_wp2_with fail;refine(H _).mono ?_;rintro e w' ⟨rfl,rfl⟩;go_wp2_with fail;go_ret;exact⟨av (by rw[HE.out];rfl),rfl⟩
end Hc
namespace Hc
variable[Inhabited Hc.bH]
open Mm Hh
variable{a:Int}{W:World}{h:Hv}{x:Value}
theorem bC {a}{Q}(hg:o.guard=none)(s x)(t)(hop:o.op=Op.call { callee:=Callee.builtin Builtin.append,args:=#[s,x],argTypes:=#[t,t] })(base)(e)(i)(z)(size bytes)(h1:P.underlying t=some (.slice e))(h2:P.info? e=some i)(h3:i.zero=some z)(h4:i.size=size)(h5:i.bytes=bytes)(h6:z.cells.size=size)(h7:0<size)(v)(n)(olds)(hs:a.eval s=v)(hown:w.ownsRow base e size v n olds)(ad)(m c)(news)(hx:a.eval x=.slice (some ad) m c)(hn:news.length=m*size)(hc:∀j u,news[j]?=some u->w.cell? (ad.add j)=some u)(h1c:∀u∈news,u.oneCell'=true)(b1:n+m<=maxLen)(b2:(n+m)*bytes<=140737488355328)(hbase:base<=w.heap.size)(hK:∀v' w',w'.ownsRow base e size v' (n+m) (olds++news)->w.grownBy w' v.ownBlock->K (a.put o.dst v') w'):if Region.wanted o (yielded ops a.tmps)=true then Oper.wp P o a w K Q else E:=by
 have hw:Region.wanted o (yielded ops a.tmps)=true:=by simp[Region.wanted,hg]
 rw[awn hw];obtain⟨v',w',hrun,r1,r2,_⟩:=axp (P:=P) w base t o.type e i z size bytes h1 h2 h3 h4 h5 h6 h7 v n olds hown ad m c news hn hc h1c b1 b2 hbase;unfold Oper.wp;simp[execOp,hop,resolve,invoke,builtin,hs,hx,hrun,Result.andThen];exact hK v' w' r1 r2
structure Tb (w:World) (base:Nat):Prop where
 sizes:∀i n,([0,0,0,0,0,0,0,0,0,0,0,0,0,0,0,0,1,2,4]:List Int)[i]?=some n->w.cell? ⟨13,i,none⟩=some (int .u32 n)
 opers:∀i n,([0,0,0,0,0,0,0,0,0,0,0,0,0,0,0,0,0,0,0,28,31,32,33,36,37,30,34,35]:List Int)[i]?=some n->w.cell? ⟨10,i,none⟩=some (int i64 n)
 b1:13<base
 b2:10<base
theorem Tb.of (T:Tb w base)(h:Fr base w w'):Tb w' base:=⟨fun i n e=>(aw4 h.below (by exact T.b1)).trans (T.sizes i n e),fun i n e=>(aw4 h.below (by exact T.b2)).trans (T.opers i n e),T.b1,T.b2⟩
theorem Zb:(prog.info? 175).map (fun i=>(i.zero,i.size,i.bytes))=some (some (agg #[int .u32 0,int .u32 0]),2,8):=al
theorem vo:(prog.info? 37).map (fun i=>(i.zero,i.size,i.bytes))=some (some (int .u32 0),1,4):=al
theorem mQ (I:In w base g h l os ss)(hl:l.length<=140737488351232)(op a x)(h0:0<=a)(h1:a<4294967296)(hx0:0<=x)(hx1:x<4294967296)(ok:eP l op a=false):Calls prog 178 #[pointer (some ⟨g,0,none⟩),int i64 op,int .u32 a,int .u32 x] w fun e w'=>e=returned (tuple #[])/\In w' base g (h.trap 4) l os ss/\Ch g w w':=by
 have T:Hid (∀W,In W base g h l os ss->∀c,_):=fun W I c=>dR I c
 have HI:=kH I;obtain⟨c0,rfl,I⟩:=I;obtain⟨ao,cap,hm,M⟩:=I.mem.mem;have k1:w.cell? ⟨g,37,none⟩=some (slice ao l.length cap):=(I.dQ 0).trans (by rw[hm];rfl);have L:Hid (Calls prog 189 #[slice ao l.length cap,int i64 op,int .u32 a,int .u32 x] w fun e w'=>∃Ui n' cap',e=returned (tuple #[slice Ui n' cap',.bool false])/\Gr w w'):=by
  have:=Mm.dW cap op a x M hl h0 h1 hx0 hx1;rw[ok]at this;exact this.mono fun e w' ⟨a1,n1,c1,e1,_,e3⟩=>⟨a1,n1,c1,e1,e3⟩
 generalize l.length=n at *
 go_enter func178,ntmps178;go_wp2_with fail;refine L.mono ?_;rintro e w1 ⟨a1,n1,c1,rfl,G1⟩;have HI1:=kH (HI.of G1);have jw:=kH ((Ch.refl g w).gr G1);go_wp2_with fail;refine(T _ HI1 4).mono ?_;rintro e w2 ⟨rfl,I2,C2⟩;have HI2:=kH I2;have mh:=kH (jw.trans C2);go_wp2;refine awt (axf results178 _ _ _) rfl ?_;exact⟨rfl,HI2,mh⟩
theorem xZ (cap)(op a x)(M:Mem w ao n l)(hn:n<=140737488351232)(h0:0<=a)(h1:a<4294967296)(hx0:0<=x)(hx1:x<4294967296)(ok:eP l op a=true):Calls prog 189 #[slice ao n cap,int i64 op,int .u32 a,int .u32 x] w fun e w'=>e=returned (tuple #[slice (some ⟨w.heap.size,0,none⟩) n n,.bool true])/\rU w' w.heap.size n (jb l op a x)/\Gr w w':=by
 have hl:=M.len;have hok:rR n (iD op) a=true:=by unfold eP at ok;rw[hl]at ok;exact ok
 have e2:jb l op a x=put l a.toNat x (iD op):=by unfold jb;rw[ok];rfl
 rw[e2];obtain⟨b,o,rfl,hb,hc⟩:=M.spot (zw hok h0);obtain⟨a,rfl⟩:=arI h0;exact Mm.jJ b o n cap l op x a w hn hl ab hb hx0 hx1 hc hok
theorem zx {x}(ok:eP l op a=true):(jb l op a x).length=l.length:=by unfold jb;rw[ok];exact jD _ _ _ _
theorem Iz (ok:eP l op a=true):op=16\/op=17\/op=18:=by
 have h:¬iD op=0:=by
  intro h;simp[eP,rR,h]at ok
 unfold iD at h;repeat' split at h
 all_goals omega
theorem Gr.drew {a}(h:Gr a w):Gr a w.drew:=h.drewN 1
theorem aD {e:Nat}(h:w.ownsRow base e sz v n xs)(q:Gr w w'):w'.ownsRow base e sz v n xs:=aj h fun k o f hk=>q.block k (gs hk).1
theorem dA {size}{e}(h:w.ownsRow base e size v n xs)(hn:0<n):∃g cap,v=slice (some ⟨g,0,none⟩) n cap:=by
 rcases h.2 with⟨_,h0⟩|⟨g,cap,_,hv,_⟩
 ·omega
 ·exact⟨g,cap,hv⟩
theorem dX (h0:W.cell? ⟨b,0,none⟩=some x)(h1:W.cell? ⟨b,1,none⟩=some y):∀j u,([x,y]:List Value)[j]?=some u->W.cell? ((⟨b,0,none⟩:Addr).add j)=some u:=by
 intro j u hj;rw[cK]
 match j,hj with
 |0,hj=>simp at hj;subst hj;exact h0
 |1,hj=>simp at hj;subst hj;exact h1
theorem ow (a b):∀u∈[Value.int .u32 a,Value.int .u32 b],u.oneCell'=true:=by intro u hu;simp at hu;rcases hu with rfl|rfl<;>rfl
theorem jJ (I:In w base g h l os ss)(T:Tb w base)(hl:l.length<=140737488351232)(hss:ss.length<=1000000)(op a x)(h0:0<=a)(h1:a<4294967296)(hx0:0<=x)(hx1:x<4294967296)(ok:eP l op a=true):Calls prog 178 #[pointer (some ⟨g,0,none⟩),int i64 op,int .u32 a,int .u32 x] w fun e w'=>e=returned (tuple #[])/\In w' base g h (jb l op a x) os (ss++[(a,((iD op:Nat):Int))])/\Fr base w w':=by
 obtain⟨c0,rfl,I⟩:=I;obtain⟨ao,cap,hm,M⟩:=I.mem.mem;have k1:w.cell? ⟨g,37,none⟩=some (slice ao l.length cap):=(I.dQ 0).trans (by rw[hm];rfl);have L:=kH (xZ cap op a x M hl h0 h1 hx0 hx1 ok);have hk:=zx (x:=x) ok;have hop:=Iz ok;obtain⟨i0,hi,hz0,hz1,hz2⟩:=awS Zb;generalize jb l op a x=k at *
 have HI:=kH I;have HT:=kH T;rcases hop with rfl|rfl|rfl
 ·rw[show((iD 16:Nat):Int)=1 from rfl];go_enter func178,ntmps178;go_wp2_with fail;refine L.mono ?_;rintro e w1 ⟨rfl,R1,G1⟩;have J:=HI.stored G1 R1 hk;have q1:=(Gr.cell G1 _ (by exact HI.lt)).trans k1;have q2:=(HI.of G1).fz 37;have B:Fr base w (w1.setCell ⟨g,37,none⟩ (slice (some ⟨w.heap.size,0,none⟩) l.length l.length)):=HI.tY.below (((Ch.refl g w).gr G1).setCell _ _);go_wp2_with fail;generalize w1.setCell ⟨g,37,none⟩ (slice (some ⟨w.heap.size,0,none⟩) l.length l.length)=w2 at *
  have ND:=J.dQ 2;have fz:=J.fz;have hg:=J.lt;have ks:=(HT.of B).sizes 16 1 rfl;have HJ:=kH J;have HB:=kH B;go_region_law (refine bC rfl (tmp 33) (tmp 41) 140 rfl base 175 i0 _ 2 8 underlying140 hi hz0 hz1 hz2 rfl an c0.ax ss.length (tX ss) ar (aD HJ.ax b9) ⟨w2.heap.size,0,none⟩ 1 1 [int .u32 a,int .u32 (IntKind.u32.wrap (a+1))] ar rfl (dX aq aq) (ow _ _) bj ab (by have:=HJ.az;simp;omega) ?_;intro v' w' hown hgrow;obtain⟨g',cp,rfl⟩:=dA hown ab;obtain⟨c39,f39,F⟩:=HJ.iG (n:=ss.length+1) b9 hgrow (ss':=ss++[(a,1)]) aq (by rw[ll];exact hown);have HF:Hid _:=F;clear F hown hgrow)
  all_goals
   go_end0;exact⟨rfl,HF.1.tY,HB.trans HF.2⟩
 ·rw[show((iD 17:Nat):Int)=2 from rfl];go_enter func178,ntmps178;go_wp2_with fail;refine L.mono ?_;rintro e w1 ⟨rfl,R1,G1⟩;have J:=HI.stored G1 R1 hk;have q1:=(Gr.cell G1 _ (by exact HI.lt)).trans k1;have q2:=(HI.of G1).fz 37;have B:Fr base w (w1.setCell ⟨g,37,none⟩ (slice (some ⟨w.heap.size,0,none⟩) l.length l.length)):=HI.tY.below (((Ch.refl g w).gr G1).setCell _ _);go_wp2_with fail;generalize w1.setCell ⟨g,37,none⟩ (slice (some ⟨w.heap.size,0,none⟩) l.length l.length)=w2 at *
  have ND:=J.dQ 2;have fz:=J.fz;have hg:=J.lt;have ks:=(HT.of B).sizes 17 2 rfl;have HJ:=kH J;have HB:=kH B;go_region_law (refine bC rfl (tmp 33) (tmp 41) 140 rfl base 175 i0 _ 2 8 underlying140 hi hz0 hz1 hz2 rfl an c0.ax ss.length (tX ss) ar (aD HJ.ax b9) ⟨w2.heap.size,0,none⟩ 1 1 [int .u32 a,int .u32 (IntKind.u32.wrap (a+2))] ar rfl (dX aq aq) (ow _ _) bj ab (by have:=HJ.az;simp;omega) ?_;intro v' w' hown hgrow;obtain⟨g',cp,rfl⟩:=dA hown ab;obtain⟨c39,f39,F⟩:=HJ.iG (n:=ss.length+1) b9 hgrow (ss':=ss++[(a,2)]) aq (by rw[ll];exact hown);have HF:Hid _:=F;clear F hown hgrow)
  all_goals
   go_end0;exact⟨rfl,HF.1.tY,HB.trans HF.2⟩
 ·rw[show((iD 18:Nat):Int)=4 from rfl];go_enter func178,ntmps178;go_wp2_with fail;refine L.mono ?_;rintro e w1 ⟨rfl,R1,G1⟩;have J:=HI.stored G1 R1 hk;have q1:=(Gr.cell G1 _ (by exact HI.lt)).trans k1;have q2:=(HI.of G1).fz 37;have B:Fr base w (w1.setCell ⟨g,37,none⟩ (slice (some ⟨w.heap.size,0,none⟩) l.length l.length)):=HI.tY.below (((Ch.refl g w).gr G1).setCell _ _);go_wp2_with fail;generalize w1.setCell ⟨g,37,none⟩ (slice (some ⟨w.heap.size,0,none⟩) l.length l.length)=w2 at *
  have ND:=J.dQ 2;have fz:=J.fz;have hg:=J.lt;have ks:=(HT.of B).sizes 18 4 rfl;have HJ:=kH J;have HB:=kH B;go_region_law (refine bC rfl (tmp 33) (tmp 41) 140 rfl base 175 i0 _ 2 8 underlying140 hi hz0 hz1 hz2 rfl an c0.ax ss.length (tX ss) ar (aD HJ.ax b9) ⟨w2.heap.size,0,none⟩ 1 1 [int .u32 a,int .u32 (IntKind.u32.wrap (a+4))] ar rfl (dX aq aq) (ow _ _) bj ab (by have:=HJ.az;simp;omega) ?_;intro v' w' hown hgrow;obtain⟨g',cp,rfl⟩:=dA hown ab;obtain⟨c39,f39,F⟩:=HJ.iG (n:=ss.length+1) b9 hgrow (ss':=ss++[(a,4)]) aq (by rw[ll];exact hown);have HF:Hid _:=F;clear F hown hgrow)
  all_goals
   go_end0;exact⟨rfl,HF.1.tY,HB.trans HF.2⟩
theorem dW (I:In w base g h l os ss)(T:Tb w base)(hl:l.length<=140737488351232)(hss:ss.length<=1000000)(op a x)(h0:0<=a)(h1:a<4294967296)(hx0:0<=x)(hx1:x<4294967296):Calls prog 178 #[pointer (some ⟨g,0,none⟩),int i64 op,int .u32 a,int .u32 x] w fun e w'=>e=returned (tuple #[])/\In w' base g (aI h l op a x).h (aI h l op a x).m os (ss++(aI h l op a x).ax)/\Fr base w w':=by
 unfold aI;cases ok:eP l op a with
 |false=>
  refine(mQ I hl op a x h0 h1 hx0 hx1 ok).mono ?_;rintro e w' ⟨rfl,J,C⟩;exact⟨rfl,by simpa using J,I.below C⟩
 |true=>exact jJ I T hl hss op a x h0 h1 hx0 hx1 ok
theorem one_cell (h0:W.cell? ⟨b,0,none⟩=some x):∀j u,([x]:List Value)[j]?=some u->W.cell? ((⟨b,0,none⟩:Addr).add j)=some u:=by
 intro j u hj;rw[cK]
 match j,hj with
 |0,hj=>simp at hj;subst hj;exact h0
theorem one_one (a):∀u∈[Value.int .u32 a],u.oneCell'=true:=by intro u hu;simp at hu;subst hu;rfl
theorem vv (I:In w base g h l os ss)(hos:os.length<=1000000)(h17:rg h 17=1):Calls prog 181 #[pointer (some ⟨g,0,none⟩)] w fun e w'=>e=returned (tuple #[])/\In w' base g h l (os++[rg h 10]) ss/\Fr base w w':=by
 obtain⟨c0,rfl,I⟩:=I;have k17:w.cell? ⟨g,17,none⟩=some (int .u32 1):=by rw[<-h17];exact I.reg ab
 have k10:w.cell? ⟨g,10,none⟩=some (int .u32 (rg c0.h 10)):=I.reg ab;have k38:=I.dQ 1;have fz:=I.fz;have hg:=I.lt;have HJ:Hid _:=I;obtain⟨i0,hi,hz0,hz1,hz2⟩:=awS vo;generalize rg c0.h 10=x at *
 go_enter func181,ntmps181;go_wp2_with fail;go_region_law (refine bC rfl (tmp 22) (tmp 29) 36 rfl base 37 i0 _ 1 4 underlying36 hi hz0 hz1 hz2 rfl an c0.out os.length (os.map (Value.int .u32)) ar (aD HJ.out.out b9) ⟨w.heap.size,0,none⟩ 1 1 [int .u32 x] ar rfl (one_cell aq) (one_one _) bj ab (by have:=HJ.out.az;simp;omega) ?_;intro v' w' hown hgrow;obtain⟨g',cp,rfl⟩:=dA hown ab;obtain⟨c38,f38,F⟩:=HJ.out.rZ (n:=os.length+1) b9 hgrow (os':=os++[x]) aq (by rw[asl];exact hown);have HF:Hid _:=F;clear F hown hgrow)
 all_goals
  go_end0;exact⟨rfl,HF.1.tY,HF.2⟩
theorem vw (I:In w base g h l os ss)(h17:¬rg h 17=1):Calls prog 181 #[pointer (some ⟨g,0,none⟩)] w fun e w'=>e=returned (tuple #[])/\In w' base g (if rg h 17=0 then h.halt else h.trap 5) l os ss/\Fr base w w':=by
 have T:Hid (∀c,Calls prog 134 #[pointer (some ⟨g,0,none⟩),int i64 c] w fun e w'=>e=returned (tuple #[])/\In w' base g (h.trap c) l os ss/\Ch g w w'):=fun c=>dR I c
 have HI:=kH I;obtain⟨c0,rfl,I⟩:=I;have k17:w.cell? ⟨g,17,none⟩=some (int .u32 (rg c0.h 17)):=I.reg ab;have Uj:=(I.hcell ab).trans (bu I.ok 3);have fz:=I.fz;have o1:=I.ok.halt;have HJ:=kH (I.set ab (nZ I.ok 1) o1);generalize c0.h.state=y at *
 generalize hx:rg c0.h 17=x at *
 by_cases h0:x=0
 ·subst h0;rw[awn rfl];clear T;go_enter func181,ntmps181;go_wp2_with fail;go_end0;exact⟨rfl,HJ.tY,HI.below ((Ch.refl g w).setCell _ _)⟩
 ·rw[awm h0];have b0:(x ==0)=false:=by simp[h0]
  have b1:(x ==1)=false:=by simp[h17]
  go_enter func181,ntmps181;go_wp2_with fail;refine(T 5).mono ?_;rintro e w' ⟨rfl,I2,C2⟩;have HI2:=kH I2;have mh:=kH C2;go_wp2_with fail;go_end0;exact⟨rfl,HI2,HI.below mh⟩
theorem vz (I:In w base g h l os ss)(hos:os.length<=1000000):Calls prog 181 #[pointer (some ⟨g,0,none⟩)] w fun e w'=>e=returned (tuple #[])/\In w' base g (bE h l).h l (os++(bE h l).out) ss/\Fr base w w':=by
 unfold bE;by_cases h1:rg h 17=1
 ·rw[ak,awn h1];exact vv I hos h1
 ·refine(vw I h1).mono ?_;rintro e w' ⟨rfl,J,B⟩;refine⟨rfl,?_,B⟩;by_cases h0:rg h 17=0
  ·rw[awn h0]at J ⊢;simpa using J
  ·rw[awm h0]at J;rw[awm h0,awm h1];simpa using J
end Hc
namespace Kc
variable[Inhabited Hc.bH]
open Mm Ts Hc
variable{bs:List Bv}{b:Bv}{t:Int}
structure Bw (w:World) (bs:List Bv) (xs:List Value):Prop where
 len:xs.length=bs.length*2
 at_:∀(j:Nat) (b:Bv),bs[j]?=some b->∃u v,xs[j*2]?=some u/\xs[j*2+1]?=some v/\Bc w b u v
theorem Bc.ones (h:Bc w b u v):u.oneCell'=true/\v.oneCell'=true/\∃sa sn sc,v=slice sa sn sc:=by obtain⟨rfl,_,sa,sn,sc,rfl,_⟩:=h;exact⟨rfl,rfl,sa,sn,sc,rfl⟩
def bM (f t:Int) (bs:List Bv):List Bv:=bs.filter fun b=>!hasB b f t
theorem x8 (h:bs[j]?=some b):bM f t (bs.take (j+1))=if hasB b f t=true then bM f t (bs.take j)else bM f t (bs.take j)++[b]:=by
 unfold bM;rw[arW,h,List.filter_append];split
 ·rename_i q;simp[q]
 ·rename_i q;simp[q]
theorem Ow (f t)(bs:List Bv)(j):(bM f t (bs.take j)).length<=j:=by unfold bM;refine arF (List.length_filter_le _ _) ?_;simp;omega
theorem Ox:(prog.info? 64).map (fun i=>(i.zero,i.size,i.bytes))=some (some (agg #[int .u32 0,slice none 0 0]),2,32):=al
theorem xB:(prog.info? 54).map (·.size)=some 4:=al
theorem bB (g:Gr w w'){x}(h:w.heap[k]?=some x):w'.heap[k]?=some x:=by rw[g.block k (gs h).1];exact h
theorem dS {W:World}(O:W.ownsRow base 64 2 V n xs)(q:W.grownBy w' V.ownBlock){c}{t:Nat}{f}(h:W.heap[k]?=some (cells c t f))(ht:t≠64):w'.heap[k]?=some (cells c t f):=by
 rw[q.block k (gs h).1 (fun e=>by
  rcases O.2 with⟨h0,_⟩|⟨g',cp,cur,hv,_,hg,_⟩
  ·rw[h0]at e;cases e
  ·rw[hv]at e;injection e with e;exact aa h hg ht e)]
 exact h
theorem vB (h1:u.oneCell'=true)(h2:v.oneCell'=true):∀x∈[u,v],x.oneCell'=true:=by intro x hx;simp only[arG,arN,awQ]at hx;rcases hx with rfl|rfl<;>assumption
end Kc
namespace Kc
variable[Inhabited Hc.bH]
open Mm Ts Hc
variable{bs:List Bv}{cp:Nat}
def qD (k:Int):List Bv→Nat→List Bv
 | [],_=>[]
 |b::r,i=>if(i:Int)=k then qD k r (i+1)else b::qD k r (i+1)
theorem Oy (k:Int):∀(l:List Bv) (i:Nat),(qD k l i).length≤l.length
 | [],i=>arA _
 |b::r,i=>by
  have:=Oy k r (i+1);unfold qD;split
  ·simp;omega
  ·simp;omega
theorem Kb (O:w.ownsRow base 64 2 (slice (some ⟨g,0,none⟩) n cp) n xs):g<w.heap.size/\n<=cp/\∀j u,xs[j]?=some u->w.cell? ⟨g,j,none⟩=some u:=by
 refine⟨(O.lt g rfl).2,?_,fun j u hu=>?_⟩
 ·rcases O.2 with⟨h,_⟩|⟨g',cap,cur,e,_,_,h,_⟩
  ·cases h
  ·injection e with _ _ e3;omega
 ·have:=O.cells (g:=g) rfl j u hu;rwa[cK,arH]at this
theorem aaT (O:w.ownsRow base 64 2 (slice (some ⟨g,0,none⟩) n cp) n xs)(W:Bw w bs xs)(k m)(hm:bs.length=k+m):Bs w (some ⟨g,k*2,none⟩) m (bs.drop k):=by
 obtain⟨hg,_,hc⟩:=Kb O;refine⟨aE,fun _=>⟨g,k*2,rfl,hg,fun j x hx=>?_⟩⟩;rw[asc]at hx;obtain⟨u,v,h1,h2,h3⟩:=W.at_ (k+j) x hx;refine⟨u,v,?_,?_,h3⟩
 ·rw[show k*2+j*2=(k+j)*2 by omega];exact hc _ _ h1
 ·rw[show k*2+j*2+1=(k+j)*2+1 by omega];exact hc _ _ h2
theorem aaU (w)(a):Bs w a 0 []:=⟨rfl,fun h=>absurd h ab⟩
end Kc
namespace Kc
variable[Inhabited Hc.bH]
open Mm Ts Hc
def x9 (pc:Int) (bs:List Bv):Bv:=if 0<=place pc bs 0 then bs.getD (place pc bs 0).toNat ⟨0,[]⟩else⟨0,[]⟩
def ku (room:Int) (bs:List Bv) (b0:Bv):List Bv:=if room<((qD (place b0.pc bs 0) bs 0++[b0]).length:Int)then(qD (place b0.pc bs 0) bs 0++[b0]).drop 1 else qD (place b0.pc bs 0) bs 0++[b0]
def uy (room pu:Int) (bs:List Bv) (b0:Bv):Int:=if room<((qD (place b0.pc bs 0) bs 0++[b0]).length:Int)then wrap64 (pu+1)else pu
theorem gQ (pc:Int):∀(bs:List Bv) (k:Nat),place pc bs k = -1∨∃j x,place pc bs k=((k+j:Nat):Int)∧bs[j]?=some x
 | [],k=>.inl rfl
 |b::r,k=>by
  unfold place;split
  ·exact .inr ⟨0,b,rfl,rfl⟩
  ·rcases gQ pc r (k+1)with h|⟨j,x,h,hx⟩
   ·exact .inl h
   ·exact .inr ⟨j+1,x,by rw[h];congr 1;omega,by simpa using hx⟩
end Kc
namespace Kc
variable[Inhabited Hc.bH]
open Mm Ts Hc
variable{w w' a:World}{b:Bv}{ao:Option Addr}{n base b0 g cap j b1:Nat}{bs:List Bv}{v:Value}{is:List Iv}{xs cs:List Value}
def Uk (is:List Iv):List Value:=is.flatMap Oi
theorem IA (is):(Uk is).length=is.length*5:=by
 induction is with
 |nil=>rfl
 |cons p r ih=>simp only[Uk,arZ,ary,arM]at ih ⊢;rw[ih];simp[Oi];omega
theorem zF:∀(is:List Iv) (i j:Nat) (x:Iv),is[i]?=some x→j<5→(Uk is)[i*5+j]?=(Oi x)[j]?
 | [],i,j,x,h,_=>by simp at h
 |p::r,0,j,x,h,hj=>by
  simp at h;subst h;show(Oi p++Uk r)[0*5+j]?=_
  rw[asY,arH,arO (by simpa[Oi]using hj)]
 |p::r,i+1,j,x,h,hj=>by
  have ih:=zF r i j x (by simpa using h) hj;show(Oi p++Uk r)[(i+1)*5+j]?=_
  rw[arK (by simp[Oi];omega)];rw[show(i+1)*5+j-(Oi p).length=i*5+j by simp[Oi];omega];exact ih
theorem U6 (is):∀u∈Uk is,u.oneCell'=true:=by intro u hu;simp only[Uk,atH]at hu;obtain⟨i,_,hu⟩:=hu;simp only[Oi,arG,arN,awQ]at hu;rcases hu with rfl|rfl|rfl|rfl|rfl<;>rfl
structure Bv.Ok (b:Bv):Prop where
 pc:0<=b.pc/\b.pc<4294967296
 is:∀i∈b.is,i.Ok
 sz:b.is.length*40<=140737488351232
theorem Bc.ok {x y}(h:Bc w b x y):b.Ok:=by obtain⟨_,p,sa,sn,sc,_,I,hs⟩:=h;exact⟨p,I.ok,by rw[I.len];exact hs⟩
theorem Bs.ok (h:Bs w ao n bs):∀b∈bs,b.Ok:=fun b hb=>by obtain⟨j,hj⟩:=asv.1 hb;obtain⟨g,o,_,_,hc⟩:=h.spot (by rw[<-h.len];exact Nat.lt_of_le_of_lt (arQ _) (arw.1 hj).1);obtain⟨u,v,_,_,B⟩:=hc j b hj;exact B.ok
def Io (w:World) (base:Nat) (v:Value) (is:List Iv):Prop:=w.ownsRow base 59 5 v is.length (Uk is)
theorem Io.to (h:Io w base v is)(q:∀(k:Nat) (o) (f),w.heap[k]?=some (cells o 59 f)->w'.heap[k]?=w.heap[k]?):Io w' base v is:=aj h q
theorem Io.of (h:Io w base v is)(q:Gr w w'):Io w' base v is:=aD h q
theorem Io.low (h:Io w base v is)(hb:b0<=base):Io w b0 v is:=by
 obtain⟨h1,h2⟩:=h;refine⟨h1,?_⟩;rcases h2 with h2|⟨g,cp,cur,e1,e2,e3⟩
 ·exact .inl h2
 ·exact .inr ⟨g,cp,cur,e1,ab,e3⟩
theorem Io.shape (h:Io w base v is):∃a c,v=slice a is.length c:=by
 rcases h.2 with⟨rfl,e⟩|⟨g,cp,cur,rfl,_⟩
 ·exact⟨none,0,by rw[e]⟩
 ·exact⟨_,_,rfl⟩
theorem Io.bc (h:Io w base v b.is)(o:b.Ok):Bc w b (int .u32 b.pc) v:=by
 obtain⟨a,c,rfl⟩:=h.shape;refine⟨rfl,o.pc,a,_,c,rfl,⟨rfl,o.is,fun hn=>?_⟩,o.sz⟩;obtain⟨g,cp,e⟩:=dA h hn;injection e with e1 _ _;subst e1;have hl:=(h.lt g rfl).2;refine⟨g,0,rfl,hl,fun j i hj=>?_⟩;have q:∀t u,(Oi i)[t]?=some u->w.cell? ⟨g,j*5+t,none⟩=some u:=fun t u hu=>by
  have ht:=(arw.1 hu).1;have:=h.cells (g:=g) rfl (j*5+t) u (by rw[zF _ _ _ _ hj ht];exact hu);rwa[cK,arH]at this
 rw[arH];have q0:=q 0 _ rfl;rw[asK]at q0;exact⟨q0,q 1 _ rfl,q 2 _ rfl,q 3 _ rfl,q 4 _ rfl⟩
structure Bx (w:World) (base:Nat) (bs:List Bv) (xs:List Value):Prop where
 len:xs.length=bs.length*2
 at_:∀(j:Nat) (b:Bv),bs[j]?=some b->∃v,xs[j*2]?=some (int .u32 b.pc)/\xs[j*2+1]?=some v/\Io w base v b.is
theorem Bx.nil (w)(base):Bx w base [] []:=⟨rfl,fun j b h=>by simp at h⟩
theorem Bx.to (h:Bx w base bs xs)(q:∀(k:Nat) (o) (f),w.heap[k]?=some (cells o 59 f)->w'.heap[k]?=w.heap[k]?):Bx w' base bs xs:=
 ⟨h.len,fun j b hb=>by
  obtain⟨v,h1,h2,h3⟩:=h.at_ j b hb;exact⟨v,h1,h2,h3.to q⟩⟩
theorem Bx.of (h:Bx w base bs xs)(q:Gr w w'):Bx w' base bs xs:=h.to fun k o f hk=>q.block k (gs hk).1
theorem Bx.low (h:Bx w base bs xs)(hb:b0<=base):Bx w b0 bs xs:=
 ⟨h.len,fun j b hj=>by
  obtain⟨v,h1,h2,h3⟩:=h.at_ j b hj;exact⟨v,h1,h2,h3.low hb⟩⟩
theorem Bx.snoc (h:Bx w base bs xs)(hb:Io w base v b.is):Bx w base (bs++[b]) (xs++[int .u32 b.pc,v]):=by
 have hl:=h.len;refine⟨by simp[hl];omega,fun j c hc=>?_⟩;by_cases hj:j<bs.length
 ·rw[arO hj]at hc;obtain⟨y,h1,h2,h3⟩:=h.at_ j c hc;exact⟨y,by rw[arO ab];exact h1,by rw[arO ab];exact h2,h3⟩
 ·rw[arK ab]at hc;have hj2:j=bs.length:=by
   have:=(arw.1 hc).1;simp at this;omega
  subst hj2;simp at hc;subst hc;refine⟨v,?_,?_,hb⟩
  ·rw[arK ab,hl,Nat.sub_self];rfl
  ·rw[arK ab,hl,show bs.length*2+1-bs.length*2=1 by omega];rfl
theorem Bx.one (h:Bx w base bs xs):∀u∈xs,u.oneCell'=true:=fun u hu=>by
 obtain⟨i,hi⟩:=asv.1 hu;have hlt:=(arw.1 hi).1;have hl:=h.len;obtain⟨b,hb⟩:∃b,bs[i/2]?=some b:=⟨_,arq ab⟩;obtain⟨v,h1,h2,h3⟩:=h.at_ _ b hb;rcases atD i with e|e
 ·rw[show i/2*2=i by omega,hi]at h1;injection h1 with h1;subst h1;rfl
 ·rw[show i/2*2+1=i by omega,hi]at h2;injection h2 with h2;subst h2;obtain⟨a,c,rfl⟩:=h3.shape;rfl
theorem Bx.take (h:Bx w base bs xs)(k):Bx w base (bs.take k) (xs.take (k*2)):=by
 have hl:=h.len;refine⟨by rw[ase,ase,hl];omega,fun j b hj=>?_⟩;rw[ar9]at hj;split at hj
 ·obtain⟨v,h1,h2,h3⟩:=h.at_ j b hj;refine⟨v,?_,?_,h3⟩
  ·rw[ar9,eB];exact h1
  ·rw[ar9,eB];exact h2
 ·cases hj
theorem Bx.drop (h:Bx w base bs xs)(k):Bx w base (bs.drop k) (xs.drop (k*2)):=by
 have hl:=h.len;refine⟨by rw[asz,asz,hl];omega,fun j b hj=>?_⟩;rw[asc]at hj;obtain⟨v,h1,h2,h3⟩:=h.at_ _ b hj;refine⟨v,?_,?_,h3⟩
 ·rw[asc,show k*2+j*2=(k+j)*2 by omega];exact h1
 ·rw[asc,show k*2+(j*2+1)=(k+j)*2+1 by omega];exact h2
theorem Bx.app {ds}(h:Bx w base ds xs)(k:Bx w base bs ys):Bx w base (ds++bs) (xs++ys):=by
 have hl:=h.len;have kl:=k.len;refine⟨by rw[ary,ary,hl,kl];omega,fun j b hj=>?_⟩;by_cases hlt:j<ds.length
 ·rw[arO hlt]at hj;obtain⟨v,h1,h2,h3⟩:=h.at_ j b hj;exact⟨v,by rw[arO ab];exact h1,by rw[arO ab];exact h2,h3⟩
 ·rw[arK ab]at hj;obtain⟨v,h1,h2,h3⟩:=k.at_ _ b hj;refine⟨v,?_,?_,h3⟩
  ·rw[arK ab,show j*2-xs.length=(j-ds.length)*2 by omega];exact h1
  ·rw[arK ab,show j*2+1-xs.length=(j-ds.length)*2+1 by omega];exact h2
theorem Bx.bw (h:Bx w base bs xs)(o:∀b∈bs,b.Ok):Bw w bs xs:=
 ⟨h.len,fun j b hj=>by
  obtain⟨v,h1,h2,h3⟩:=h.at_ j b hj;exact⟨_,v,h1,h2,h3.bc (o b (arE hj))⟩⟩
structure Bq (w:World) (ao:Option Addr) (n:Nat) (bs:List Bv):Prop where
 len:bs.length=n
 spot:0<n->∃b o,ao=some ⟨b,o,none⟩/\b<w.heap.size/\∀j x,bs[j]?=some x->w.cell? ⟨b,o+j*2,none⟩=some (int .u32 x.pc)/\∃sa sc,w.cell? ⟨b,o+j*2+1,none⟩=some (slice sa x.is.length sc)
theorem Bq.of (h:Bq w ao n bs)(g:Gr w w'):Bq w' ao n bs:=
 ⟨h.len,fun hn=>by
  obtain⟨b,o,e,hb,hc⟩:=h.spot hn;refine⟨b,o,e,arD hb g.size,fun j i hj=>?_⟩;obtain⟨h0,sa,sc,h1⟩:=hc j i hj;exact⟨(g.cell _ (by exact hb)).trans h0,sa,sc,(g.cell _ (by exact hb)).trans h1⟩⟩
theorem Bs.bq (h:Bs w ao n bs):Bq w ao n bs:=
 ⟨h.len,fun hn=>by
  obtain⟨b,o,e,hb,hc⟩:=h.spot hn;refine⟨b,o,e,hb,fun j x hj=>?_⟩;obtain⟨u,v,h0,h1,rfl,_,sa,sn,sc,rfl,I,_⟩:=hc j x hj;exact⟨h0,sa,sc,by rw[I.len];exact h1⟩⟩
structure Rw (w:World) (base g cap:Nat) (cs:List Value):Prop where
 low:base<=g
 row:w.heap[g]?=some (cells cs.toArray 64 (0,0))
 len:cs.length=cap*2
 cap:cap<=maxLen
theorem Rw.open (h:w.ownsRow base 64 2 (slice (some ⟨g,0,none⟩) n cap) n xs):n<=cap/\∃cs,Rw w base g cap cs/\cs.take (n*2)=xs:=by
 obtain⟨h1,h2⟩:=h;rcases h2 with⟨e,_⟩|⟨g',cp,cur,e,hb,hg,hn,hm,hs,ht⟩
 ·cases e
 ·injection e with e1 _ e3;injection e1 with e1;injection e1 with e1;subst e1;subst e3;obtain⟨cs⟩:=cur;exact⟨hn,cs,⟨hb,hg,by simpa using hs,hm⟩,ht⟩
theorem Rw.own {m}(h:Rw w base g cap cs)(hm:m<=cap):w.ownsRow base 64 2 (slice (some ⟨g,0,none⟩) m cap) m (cs.take (m*2)):=⟨by rw[ase,h.len];omega,.inr ⟨g,cap,_,rfl,h.low,h.row,hm,h.cap,by simpa using h.len,rfl⟩⟩
theorem Rw.cell (h:Rw w base g cap cs){u}(hu:cs[j]?=some u):w.cell? ⟨g,j,none⟩=some u:=by rw[cr h.row];simpa using hu
theorem Rw.isS (h:Rw w base g cap cs)(hj:j<cap*2):(w.cell? ⟨g,j,none⟩).isSome=true:=by rw[h.cell (arq (by rw[h.len];exact hj))];rfl
theorem Rw.fz (h:Rw w base g cap cs)(j):w.frozen? ⟨g,j,none⟩=false:=iA h.row
theorem Rw.lt (h:Rw w base g cap cs):g<w.heap.size:=(gs h.row).1
theorem Rw.of (h:Rw w base g cap cs)(q:Gr w w'):Rw w' base g cap cs:=⟨h.low,bB q h.row,h.len,h.cap⟩
theorem hsC {t:Nat}(g:Nat):∀(vs:List Value) (o:Nat) (w:World) (cs:List Value),w.heap[g]?=some (cells cs.toArray t (0,0))→o+vs.length≤cs.length→(w.setCells g o vs).heap[g]?=some (cells (cs.take o++vs++cs.drop (o+vs.length)).toArray t (0,0))
 | [],o,w,cs,h,_=>by simp[World.setCells,h]
 |v::r,o,w,cs,h,hl=>by
  rw[World.setCells];have h1:=awE w g o _ _ v h;simp only[arp]at h1;simp only[arM]at hl;rw[hsC g r (o+1) _ (cs.set o v) h1 aE];have e1:(cs.set o v).take (o+1)=cs.take o++[v]:=by
   rw[arW,List.take_set,List.set_eq_of_length_le aE];simp[show o<cs.length by omega]
  have e2:(cs.set o v).drop (o+1+r.length)=cs.drop (o+(r.length+1)):=by
   rw[List.drop_set_of_lt ab];congr 1;omega
  rw[e1,e2];simp only[arM,asq,arU,arT]
theorem chC {g:Nat}{a w:World}(h:Ch g a w):∀(vs:List Value) (o:Nat),Ch g a (w.setCells g o vs)
 | [],o=>h
 |v::r,o=>by rw[World.setCells];exact chC (h.setCell o v) r (o+1)
theorem Rw.set (h:Rw w base g cap cs){o}{vs}(ho:o+vs.length<=cap*2):Rw (w.setCells g o vs) base g cap (cs.take o++vs++cs.drop (o+vs.length)):=⟨h.low,hsC g vs o w cs h.row (by rw[h.len];exact ho),by simp only[ary,ase,asz,h.len];omega,h.cap⟩
theorem Rw.keep (h:Rw w base g cap cs)(q:Ch g w w')(k:Nat)(o)(t:Nat)(f)(ht:t≠64)(hk:w.heap[k]?=some (cells o t f)):w'.heap[k]?=w.heap[k]?:=q.block k (gs hk).1 (fun e=>aa hk h.row ht (by injection e))
theorem Bx.ch (B:Bx w b1 bs xs)(h:Rw w base g cap cs)(q:Ch g w w'):Bx w' b1 bs xs:=B.to fun k o f hk=>h.keep q k o _ f an hk
theorem Zc (h:Gr a w)(hg:a.heap.size<=g)(q:Ch g w w'):Gr a w':=Gr.grown h q (fun k e=>by injection e with e;omega)
theorem Rw.bq (h:Rw w base g cap cs)(B:Bx w b1 bs (cs.take (n*2)))(hl:bs.length=n):Bq w (some ⟨g,0,none⟩) n bs:=
 ⟨hl,fun hn=>⟨g,0,rfl,h.lt,fun j x hj=>by
  obtain⟨v,h1,h2,h3⟩:=B.at_ j x hj;obtain⟨a,c,rfl⟩:=h3.shape;rw[ar9]at h1 h2;split at h1
  ·split at h2
   ·rw[arH];exact⟨h.cell h1,a,c,h.cell h2⟩
   ·cases h2
  ·cases h1⟩⟩
def Ke (m:Nat):List Value:=(Builtin.zeroCells #[int .u32 0,slice none 0 0] m).toList
theorem uM (m):(Ke m).length=m*2:=by simp[Ke,size_zeroCells]
theorem U7 (m):∀u∈Ke m,u.oneCell'=true:=fun u hu=>by simp only[Ke,Builtin.zeroCells]at hu;simp at hu;obtain⟨i,_,rfl⟩:=hu;rcases atD i with e|e<;>simp[e]<;>rfl
theorem vC (w)(t e ty)(ht:P.underlying t=some (.slice e))(hv:∀w,(zeroValue e).run P w=.ok (.agg #[.int .u32 0,.slice none 0 0]) w)(b o n c)(hn:0<n)(hc:∀j,j<n*2->(w.cell? ⟨b,o+j,none⟩).isSome=true)(hf:∀j,j<n*2->w.frozen? ⟨b,o+j,none⟩=false):(Builtin.clear_ #[t] ty #[.slice (some ⟨b,o,none⟩) n c]).run P w=.ok (.tuple #[]) (w.setCells b o (Ke n)):=by have hst:=run_storeCells_cells (P:=P) b o (Ke n) 0 w (by rw[uM];simpa using hc) (by rw[uM];simpa using hf) (U7 n);simp only[asK]at hst;obtain⟨m,rfl⟩:∃m,n=m+1:=⟨n-1,ab⟩;have hzc:(Value.agg #[.int .u32 0,.slice none 0 0]).cells=#[.int .u32 0,.slice none 0 0]:=rfl;unfold Ke at hst ⊢;simp[Builtin.clear_,run_underlying ht,hv,hzc,hst]
end Kc
namespace Kc
variable[Inhabited Hc.bH]
open Mm Ts Hc
variable{p:Bv->Bool}
theorem aR {a b}(h:a=b):Ending.returned (.bool a)=Ending.returned (.bool b):=by rw[h]
def jP (p:Bv→Bool):List Bv→Nat→Int
 | [],_ => -1
 |b::bs,k=>if p b=true then(k:Int)else jP p bs (k+1)
theorem mq (pc:Int):∀(bs:List Bv) (k:Nat),jP (fun b=>decide (b.pc=pc)) bs k=place pc bs k
 | [],k=>rfl
 |b::r,k=>by
  unfold jP place;rw[mq pc r (k+1)];by_cases h:b.pc=pc<;>simp[h]
theorem lu:∀{bs:List Bv} {k:Nat},(∀(i:Nat) (x:Bv),bs[i]?=some x→p x=false)→jP p bs k = -1
 | [],k,_=>rfl
 |b::r,k,h=>by
  unfold jP;rw[awm (by rw[h 0 b rfl];simp)];exact lu fun i x hx=>h (i+1) x (by simpa using hx)
theorem qE:∀{bs:List Bv} {j k:Nat} {x:Bv},bs[j]?=some x→p x=true→(∀(i:Nat) (y:Bv),i<j→bs[i]?=some y→p y=false)→jP p bs k=((k+j:Nat):Int)
 | [],j,k,x,h,_,_=>by simp at h
 |b::r,0,k,x,h,e,_=>by
  simp at h;subst h;unfold jP;rw[awn e,asK]
 |b::r,j+1,k,x,h,e,hn=>by
  unfold jP;rw[awm (by rw[hn 0 b ab rfl];simp)];have:=qE (k:=k+1) (bs:=r) (j:=j) (by simpa using h) e fun i y hi hy=>hn (i+1) y ab (by simpa using hy)
  rw[this];congr 1;omega
theorem U8 (p):∀(bs),(jP p bs 0 = -1/\∀(i:Nat) (x),bs[i]?=some x->p x=false)\/∃(j:Nat) (x:Bv),jP p bs 0=(j:Int)/\bs[j]?=some x/\p x=true/\∀(i) (y),i<j->bs[i]?=some y->p y=false:=fun bs=>by
 by_cases h:∃(j:Nat) (x:Bv),bs[j]?=some x/\p x=true
 ·obtain⟨j,hj⟩:=h;induction j using Nat.strongRecOn with
  |ind j ih=>
   by_cases h2:∃i:Nat,i<j/\∃x:Bv,bs[i]?=some x/\p x=true
   ·obtain⟨i,hi,hx⟩:=h2;exact ih i hi hx
   ·obtain⟨x,hx,hp⟩:=hj;have ha:∀(i:Nat) (y:Bv),i<j->bs[i]?=some y->p y=false:=fun i y hi hy=>by
     cases e:p y with
     |false=>rfl
     |true=>exact absurd ⟨i,hi,y,hy,e⟩ h2
    have:=qE (k:=0) hx hp ha;rw[arH]at this;exact .inr ⟨j,x,this,hx,hp,ha⟩
 ·have ha:∀(i:Nat) (x:Bv),bs[i]?=some x->p x=false:=fun i x hx=>by
   cases e:p x with
   |false=>rfl
   |true=>exact absurd ⟨i,x,hx,e⟩ h
  exact .inl ⟨lu ha,ha⟩
theorem IB (kb:w.cell? ⟨B,0,none⟩=some (int .u32 pc))(x)(sa)(n c):Calls prog 163 #[agg #[int .u32 x,slice sa n c],pointer (some ⟨B,0,none⟩)] w fun e w'=>e=returned (.bool (decide (x=pc)))/\Gr w w':=by
 have q1:∀o,(w.alloc o).cell? ⟨B,0,none⟩=some (int .u32 pc):=fun o=>(((Gr.refl w).alloc o).cell _ (by exact awo w _ kb)).trans kb
 go_enter func163,ntmps163;go_wp2;go_ret;refine⟨aR ?_,(Gr.refl _).alloc _⟩;first|rfl|simp
theorem Oz (w)(pc):Calls prog 137 #[int .u32 pc] w fun e w'=>∃B,e=returned (.func (.func 163) #[] #[pointer (some ⟨B,0,none⟩)])/\w'.cell? ⟨B,0,none⟩=some (int .u32 pc)/\Gr w w':=by go_enter func137,ntmps137;go_wp2;go_ret;exact⟨w.heap.size,rfl,cr (awk w _),(Gr.refl _).alloc _⟩
theorem Co (w)(f t):Calls prog 118 #[agg #[int .u32 f,int .u32 t]] w fun e w'=>∃B,e=returned (.func (.func 145) #[] #[pointer (some ⟨B,0,none⟩)])/\w'.heap[B]?=some (cells #[int .u32 f,int .u32 t] 175 (0,0))/\Gr w w':=by go_enter func118,ntmps118;go_wp2;go_ret;exact⟨w.heap.size,rfl,awk w _,(Gr.refl _).alloc _⟩
theorem iRg:(prog.info? 175).map (·.size)=some 2:=al
theorem Kq (w:World)(a b):((w.alloc a).alloc b).heap[w.heap.size+1]?=some b:=by have:=awk (w.alloc a) b;simpa using this
theorem yc (w)(hx:0<=x/\x<4294967296)(sa)(hn:n*40<=140737488351232)(c):Calls prog 87 #[agg #[int .u32 x,slice sa n c]] w fun e w'=>e=returned (agg #[int .u32 x,int .u32 (min (x+4*(n:Int)) 4294967295)])/\Gr w w':=by
 obtain⟨hx0,hx1⟩:=hx;have HX0:=kH hx0;have jy:=kH hx1;have hw1:IntKind.u64.wrap x=x:=by simp[IntKind.wrap,IntKind.signed,IntKind.bits];omega
 have hw2:IntKind.u64.wrap (n:Int)=(n:Int):=by simp[IntKind.wrap,IntKind.signed,IntKind.bits];omega
 have hw3:IntKind.u64.wrap (4*(n:Int))=4*(n:Int):=by simp[IntKind.wrap,IntKind.signed,IntKind.bits];omega
 have hw4:IntKind.u64.wrap (x+4*(n:Int))=x+4*(n:Int):=by simp[IntKind.wrap,IntKind.signed,IntKind.bits];omega
 by_cases hm:x+4*(n:Int)<=4294967295
 ·have hw5:IntKind.u32.wrap (x+4*(n:Int))=x+4*(n:Int):=by simp[IntKind.wrap,IntKind.signed,IntKind.bits];omega
  go_enter func87,ntmps87;go_wp2;rw[show min (x+4*(n:Int)) 4294967295=x+4*(n:Int)by rw[Int.min_def];split<;>omega];exact awt (v:=agg #[int .u32 x,int .u32 (x+4*(n:Int))]) (awZ results87 _ _ _ _ _ (0,0) _ rfl (Kq w _ _) underlying175 rfl iRg) rfl ⟨rfl,br.alloc _⟩
 ·go_enter func87,ntmps87;go_wp2;rw[show min (x+4*(n:Int)) 4294967295=4294967295 by rw[Int.min_def];split<;>omega];exact awt (v:=agg #[int .u32 x,int .u32 (4294967295)]) (awZ results87 _ _ _ _ _ (0,0) _ rfl (Kq w _ _) underlying175 rfl iRg) rfl ⟨rfl,br.alloc _⟩
theorem qF {t}(k0:w.cell? ⟨B,0,none⟩=some (int .u32 f))(k1:w.cell? ⟨B,1,none⟩=some (int .u32 t))(ht:t<4294967296){b}(ok:b.Ok)(sa)(sc):Calls prog 145 #[agg #[int .u32 b.pc,slice sa b.is.length sc],pointer (some ⟨B,0,none⟩)] w fun e w'=>e=returned (.bool (hasB b f t))/\Gr w w':=by
 have hB:=awo w _ k0;have BY:Hid (∀W:World,_):=fun W=>yc W ok.pc sa ok.sz sc
 have HH:Hid (hasB b f t=decide (max b.pc f<min (min (b.pc+4*(b.is.length:Int)) 4294967295) t)):=by
  unfold Hid hasB;rw[decide_eq_decide];simp only[Int.max_def,Int.min_def]
  (repeat' split)<;>omega
 have Q0:Hid (∀W:World,Gr w W->W.cell? ⟨B,0,none⟩=some (int .u32 f)/\W.cell? ⟨B,1,none⟩=some (int .u32 t)):=fun W G=>⟨(G.cell _ (by exact hB)).trans k0,(G.cell _ (by exact hB)).trans k1⟩
 generalize min (b.pc+4*(b.is.length:Int)) 4294967295=y at *
 generalize hasB b f t=hb at *
 generalize b.pc=x at *
 generalize b.is.length=n at *
 go_enter func145,ntmps145;go_wp2_with fail;refine(BY _).mono ?_;rintro e w1 ⟨rfl,G1⟩;have aU:=kH (br.trans G1);have q0:∀o,(w1.alloc o).cell? ⟨B,0,none⟩=some (int .u32 f):=fun o=>(Q0 _ (aU.alloc o)).1
 have q1:∀o,(w1.alloc o).cell? ⟨B,1,none⟩=some (int .u32 t):=fun o=>(Q0 _ (aU.alloc o)).2
 go_wp2
 all_goals
  go_ret;refine⟨aR ?_,aU.alloc _⟩;rw[HH.out,decide_eq_decide,Int.max_def,Int.min_def];all_goals ((repeat' split)<;>omega)
theorem OA (cap){bs}(R:Bq w ao n bs)(hs:n<=140737488351232)(B)(p)(Zd:∀(W) (b) (sa) (sc),Gr w W->b∈bs->Calls prog 163 #[agg #[int .u32 b.pc,slice sa b.is.length sc],pointer (some ⟨B,0,none⟩)] W fun e w'=>e=returned (.bool (p b))/\Gr W w'):Calls prog 136 #[slice ao n cap,.func (.func 163) #[] #[pointer (some ⟨B,0,none⟩)]] w fun e w'=>e=returned (int i64 (jP p bs 0))/\Gr w w':=by
 have Cl:=kH Zd;have HR:=kH R;have HN:=kH R.len;clear R Zd;go_enter func136,ntmps136;go_wp2_with fail;go_loopw [8] (fun i wr=>∃j:Nat,j<=n/\i=int i64 j/\(∀(i:Nat) (y:Bv),i<j->bs[i]?=some y->p y=false)/\Gr w wr) (fun i _=>n-(intOf i).toNat)
 case atStart=>exact⟨0,arQ _,rfl,fun i y h=>absurd h ab,Gr.refl _⟩
 case round=>
  obtain⟨j,hj,rfl,hno,G⟩:=hrel;have pM:=kH hno;have HG:Hid (Gr w wr):=G;clear hno G;by_cases hlt:j<n
  ·obtain⟨b,hb⟩:∃b,bs[j]?=some b:=⟨_,arq (by rw[HN.out];exact hlt)⟩;obtain⟨g1,o1,rfl,l1,hc⟩:=(HR.of HG).spot ab;obtain⟨c0,sa,sc,c1⟩:=hc j b hb;have HY:Hid (p b=true->jP p bs 0=(j:Int)):=fun h=>by have:=qE (k:=0) hb h pM;rwa[arH]at this
   have HZ:Hid (p b=false->∀(i:Nat) (y:Bv),i<j+1->bs[i]?=some y->p y=false):=fun h i y hi hy=>by
    by_cases e:i<j
    ·exact pM i y e hy
    ·have e2:i=j:=ab;subst e2;rw[hb]at hy;injection hy with hy;rw[<-hy];exact h
   have yg:Hid (∀W:World,Gr w W->Calls prog 163 #[agg #[int .u32 b.pc,slice sa b.is.length sc],pointer (some ⟨B,0,none⟩)] W fun e w'=>e=returned (.bool (p b))/\Gr W w'):=fun W G=>Cl W b sa sc G (arE hb)
   generalize p b=m at *
   clear hb Cl pM HR HN hc;generalize b.pc=x at *
   generalize b.is.length=q at *
   cases m with
   |true=>
    have NG:Hid (jP p bs 0=(j:Int)):=HY rfl;clear HY HZ;go_wp2_with fail;refine(yg _ HG).mono ?_;rintro e w1 ⟨rfl,G1⟩;have aU:=kH (HG.trans G1);go_wp2_with fail;go_ret;exact⟨by rw[NG.out];rfl,aU⟩
   |false=>
    have HZ2:=kH (HZ rfl);clear HY HZ;go_wp2_with fail;refine(yg _ HG).mono ?_;rintro e w1 ⟨rfl,G1⟩;have aU:=kH (HG.trans G1);go_wp2_with fail;go_roundw
    case rel=>exact⟨j+1,ab,by go_num,HZ2,aU⟩
    case measure=>simp[intOf];omega
  ·have ej:j=n:=ab;have HE:Hid (jP p bs 0 = -1):=lu fun i x hx=>pM i x (by rw[ej,<-HN.out];exact(arw.1 hx).1) hx
   go_wp2_with fail;go_ret;exact⟨by rw[HE.out];rfl,HG⟩
theorem Cq (cap){bs}(R:Bq w ao n bs)(hs:n<=140737488351232)(B)(p)(Zd:∀(W) (b) (sa) (sc),Gr w W->b∈bs->Calls prog 145 #[agg #[int .u32 b.pc,slice sa b.is.length sc],pointer (some ⟨B,0,none⟩)] W fun e w'=>e=returned (.bool (p b))/\Gr W w'):Calls prog 136 #[slice ao n cap,.func (.func 145) #[] #[pointer (some ⟨B,0,none⟩)]] w fun e w'=>e=returned (int i64 (jP p bs 0))/\Gr w w':=by
 have Cl:Hid (∀(W:World) (b:Bv) (sa:Option Addr) (sc:Nat),Gr w W->b∈bs->Calls prog 145 #[agg #[int .u32 b.pc,slice sa b.is.length sc],pointer (some ⟨B,0,none⟩)] W fun e w'=>e=returned (.bool (p b))/\Gr W w'):=Zd;have HR:Hid (Bq w ao n bs):=R;have HN:Hid (bs.length=n):=R.len;clear R Zd;go_enter func136,ntmps136;go_wp2_with fail;go_loopw [8] (fun i wr=>∃j:Nat,j<=n/\i=int i64 j/\(∀(i:Nat) (y:Bv),i<j->bs[i]?=some y->p y=false)/\Gr w wr) (fun i _=>n-(intOf i).toNat)
 case atStart=>exact⟨0,arQ _,rfl,fun i y h=>absurd h ab,Gr.refl _⟩
 case round=>
  obtain⟨j,hj,rfl,hno,G⟩:=hrel;have pM:Hid (∀(i:Nat) (y:Bv),i<j->bs[i]?=some y->p y=false):=hno;have HG:Hid (Gr w wr):=G;by_cases hlt:j<n
  ·obtain⟨b,hb⟩:∃b,bs[j]?=some b:=⟨_,arq (by rw[HN.out];exact hlt)⟩;obtain⟨g1,o1,rfl,l1,hc⟩:=(HR.of HG).spot ab;obtain⟨c0,sa,sc,c1⟩:=hc j b hb;have HY:Hid (p b=true->jP p bs 0=(j:Int)):=fun h=>by have:=qE (k:=0) hb h pM;rwa[arH]at this
   have HZ:Hid (p b=false->∀(i:Nat) (y:Bv),i<j+1->bs[i]?=some y->p y=false):=fun h i y hi hy=>by
    by_cases e:i<j
    ·exact pM i y e hy
    ·have e2:i=j:=ab;subst e2;rw[hb]at hy;injection hy with hy;rw[<-hy];exact h
   have yg:Hid (∀W:World,Gr w W->Calls prog 145 #[agg #[int .u32 b.pc,slice sa b.is.length sc],pointer (some ⟨B,0,none⟩)] W fun e w'=>e=returned (.bool (p b))/\Gr W w'):=fun W G=>Cl W b sa sc G (arE hb)
   generalize p b=m at *
   clear hb Cl pM HR HN hc;generalize b.pc=x at *
   generalize b.is.length=q at *
   cases m with
   |true=>
    have NG:Hid (jP p bs 0=(j:Int)):=HY rfl;clear HY HZ;go_wp2_with fail;refine(yg _ HG).mono ?_;rintro e w1 ⟨rfl,G1⟩;have aU:Hid (Gr w w1):=HG.trans G1;clear yg G1 c0 c1;go_wp2_with fail;go_ret;exact⟨by rw[NG.out];rfl,aU⟩
   |false=>
    have HZ2:=kH (HZ rfl);go_wp2_with fail;refine(yg _ HG).mono ?_;rintro e w1 ⟨rfl,G1⟩;have aU:=kH (HG.trans G1);go_wp2_with fail;go_roundw
    case rel=>exact⟨j+1,ab,by go_num,HZ2,aU⟩
    case measure=>simp[intOf];omega
  ·have ej:j=n:=ab;have HE:Hid (jP p bs 0 = -1):=lu fun i x hx=>pM i x (by rw[ej,<-HN.out];exact(arw.1 hx).1) hx
   go_wp2_with fail;go_ret;exact⟨by rw[HE.out];rfl,HG⟩
end Kc
namespace En
variable[Inhabited Hc.bH]
open Mm Hh Hc
variable{bs:List Kc.Bv}
def Rh (v:Value):Option (DataW Value×List MemPlace):=some (.held v,[])
theorem kU:Maps.Keyed prog 37:=Maps.int_keyed underlying37
theorem wfU (h0:0<=x)(h1:x<4294967296):(Lit.int .u32 x).wf=true:=by simp only[Lit.wf,arR,awD];exact⟨by show(0:Int)<=x;exact h0,by show x<=4294967295;omega⟩
theorem aeT (h:(Lit.int .u32 x).wf=true):0<=x/\x<4294967296:=by simp only[Lit.wf,arR,awD]at h;have h1:(0:Int)<=x:=h.1;have h2:x<=4294967295:=h.2;omega
theorem aeU (h0:0<=x)(h1:x<4294967296):keyOf prog 37 (.int .u32 x)=some (.int .u32 x):=Maps.keyOf_int_mk underlying37 (wfU h0 h1)
theorem Cr (G:Gr w w'):w.grownBy w' none:=⟨G.os,G.tape,G.output,G.size,fun k hk _=>G.block k hk⟩
theorem OB {D}(pd)(C)(hown:w.ownsMap prog 37 Rh b n D)(hdel:∀(W) (x) (v),w.grownBy W (some b)->0<=x->x<4294967296->Calls prog 120 #[.int .u32 x,v,.pointer (some ⟨C,0,none⟩)] W fun e w'=>e=.returned (.bool (pd (.int .u32 x) (.held v)))/\Gr W w'):Calls prog 119 #[.map (some b),.func (.func 120) #[] #[.pointer (some ⟨C,0,none⟩)]] w fun e w'=>e=.returned (.tuple #[])/\w'.ownsMap prog 37 Rh b n (Lib.deleteFuncD pd D)/\w.grownBy w' (some b):=by
 obtain⟨es0,rfl,hap,hkeys⟩:=hown.entries kU;have HD:=kH hdel;go_enter func119,ntmps119
 go_wp2_with (first
  |(at_range;refine wpList_range_own _ rfl _ 92 rfl 37 177 kU underlying92 Rh b n _ rfl hown ?_;intro w0 hrg0 hg0 hs0)
  |go_in)
 go_frame
 go_loopw [8] (fun _ wr=>∃(left:Lit→Bool) (cnt:Nat),wr.ranges prog 37 Rh b w.heap.size n (Maps.Fk pd es0 left) left cnt∧w.grownBy wr (some b))
  (fun _ wr=>wr.rangeLeft b w.heap.size)
 case atStart=>exact⟨_,_,by rw[Maps.Fk_start hkeys];exact hrg0,hg0.but _⟩
 case round=>
  obtain⟨left,cnt,hrg,hgw⟩:=hrel
  go_wp2_with (first
   |(at_next;refine wpList_next_ranges _ rfl _ rfl 37 kU Rh (Value.int .u32) id (fun key kl hk=>by obtain⟨x,rfl,_⟩:=Maps.keyOf_int_inv underlying37 hk;exact⟨x,rfl⟩) (fun v _ _=>⟨v,rfl⟩) b w.heap.size n _ _ _ rfl hrg ?_ ?_)
   |go_in)
  ·intro _ hl0;go_wp2;go_end0;exact⟨rfl,by rw[<-Maps.Fk_end hl0];exact hrg.owns,hgw⟩
  ·intro x c kl yd yp w1 cnt1 hkey hlx hv hat hrg1 hlt hg1 hs1 hen;obtain⟨x',ex,rfl,hwx⟩:=Maps.keyOf_int_inv underlying37 hkey;injection ex with _ ex;subst ex;have hv2:yd=.held c:=by
    have:some (DataW.held c,([]:List MemPlace))=some (yd,yp):=hv;injection this with this;injection this with this;exact this.symm
   rw[hv2]at hat;have hgw1:=hgw.andThen hg1 (fun j hj=>by cases hj;exact Or.inl (arA _));have hx:=aeT hwx;have hc:=HD w1 x c hgw1 hx.1 hx.2;have HC:=kH hc;have hbl:=hrg1.owns.lt;have hrl:=hrg1.lt;cases hp:pd (.int .u32 x) (.held c)with
   |false=>
    have mh:Hid (Calls prog 120 #[.int .u32 x,c,.pointer (some ⟨C,0,none⟩)] w1 fun e w'=>e=.returned (.bool false)/\Gr w1 w'):=by have:=HC;rwa[hp]at this
    go_wp2_with fail;refine axj mh ?_;rintro e w2 ⟨rfl,G2⟩;have hg2:=Cr G2;have hrg2:=hrg1.kept hg2 aq aq;go_wp2_with fail;go_roundw
    case rel=>exact⟨_,cnt1,by rw[<-Maps.Fk_stays hap (kU.key hkey) hlx hp hat];exact hrg2,hgw1.andThen hg2 (fun j hj=>by cases hj)⟩
    case measure=>rw[hrg2.left_eq,hrg.left_eq];exact hlt
   |true=>
    have mh:Hid (Calls prog 120 #[.int .u32 x,c,.pointer (some ⟨C,0,none⟩)] w1 fun e w'=>e=.returned (.bool true)/\Gr w1 w'):=by have:=HC;rwa[hp]at this
    go_wp2_with fail;refine axj mh ?_;rintro e w2 ⟨rfl,G2⟩;have hg2:=Cr G2;have hrg2:=hrg1.kept hg2 aq aq
    go_wp2_with (first
     |(at_delete;refine wpList_delete_ranges _ rfl _ _ 92 37 rfl 177 kU underlying92 Rh b w.heap.size n _ _ _ rfl hrg2 _ _ rfl hkey ?_;intro w3 cnt3 hrg3 hle hturn;go_frame)
     |go_in)
    rw[Maps.strike_twice]at hrg3;go_roundw
    case rel=>exact⟨_,cnt3,by rw[<-Maps.Fk_struck hap (kU.key hkey) hlx hp hat];exact hrg3,(hgw1.andThen hg2 (fun j hj=>by cases hj)).andThen hturn.grown (fun j hj=>by cases hj;exact Or.inr rfl)⟩
    case measure=>rw[hrg3.left_eq,hrg.left_eq];omega
theorem OC (kb:w.cell? ⟨B,0,none⟩=some (int .u32 pc))(x)(sa)(n c):Calls prog 146 #[agg #[int .u32 x,slice sa n c],pointer (some ⟨B,0,none⟩)] w fun e w'=>e=returned (.bool (decide (x=pc)))/\Gr w w':=by
 have q1:∀o,(w.alloc o).cell? ⟨B,0,none⟩=some (int .u32 pc):=fun o=>(((Gr.refl w).alloc o).cell _ (by exact awo w _ kb)).trans kb
 go_enter func146,ntmps146;go_wp2;go_ret;refine⟨Kc.aR ?_,(Gr.refl _).alloc _⟩;first|rfl|simp
theorem U9 (w)(pc):Calls prog 122 #[int .u32 pc] w fun e w'=>∃B,e=returned (.func (.func 146) #[] #[pointer (some ⟨B,0,none⟩)])/\w'.cell? ⟨B,0,none⟩=some (int .u32 pc)/\Gr w w':=by go_enter func122,ntmps122;go_wp2;go_ret;exact⟨w.heap.size,rfl,cr (awk w _),(Gr.refl _).alloc _⟩
theorem Vm (cap){bs}(R:Kc.Bq w ao n bs)(hs:n<=140737488351232)(B)(p)(Zd:∀(W) (b) (sa) (sc),Gr w W->b∈bs->Calls prog 146 #[agg #[int .u32 b.pc,slice sa b.is.length sc],pointer (some ⟨B,0,none⟩)] W fun e w'=>e=returned (.bool (p b))/\Gr W w'):Calls prog 136 #[slice ao n cap,.func (.func 146) #[] #[pointer (some ⟨B,0,none⟩)]] w fun e w'=>e=returned (int i64 (Kc.jP p bs 0))/\Gr w w':=by
 have Cl:=kH Zd;have HR:=kH R;have HN:=kH R.len;clear R Zd;go_enter func136,ntmps136;go_wp2_with fail;go_loopw [8] (fun i wr=>∃j:Nat,j<=n/\i=int i64 j/\(∀(i:Nat) (y:Kc.Bv),i<j->bs[i]?=some y->p y=false)/\Gr w wr) (fun i _=>n-(intOf i).toNat)
 case atStart=>exact⟨0,arQ _,rfl,fun i y h=>absurd h ab,Gr.refl _⟩
 case round=>
  obtain⟨j,hj,rfl,hno,G⟩:=hrel;have pM:=kH hno;have HG:Hid (Gr w wr):=G;clear hno G;by_cases hlt:j<n
  ·obtain⟨b,hb⟩:∃b,bs[j]?=some b:=⟨_,arq (by rw[HN.out];exact hlt)⟩;obtain⟨g1,o1,rfl,l1,hc⟩:=(HR.of HG).spot ab;obtain⟨c0,sa,sc,c1⟩:=hc j b hb;have HY:Hid (p b=true->Kc.jP p bs 0=(j:Int)):=fun h=>by have:=Kc.qE (k:=0) hb h pM;rwa[arH]at this
   have HZ:Hid (p b=false->∀(i:Nat) (y:Kc.Bv),i<j+1->bs[i]?=some y->p y=false):=fun h i y hi hy=>by
    by_cases e:i<j
    ·exact pM i y e hy
    ·have e2:i=j:=ab;subst e2;rw[hb]at hy;injection hy with hy;rw[<-hy];exact h
   have yg:Hid (∀W:World,Gr w W->Calls prog 146 #[agg #[int .u32 b.pc,slice sa b.is.length sc],pointer (some ⟨B,0,none⟩)] W fun e w'=>e=returned (.bool (p b))/\Gr W w'):=fun W G=>Cl W b sa sc G (arE hb)
   generalize p b=m at *
   clear hb Cl pM HR HN hc;generalize b.pc=x at *
   generalize b.is.length=q at *
   cases m with
   |true=>
    have NG:Hid (Kc.jP p bs 0=(j:Int)):=HY rfl;clear HY HZ;go_wp2_with fail;refine(yg _ HG).mono ?_;rintro e w1 ⟨rfl,G1⟩;have aU:=kH (HG.trans G1);go_wp2_with fail;go_ret;exact⟨by rw[NG.out];rfl,aU⟩
   |false=>
    have HZ2:=kH (HZ rfl);clear HY HZ;go_wp2_with fail;refine(yg _ HG).mono ?_;rintro e w1 ⟨rfl,G1⟩;have aU:=kH (HG.trans G1);go_wp2_with fail;go_roundw
    case rel=>exact⟨j+1,ab,by go_num,HZ2,aU⟩
    case measure=>simp[intOf];omega
  ·have ej:j=n:=ab;have HE:Hid (Kc.jP p bs 0 = -1):=Kc.lu fun i x hx=>pM i x (by rw[ej,<-HN.out];exact(arw.1 hx).1) hx
   go_wp2_with fail;go_ret;exact⟨by rw[HE.out];rfl,HG⟩
theorem Kt (cap){bs}(B:Kc.Bs w ao n bs)(hs:n<=140737488351232){K}(hk:w.cell? ⟨K,0,none⟩=some (int .u32 pc)):Calls prog 121 #[slice ao n cap,.func (.func 146) #[] #[pointer (some ⟨K,0,none⟩)]] w fun e w'=>e=returned (.bool (decide (0<=Kc.place pc bs 0)))/\Gr w w':=by
 have X:Hid (Calls prog 136 #[slice ao n cap,.func (.func 146) #[] #[pointer (some ⟨K,0,none⟩)]] w fun e w'=>e=returned (int i64 (Kc.place pc bs 0))/\Gr w w'):=by
  unfold Hid;rw[<-Kc.mq];exact Vm cap B.bq hs K (fun b=>decide (b.pc=pc)) fun W b sa sc G _=>OC ((G.cell _ (by exact awo w _ hk)).trans hk) b.pc sa b.is.length sc
 generalize Kc.place pc bs 0=z at *
 go_enter func121,ntmps121;go_wp2_with fail;refine axj X ?_;rintro e w1 ⟨rfl,G1⟩;have HG:=kH G1;go_wp2_with fail;go_ret;refine⟨Kc.aR ?_,HG⟩;first|rfl|simp
theorem OD {C}(kc:w.cell? ⟨C,0,none⟩=some (pointer (some ⟨g,0,none⟩)))(k5:w.cell? ⟨g,5,none⟩=some (slice ao n cap))(B:Kc.Bs w ao n bs)(hs:n<=140737488351232)(x)(v):Calls prog 120 #[int .u32 x,v,pointer (some ⟨C,0,none⟩)] w fun e w'=>e=returned (.bool (!decide (0<=Kc.place x bs 0)))/\Gr w w':=by
 have AT:Hid (∀W:World,_):=fun W=>U9 W x
 have CF:Hid (∀(W:World) (K:Nat),Gr w W->W.cell? ⟨K,0,none⟩=some (int .u32 x)->_):=fun W K G hk=>Kt cap (B.of G) hs hk
 have HK5:Hid (∀W:World,Gr w W->W.cell? ⟨g,5,none⟩=some (slice ao n cap)/\W.cell? ⟨C,0,none⟩=some (pointer (some ⟨g,0,none⟩))):=fun W G=>⟨(G.cell _ (by exact awo w _ k5)).trans k5,(G.cell _ (by exact awo w _ kc)).trans kc⟩
 generalize decide (0<=Kc.place x bs 0)=q at *
 go_enter func120,ntmps120;go_wp2_with fail
 go_region_with (first
  |(go_at_call 122;refine(AT _).mono ?_;rintro e w2 ⟨K,rfl,hk,G2⟩;have HG2:Hid (Gr w w2):=Gr.trans b9 G2;have x5:=(HK5 _ HG2).1;have xc:=(HK5 _ HG2).2;clear G2 k5 kc)
  |(go_at_call 121;refine(CF _ K HG2 hk).mono ?_;rintro e w3 ⟨rfl,G3⟩;have eO:Hid (Gr w w3):=HG2.trans G3;clear G3))
 all_goals
  first
   |(go_wp2_with fail;go_ret;exact⟨rfl,eO⟩)
   |(go_ret;exact⟨rfl,eO⟩)
end En
end Go.Proofs.YtiadhbmnfjfioaaGreatDoor
