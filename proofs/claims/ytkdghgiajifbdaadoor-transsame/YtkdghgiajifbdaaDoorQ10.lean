/-
  Rm7, Sq, Hz, Mp: texts of ours that lie in one file.
-/
import Derived.Test.YtkdghgiajifbdaaDoorQ08
import Derived.Test.YtkdghgiajifbdaaDoorQ09
import Derived.Test.YtkdghgiajifbdaaDoorQ02
set_option linter.unusedVariables false
set_option linter.unusedSimpArgs false
set_option maxHeartbeats 8000000
set_option maxRecDepth 100000
namespace Go.Proofs.YtkdghgiajifbdaaDoor.Mi
open Go.ChangeShapes Go.WideShapes Go.ChangeAt Go.RowKit Mm Hh Hc

variable {h : Hv} {n base g : Nat} {w : World} {r : Rn} {bf bt : Int} {M O S : Value}
def gL (h:Hv) (M O:Value) (n:Int) (S:Value):List Value:=hL h++[M,O,.int .i64 n,S]
def gA (h:Hv) (M O:Value) (n:Int) (S:Value):Array Value:=(gL h M O n S).toArray
theorem gL_len (o:h.Ok)(M O:Value)(n:Int)(S:Value):(gL h M O n S).length=41:=by simp [gL,hL_len o]
theorem gA_size (o:h.Ok)(M O:Value)(n:Int)(S:Value):(gA h M O n S).size=41:=by simp [gA,gL_len o]
theorem zDidA:(Tryd.prog.info? 50).bind (·.zero)=some (.agg (gA h0 nilS nilS 0 nilS)):=by kernel_rfl
theorem zRun:(Tryd.prog.info? 91).bind (·.zero)=some (.agg (uA (mstart h0 []) nilS nilS nilS 0 0)):=by kernel_rfl
theorem iDidA:(Tryd.prog.info? 50).map (·.size)=some 41:=by kernel_rfl
theorem iHa:(Tryd.prog.info? 43).map (·.size)=some 37:=by kernel_rfl
theorem built_didA (o:h.Ok)(v:Value)(hv:v.cells=#[v]):Tryd.prog.built 50 [(0,.agg (hA h)),(1,v)]=some (gA h v nilS 0 nilS):=by
 obtain ⟨it,hi,hz⟩:=info_zero zDidA
 have hsz:(gA h0 nilS nilS 0 nilS).size=41:=gA_size h0_ok _ _ _ _
 have hsz2:=gA_size o v nilS 0 nilS
 have hl:=hL_len o
 have hl0:=hL_len h0_ok
 refine built_two (n:=37) hi Tryd.underlying50 hz (ps:=[(0,37),(37,1),(38,1),(39,1),(40,1)]) (by kernel_rfl) rfl rfl (hA h) (hA_size o) v hv (by show 38≤(gA _ _ _ _ _).size;rw [hsz];omega) _ ?_ ?_ ?_ ?_
 ·show _=(gA _ _ _ _ _).size;rw [hsz,hsz2]
 ·intro k hk
  unfold gA gL hA
  rw [List.getElem?_toArray,List.getElem?_toArray,List.getElem?_append_left (by omega)]
 ·unfold gA gL
  rw [List.getElem?_toArray,List.getElem?_append_right (by omega),hl]
  rfl
 ·intro k hk
  show _=(gA _ _ _ _ _)[k]?
  unfold gA gL
  rw [List.getElem?_toArray,List.getElem?_toArray,List.getElem?_append_right (by omega),List.getElem?_append_right (by omega),hl,hl0]
  obtain ⟨j,hj⟩:∃j,k-37=j+1:=⟨k-38,by omega⟩
  rw [hj]
  rfl
theorem built_run {P:Program}{t:TypeId}{it:TypeInfo}{z:Value}{fs:Array Field}{ps:List (Nat×Nat)}(hi:P.info? t=some it)(hu:P.underlying t=some (.struct fs))(hz:it.zero=some z)
  (hp:fs.toList.mapM (fun f=>(P.info? f.type).map fun i=>(f.offset,i.size))=some ps){p q m:Nat}(p0:ps.toArray[0]?=some (0,n))(p1:ps.toArray[2]?=some (p,1))(p2:ps.toArray[5]?=some (q,m))(A:Array Value)(hA:A.size=n)(v:Value)(hv:v.cells=#[v])(B:Array Value)(hB:B.size=m)
  (hn:n≤p)(hq:p<q)(hs:q+m≤z.cells.size)
  (R:Array Value)(h1:∀k,k<n→R[k]?=A[k]?)(h2:R[p]?=some v)(h4:∀k,q≤k→k<q+m→R[k]?=B[k-q]?)(h3:∀k,n≤k→k≠p→(k<q∨q+m≤k)→R[k]?=z.cells[k]?):P.built t [(0,.agg A),(2,v),(5,.agg B)]=some R:=by
 unfold Program.built
 simp only [hi,hu,hz,hp]
 have a1:=fold_set 0 A z.cells
 have a2:=fold_set p #[v] (A.zipIdx.foldl (fun cs (x:Value×Nat)=>cs.setIfInBounds (0+x.2) x.1) z.cells)
 have a3:=fold_set q B ((#[v]:Array Value).zipIdx.foldl (fun cs (x:Value×Nat)=>cs.setIfInBounds (p+x.2) x.1) (A.zipIdx.foldl (fun cs (x:Value×Nat)=>cs.setIfInBounds (0+x.2) x.1) z.cells))
 unfold Instr.fill
 simp only [p0]
 have e:∀A:Array Value,(Value.agg A).cells=A:=fun _=>rfl
 rw [e,if_neg (by simp [hA];omega)]
 unfold Instr.fill
 simp only [p1]
 rw [hv,if_neg (by rw [a1.1];simp;omega)]
 unfold Instr.fill
 simp only [p2]
 rw [e,if_neg (by rw [a2.1,a1.1];simp [hB];omega)]
 unfold Instr.fill
 congr 1
 apply Array.ext_getElem?
 intro k
 rw [a3.2 k,a2.2 k,a1.2 k,a2.1,a1.1]
 by_cases hk:k<n
 ·rw [if_neg (by omega),if_neg (by simp;omega),if_pos (by omega),h1 k hk];simp
 ·by_cases hk2:k=p
  ·subst hk2
   rw [if_neg (by omega),if_pos (by simp;omega),h2];simp
  ·by_cases hk3:q≤k∧k<q+m
   ·rw [if_pos (by omega),h4 k hk3.1 hk3.2]
   ·rw [if_neg (by omega),if_neg (by simp;omega),if_neg (by omega),h3 k (by omega) hk2 (by omega)]
theorem built_start (o:h.Ok)(l:List UInt8)(v:Value)(bf bt:Int):Tryd.prog.built 91 [(0,.agg (gA h v nilS 0 nilS)),(2,.int .u32 h.pc),(5,.agg #[.int .u32 bf,.int .u32 bt])]=some (uA (mstart h l) v nilS nilS bf bt):=by
 obtain ⟨it,hi,hz⟩:=info_zero zRun
 have ok0:(mstart h0 []).Ok:=⟨h0_ok,rfl,fun j=>by unfold mstart;simp only;match j with
  | 0=>decide
  | 1=>decide
  | 2=>decide
  | 3=>decide
  | j+4=>simp,by decide,by decide⟩
 have hsz:(uA (mstart h0 []) nilS nilS nilS 0 0).size=50:=uA_size ok0 _ _ _ _ _
 have hl:=hL_len o
 have hl0:=hL_len h0_ok
 refine built_run (n:=41) (p:=45) (q:=48) (m:=2) hi Tryd.underlying91 hz (ps:=[(0,41),(41,4),(45,1),(46,1),(47,1),(48,2)]) (by kernel_rfl) rfl rfl rfl (gA h v nilS 0 nilS) (gA_size o _ _ _ _) _ rfl _ rfl (by omega) (by omega) (by show 50≤(uA _ _ _ _ _ _).size;rw [hsz];omega) _ ?_ ?_ ?_ ?_
 ·intro k hk
  unfold uA gA gL
  rw [List.getElem?_toArray,List.getElem?_toArray]
  by_cases h37:k<37
  ·rw [List.getElem?_append_left (by show k<(hL h).length;omega),List.getElem?_append_left (by show k<(hL h).length;omega)]
   rfl
  ·rw [List.getElem?_append_right (by show (hL h).length≤k;omega),List.getElem?_append_right (by show (hL h).length≤k;omega),show (hL (mstart h l).h).length=37 from hl,hl]
   obtain ⟨j,hj⟩:∃j,k-37=j:=⟨_,rfl⟩
   rw [hj]
   have:j=0∨j=1∨j=2∨j=3:=by omega
   rcases this with rfl|rfl|rfl|rfl<;>rfl
 ·unfold uA
  rw [List.getElem?_toArray,List.getElem?_append_right (by show (hL h).length≤45;omega),show (hL (mstart h l).h).length=37 from hl]
  rfl
 ·intro k h1 h2
  unfold uA
  rw [List.getElem?_toArray,List.getElem?_append_right (by show (hL h).length≤k;omega),show (hL (mstart h l).h).length=37 from hl]
  have:k=48∨k=49:=by omega
  rcases this with rfl|rfl<;>rfl
 ·intro k h1 h2 h3
  show _=(uA _ _ _ _ _ _)[k]?
  unfold uA
  rw [List.getElem?_toArray,List.getElem?_toArray,List.getElem?_append_right (by show (hL h).length≤k;omega),List.getElem?_append_right (by show (hL h0).length≤k;omega),show (hL (mstart h l).h).length=37 from hl,show (hL (mstart h0 []).h).length=37 from hl0]
  obtain ⟨j,hj⟩:∃j,k=41+j:=⟨k-41,by omega⟩
  subst hj
  by_cases h9:j<9
  ·have:j=0∨j=1∨j=2∨j=3∨j=5∨j=6:=by omega
   rcases this with rfl|rfl|rfl|rfl|rfl|rfl<;>rfl
  ·rw [List.getElem?_eq_none (by rw [show (uT (mstart h l) v nilS nilS bf bt).length=13 from rfl];omega),List.getElem?_eq_none (by rw [show (uT (mstart h0 []) nilS nilS nilS 0 0).length=13 from rfl];omega)]
theorem start_ok (o:h.Ok)(l:List UInt8):(mstart h l).Ok:=
 ⟨o,rfl,fun j=>by unfold mstart;simp only;match j with
  | 0=>decide
  | 1=>decide
  | 2=>decide
  | 3=>decide
  | j+4=>simp,o.pc0,o.pc1⟩
theorem atW {p:World→Prop}{x:World}(F:World→Prop)(hF:F x)(h:∀y,F y→p y):p x:=h x hF
structure Dr (w:World) (r:Rn) (M O S:Value):Prop where
 ok:r.Ok
 mem:∃ao c,M=.slice ao r.m.length c∧Mem w ao r.m.length r.m
 out:∃b,w.ownsRow b 24 1 O r.out.length (r.out.map (Value.int .u32))
 sto:∃b,w.ownsRow b 46 2 S r.sto.length (rgs r.sto)
theorem RV.did (V:RV w base g r bf bt M O S):w.rangeAt g 0 (gL r.h M O r.n S):=by
 intro j v hv
 rw [Nat.zero_add,V.cell j]
 have hl:=hL_len V.ok.h
 unfold gL at hv
 unfold uA
 rw [List.getElem?_toArray]
 by_cases h37:j<37
 ·rw [List.getElem?_append_left (by omega)] at hv ⊢
  exact hv
 ·rw [List.getElem?_append_right (by omega),hl] at hv ⊢
  obtain ⟨k,hk⟩:∃k,j-37=k:=⟨_,rfl⟩
  rw [hk] at hv ⊢
  match k,hv with
  | 0,hv=>exact hv
  | 1,hv=>exact hv
  | 2,hv=>exact hv
  | 3,hv=>exact hv
  | k+4,hv=>simp at hv
theorem gA_one {n:Int}(h1:M.oneCell'=true)(h2:O.oneCell'=true)(h3:S.oneCell'=true):(gA h M O n S).all (·.oneCell')=true:=by
 refine all_oneCell_toArray ?_
 intro v hv
 simp only [gL,hL,List.mem_append,List.mem_map,List.mem_cons,List.not_mem_nil,or_false] at hv
 rcases hv with (⟨n,_,rfl⟩|rfl|rfl|rfl|rfl|rfl)|rfl|rfl|rfl|rfl<;>first|rfl|assumption
theorem RV.ones (V:RV w base g r bf bt M O S):(gL r.h M O r.n S).toArray.all (·.oneCell')=true:=by
 obtain ⟨ao,c,e1⟩:=V.mem.form
 obtain ⟨a2,c2,e2⟩:=owns_word V.out
 obtain ⟨a3,c3,e3⟩:=owns_word V.sto
 exact gA_one (by rw [e1];rfl) (by rw [e2];rfl) (by rw [e3];rfl)
theorem RV.dr (V:RV w base g r bf bt M O S){k:Nat}(hk:base≤k){Z:Array Value}(hb:w.heap[k]?=some (.cells Z 50 (0,0)))(cs:Array Value):Dr (w.setRow k cs) r M O S:=by
 have ne:∀{t:Nat},t≠50→∀{j:Nat} {o:Array Value} {f:Nat×Nat},w.heap[j]?=some (.cells o t f)→(w.setRow k cs).heap[j]?=w.heap[j]?:=fun ht _ _ _ hj=>sro (ne_of_types hj hb ht)
 obtain ⟨ao,c,e,m,far⟩:=V.mem.keep (w':=w.setRow k cs) (fun j hj=>sro (by omega)) (fun j o f hj=>ne (by decide) hj)
 exact ⟨V.ok,⟨ao,c,e,m⟩,⟨base,owns_to V.out fun j o f hj=>ne (by decide) hj⟩,⟨base,owns_to V.sto fun j o f hj=>ne (by decide) hj⟩⟩
theorem Fu.gr {a b:World}(h:Fu w.heap.size a b)(G:Gr w a):Gr w b:=Below.trans G h.below
theorem Play_any {ao:Option Addr}(cap:Nat){code:List Mv}(C:Cs w ao n code)(hmay:mayC code=true)(oh:h.Ok){mo:Option Addr}{ml:Nat}(mc:Nat){l:List UInt8}(Mm:Mem w mo ml l)(hl:ml≤4096)(bf bt steps:Int):
  Calls Tryd.prog 19 #[.slice ao n cap,.agg (hA h),.slice mo ml mc,.agg #[.int .u32 bf,.int .u32 bt],.int .i64 steps] w fun e w'=>∃M O S,e=.returned (.agg (gA (mplay bf bt steps h l code).h M O (mplay bf bt steps h l code).n S))∧Dr w' (mplay bf bt steps h l code) M O S∧Gr w w':=by
 have HB1:Hid (Tryd.prog.built 50 [(0,.agg (hA h)),(1,.slice mo ml mc)]=some (gA h (.slice mo ml mc) nilS 0 nilS)):=built_didA oh _ rfl
 have HB2:Hid (Tryd.prog.built 91 [(0,.agg (gA h (.slice mo ml mc) nilS 0 nilS)),(2,.int .u32 h.pc),(5,.agg #[.int .u32 bf,.int .u32 bt])]=some (uA (mstart h l) (.slice mo ml mc) nilS nilS bf bt)):=built_start oh l _ bf bt
 have HSH:Hid ((hA h).size=37):=hA_size oh
 have HSU:Hid ((uA (mstart h l) (.slice mo ml mc) nilS nilS bf bt).size=50):=uA_size (start_ok oh l) _ _ _ _ _
 have h32:(hA h)[32]?=some (.int .u32 h.pc):=by unfold hA;rw [List.getElem?_toArray];exact hL_fld oh 0
 have HV:Hid (∀X:World,X.heap.size=w.heap.size+1+1+1→Gr w X→RV (X.alloc (.cells (uA (mstart h l) (.slice mo ml mc) nilS nilS bf bt) 91)) w.heap.size (w.heap.size+1+1+1) (mstart h l) bf bt (.slice mo ml mc) nilS nilS):=fun X hX G=>by
  have G2:Gr w (X.alloc (.cells (uA (mstart h l) (.slice mo ml mc) nilS nilS bf bt) 91)):=G.alloc _
  refine ⟨start_ok oh l,by omega,by rw [←hX];exact heap_alloc_new X _,⟨mo,mc,?_,?_,?_⟩,World.ownsRow_nil _ _ _ _,World.ownsRow_nil _ _ _ _⟩
  ·show Value.slice mo ml mc=.slice mo l.length mc
   rw [Mm.len]
  ·show Mem _ mo l.length l
   rw [Mm.len]
   exact Mm.of G2
  ·intro ad e h0
   have hlen:0<ml:=by have:=Mm.len;have h1:0<l.length:=h0;omega
   obtain ⟨b,o,e2,hb,_⟩:=Mm.spot hlen
   rw [e] at e2
   obtain rfl:=Option.some.inj e2
   exact .inl hb
 have HMl:Hid (l.length=ml):=Mm.len
 have HC:Hid (Cs w ao n code):=C
 have HCL:Hid (code.length=n):=C.len
 have HMay:Hid (code.length≤200∧∀i∈code,micOk i=true):=by
  unfold mayC at hmay
  simp only [Bool.and_eq_true,decide_eq_true_eq,List.all_eq_true] at hmay
  exact hmay
 have HOH:Hid h.Ok:=oh
 have n200:n≤200:=by have:=HMay.out.1;have:=HCL.out;omega
 clear C hmay Mm oh
 generalize hHA:hA h=H0 at *
 generalize hUA:uA (mstart h l) (.slice mo ml mc) nilS nilS bf bt=U0 at *
 generalize hGA:gA h (.slice mo ml mc) nilS 0 nilS=G0 at *
 clear hHA hUA hGA
 generalize h.pc=pc at *
 go_enter Tryd.func19,Tryd.ntmps19
 go_wp2_with (first
  | (refine wpList_load_row rfl 43 (.tmp 6) rfl w.heap.size rfl 43 H0 (0,0) _ ?lh1 Tryd.underlying43 rfl (by rw [HSH.out];exact iHa) ?_;(case lh1=>exact heap_up (((Gr.refl _).alloc _).alloc _) (heap_alloc_new w _)))
  | (refine wpList_buildTo rfl 50 _ rfl _ rfl G0 (by have:=HB1.out;simp [Act.eval,Act.put];exact this) ?_)
  | (refine wpList_buildTo rfl 91 _ rfl _ rfl U0 (by have:=HB2.out;simp [Act.eval,Act.put];exact this) ?_))
 refine atW (fun X=>RV X w.heap.size (w.heap.size+1+1+1) (mstart h l) bf bt (.slice mo ml mc) nilS nilS∧(∃Z:Array Value,Z.size=41∧X.heap[w.heap.size+1+1]?=some (.cells Z 50 (0,0)))∧Gr w X) ?_ ?_
 ·refine ⟨HV.out _ (by simp) ((((Gr.refl _).alloc _).alloc _).alloc _),⟨_,?_,heap_up ((Gr.refl _).alloc _) (by have:=heap_alloc_new ((w.alloc (.cells H0 43)).alloc (.cells #[.int .u32 bf,.int .u32 bt] 46)) (.cells #[.int .u32 0,.int .u32 0,.int .u32 0,.int .u32 0,.int .u32 0,.int .u32 0,.int .u32 0,.int .u32 0,.int .u32 0,.int .u32 0,.int .u32 0,.int .u32 0,.int .u32 0,.int .u32 0,.int .u32 0,.int .u32 0,.int .u32 0,.int .u32 0,.int .u32 0,.int .u32 0,.int .u32 0,.int .u32 0,.int .u32 0,.int .u32 0,.int .u32 0,.int .u32 0,.int .u32 0,.int .u32 0,.int .u32 0,.int .u32 0,.int .u32 0,.int .u32 0,.int .u32 0,.bool false,.int .u32 0,.int .i64 0,.int .i64 0,.slice none 0 0,.slice none 0 0,.int .i64 0,.slice none 0 0] 50 (0,0));rwa [World.size_alloc,World.size_alloc] at this)⟩,(((((Gr.refl _).alloc _).alloc _).alloc _).alloc _)⟩
  rfl
 rintro X ⟨V0,⟨Z,hZ,BZ⟩,GX⟩
 have HV0:Hid (RV X w.heap.size (w.heap.size+1+1+1) (mstart h l) bf bt (.slice mo ml mc) nilS nilS):=V0
 have HBZ:Hid (X.heap[w.heap.size+1+1]?=some (.cells Z 50 (0,0))):=BZ
 have HGX:Hid (Gr w X):=GX
 have HZ:Hid (Z.size=41):=hZ
 clear V0 BZ GX HV HB1 HB2 HSH HSU h32 hZ
 go_loopw [12] (fun i wr=>∃j:Nat,j≤n∧i=.int .i64 j∧Ru wr w.heap.size (w.heap.size+1+1+1) (mrun bf bt steps (mstart h l) (code.take j)) bf bt∧wr.heap[w.heap.size+1+1]?=some (.cells Z 50 (0,0))∧Gr w wr) (fun i _=>n-(intOf i).toNat)
 case atStart=>exact ⟨0,Nat.zero_le _,rfl,⟨_,_,_,HV0.out⟩,HBZ.out,HGX.out⟩
 case round=>
  obtain ⟨j,hj,rfl,R,B,G⟩:=hrel
  have HR:Hid (Ru wr w.heap.size (w.heap.size+1+1+1) (mrun bf bt steps (mstart h l) (code.take j)) bf bt):=R
  have HB:Hid (wr.heap[w.heap.size+1+1]?=some (.cells Z 50 (0,0))):=B
  have HG:Hid (Gr w wr):=G
  obtain ⟨b1,b2,b3,b4⟩:=bd_mrun bf bt steps (mstart h l) code j
  have b1':(mrun bf bt steps (mstart h l) (code.take j)).m.length≤4096:=by rw [b1];show l.length≤4096;rw [HMl.out];exact hl
  have b2':(mrun bf bt steps (mstart h l) (code.take j)).sto.length≤1000000:=by have:(mstart h l).sto.length=0:=rfl;omega
  have b3':(mrun bf bt steps (mstart h l) (code.take j)).out.length≤1000000:=by have:(mstart h l).out.length=0:=rfl;omega
  have b4':(mrun bf bt steps (mstart h l) (code.take j)).n≤1000000:=by have:(mstart h l).n=0:=rfl;omega
  have HTk:Hid (∀i,code[j]?=some i→(mrun bf bt steps (mstart h l) (code.take j)).over=false→mrun bf bt steps (mstart h l) (code.take (j+1))=mic bf bt steps (mrun bf bt steps (mstart h l) (code.take j)) i):=fun i hi ho=>mrun_take bf bt steps hi ho
  have HDn:Hid ((mrun bf bt steps (mstart h l) (code.take j)).over=true∨j=n→mplay bf bt steps h l code=mend (mrun bf bt steps (mstart h l) (code.take j))):=fun hd=>by
   unfold mplay
   rcases hd with ho|rfl
   ·rw [mrun_done bf bt steps ho]
   ·rw [←HCL.out,List.take_length]
  clear R B G b1 b2 b3 b4 HV0 HBZ HGX
  generalize mrun bf bt steps (mstart h l) (code.take j)=r at *
  obtain ⟨M,O,S,V⟩:=HR.out
  have HVr:Hid (RV wr w.heap.size (w.heap.size+1+1+1) r bf bt M O S):=V
  have q47:wr.cell? ⟨w.heap.size+1+1+1,47,none⟩=some (.bool r.over):=(V.last 2).trans rfl
  have q39:wr.cell? ⟨w.heap.size+1+1+1,39,none⟩=some (.int .i64 r.n):=(V.top 2).trans rfl
  have q45:wr.cell? ⟨w.heap.size+1+1+1,45,none⟩=some (.int .u32 r.here):=(V.last 0).trans rfl
  have q32:wr.cell? ⟨w.heap.size+1+1+1,32,none⟩=some (.int .u32 r.h.pc):=V.fld (j:=0) (by omega)
  have f32:=V.fz 32
  have hgl:w.heap.size+1+1+1<wr.heap.size:=V.lt
  have HW:Hid (W r.here):=⟨V.ok.h0,V.ok.h1⟩
  cases hov:r.over with
  | true=>
   have HEq:Hid (mplay bf bt steps h l code=r):=by
    unfold Hid
    rw [HDn.out (.inl hov)]
    unfold mend
    rw [if_neg (by simp [hov])]
   rw [hov] at q47
   clear V HDn HTk HR HC HMay
   by_cases hlt:j<n
   ·
    have HDid:Hid (wr.rangeAt (w.heap.size+1+1+1) 0 (gL r.h M O r.n S)):=HVr.out.did
    have HSZ:Hid ((gL r.h M O r.n S).length=41):=gL_len HVr.out.ok.h _ _ _ _
    have HSA:Hid ((gL r.h M O r.n S).toArray.size=41):=by unfold Hid;rw [List.size_toArray];exact HSZ.out
    have HON:Hid ((gL r.h M O r.n S).toArray.all (·.oneCell')=true):=HVr.out.ones
    have HGA:Hid (gA r.h M O r.n S=(gL r.h M O r.n S).toArray):=rfl
    generalize gL r.h M O r.n S=D at *
    go_wp2_with (first
     | (refine wpList_load_mid rfl 50 _ rfl (w.heap.size+1+1+1) 0 rfl D _ ?lm1 Tryd.underlying50 rfl (by rw [HSZ.out];exact iDidA) ?_;(case lm1=>exact HDid.out))
     | (refine wpList_store_row rfl 50 _ _ rfl (w.heap.size+1+1) D.toArray rfl rfl 50 Z ?sr1 (by rw [HSA.out];exact iDidA) (by rw [HSA.out];exact HZ.out) HON.out ?_;(case sr1=>exact HB.out)))
    refine bodyPost_ret (v:=.agg D.toArray) (results_cell_row Tryd.results19 _ _ _ _ _ (0,0) _ rfl (srh HB.out) Tryd.underlying50 rfl (by rw [HSA.out];exact iDidA)) rfl ⟨M,O,S,?_,?_,?_⟩
    ·rw [HEq.out,HGA.out]
    ·rw [HEq.out]
     exact HVr.out.dr (by omega) HB.out _
    ·exact gr_setRow HG.out (by omega) _
   ·have ej:j=n:=by omega
    have HDid:Hid (wr.rangeAt (w.heap.size+1+1+1) 0 (gL r.h M O r.n S)):=HVr.out.did
    have HSZ:Hid ((gL r.h M O r.n S).length=41):=gL_len HVr.out.ok.h _ _ _ _
    have HSA:Hid ((gL r.h M O r.n S).toArray.size=41):=by unfold Hid;rw [List.size_toArray];exact HSZ.out
    have HON:Hid ((gL r.h M O r.n S).toArray.all (·.oneCell')=true):=HVr.out.ones
    have HGA:Hid (gA r.h M O r.n S=(gL r.h M O r.n S).toArray):=rfl
    generalize gL r.h M O r.n S=D at *
    go_wp2_with (first
     | (refine wpList_load_mid rfl 50 _ rfl (w.heap.size+1+1+1) 0 rfl D _ ?lm1 Tryd.underlying50 rfl (by rw [HSZ.out];exact iDidA) ?_;(case lm1=>exact HDid.out))
     | (refine wpList_store_row rfl 50 _ _ rfl (w.heap.size+1+1) D.toArray rfl rfl 50 Z ?sr1 (by rw [HSA.out];exact iDidA) (by rw [HSA.out];exact HZ.out) HON.out ?_;(case sr1=>exact HB.out)))
    refine bodyPost_ret (v:=.agg D.toArray) (results_cell_row Tryd.results19 _ _ _ _ _ (0,0) _ rfl (srh HB.out) Tryd.underlying50 rfl (by rw [HSA.out];exact iDidA)) rfl ⟨M,O,S,?_,?_,?_⟩
    ·rw [HEq.out,HGA.out]
    ·rw [HEq.out]
     exact HVr.out.dr (by omega) HB.out _
    ·exact gr_setRow HG.out (by omega) _
  | false=>
   rw [hov] at q47
   by_cases hlt:j<n
   ·obtain ⟨c,hc⟩:∃c,code[j]?=some c:=⟨_,List.getElem?_eq_getElem (by rw [HCL.out];exact hlt)⟩
    obtain ⟨b,o,rfl,hb,hcell⟩:=(HC.out.of HG.out).spot (by omega)
    obtain ⟨p0,p1,p2,p3,p4⟩:=hcell j c hc
    have hmem:=List.mem_of_getElem? hc
    obtain ⟨m0,⟨m1,m2⟩,⟨m3,m4⟩,m5,m6⟩:=micOk_named (HMay.out.2 c hmem)
    have On:Hid (Calls Tryd.prog 40 #[.pointer (some ⟨w.heap.size+1+1+1,0,none⟩),.agg #[.int .i64 c.op,.int .i64 c.d,.int .i64 c.a,.int .i64 c.b,.int .u32 c.n],.int .i64 steps] wr fun e w'=>e=.returned (.tuple #[])∧Ru w' w.heap.size (w.heap.size+1+1+1) (mic bf bt steps r ⟨c.op,c.d,c.a,c.b,c.n⟩) bf bt∧Fu w.heap.size wr w'):=one_any HR.out c.op c.d c.a c.b c.n steps m1 m2 m3 m4 m5 m6 (HC.out.wn c hmem) b1' b2' b3' b4' m0
    have HNx:Hid (mrun bf bt steps (mstart h l) (code.take (j+1))=mic bf bt steps r ⟨c.op,c.d,c.a,c.b,c.n⟩):=HTk.out c hc hov
    clear V hcell hc hmem HTk HDn m0 m1 m2 m3 m4 m5 m6 hov
    obtain ⟨op,d,a,b0,nn⟩:=c
    simp only at *
    generalize mic bf bt steps r ⟨op,d,a,b0,nn⟩=r2 at *
    go_wp2_with fail
    refine On.out.mono ?_
    rintro e w2 ⟨rfl,R2,F2⟩
    have HR2:Hid (Ru w2 w.heap.size (w.heap.size+1+1+1) r2 bf bt):=R2
    have HG2:Hid (Gr w w2):=F2.gr HG.out
    have HB2:Hid (w2.heap[w.heap.size+1+1]?=some (.cells Z 50 (0,0))):=(F2.keep _ _ _ _ HB.out (by decide) (by decide) (by decide)).trans HB.out
    clear R2 F2 On q47 q39 q45 q32 f32 p0 p1 p2 p3 p4 HVr HR HB HG
    go_wp2_with fail
    go_roundw
    case rel=>exact ⟨j+1,by omega,by go_num,by rw [HNx.out];exact HR2.out,HB2.out,HG2.out⟩
    case measure=>simp [intOf];omega
   ·have ej:j=n:=by omega
    by_cases hz:r.n=0
    ·have HEq:Hid (mplay bf bt steps h l code=r):=by
      unfold Hid
      rw [HDn.out (.inr ej)]
      unfold mend
      rw [if_neg (by omega)]
     have hz2:(r.n:Int)=0:=by omega
     clear V HDn HTk HR HC HMay
     have HDid:Hid (wr.rangeAt (w.heap.size+1+1+1) 0 (gL r.h M O r.n S)):=HVr.out.did
     have HSZ:Hid ((gL r.h M O r.n S).length=41):=gL_len HVr.out.ok.h _ _ _ _
     have HSA:Hid ((gL r.h M O r.n S).toArray.size=41):=by unfold Hid;rw [List.size_toArray];exact HSZ.out
     have HON:Hid ((gL r.h M O r.n S).toArray.all (·.oneCell')=true):=HVr.out.ones
     have HGA:Hid (gA r.h M O r.n S=(gL r.h M O r.n S).toArray):=rfl
     generalize gL r.h M O r.n S=D at *
     go_wp2_with (first
      | (refine wpList_load_mid rfl 50 _ rfl (w.heap.size+1+1+1) 0 rfl D _ ?lm1 Tryd.underlying50 rfl (by rw [HSZ.out];exact iDidA) ?_;(case lm1=>exact HDid.out))
      | (refine wpList_store_row rfl 50 _ _ rfl (w.heap.size+1+1) D.toArray rfl rfl 50 Z ?sr1 (by rw [HSA.out];exact iDidA) (by rw [HSA.out];exact HZ.out) HON.out ?_;(case sr1=>exact HB.out)))
     refine bodyPost_ret (v:=.agg D.toArray) (results_cell_row Tryd.results19 _ _ _ _ _ (0,0) _ rfl (srh HB.out) Tryd.underlying50 rfl (by rw [HSA.out];exact iDidA)) rfl ⟨M,O,S,?_,?_,?_⟩
     ·rw [HEq.out,HGA.out]
     ·rw [HEq.out]
      exact HVr.out.dr (by omega) HB.out _
     ·exact gr_setRow HG.out (by omega) _
    ·have wp:=W.lo (r.here+4)
     have V2:=V.hart (i:=32) (by omega) (set_pc V.ok.h (Wd.lo (r.here+4))) (V.ok.h.go wp.1 wp.2)
     have HEq:Hid (mplay bf bt steps h l code={ r with h:=r.h.go (Wd.lo (r.here+4)) }):=by
      unfold Hid
      rw [HDn.out (.inr ej)]
      unfold mend
      rw [if_pos ⟨hov,by omega⟩]
     have HV2:Hid (RV (wr.setCell ⟨w.heap.size+1+1+1,32,none⟩ (.int .u32 (Wd.lo (r.here+4)))) w.heap.size (w.heap.size+1+1+1) { r with h:=r.h.go (Wd.lo (r.here+4)) } bf bt M O S):=V2
     have HB2:Hid ((wr.setCell ⟨w.heap.size+1+1+1,32,none⟩ (.int .u32 (Wd.lo (r.here+4)))).heap[w.heap.size+1+1]?=some (.cells Z 50 (0,0))):=(hso (by show w.heap.size+1+1≠w.heap.size+1+1+1;omega)).trans HB.out
     have HG2:Hid (Gr w (wr.setCell ⟨w.heap.size+1+1+1,32,none⟩ (.int .u32 (Wd.lo (r.here+4))))):=HG.out.setCell (by show w.heap.size≤w.heap.size+1+1+1;omega) _
     have Sm:Hid (∀V:World,Calls Tryd.prog 41 #[.int .u32 r.here,.int .u32 4] V fun e w'=>e=.returned (.int .u32 (Wd.lo (r.here+4)))∧w'=V):=fun V=>sum_any r.here 4 V HW.out ⟨by omega,by omega⟩
     have hz2:0<(r.n:Int):=by omega
     clear V V2 HDn HTk HR HC HMay hov wp
     generalize Wd.lo (r.here+4)=y at *
     generalize hr2:({ r with h:=r.h.go y }:Rn)=r2 at *
     have hn2:r.n=r2.n:=by rw [←hr2]
     go_wp2_with fail
     refine (Sm.out _).mono ?_
     rintro e w2 ⟨rfl,rfl⟩
     clear Sm
     have HDid:Hid ((w2.setCell ⟨w.heap.size+1+1+1,32,none⟩ (.int .u32 y)).rangeAt (w.heap.size+1+1+1) 0 (gL r2.h M O r2.n S)):=HV2.out.did
     have HSZ:Hid ((gL r2.h M O r2.n S).length=41):=gL_len HV2.out.ok.h _ _ _ _
     have HSA:Hid ((gL r2.h M O r2.n S).toArray.size=41):=by unfold Hid;rw [List.size_toArray];exact HSZ.out
     have HON:Hid ((gL r2.h M O r2.n S).toArray.all (·.oneCell')=true):=HV2.out.ones
     have HGA:Hid (gA r2.h M O r2.n S=(gL r2.h M O r2.n S).toArray):=rfl
     generalize gL r2.h M O r2.n S=D at *
     go_wp2_with (first
      | (refine wpList_load_mid rfl 50 _ rfl (w.heap.size+1+1+1) 0 rfl D _ ?lm1 Tryd.underlying50 rfl (by rw [HSZ.out];exact iDidA) ?_;(case lm1=>exact HDid.out))
      | (refine wpList_store_row rfl 50 _ _ rfl (w.heap.size+1+1) D.toArray rfl rfl 50 Z ?sr1 (by rw [HSA.out];exact iDidA) (by rw [HSA.out];exact HZ.out) HON.out ?_;(case sr1=>exact HB2.out)))
     refine bodyPost_ret (v:=.agg D.toArray) (results_cell_row Tryd.results19 _ _ _ _ _ (0,0) _ rfl (srh HB2.out) Tryd.underlying50 rfl (by rw [HSA.out];exact iDidA)) rfl ⟨M,O,S,?_,?_,?_⟩
     ·rw [HEq.out,HGA.out]
     ·rw [HEq.out]
      exact HV2.out.dr (by omega) HB2.out _
     ·exact gr_setRow HG2.out (by omega) _
end Go.Proofs.YtkdghgiajifbdaaDoor.Mi
namespace Go.Proofs.YtkdghgiajifbdaaDoor.Ts
open Mm Hh Mi

def hitB (bpc last:Int) (p:Int×Int):Bool:=decide (p.1<last∧bpc<Wd.lo (p.1+p.2))
def b1 (r:Rn):Rn:={ r with h:=(stp r.h r.m).h,m:=(stp r.h r.m).m,out:=r.out++(stp r.h r.m).out,n:=r.n+1,sto:=r.sto++(stp r.h r.m).sto }
def bstop (bpc last:Int) (k:Nat) (S:Sv):Bool:=decide (¬S.h.state=0) || (decide (¬S.h.pc=Wd.lo (bpc+(4*k+4))) || S.sto.any (hitB bpc last))
def bst (bpc last steps:Int):Nat→Nat→Rn→Rn
 | 0,_,r=>r
 | f+1,k,r=>if (r.n:Int)<steps then (if bstop bpc last k (stp r.h r.m)=true then b1 r else bst bpc last steps f (k+1) (b1 r)) else r
end Go.Proofs.YtkdghgiajifbdaaDoor.Ts
namespace Go.Proofs.YtkdghgiajifbdaaDoor.Hh
open Mm Wd

variable {h h' : Hv} {l m : List UInt8} {out : List Int} {sto : List (Int × Int)} {c : Int}
structure Rn (h:Hv):Prop where
 z:rg h 0=0
 hd:h.held=false→h.heldAt=0
 st:h.state=0
 cs:h.cause=0
theorem rn_of (m:may h=true)(s:h.state=0):Rn h:=by
 simp only [may,decide_eq_true_eq] at m
 obtain ⟨a,b,c⟩:=m
 exact ⟨a,b,s,by omega⟩
def Good (h:Hv) (l:List UInt8) (s:Sv):Prop:=may s.h=true∧s.m.length=l.length∧rg s.h 0=0∧s.out.length≤1∧(s.h.state≠0→{ s.h with state:=h.state,cause:=h.cause }=h∧s.m=l∧s.out=[])
theorem may_run (z:rg h 0=0)(hd:h.held=false→h.heldAt=0)(s:h.state=0)(c:h.cause=0):may h=true:=by
 simp only [may,decide_eq_true_eq];exact ⟨z,hd,.inl ⟨.inl s,c⟩⟩
theorem good_run (z:rg h' 0=0)(hd:h'.held=false→h'.heldAt=0)(s:h'.state=0)(c:h'.cause=0)(hm:m.length=l.length)(ho:out.length≤1):Good h l ⟨h',m,out,sto⟩:=
 ⟨may_run z hd s c,hm,z,ho,fun h=>absurd s h⟩
theorem good_trap (r:Rn h)(l:List UInt8)(c0:1≤c)(c1:c≤6):Good h l ⟨h.trap c,l,[],[]⟩:=by
 refine ⟨?_,rfl,r.z,by simp,fun _=>⟨?_,rfl,rfl⟩⟩
 ·simp only [may,decide_eq_true_eq];exact ⟨r.z,r.hd,.inr ⟨rfl,c0,c1⟩⟩
 ·cases h;rfl
theorem good_halt (r:Rn h)(l:List UInt8):Good h l ⟨h.halt,l,[],[]⟩:=by
 refine ⟨?_,rfl,r.z,by simp,fun _=>⟨?_,rfl,rfl⟩⟩
 ·simp only [may,decide_eq_true_eq];exact ⟨r.z,r.hd,.inl ⟨.inr rfl,r.cs⟩⟩
 ·cases h;rfl
theorem rg0_set (z:rg h 0=0)(r:Nat)(x:Int):rg (h.set r x) 0=0:=by
 unfold Hv.set;split
 ·exact z
 ·rw [rg_set,if_neg (by omega)];exact z
theorem set_flds (h:Hv)(r:Nat)(x:Int):(h.set r x).held=h.held∧(h.set r x).heldAt=h.heldAt∧(h.set r x).state=h.state∧(h.set r x).cause=h.cause:=by
 unfold Hv.set;split<;>exact ⟨rfl,rfl,rfl,rfl⟩
theorem good_done (r:Rn h')(res:Option Int)(rd:Nat)(nx:Int)(hm:m.length=l.length)(ho:out.length≤1):Good h l (done ⟨h',m,out,sto,res⟩ rd nx):=by
 unfold done Hv.put
 cases res with
 | none=>
  simp only
  unfold Hv.on
  rw [if_pos r.st]
  exact good_run r.z r.hd r.st r.cs hm ho
 | some x=>
  obtain ⟨f1,f2,f3,f4⟩:=set_flds h' rd x
  simp only
  unfold Hv.on
  rw [if_pos (f3.trans r.st)]
  exact good_run (h':=(h'.set rd x).go nx) (rg0_set r.z rd x) (by show (h'.set rd x).held=false→(h'.set rd x).heldAt=0;rw [f1,f2];exact r.hd) (f3.trans r.st) (f4.trans r.cs) hm ho
theorem good_stop (r:Rn h)(l:List UInt8)(c0:1≤c)(c1:c≤6)(rd:Nat)(nx:Int):Good h l (done ⟨h.trap c,l,[],[],none⟩ rd nx):=by
 unfold done Hv.put Hv.on
 simp only
 rw [if_neg (by show ¬(2:Int)=0;omega)]
 exact good_trap r l c0 c1
theorem rn_hold (r:Rn h)(a:Int):Rn (h.hold true a):=⟨r.z,fun e=>(by cases e),r.st,r.cs⟩
theorem rn_loose (r:Rn h):Rn (h.hold false 0):=⟨r.z,fun _=>rfl,r.st,r.cs⟩
theorem good_ins (r:Rn h)(l:List UInt8)(op rd r1 r2 im:Int):Good h l (ins h l op rd r1 r2 im):=by
 unfold ins eff
 split
 ·exact good_done r _ _ _ rfl (by simp)
 split
 ·exact good_done r _ _ _ rfl (by simp)
 split
 ·exact good_done r _ _ _ rfl (by simp)
 split
 ·unfold efLoad;split
  ·exact good_done r _ _ _ rfl (by simp)
  ·exact good_stop r l (by omega) (by omega) _ _
 split
 ·unfold efStore;split
  ·exact good_done r _ _ _ (stL_len' (by assumption)) (by simp)
  ·exact good_stop r l (by omega) (by omega) _ _
 split
 ·exact good_done r _ _ _ rfl (by simp)
 split
 ·exact good_done r _ _ _ rfl (by simp)
 split
 ·unfold efAtom;split
  ·unfold efLr;split
   ·exact good_done (rn_hold r _) _ _ _ rfl (by simp)
   ·exact good_stop r l (by omega) (by omega) _ _
  ·split
   ·unfold efSc;split
    ·split
     ·exact good_done (rn_loose r) _ _ _ (stL_len' (st_of_ld (by assumption))) (by simp)
     ·exact good_done (rn_loose r) _ _ _ rfl (by simp)
    ·exact good_stop r l (by omega) (by omega) _ _
   ·unfold efAmo;split
    ·exact good_done r _ _ _ (stL_len' (st_of_ld (by assumption))) (by simp)
    ·exact good_stop r l (by omega) (by omega) _ _
 split
 ·unfold efCall;split
  ·unfold done Hv.put Hv.on
   simp only
   rw [if_neg (by show ¬(1:Int)=0;omega)]
   exact good_halt r l
  ·split
   ·exact good_done r _ _ _ rfl (by simp)
   ·exact good_stop r l (by omega) (by omega) _ _
 split
 ·exact good_stop r l (by omega) (by omega) _ _
 ·exact good_done r _ _ _ rfl (by simp)
theorem good_stp (r:Rn h)(l:List UInt8):Good h l (stp h l):=by
 unfold stp insW
 split
 ·split
  ·exact good_trap r l (by omega) (by omega)
  ·exact good_ins r l _ _ _ _ _
 ·exact good_trap r l (by omega) (by omega)
theorem done_ok {e:Ev}(o:e.Ok l)(rd:Nat){nx:Int}(w:W nx):(done e rd nx).h.Ok:=on_ok (put_ok o.h rd o.res) w
theorem stp_ok (o:h.Ok)(l:List UInt8):(stp h l).h.Ok:=by
 unfold stp insW ins
 split
 ·split
  ·exact o.trap 2
  ·exact done_ok (eff_ok o l (W.reg o _) (W.reg o _) (W.lo _)) _ .nxt
 ·exact o.trap 1
end Go.Proofs.YtkdghgiajifbdaaDoor.Hh
namespace Go.Proofs.YtkdghgiajifbdaaDoor.Mc
open Mm Hh

end Go.Proofs.YtkdghgiajifbdaaDoor.Mc
