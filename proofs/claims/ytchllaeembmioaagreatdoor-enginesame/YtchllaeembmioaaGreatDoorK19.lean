/-
  Kj, Kl, Km, Kn: texts of ours that lie in one file.
-/
import Derived.Test.YtchllaeembmioaaGreatDoorK18
import Derived.Deep.RegionLaw
set_option linter.unusedVariables false
set_option linter.unusedSimpArgs false
set_option maxHeartbeats 8000000
set_option maxRecDepth 100000
namespace Go.Proofs.YtchllaeembmioaaGreatDoor.Kc
open Go.ChangeShapes Go.WideShapes Go.ChangeAt Go.RowKit Mm Ts Hc

variable {w : World} {base g n cap k : Nat} {cs : List Value}
theorem Delete_any (R:Rw w base g cap cs)(hn:n≤cap)(hk:k<n)(h1c:∀u∈(cs.take (n*2)).drop ((k+1)*2),u.oneCell'=true):
  Calls Tryz.prog 142 #[.slice (some ⟨g,0,none⟩) n cap,.int .i64 k,.int .i64 ((k:Int)+1)] w fun e w'=>e=.returned (.slice (some ⟨g,0,none⟩) (n-1) cap)∧∃cs',Rw w' base g cap cs'∧cs'.take ((n-1)*2)=cs.take (k*2)++(cs.take (n*2)).drop ((k+1)*2)∧Ch g w w':=by
 have hm:=R.cap
 unfold maxLen at hm
 have HR:Hid _:=R
 obtain ⟨i0,hi,hz0,hz1,hz2⟩:=info_parts infoB
 obtain ⟨news,hnews⟩:∃news,news=(cs.take (n*2)).drop ((k+1)*2):=⟨_,rfl⟩
 have hcl:=R.len
 have hlen:news.length=(n-(k+1))*2:=by rw [hnews,List.length_drop,List.length_take,hcl];omega
 have hget:∀t u,news[t]?=some u→cs[(k+1)*2+t]?=some u:=fun t u hu=>by
  rw [hnews,List.getElem?_drop,List.getElem?_take] at hu
  split at hu
  ·exact hu
  ·cases hu
 obtain ⟨A,hA,hsrc⟩:∃A:Addr,(if cap=k+1 then some (⟨g,0,none⟩:Addr) else some ⟨g,(k+1)*2,none⟩)=some A∧Hid (∀t u,news[t]?=some u→w.drew.cell? (A.add t)=some u):=by
  by_cases h:cap=k+1
  ·refine ⟨⟨g,0,none⟩,by simp [h],fun t u hu=>?_⟩
   have:=(List.getElem?_eq_some_iff.1 hu).1
   omega
  ·refine ⟨⟨g,(k+1)*2,none⟩,by simp [h],fun t u hu=>?_⟩
   rw [add_at]
   exact R.cell (hget t u hu)
 have s1:Hid _:=hlen
 have s2:Hid (∀u∈news,u.oneCell'=true):=fun u hu=>h1c u (by rw [←hnews];exact hu)
 have s3:Hid (∀j,j<news.length→(w.drew.cell? ⟨g,0+k*2+j,none⟩).isSome=true∧w.drew.frozen? ⟨g,0+k*2+j,none⟩=false):=fun j hj=>⟨R.isS (w:=w) (by omega),R.fz _⟩
 obtain ⟨W1,hW1⟩:∃W1,W1=w.drew.setCells g (0+k*2) news:=⟨_,rfl⟩
 have HW:Hid _:=hW1
 have R1:Rw W1 base g cap (cs.take (k*2)++news++cs.drop (k*2+news.length)):=by
  rw [hW1,Nat.zero_add]
  exact (R.of (Gr.refl w).drew).set (by omega)
 have HR1:Hid _:=R1
 have HCh:Hid (Ch g w W1):=by unfold Hid;rw [hW1];exact chC ((Ch.refl g w).gr (Gr.refl w).drew) _ _
 have HNw:Hid _:=hnews
 have hcr:∀ty,(Builtin.clear_ #[33] ty #[.slice (some ⟨g,(n-1)*2,none⟩) (n-(n-1)) (cap-(n-1))]).run Tryz.prog W1=.ok (.tuple #[]) (W1.setCells g ((n-1)*2) (zrs (n-(n-1)))):=fun ty=>
  run_clear2 W1 _ _ ty Tryz.underlying33 Tryz.zeroValue45 g ((n-1)*2) (n-(n-1)) (cap-(n-1)) (by omega) (fun j hj=>R1.isS (by omega)) (fun j hj=>R1.fz _)
 clear R hget hnews hlen hW1 R1 h1c hcl
 have e1:k+(n-(k+1))=n-1:=by omega
 have hic:k≤cap:=by omega
 have hjc:k+1≤cap:=by omega
 have hq1:(0:Int)≤(k:Int)+1:=by omega
 have hq2:(k:Int)+1≤(n:Int):=by omega
 go_enter Tryz.func142,Tryz.ntmps142
 go_wp2_with fail
 go_region_law (refine step_append_room rfl (.tmp 22) (.tmp 25) 33 rfl 45 i0 2 Tryz.underlying33 hi hz1 g 0 k cap (by simp [Act.eval,Act.put]) A (n-(k+1)) (cap-(k+1)) news (by simp [Act.eval,Act.put]) s1.out hsrc.out s2.out (by omega) s3.out ?_;rw [←HW.out])
 go_wp2_with fail
 go_ret
 have hl:=HR.out.len
 have hnl:=s1.out
 refine ⟨rfl,_,HR1.out.set (by rw [zrs_len];omega),?_,chC HCh.out _ _⟩
 have e2:(cs.take (k*2)).length=k*2:=by rw [List.length_take,hl];omega
 have e3:(cs.take (k*2)++news).length=(n-1)*2:=by rw [List.length_append,e2,hnl];omega
 rw [List.append_assoc,List.take_append_of_le_length (by simp only [List.length_take,List.length_append,List.length_drop];omega),List.take_take,Nat.min_self,←e3,List.take_left,HNw.out]
theorem without_any (R:Rw w base g cap cs)(hn:n≤cap)(hk:k<n)(h1c:∀u∈(cs.take (n*2)).drop ((k+1)*2),u.oneCell'=true):
  Calls Tryz.prog 121 #[.slice (some ⟨g,0,none⟩) n cap,.int .i64 k] w fun e w'=>e=.returned (.slice (some ⟨g,0,none⟩) (n-1) cap)∧∃cs',Rw w' base g cap cs'∧cs'.take ((n-1)*2)=cs.take (k*2)++(cs.take (n*2)).drop ((k+1)*2)∧Ch g w w':=by
 have hm:=R.cap
 unfold maxLen at hm
 have D:Hid (Calls Tryz.prog 142 #[.slice (some ⟨g,0,none⟩) n cap,.int .i64 k,.int .i64 ((k:Int)+1)] w fun e w'=>e=.returned (.slice (some ⟨g,0,none⟩) (n-1) cap)∧∃cs',Rw w' base g cap cs'∧cs'.take ((n-1)*2)=cs.take (k*2)++(cs.take (n*2)).drop ((k+1)*2)∧Ch g w w'):=Delete_any R hn hk h1c
 clear R h1c
 go_enter Tryz.func121,Tryz.ntmps121
 go_wp2_with fail
 refine D.out.mono ?_
 rintro e w1 ⟨rfl,X⟩
 have HX:Hid _:=X
 clear X D
 go_wp2_with fail
 go_ret
 exact ⟨rfl,HX.out⟩
theorem without_bx {b1:Nat}{xs:List Value}{bs:List Bv}(O:w.ownsRow base 45 2 (.slice (some ⟨g,0,none⟩) n cap) n xs)(B:Bx w b1 bs xs)(hl:bs.length=n)(hk:k<n):
  Calls Tryz.prog 121 #[.slice (some ⟨g,0,none⟩) n cap,.int .i64 k] w fun e w'=>e=.returned (.slice (some ⟨g,0,none⟩) (n-1) cap)∧∃xs',w'.ownsRow base 45 2 (.slice (some ⟨g,0,none⟩) (n-1) cap) (n-1) xs'∧Bx w' b1 (bs.take k++bs.drop (k+1)) xs'∧Ch g w w':=by
 obtain ⟨hn,cs,R,rfl⟩:=Rw.open O
 refine (without_any R hn hk fun u hu=>B.one u (List.mem_of_mem_drop hu)).mono ?_
 rintro e w' ⟨rfl,cs',R',e',q⟩
 have O':=R'.own (m:=n-1) (by omega)
 rw [e'] at O'
 refine ⟨rfl,_,O',?_,q⟩
 have h1:=B.take k
 rw [List.take_take,show min (k*2) (n*2)=k*2 by omega] at h1
 exact (h1.app (B.drop (k+1))).ch R q
end Go.Proofs.YtchllaeembmioaaGreatDoor.Kc
namespace Go.Proofs.YtchllaeembmioaaGreatDoor.Kc
open Go.ChangeShapes Go.WideShapes Go.ChangeAt Go.RowKit Mm Ts Hc

variable {f t : Int} {bs : List Bv} {n : Nat}
theorem keep_all (h:∀(i:Nat) (x:Bv),bs[i]?=some x→hasB x f t=false):keepL f t bs=bs:=by
 unfold keepL
 rw [List.filter_eq_self]
 intro b hb
 obtain ⟨i,hi⟩:=List.mem_iff_getElem?.1 hb
 rw [h i b hi]
 rfl
theorem keep_upto {k:Nat}(h:∀(i:Nat) (x:Bv),i<k→bs[i]?=some x→hasB x f t=false):keepL f t (bs.take k)=bs.take k:=
 keep_all fun i x hx=>by
  rw [List.getElem?_take] at hx
  split at hx
  ·rename_i hi
   exact h i x hi hx
  ·cases hx
theorem drop_cell {cs:List Value}{j r:Nat}{u:Value}(h:((cs.take (n*2)).drop (j*2))[r]?=some u):cs[j*2+r]?=some u:=by
 rw [List.getElem?_drop,List.getElem?_take] at h
 split at h
 ·exact h
 ·cases h
theorem DelF_any {w:World}{base b1 g n cap:Nat}{xs:List Value}{bs:List Bv}(O:w.ownsRow base 45 2 (.slice (some ⟨g,0,none⟩) n cap) n xs)(B:Bx w b1 bs xs)(hl:bs.length=n)(hn:n≤140737488351232)(ok:∀b∈bs,b.Ok){K:Nat}{f t:Int}(hK:w.heap[K]?=some (.cells #[.int .u32 f,.int .u32 t] 109 (0,0)))(ht:t<4294967296):
  Calls Tryz.prog 79 #[.slice (some ⟨g,0,none⟩) n cap,.func (.func 101) #[] #[.pointer (some ⟨K,0,none⟩)]] w fun e w'=>∃m xs',e=.returned (.slice (some ⟨g,0,none⟩) m cap)∧(keepL f t bs).length=m∧w'.ownsRow base 45 2 (.slice (some ⟨g,0,none⟩) m cap) m xs'∧Bx w' b1 (keepL f t bs) xs'∧Ch g w w':=by
 obtain ⟨hnc,cs,R,rfl⟩:=Rw.open O
 have hm:=R.cap
 unfold maxLen at hm
 have IX:Hid (Calls Tryz.prog 91 #[.slice (some ⟨g,0,none⟩) n cap,.func (.func 101) #[] #[.pointer (some ⟨K,0,none⟩)]] w fun e w'=>e=.returned (.int .i64 (fidx (fun b=>hasB b f t) bs 0))∧Gr w w'):=
  idx_touched cap (R.bq B hl) hn K (fun b=>hasB b f t) fun W b sa sc G hb=>touched1_any (cell_of_row _ _ _ _ _ _ (up_h G hK)) (cell_of_row _ _ _ _ _ _ (up_h G hK)) ht (ok b hb) sa sc
 have HR:Hid (Rw w base g cap cs):=R
 have HB:Hid (Bx w b1 bs (cs.take (n*2))):=B
 have HO:Hid (w.ownsRow base 45 2 (.slice (some ⟨g,0,none⟩) n cap) n (cs.take (n*2))):=O
 have HL:Hid (bs.length=n):=hl
 have HK:Hid (w.heap[K]?=some (.cells #[.int .u32 f,.int .u32 t] 109 (0,0))):=hK
 have Cl:Hid (∀(W:World) (b:Bv) (sa:Option Addr) (sc:Nat),W.heap[K]?=some (.cells #[.int .u32 f,.int .u32 t] 109 (0,0))→b∈bs→Calls Tryz.prog 101 #[.agg #[.int .u32 b.pc,.slice sa b.is.length sc],.pointer (some ⟨K,0,none⟩)] W fun e w'=>e=.returned (.bool (hasB b f t))∧Gr W w'):=fun W b sa sc h hb=>touched1_any (cell_of_row _ _ _ _ _ _ h) (cell_of_row _ _ _ _ _ _ h) ht (ok b hb) sa sc
 clear R B O hl hK ok
 rcases fidx_bd (fun b=>hasB b f t) bs with ⟨e1,hall⟩|⟨k0,x0,e1,hx0,hp0,hall⟩
 ·rw [e1] at IX
  have HA:Hid (keepL f t bs=bs):=keep_all hall
  clear hall Cl e1 HR
  go_enter Tryz.func79,Tryz.ntmps79
  go_wp2_with fail
  refine IX.out.mono ?_
  rintro e w1 ⟨rfl,G1⟩
  have HG1:Hid (Gr w w1):=G1
  clear IX G1
  go_wp2_with fail
  go_ret
  refine ⟨n,_,rfl,by rw [HA.out];exact HL.out,owns_gr HO.out HG1.out,by rw [HA.out];exact HB.out.of HG1.out,(Ch.refl g w).gr HG1.out⟩
 ·rw [e1] at IX
  have hk0:k0<n:=by rw [←HL.out];exact (List.getElem?_eq_some_iff.1 hx0).1
  have hne:((k0:Int) == -1)=false:=beq_eq_false_iff_ne.2 (by omega)
  have HKu:Hid (keepL f t (bs.take (k0+1))=bs.take k0):=by
   unfold Hid
   rw [keep_take hx0,if_pos hp0]
   exact keep_upto hall
  clear hall e1 hp0 hx0 HO
  go_enter Tryz.func79,Tryz.ntmps79
  go_wp2_with fail
  refine IX.out.mono ?_
  rintro e w1 ⟨rfl,G1⟩
  have HG1:Hid (Gr w w1):=G1
  clear IX G1
  go_wp2_with fail
  go_loopw [5,6] (fun vi vj wr=>∃(i j:Nat) (cs:List Value),vi=.int .i64 i∧vj=.int .i64 j∧i<j∧j≤n∧Rw wr base g cap cs∧(keepL f t (bs.take j)).length=i∧Bx wr b1 (keepL f t (bs.take j)) (cs.take (i*2))∧Bx wr b1 (bs.drop j) ((cs.take (n*2)).drop (j*2))∧wr.heap[K]?=some (.cells #[.int .u32 f,.int .u32 t] 109 (0,0))∧Ch g w wr) (fun _ j _=>n-(intOf j).toNat)
  case atStart=>
   have B1:=HB.out.of HG1.out
   refine ⟨k0,k0+1,cs,rfl,by go_num,by omega,by omega,HR.out.of HG1.out,?_,?_,B1.drop (k0+1),up_h HG1.out HK.out,(Ch.refl g w).gr HG1.out⟩
   ·rw [HKu.out,List.length_take,HL.out];omega
   ·rw [HKu.out]
    have:=B1.take k0
    rwa [List.take_take,show min (k0*2) (n*2)=k0*2 by omega] at this
  case round=>
   obtain ⟨i,j,ds,rfl,rfl,hij,hjn,R,hli,B1,B2,hK,q⟩:=hrel
   have HRr:Hid (Rw wr base g cap ds):=R
   have HB1:Hid (Bx wr b1 (keepL f t (bs.take j)) (ds.take (i*2))):=B1
   have HB2:Hid (Bx wr b1 (bs.drop j) ((ds.take (n*2)).drop (j*2))):=B2
   have HLi:Hid ((keepL f t (bs.take j)).length=i):=hli
   have HKr:Hid (wr.heap[K]?=some (.cells #[.int .u32 f,.int .u32 t] 109 (0,0))):=hK
   have HQ:Hid (Ch g w wr):=q
   clear R B1 B2 hli hK q HR HB HG1 HK HKu
   by_cases hlt:j<n
   ·obtain ⟨b,hb⟩:∃b,bs[j]?=some b:=⟨_,List.getElem?_eq_getElem (by rw [HL.out];exact hlt)⟩
    obtain ⟨v,h1,h2,h3⟩:=HB2.out.at_ 0 b (by rw [List.getElem?_drop];exact hb)
    obtain ⟨sa,sc,rfl⟩:=h3.shape
    have c0:wr.cell? ⟨g,j*2,none⟩=some (.int .u32 b.pc):=HRr.out.cell (drop_cell h1)
    have c1:wr.cell? ⟨g,j*2+1,none⟩=some (.slice sa b.is.length sc):=HRr.out.cell (drop_cell h2)
    have HI3:Hid (Io wr b1 (.slice sa b.is.length sc) b.is):=h3
    have Cl2:Hid (∀W:World,W.heap[K]?=some (.cells #[.int .u32 f,.int .u32 t] 109 (0,0))→Calls Tryz.prog 101 #[.agg #[.int .u32 b.pc,.slice sa b.is.length sc],.pointer (some ⟨K,0,none⟩)] W fun e w'=>e=.returned (.bool (hasB b f t))∧Gr W w'):=fun W h=>Cl.out W b sa sc h (List.mem_of_getElem? hb)
    have HKt:=keep_take (f:=f) (t:=t) hb
    have HBd:Hid (bs.drop (j+1)=(bs.drop j).drop 1):=by unfold Hid;rw [List.drop_drop]
    clear h1 h2 h3 Cl hb
    cases hh:hasB b f t with
    | true=>
     rw [hh] at Cl2
     rw [if_pos hh] at HKt
     have HK2:Hid (keepL f t (bs.take (j+1))=keepL f t (bs.take j)):=HKt
     clear HKt hh
     generalize b.pc=bp at *
     generalize b.is.length=bn at *
     go_wp2_with fail
     refine (Cl2.out _ (up_h ((Gr.refl wr).alloc _) HKr.out)).mono ?_
     rintro e w2 ⟨rfl,G2⟩
     have HG2:Hid (Gr wr w2):=((Gr.refl wr).alloc _).trans G2
     clear G2 c0 c1 Cl2
     go_wp2_with fail
     go_roundw
     case rel=>
      refine ⟨i,j+1,ds,rfl,by go_num,by omega,by omega,HRr.out.of HG2.out,by rw [HK2.out];exact HLi.out,by rw [HK2.out];exact HB1.out.of HG2.out,?_,up_h HG2.out HKr.out,HQ.out.gr HG2.out⟩
      have:=(HB2.out.of HG2.out).drop 1
      rwa [List.drop_drop,List.drop_drop,show j*2+1*2=(j+1)*2 by omega] at this
     case measure=>simp [intOf];omega
    | false=>
     rw [hh] at Cl2
     rw [if_neg (by simp [hh])] at HKt
     have HK2:Hid (keepL f t (bs.take (j+1))=keepL f t (bs.take j)++[b]):=HKt
     have HBs:Hid (∀W:World,Bx W b1 (keepL f t (bs.take j)) (ds.take (i*2))→Io W b1 (.slice sa b.is.length sc) b.is→Bx W b1 (keepL f t (bs.take j)++[b]) (ds.take (i*2)++[.int .u32 b.pc,.slice sa b.is.length sc])):=fun W h k=>h.snoc k
     clear HKt hh
     generalize b.pc=bp at *
     generalize b.is.length=bn at *
     go_wp2_with fail
     refine (Cl2.out _ (up_h ((Gr.refl wr).alloc _) HKr.out)).mono ?_
     rintro e w2 ⟨rfl,G2⟩
     have HG2:Hid (Gr wr w2):=((Gr.refl wr).alloc _).trans G2
     have HR2:Hid (Rw w2 base g cap ds):=HRr.out.of HG2.out
     have e0:w2.cell? ⟨wr.heap.size,0,none⟩=some (.int .u32 bp):=cell_of_row _ _ _ _ _ _ (up_h G2 (heap_alloc_new wr _))
     have e1:w2.cell? ⟨wr.heap.size,1,none⟩=some (.slice sa bn sc):=cell_of_row _ _ _ _ _ _ (up_h G2 (heap_alloc_new wr _))
     have hcl:=HR2.out.len
     obtain ⟨y0,hy0⟩:∃y,w2.cell? ⟨g,i*2,none⟩=some y:=⟨_,HR2.out.cell (List.getElem?_eq_getElem (by omega))⟩
     obtain ⟨y1,hy1⟩:∃y,w2.cell? ⟨g,i*2+1,none⟩=some y:=⟨_,HR2.out.cell (List.getElem?_eq_getElem (by omega))⟩
     have hfz:∀o,w2.frozen? ⟨g,o,none⟩=false:=fun o=>HR2.out.fz o
     have hi0:(0:Int)≤(i:Int):=by omega
     have hi1:(i:Int)<(n:Int):=by omega
     clear G2 c0 c1 Cl2 hcl
     go_wp2_with fail
     go_roundw
     case rel=>
      have q2:Ch g w2 (w2.setCells g (i*2) [.int .u32 bp,.slice sa bn sc]):=chC (Ch.refl g w2) _ _
      have hcl:=HR2.out.len
      have R3:=HR2.out.set (o:=i*2) (vs:=[.int .u32 bp,.slice sa bn sc]) (by simp;omega)
      have lt:(ds.take (i*2)).length=i*2:=by rw [List.length_take,hcl];omega
      refine ⟨i+1,j+1,_,by go_num,by go_num,by omega,by omega,R3,by rw [HK2.out,List.length_append,HLi.out];rfl,?_,?_,?_,(HQ.out.gr HG2.out).trans q2⟩
      ·have e6:(ds.take (i*2)++[Value.int .u32 bp,Value.slice sa bn sc]++ds.drop (i*2+[Value.int .u32 bp,Value.slice sa bn sc].length)).take ((i+1)*2)=ds.take (i*2)++[Value.int .u32 bp,Value.slice sa bn sc]:=by
        have l2:(ds.take (i*2)++[Value.int .u32 bp,Value.slice sa bn sc]).length=(i+1)*2:=by rw [List.length_append,lt];simp;omega
        rw [←l2]
        exact List.take_left
       rw [HK2.out,e6]
       exact HBs.out _ ((HB1.out.of HG2.out).ch HR2.out q2) ((HI3.out.of HG2.out).to fun k o r hk=>HR2.out.keep q2 k o _ r (by decide) hk)
      ·have h4:=((HB2.out.of HG2.out).ch HR2.out q2).drop 1
       rw [List.drop_drop,List.drop_drop,show j*2+1*2=(j+1)*2 by omega] at h4
       have e5:((ds.take (i*2)++[Value.int .u32 bp,Value.slice sa bn sc]++ds.drop (i*2+[Value.int .u32 bp,.slice sa bn sc].length)).take (n*2)).drop ((j+1)*2)=(ds.take (n*2)).drop ((j+1)*2):=by
        apply List.ext_getElem?
        intro z
        rw [List.getElem?_drop,List.getElem?_drop,List.getElem?_take,List.getElem?_take]
        split
        ·have l2:(ds.take (i*2)++[Value.int .u32 bp,Value.slice sa bn sc]).length=(i+1)*2:=by rw [List.length_append,lt];simp;omega
         rw [List.getElem?_append_right (by omega),List.getElem?_drop,l2]
         congr 1
         simp
         omega
        ·rfl
       rw [e5]
       exact h4
      ·exact (HR2.out.keep q2 K _ _ _ (by decide) (up_h HG2.out HKr.out)).trans (up_h HG2.out HKr.out)
     case measure=>simp [intOf];omega
   ·have ej:j=n:=by omega
    subst ej
    have HT:Hid (bs.take j=bs):=by unfold Hid;rw [←HL.out,List.take_length]
    have HB1e:Hid (Bx wr b1 (keepL f t bs) (ds.take (i*2))):=by have:=HB1.out;rwa [HT.out] at this
    have HLe:Hid ((keepL f t bs).length=i):=by have:=HLi.out;rwa [HT.out] at this
    have hcr:∀ty,(Builtin.clear_ #[33] ty #[.slice (some ⟨g,i*2,none⟩) (j-i) (cap-i)]).run Tryz.prog wr=.ok (.tuple #[]) (wr.setCells g (i*2) (zrs (j-i))):=fun ty=>
     run_clear2 wr _ _ ty Tryz.underlying33 Tryz.zeroValue45 g (i*2) (j-i) (cap-i) (by omega) (fun z hz=>HRr.out.isS (by omega)) (fun z hz=>HRr.out.fz _)
    have hi0:(0:Int)≤(i:Int):=by omega
    have hi1:(i:Int)<(j:Int):=by omega
    clear HB1 HLi HT HB2 Cl
    go_wp2_with fail
    go_ret
    have R3:=HRr.out.set (o:=i*2) (vs:=zrs (j-i)) (by rw [zrs_len];omega)
    have lt:(ds.take (i*2)).length=i*2:=by rw [List.length_take,HRr.out.len];omega
    have e5:(ds.take (i*2)++zrs (j-i)++ds.drop (i*2+(zrs (j-i)).length)).take (i*2)=ds.take (i*2):=by
     rw [List.append_assoc,List.take_append_of_le_length (by omega),List.take_of_length_le (by omega)]
    have q2:Ch g wr (wr.setCells g (i*2) (zrs (j-i))):=chC (Ch.refl g wr) _ _
    refine ⟨i,_,rfl,HLe.out,R3.own (by omega),?_,HQ.out.trans q2⟩
    rw [e5]
    exact HB1e.out.ch HRr.out q2
end Go.Proofs.YtchllaeembmioaaGreatDoor.Kc
namespace Go.Proofs.YtchllaeembmioaaGreatDoor.Kc
open Go.ChangeShapes Go.WideShapes Go.ChangeAt Go.RowKit Mm Ts Hc

variable {pc : Int} {bs : List Bv}
theorem results_ct {P:Program}{fn:Func}{p t:Tmp}{ty:TypeId}(h:fn.results=#[.cell p ty,.tmp t])(tmps:Array Value)(w:World)(g:Nat)(tt:TypeId)(cs:Array Value)(fr:Nat×Nat)(d:TypeDesc)
  (v:Value)(hp:tmps.getD p undef=.pointer (some ⟨g,0,none⟩))(hv:tmps.getD t undef=v)(hg:w.heap[g]?=some (.cells cs tt fr))
  (hu:P.underlying ty=some d)(hd:(match d with|.struct _|.array _ _=>true|_=>false)=true)(hi:(P.info? ty).map (·.size)=some cs.size):
  (results fn tmps).run P w=.ok (.tuple #[.agg cs,v]) w:=by
 subst hv
 have hp':tmps[p]?.getD undef=.pointer (some ⟨g,0,none⟩):=by simpa using hp
 simp [results,h,hp',asAddr,run_loadVar_row w g tt ty cs fr d hg hu hd hi]
theorem New_aux (w:World)(rm r1 r2:Int)(h:rm<0∧r1=0∧r2=3∨¬rm<0∧64<rm∧r1=0∧r2=3∨¬rm<0∧¬64<rm∧r1=rm∧r2=0):Calls Tryz.prog 18 #[.int .i64 rm] w fun e w'=>e=.returned (.tuple #[.agg #[.int .i64 r1,.slice none 0 0,.int .i64 0,.int .i64 0],.int .i64 r2])∧Gr w w':=by
 rcases h with ⟨h0,q⟩|⟨h0,h1,q⟩|⟨h0,h1,q⟩
 ·have HE:Hid _:=q
  clear q
  go_enter Tryz.func18,Tryz.ntmps18
  go_wp2
  exact bodyPost_ret (v:=.tuple #[.agg #[.int .i64 0,.slice none 0 0,.int .i64 0,.int .i64 0],.int .i64 3]) (results_ct Tryz.results18 _ _ _ _ _ (0,0) _ _ rfl rfl (heap_alloc_new w _) Tryz.underlying35 rfl iCa) rfl ⟨by rw [HE.out.1,HE.out.2],(Gr.refl _).alloc _⟩
 ·have HE:Hid _:=q
  clear q
  go_enter Tryz.func18,Tryz.ntmps18
  go_wp2
  exact bodyPost_ret (v:=.tuple #[.agg #[.int .i64 0,.slice none 0 0,.int .i64 0,.int .i64 0],.int .i64 3]) (results_ct Tryz.results18 _ _ _ _ _ (0,0) _ _ rfl rfl (heap_alloc_new w _) Tryz.underlying35 rfl iCa) rfl ⟨by rw [HE.out.1,HE.out.2],(Gr.refl _).alloc _⟩
 ·have HE:Hid _:=q
  clear q
  go_enter Tryz.func18,Tryz.ntmps18
  go_wp2
  exact bodyPost_ret (v:=.tuple #[.agg #[.int .i64 rm,.slice none 0 0,.int .i64 0,.int .i64 0],.int .i64 0]) (results_ct Tryz.results18 _ _ _ _ _ (0,0) _ _ rfl rfl (heap_alloc_new w _) Tryz.underlying35 rfl iCa) rfl ⟨by rw [HE.out.1,HE.out.2],(Gr.refl _).alloc _⟩
theorem fnd_neg (h:place pc bs 0 = -1):fnd pc bs=⟨0,[]⟩:=by unfold fnd;rw [h,if_neg (by omega)]
theorem fnd_pos {j:Nat}{x:Bv}(h:place pc bs 0=(j:Int))(hx:bs[j]?=some x):fnd pc bs=x:=by
 unfold fnd
 rw [h,if_pos (by omega),Int.toNat_natCast,List.getD,hx]
 rfl
theorem bc_none (w:World):Bc w ⟨0,[]⟩ (.int .u32 0) (.slice none 0 0):=⟨rfl,⟨by decide,by decide⟩,none,0,0,rfl,⟨rfl,fun i h=>(by cases h),fun h=>absurd h (by omega)⟩,by omega⟩
theorem Find_any {w:World}{ao:Option Addr}{n:Nat}(cap:Nat){bs:List Bv}(B:Bs w ao n bs)(hn:n*32≤140737488351232)(room pu sl pc:Int):
  Calls Tryz.prog 70 #[.agg #[.int .i64 room,.slice ao n cap,.int .i64 pu,.int .i64 sl],.int .u32 pc] w fun e w'=>∃x y,e=.returned (.tuple #[.agg #[x,y],.bool (decide (0≤place pc bs 0))])∧Bc w' (fnd pc bs) x y∧Gr w w':=by
 have AT:Hid (∀W:World,Calls Tryz.prog 92 #[.int .u32 pc] W fun e w'=>∃B,e=.returned (.func (.func 115) #[] #[.pointer (some ⟨B,0,none⟩)])∧w'.cell? ⟨B,0,none⟩=some (.int .u32 pc)∧Gr W w'):=fun W=>at_any W pc
 have IDX:Hid (∀(W:World) (K:Nat),Gr w W→W.cell? ⟨K,0,none⟩=some (.int .u32 pc)→Calls Tryz.prog 91 #[.slice ao n cap,.func (.func 115) #[] #[.pointer (some ⟨K,0,none⟩)]] W fun e w'=>e=.returned (.int .i64 (place pc bs 0))∧Gr W w'):=fun W K G hk=>by
  rw [←fidx_place]
  exact idx_at cap (B.bq.of G) (by omega) K (fun b=>decide (b.pc=pc)) fun W' b sa sc G' _=>at1_any ((G'.cell _ (by exact World.block_lt_of_cell? W _ hk)).trans hk) b.pc sa b.is.length sc
 have HB:Hid (Bs w ao n bs):=B
 have HX:Hid (∀W:World,Gr ((w.alloc (.cells #[.int .i64 room,.slice ao n cap,.int .i64 pu,.int .i64 sl] 35)).alloc (.cells #[.int .u32 0,.slice none 0 0] 45)) W→W.cell? ⟨w.heap.size,1,none⟩=some (.slice ao n cap)∧W.heap[w.heap.size+1]?=some (.cells #[.int .u32 0,.slice none 0 0] 45 (0,0))∧Gr w W):=fun W G=>
  ⟨cell_of_row _ _ _ _ _ _ (up_h (((Gr.refl _).alloc _).trans G) (heap_alloc_new w _)),up_h G (new2 w _ _),(((Gr.refl w).alloc _).alloc _).trans G⟩
 clear B
 have HPB:Hid (place pc bs 0 = -1∨∃(j:Nat) (x:Bv),place pc bs 0=(j:Int)∧j<n∧bs[j]?=some x):=by
  rcases place_bd pc bs 0 with h|⟨j,x,h,hx⟩
  ·exact .inl h
  ·rw [Nat.zero_add] at h
   exact .inr ⟨j,x,h,by rw [←HB.out.len];exact (List.getElem?_eq_some_iff.1 hx).1,hx⟩
 rcases HPB.out with hp|⟨j,b,hp,hj,hb⟩
 ·have HF:Hid (fnd pc bs=⟨0,[]⟩):=fnd_neg hp
  rw [hp] at IDX
  rw [hp]
  clear HPB hp HB
  generalize fnd pc bs=fb at *
  go_enter Tryz.func70,Tryz.ntmps70
  go_wp2_with fail
  go_region_with (first
   | (go_at_call 92;refine (AT.out _).mono ?_;rintro e w2 ⟨K,rfl,hk,G2⟩;have HG2:Hid (Gr ((w.alloc (.cells #[.int .i64 room,.slice ao n cap,.int .i64 pu,.int .i64 sl] 35)).alloc (.cells #[.int .u32 0,.slice none 0 0] 45)) w2):=Gr.trans (by repeat (first|exact Gr.refl _|refine Gr.drewN ?_ _|refine Gr.drew ?_)) G2;have x1:w2.cell? ⟨w.heap.size,1,none⟩=some (.slice ao n cap):=(HX.out _ HG2.out).1;clear G2)
   | (go_at_call 91;refine (IDX.out _ K (HX.out _ HG2.out).2.2 hk).mono ?_;rintro e w3 ⟨rfl,G3⟩;have HG3:Hid (Gr ((w.alloc (.cells #[.int .i64 room,.slice ao n cap,.int .i64 pu,.int .i64 sl] 35)).alloc (.cells #[.int .u32 0,.slice none 0 0] 45)) w3):=HG2.out.trans G3;clear G3))
  all_goals
   clear x1 hk HG2 IDX AT
   clear w2
   have y1:w3.heap[w.heap.size+1]?=some (.cells #[.int .u32 0,.slice none 0 0] 45 (0,0)):=(HX.out _ HG3.out).2.1
   have HY:Hid (w3.heap[w.heap.size+1]?=some (.cells #[.int .u32 0,.slice none 0 0] 45 (0,0))):=y1
   have c0:w3.cell? ⟨w.heap.size+1,0,none⟩=some (.int .u32 0):=cell_of_row _ _ _ _ _ _ y1
   have c1:w3.cell? ⟨w.heap.size+1,1,none⟩=some (.slice none 0 0):=cell_of_row _ _ _ _ _ _ y1
   have cf:∀j,w3.frozen? ⟨w.heap.size+1,j,none⟩=false:=fun j=>frozen_of_row _ _ _ _ _ y1
   have HGw:Hid (Gr w w3):=(HX.out _ HG3.out).2.2
   clear HX HG3 y1
   go_wp2_with fail
   have e2:=heap_setCell_same _ _ 0 _ _ (.int .u32 0) HY.out
   have e3:=heap_setCell_same _ _ 1 _ _ (.slice none 0 0) e2
   refine bodyPost_ret (v:=.tuple #[.agg #[.int .u32 0,.slice none 0 0],.bool false]) (results_ct Tryz.results70 _ _ _ _ _ (0,0) _ _ rfl rfl e3 Tryz.underlying45 rfl iBk) rfl ?_
   have hf:w.heap.size≤w.heap.size+1:=by omega
   refine ⟨.int .u32 0,.slice none 0 0,rfl,?_,(HGw.out.setCell (by exact hf) _).setCell (by exact hf) _⟩
   rw [HF.out]
   exact bc_none _
 ·have HF:Hid (fnd pc bs=b):=fnd_pos hp hb
  rw [hp] at IDX
  rw [hp]
  obtain ⟨k,o,rfl,hk0,hcell⟩:=HB.out.spot (by omega)
  obtain ⟨u,v,p0,p1,hbc⟩:=hcell j b hb
  obtain ⟨o1,o2,va,vn,vc,rfl⟩:=hbc.ones
  have hu:u=.int .u32 b.pc:=hbc.1
  subst hu
  have HOk:Hid (b.Ok):=hbc.ok
  have HCe:Hid (∀W:World,Gr w W→W.cell? ⟨k,o+j*2,none⟩=some (.int .u32 b.pc)∧W.cell? ⟨k,o+j*2+1,none⟩=some (.slice va vn vc)):=fun W G=>⟨(G.cell _ (by exact hk0)).trans p0,(G.cell _ (by exact hk0)).trans p1⟩
  have CP:Hid (∀W:World,Gr w W→Calls Tryz.prog 93 #[.agg #[.int .u32 b.pc,.slice va vn vc]] W fun e w'=>∃v,e=.returned (.agg #[.int .u32 b.pc,v])∧Io w' W.heap.size v b.is∧Gr W w'):=fun W G=>copyB_any (hbc.of G)
  have hj0:(0:Int)≤(j:Int):=by omega
  have hj1:(j:Int)<(n:Int):=by omega
  have HBc:Hid (∀(W:World) (v:Value),Io W w.heap.size v b.is→Bc W b (.int .u32 b.pc) v):=fun W v h=>h.bc HOk.out
  clear HPB hp HB hcell p0 p1 hbc hb
  generalize fnd pc bs=fb at *
  generalize hbp:b.pc=bp at *
  clear hbp
  go_enter Tryz.func70,Tryz.ntmps70
  go_wp2_with fail
  go_region_with (first
   | (go_at_call 92;refine (AT.out _).mono ?_;rintro e w2 ⟨K,rfl,hk,G2⟩;have HG2:Hid (Gr ((w.alloc (.cells #[.int .i64 room,.slice (some ⟨k,o,none⟩) n cap,.int .i64 pu,.int .i64 sl] 35)).alloc (.cells #[.int .u32 0,.slice none 0 0] 45)) w2):=Gr.trans (by repeat (first|exact Gr.refl _|refine Gr.drewN ?_ _|refine Gr.drew ?_)) G2;have x1:w2.cell? ⟨w.heap.size,1,none⟩=some (.slice (some ⟨k,o,none⟩) n cap):=(HX.out _ HG2.out).1;clear G2)
   | (go_at_call 91;refine (IDX.out _ K (HX.out _ HG2.out).2.2 hk).mono ?_;rintro e w3 ⟨rfl,G3⟩;have HG3:Hid (Gr ((w.alloc (.cells #[.int .i64 room,.slice (some ⟨k,o,none⟩) n cap,.int .i64 pu,.int .i64 sl] 35)).alloc (.cells #[.int .u32 0,.slice none 0 0] 45)) w3):=HG2.out.trans G3;clear G3))
  all_goals
   clear x1 hk HG2 IDX AT
   clear w2
   have y1:w3.heap[w.heap.size+1]?=some (.cells #[.int .u32 0,.slice none 0 0] 45 (0,0)):=(HX.out _ HG3.out).2.1
   have HY:Hid (w3.heap[w.heap.size+1]?=some (.cells #[.int .u32 0,.slice none 0 0] 45 (0,0))):=y1
   have x1:w3.cell? ⟨w.heap.size,1,none⟩=some (.slice (some ⟨k,o,none⟩) n cap):=(HX.out _ HG3.out).1
   have HGw:Hid (Gr w w3):=(HX.out _ HG3.out).2.2
   obtain ⟨d0,d1⟩:=HCe.out _ HGw.out
   clear HX HG3 y1 HCe
   go_wp2_with fail
   refine (CP.out _ HGw.out).mono ?_
   rintro e w4 ⟨v4,rfl,I4,G4⟩
   have HGx:Hid (Gr w w4):=HGw.out.trans G4
   have HI4:Hid (Io w4 w.heap.size v4 b.is):=I4.low HGw.out.size
   have y2:=up_h G4 HY.out
   have HY2:Hid (w4.heap[w.heap.size+1]?=some (.cells #[.int .u32 0,.slice none 0 0] 45 (0,0))):=y2
   have c0:w4.cell? ⟨w.heap.size+1,0,none⟩=some (.int .u32 0):=cell_of_row _ _ _ _ _ _ y2
   have c1:w4.cell? ⟨w.heap.size+1,1,none⟩=some (.slice none 0 0):=cell_of_row _ _ _ _ _ _ y2
   have cf:∀j,w4.frozen? ⟨w.heap.size+1,j,none⟩=false:=fun j=>frozen_of_row _ _ _ _ _ y2
   obtain ⟨ia,ic,rfl⟩:=I4.shape
   clear I4 G4 CP y2 d0 d1 x1
   generalize b.is.length=iq at *
   go_wp2_with fail
   have e2:=heap_setCell_same _ _ 0 _ _ (.int .u32 bp) HY2.out
   have e3:=heap_setCell_same _ _ 1 _ _ (.slice ia iq ic) e2
   refine bodyPost_ret (v:=.tuple #[.agg #[.int .u32 bp,.slice ia iq ic],.bool true]) (results_ct Tryz.results70 _ _ _ _ _ (0,0) _ _ rfl rfl e3 Tryz.underlying45 rfl iBk) rfl ?_
   have hf:w.heap.size≤w.heap.size+1:=by omega
   refine ⟨.int .u32 bp,.slice ia iq ic,by simp,?_,(HGx.out.setCell (by exact hf) _).setCell (by exact hf) _⟩
   rw [HF.out]
   refine HBc.out _ _ (HI4.out.to fun z c r hz=>?_)
   have nz:z≠w.heap.size+1:=ne_of_types hz HY2.out (by decide)
   rw [heap_setCell_other _ _ _ _ (by exact nz),heap_setCell_other _ _ _ _ (by exact nz)]
end Go.Proofs.YtchllaeembmioaaGreatDoor.Kc
namespace Go.Proofs.YtchllaeembmioaaGreatDoor.Kc
open Go.ChangeShapes Go.WideShapes Go.ChangeAt Go.RowKit Mm Ts Hc

def Bt (lo:Nat) (w:World) (ao:Option Addr) (n:Nat) (bs:List Bv):Prop:=∀W:World,(∀(k:Nat) (o:Array Value) (t:Nat) (f:Nat×Nat),lo≤k→t=45∨t=77→w.heap[k]?=some (.cells o t f)→W.heap[k]?=w.heap[k]?)→Bs W ao n bs
theorem Bt.bs {lo:Nat}{w:World}{ao:Option Addr}{n:Nat}{bs:List Bv}(h:Bt lo w ao n bs):Bs w ao n bs:=h w fun _ _ _ _ _ _ _=>rfl
theorem Bt.to {lo:Nat}{w w':World}{ao:Option Addr}{n:Nat}{bs:List Bv}(h:Bt lo w ao n bs)(q:∀(k:Nat) (o:Array Value) (t:Nat) (f:Nat×Nat),lo≤k→t=45∨t=77→w.heap[k]?=some (.cells o t f)→w'.heap[k]?=w.heap[k]?):Bt lo w' ao n bs:=
 fun W hW=>h W fun k o t f hl ht hk=>(hW k o t f hl ht ((q k o t f hl ht hk).trans hk)).trans (q k o t f hl ht hk)
theorem Bt.of {lo:Nat}{w w':World}{ao:Option Addr}{n:Nat}{bs:List Bv}(h:Bt lo w ao n bs)(G:Gr w w'):Bt lo w' ao n bs:=h.to fun k o t f _ _ hk=>G.block k (Array.getElem?_eq_some_iff.1 hk).1
theorem Bt.low {lo l0:Nat}{w:World}{ao:Option Addr}{n:Nat}{bs:List Bv}(h:Bt lo w ao n bs)(hl:l0≤lo):Bt l0 w ao n bs:=fun W q=>h W fun k o t f hk=>q k o t f (Nat.le_trans hl hk)
theorem bt_nil (lo:Nat)(w:World)(ao:Option Addr):Bt lo w ao 0 []:=fun W _=>bs_nil W ao
theorem owns_tob {w w':World}{base e n sz:Nat}{v:Value}{xs:List Value}(h:w.ownsRow base e sz v n xs)(q:∀(k:Nat) (o:Array Value) (f:Nat×Nat),base≤k→w.heap[k]?=some (.cells o e f)→w'.heap[k]?=w.heap[k]?):w'.ownsRow base e sz v n xs:=by
 obtain ⟨h1,h2⟩:=h
 refine ⟨h1,?_⟩
 rcases h2 with h2|⟨g,cap,cur,hv,hb,hg,r⟩
 ·exact .inl h2
 ·exact .inr ⟨g,cap,cur,hv,hb,(q g _ _ hb hg).trans hg,r⟩
theorem own_bs {w:World}{lo base b1 g m cp:Nat}{xs:List Value}{bs:List Bv}(O:w.ownsRow base 45 2 (.slice (some ⟨g,0,none⟩) m cp) m xs)(B:Bx w b1 bs xs)(ok:∀b∈bs,b.Ok)(hl:bs.length=m)(l0:lo≤base)(l1:lo≤b1):Bt lo w (some ⟨g,0,none⟩) m bs∧m≤cp:=by
 refine ⟨fun W q=>?_,(Rw.open O).1⟩
 have B2:Bx W b1 bs xs:=⟨B.len,fun j b hb=>by
  obtain ⟨v,h1,h2,h3⟩:=B.at_ j b hb
  exact ⟨v,h1,h2,owns_tob h3 fun k o f hk e=>q k o _ f (by omega) (.inr rfl) e⟩⟩
 have:=bs_own (owns_tob O fun k o f hk e=>q k o _ f (by omega) (.inl rfl) e) (B2.bw ok) 0 m (by omega)
 rw [List.drop_zero,Nat.zero_mul] at this
 exact this
theorem keep_ok {f t:Int}{bs:List Bv}(h:∀b∈bs,b.Ok):∀b∈keepL f t bs,b.Ok:=fun b hb=>h b (List.mem_filter.1 hb).1
theorem StaleT_any {w:World}{ao:Option Addr}{n:Nat}(cap:Nat){bs:List Bv}(B:Bs w ao n bs)(hn:n*32≤140737488351232)(room pu sl:Int){f t:Int}(hf:0≤f∧f<4294967296)(ht:0≤t∧t<4294967296):
  Calls Tryz.prog 55 #[.agg #[.int .i64 room,.slice ao n cap,.int .i64 pu,.int .i64 sl],.agg #[.int .u32 f,.int .u32 t]] w fun e w'=>∃a m c,e=.returned (.agg #[.int .i64 room,.slice a m c,.int .i64 pu,.int .i64 (wrap64 (sl+((n:Int)-((keepL f t bs).length:Int))))])∧(Bt w.heap.size w' a m (keepL f t bs)∧m≤c)∧Gr w w':=by
 have CP:Hid (∀W:World,Gr w W→Calls Tryz.prog 78 #[.agg #[.int .i64 room,.slice ao n cap,.int .i64 pu,.int .i64 sl]] W fun e w'=>∃g cp xs,e=.returned (.agg #[.int .i64 room,.slice (some ⟨g,0,none⟩) n cp,.int .i64 pu,.int .i64 sl])∧w'.ownsRow W.heap.size 45 2 (.slice (some ⟨g,0,none⟩) n cp) n xs∧Bx w' W.heap.size bs xs∧Gr W w'):=fun W G=>copyC_any cap (B.of G) hn room pu sl
 have HOk:Hid (∀b∈bs,b.Ok):=B.ok
 have HL:Hid (bs.length=n):=B.len
 have TO:Hid (∀W:World,Calls Tryz.prog 80 #[.agg #[.int .u32 f,.int .u32 t]] W fun e w'=>∃B,e=.returned (.func (.func 101) #[] #[.pointer (some ⟨B,0,none⟩)])∧w'.heap[B]?=some (.cells #[.int .u32 f,.int .u32 t] 109 (0,0))∧Gr W w'):=fun W=>touched_any W f t
 obtain ⟨CV,HC⟩:∃CV,Hid (CV=wrap64 (sl+((n:Int)-((keepL f t bs).length:Int)))):=⟨_,rfl⟩
 rw [←HC.out]
 have HKl:Hid ((keepL f t bs).length≤n):=by have:=keep_len f t bs bs.length;rw [List.take_length,B.len] at this;exact this
 have DF:Hid (∀(W:World) (base b1 g cp K:Nat) (xs:List Value),W.ownsRow base 45 2 (.slice (some ⟨g,0,none⟩) n cp) n xs→Bx W b1 bs xs→W.heap[K]?=some (.cells #[.int .u32 f,.int .u32 t] 109 (0,0))→Calls Tryz.prog 79 #[.slice (some ⟨g,0,none⟩) n cp,.func (.func 101) #[] #[.pointer (some ⟨K,0,none⟩)]] W fun e w'=>∃m xs',e=.returned (.slice (some ⟨g,0,none⟩) m cp)∧(keepL f t bs).length=m∧w'.ownsRow base 45 2 (.slice (some ⟨g,0,none⟩) m cp) m xs'∧Bx w' b1 (keepL f t bs) xs'∧Ch g W w'):=fun W base b1 g cp K xs O X hK=>DelF_any O X HL.out (by omega) HOk.out hK ht.2
 clear B hf ht
 go_enter Tryz.func55,Tryz.ntmps55
 go_wp2_with fail
 refine (CP.out _ ((((Gr.refl w).alloc _).alloc _).alloc _)).mono ?_
 rintro e w1 ⟨g,cp,xs,rfl,O1,X1,G1⟩
 have T1:=three_of G1
 have HG1:Hid (Gr w w1):=((((Gr.refl w).alloc _).alloc _).alloc _).trans G1
 have hsz:(((w.alloc (.cells #[.int .i64 room,.slice ao n cap,.int .i64 pu,.int .i64 sl] 35)).alloc (.cells #[.int .u32 f,.int .u32 t] 109)).alloc (.cells #[.int .i64 0,.slice none 0 0,.int .i64 0,.int .i64 0] 35)).heap.size=w.heap.size+1+1+1:=by simp
 rw [hsz] at O1 X1
 have HO1:Hid (w1.ownsRow (w.heap.size+1+1+1) 45 2 (.slice (some ⟨g,0,none⟩) n cp) n xs):=O1
 have HX1:Hid (Bx w1 (w.heap.size+1+1+1) bs xs):=X1
 have HT1:Hid (w1.heap[w.heap.size]?=some (.cells #[.int .i64 room,.slice ao n cap,.int .i64 pu,.int .i64 sl] 35 (0,0))∧w1.heap[w.heap.size+1]?=some (.cells #[.int .u32 f,.int .u32 t] 109 (0,0))∧w1.heap[w.heap.size+1+1]?=some (.cells #[.int .i64 0,.slice none 0 0,.int .i64 0,.int .i64 0] 35 (0,0))):=T1
 clear O1 X1 T1 G1 CP hsz
 go_wp2_with fail
 refine atWd (fun W=>(W.heap[w.heap.size]?=some (.cells #[.int .i64 room,.slice ao n cap,.int .i64 pu,.int .i64 sl] 35 (0,0))∧W.heap[w.heap.size+1]?=some (.cells #[.int .u32 f,.int .u32 t] 109 (0,0))∧W.heap[w.heap.size+1+1]?=some (.cells #[.int .i64 0,.slice none 0 0,.int .i64 0,.int .i64 0] 35 (0,0)))∧(W.ownsRow (w.heap.size+1+1+1) 45 2 (.slice (some ⟨g,0,none⟩) n cp) n xs∧Bx W (w.heap.size+1+1+1) bs xs)∧W.heap[w1.heap.size]?=some (.cells #[.int .i64 room,.slice (some ⟨g,0,none⟩) n cp,.int .i64 pu,.int .i64 sl] 35 (0,0))∧Gr w W) ?_ ?_
 ·have G:=(Gr.refl w1).alloc (.cells #[.int .i64 room,.slice (some ⟨g,0,none⟩) n cp,.int .i64 pu,.int .i64 sl] 35)
  exact ⟨⟨up_h G HT1.out.1,up_h G HT1.out.2.1,up_h G HT1.out.2.2⟩,⟨owns_gr HO1.out G,HX1.out.of G⟩,heap_alloc_new w1 _,HG1.out.alloc _⟩
 have ho:w.heap.size+1+1<w1.heap.size:=(Array.getElem?_eq_some_iff.1 HT1.out.2.2).1
 clear HT1 HO1 HX1 HG1
 generalize w1.heap.size=o at *
 clear w1
 rintro W ⟨T0,OX0,R0,G0⟩
 have HT:Hid (W.heap[w.heap.size]?=some (.cells #[.int .i64 room,.slice ao n cap,.int .i64 pu,.int .i64 sl] 35 (0,0))∧W.heap[w.heap.size+1]?=some (.cells #[.int .u32 f,.int .u32 t] 109 (0,0))∧W.heap[w.heap.size+1+1]?=some (.cells #[.int .i64 0,.slice none 0 0,.int .i64 0,.int .i64 0] 35 (0,0))):=T0
 have HOX:Hid (W.ownsRow (w.heap.size+1+1+1) 45 2 (.slice (some ⟨g,0,none⟩) n cp) n xs∧Bx W (w.heap.size+1+1+1) bs xs):=OX0
 have HR:Hid (W.heap[o]?=some (.cells #[.int .i64 room,.slice (some ⟨g,0,none⟩) n cp,.int .i64 pu,.int .i64 sl] 35 (0,0))):=R0
 have HG:Hid (Gr w W):=G0
 have x1:W.cell? ⟨o,1,none⟩=some (.slice (some ⟨g,0,none⟩) n cp):=cell_of_row _ _ _ _ _ _ R0
 have q0:W.cell? ⟨w.heap.size+1,0,none⟩=some (.int .u32 f):=cell_of_row _ _ _ _ _ _ T0.2.1
 have q1:W.cell? ⟨w.heap.size+1,1,none⟩=some (.int .u32 t):=cell_of_row _ _ _ _ _ _ T0.2.1
 clear T0 OX0 R0 G0
 go_region_with (first
  | (go_at_call 80;refine (TO.out _).mono ?_;rintro e w2 ⟨K,rfl,hK,G2⟩;have HG2:Hid (Gr W w2):=Gr.trans (by repeat (first|exact Gr.refl _|refine Gr.drewN ?_ _|refine Gr.drew ?_)) G2;have HK:Hid (w2.heap[K]?=some (.cells #[.int .u32 f,.int .u32 t] 109 (0,0))):=hK;have x2:w2.cell? ⟨o,1,none⟩=some (.slice (some ⟨g,0,none⟩) n cp):=cell_of_row _ _ _ _ _ _ (up_h HG2.out HR.out);clear G2 hK)
  | (go_at_call 79;refine (DF.out _ _ _ g cp K xs (owns_gr HOX.out.1 HG2.out) (HOX.out.2.of HG2.out) HK.out).mono ?_;rintro e w3 ⟨m,ys,rfl,hm,O3,X3,Q3⟩;have H3:Hid (((w3.heap[w.heap.size]?=some (.cells #[.int .i64 room,.slice ao n cap,.int .i64 pu,.int .i64 sl] 35 (0,0))∧w3.heap[w.heap.size+1]?=some (.cells #[.int .u32 f,.int .u32 t] 109 (0,0))∧w3.heap[w.heap.size+1+1]?=some (.cells #[.int .i64 0,.slice none 0 0,.int .i64 0,.int .i64 0] 35 (0,0)))∧(w3.ownsRow (w.heap.size+1+1+1) 45 2 (.slice (some ⟨g,0,none⟩) m cp) m ys∧Bx w3 (w.heap.size+1+1+1) (keepL f t bs) ys)∧w3.heap[o]?=some (.cells #[.int .i64 room,.slice (some ⟨g,0,none⟩) n cp,.int .i64 pu,.int .i64 sl] 35 (0,0)))∧Gr w w3∧(keepL f t bs).length=m):=(⟨⟨⟨row_keep (owns_gr HOX.out.1 HG2.out) Q3 (up_h HG2.out HT.out.1) (by decide),row_keep (owns_gr HOX.out.1 HG2.out) Q3 (up_h HG2.out HT.out.2.1) (by decide),row_keep (owns_gr HOX.out.1 HG2.out) Q3 (up_h HG2.out HT.out.2.2) (by decide)⟩,⟨O3,X3⟩,row_keep (owns_gr HOX.out.1 HG2.out) Q3 (up_h HG2.out HR.out) (by decide)⟩,ch_gr (HG.out.trans HG2.out) (by have:=(HOX.out.1.lt g rfl).1;omega) Q3,hm⟩);have y1:w3.cell? ⟨o,1,none⟩=some (.slice (some ⟨g,0,none⟩) n cp):=cell_of_row _ _ _ _ _ _ H3.out.1.2.2;have yf:w3.frozen? ⟨o,1,none⟩=false:=frozen_of_row _ _ _ _ _ H3.out.1.2.2;clear hm O3 X3 Q3))
 all_goals
  refine atWd (fun W=>(W.heap[w.heap.size]?=some (.cells #[.int .i64 room,.slice ao n cap,.int .i64 pu,.int .i64 sl] 35 (0,0))∧W.heap[w.heap.size+1]?=some (.cells #[.int .u32 f,.int .u32 t] 109 (0,0))∧W.heap[w.heap.size+1+1]?=some (.cells #[.int .i64 0,.slice none 0 0,.int .i64 0,.int .i64 0] 35 (0,0)))∧(W.ownsRow (w.heap.size+1+1+1) 45 2 (.slice (some ⟨g,0,none⟩) m cp) m ys∧Bx W (w.heap.size+1+1+1) (keepL f t bs) ys)∧W.heap[o]?=some (.cells #[.int .i64 room,.slice (some ⟨g,0,none⟩) m cp,.int .i64 pu,.int .i64 sl] 35 (0,0))∧Gr w W) ?_ ?_
  ·obtain ⟨⟨⟨t0,t1,t2⟩,⟨O3,X3⟩,R3⟩,G3,_⟩:=H3.out
   refine ⟨⟨?_,?_,?_⟩,⟨?_,?_⟩,?_,?_⟩
   ·rw [heap_setCell_other _ _ _ _ (by show w.heap.size≠o;omega)];exact t0
   ·rw [heap_setCell_other _ _ _ _ (by show w.heap.size+1≠o;omega)];exact t1
   ·rw [heap_setCell_other _ _ _ _ (by show w.heap.size+1+1≠o;omega)];exact t2
   ·exact owns_to O3 fun q c r hq=>heap_setCell_other _ _ _ _ (by exact ne_of_types hq R3 (by decide))
   ·exact X3.to fun q c r hq=>heap_setCell_other _ _ _ _ (by exact ne_of_types hq R3 (by decide))
   ·rw [heap_setCell_same _ _ _ _ _ _ R3];rfl
   ·exact G3.setCell (by show w.heap.size≤o;omega) _
  have HM:Hid ((keepL f t bs).length=m):=H3.out.2.2
  clear y1 yf H3 HG2 HK HT HOX HR HG x2
  clear w3 w2 x1 q0 q1
  clear W
  rintro W ⟨T0,OX0,R0,G0⟩
  have HT:Hid (W.heap[w.heap.size]?=some (.cells #[.int .i64 room,.slice ao n cap,.int .i64 pu,.int .i64 sl] 35 (0,0))∧W.heap[w.heap.size+1]?=some (.cells #[.int .u32 f,.int .u32 t] 109 (0,0))∧W.heap[w.heap.size+1+1]?=some (.cells #[.int .i64 0,.slice none 0 0,.int .i64 0,.int .i64 0] 35 (0,0))):=T0
  have HOX:Hid (W.ownsRow (w.heap.size+1+1+1) 45 2 (.slice (some ⟨g,0,none⟩) m cp) m ys∧Bx W (w.heap.size+1+1+1) (keepL f t bs) ys):=OX0
  have HR:Hid (W.heap[o]?=some (.cells #[.int .i64 room,.slice (some ⟨g,0,none⟩) m cp,.int .i64 pu,.int .i64 sl] 35 (0,0))):=R0
  have HG:Hid (Gr w W):=G0
  have c1:W.cell? ⟨w.heap.size,1,none⟩=some (.slice ao n cap):=cell_of_row _ _ _ _ _ _ T0.1
  have x0:W.cell? ⟨o,0,none⟩=some (.int .i64 room):=cell_of_row _ _ _ _ _ _ R0
  have x1:W.cell? ⟨o,1,none⟩=some (.slice (some ⟨g,0,none⟩) m cp):=cell_of_row _ _ _ _ _ _ R0
  have x2:W.cell? ⟨o,2,none⟩=some (.int .i64 pu):=cell_of_row _ _ _ _ _ _ R0
  have x3:W.cell? ⟨o,3,none⟩=some (.int .i64 sl):=cell_of_row _ _ _ _ _ _ R0
  have xf:W.frozen? ⟨o,3,none⟩=false:=frozen_of_row _ _ _ _ _ R0
  have z0:W.cell? ⟨w.heap.size+1+1,0,none⟩=some (.int .i64 0):=cell_of_row _ _ _ _ _ _ T0.2.2
  have z1:W.cell? ⟨w.heap.size+1+1,1,none⟩=some (.slice none 0 0):=cell_of_row _ _ _ _ _ _ T0.2.2
  have z2:W.cell? ⟨w.heap.size+1+1,2,none⟩=some (.int .i64 0):=cell_of_row _ _ _ _ _ _ T0.2.2
  have z3:W.cell? ⟨w.heap.size+1+1,3,none⟩=some (.int .i64 0):=cell_of_row _ _ _ _ _ _ T0.2.2
  have zf:∀j,W.frozen? ⟨w.heap.size+1+1,j,none⟩=false:=fun j=>frozen_of_row _ _ _ _ _ T0.2.2
  have hne:¬w.heap.size+1+1=o:=by omega
  have hne2:¬o=w.heap.size+1+1:=by omega
  have hmn:m≤n:=by have:=HKl.out;rw [HM.out] at this;exact this
  clear T0 OX0 R0 G0 TO DF
  go_wp2_with fail
  generalize hS:wrap64 (sl+((n:Int)-(m:Int)))=SV at *
  have HS:Hid (wrap64 (sl+((n:Int)-(m:Int)))=SV):=hS
  clear hS
  have e1:(W.setCell ⟨o,3,none⟩ (.int .i64 SV)).heap[w.heap.size+1+1]?=some (.cells #[.int .i64 0,.slice none 0 0,.int .i64 0,.int .i64 0] 35 (0,0)):=(heap_setCell_other _ _ _ _ (by exact hne)).trans HT.out.2.2
  have hk:∀(k:Nat) (c:Array Value) (r:Nat) (z:Nat×Nat),W.heap[k]?=some (.cells c r z)→r≠35→(((((W.setCell ⟨o,3,none⟩ (.int .i64 SV)).setCell ⟨w.heap.size+1+1,0,none⟩ (.int .i64 room)).setCell ⟨w.heap.size+1+1,1,none⟩ (.slice (some ⟨g,0,none⟩) m cp)).setCell ⟨w.heap.size+1+1,2,none⟩ (.int .i64 pu)).setCell ⟨w.heap.size+1+1,3,none⟩ (.int .i64 SV)).heap[k]?=W.heap[k]?:=fun k c r z hq hr=>by
   rw [four_h _ _ _ _ _ _ (ne_of_types hq HT.out.2.2 hr),heap_setCell_other _ _ _ _ (by exact ne_of_types hq HR.out hr)]
  refine bodyPost_ret (v:=.agg #[.int .i64 room,.slice (some ⟨g,0,none⟩) m cp,.int .i64 pu,.int .i64 SV]) (results_cell_row Tryz.results55 _ _ _ _ _ (0,0) _ rfl (four_set e1 _ _ _ _) Tryz.underlying35 rfl iCa) rfl ⟨some ⟨g,0,none⟩,m,cp,by rw [HC.out,HM.out,HS.out],?_,?_⟩
  ·exact own_bs (owns_to HOX.out.1 fun q c r hq=>hk q c _ r hq (by decide)) (HOX.out.2.to fun q c r hq=>hk q c _ r hq (by decide)) (keep_ok HOk.out) HM.out (by omega) (by omega)
  ·have q1:w.heap.size≤w.heap.size+1+1:=by omega
   exact ((((HG.out.setCell (by show w.heap.size≤o;omega) _).setCell (by exact q1) _).setCell (by exact q1) _).setCell (by exact q1) _).setCell (by exact q1) _
end Go.Proofs.YtchllaeembmioaaGreatDoor.Kc
