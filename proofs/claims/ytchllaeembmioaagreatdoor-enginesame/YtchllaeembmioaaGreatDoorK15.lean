/-
  Ref3Walks, Ref4b, Hm7, Mb2: texts of ours that lie in one file.
-/
import Derived.Test.YtchllaeembmioaaGreatDoorK01
import Derived.Test.YtchllaeembmioaaGreatDoorK13
import Derived.Test.YtchllaeembmioaaGreatDoorK14
import Derived.Test.YtchllaeembmioaaGreatDoorK03
import Derived.Test.YtchllaeembmioaaGreatDoorK12
set_option linter.unusedVariables false
set_option linter.unusedSimpArgs false
set_option maxHeartbeats 8000000
set_option maxRecDepth 100000
namespace Go.Proofs.YtchllaeembmioaaGreatDoor.Mr
open Go.ChangeShapes Go.WideShapes Go.ChangeAt Go.RowKit Mm

variable {k n : Nat} {op X P x b a : Int} {ao : Option Addr} {l : List UInt8} {w : World}
theorem Size_load (op:Int)(w:World):Calls Tryz.prog 43 #[.int .i64 op,.bool false] w fun e w'=>e=.returned (.int .i64 (lsz op:Nat))∧w'=w:=by
 go_enter Tryz.func43,Tryz.ntmps43
 go_wp2
 all_goals
  go_ret
  refine ⟨ret_int ?_,rfl⟩
  simp only [beq_iff_eq,beq_eq_false_iff_ne,ne_eq] at *
  unfold lsz
  repeat' split
  all_goals omega
theorem Size_store (op:Int)(w:World):Calls Tryz.prog 43 #[.int .i64 op,.bool true] w fun e w'=>e=.returned (.int .i64 (ssz op:Nat))∧w'=w:=by
 go_enter Tryz.func43,Tryz.ntmps43
 go_wp2
 all_goals
  go_ret
  refine ⟨ret_int ?_,rfl⟩
  simp only [beq_iff_eq,beq_eq_false_iff_ne,ne_eq] at *
  unfold ssz
  repeat' split
  all_goals omega
theorem there_any (ao:Option Addr)(n cap:Nat)(s:Nat)(a:Int)(w:World)(hn:n≤140737488351232)(hs:s≤4)(h0:0≤a)(h1:a<4294967296):
  Calls Tryz.prog 44 #[.slice ao n cap,.int .u32 a,.int .i64 (s:Nat)] w fun e w'=>e=.returned (.bool (thr n s a))∧w'=w:=by
 by_cases hs0:s=0
 ·subst hs0
  go_enter Tryz.func44,Tryz.ntmps44
  go_wp2
  go_ret
  exact ⟨ret_bool (thr_f (by omega)),rfl⟩
 by_cases hm:a%(s:Int)=0
 ·by_cases hl:a+s≤n
  ·go_enter Tryz.func44,Tryz.ntmps44
   go_wp2
   go_ret
   exact ⟨ret_bool (thr_t (by omega) hm hl),rfl⟩
  ·go_enter Tryz.func44,Tryz.ntmps44
   go_wp2
   go_ret
   exact ⟨ret_bool (thr_f (by omega)),rfl⟩
 ·go_enter Tryz.func44,Tryz.ntmps44
  go_wp2
  go_ret
  exact ⟨ret_bool (thr_f (by omega)),rfl⟩
theorem Load_no (ao:Option Addr)(n cap:Nat)(op a:Int)(w:World)(hn:n≤140737488351232)(h0:0≤a)(h1:a<4294967296)(hok:thr n (lsz op) a=false):
  Calls Tryz.prog 24 #[.slice ao n cap,.int .i64 op,.int .u32 a] w fun e w'=>e=.returned (.tuple #[.int .u32 0,.bool false])∧w'=w:=by
 have hs:=lsz_le op
 go_enter Tryz.func24,Tryz.ntmps24
 go_wp2_with (first|(go_at_call 43;refine (Size_load _ _).mono ?_;rintro e w' ⟨rfl,rfl⟩)|(go_at_call 44;refine (there_any _ _ _ _ _ _ hn hs (by omega) (by omega)).mono ?_;rintro e w' ⟨rfl,rfl⟩))
 go_ret2
 exact ⟨rfl,rfl⟩
def p8 (k:Nat):Int:=256 ^ k
theorem p8_succ (k:Nat):p8 (k+1)=256*p8 k:=by unfold p8;rw [Int.pow_succ,Int.mul_comm]
theorem p8_bd (hk:k≤4):1≤p8 k∧p8 k≤4294967296:=by
 have h:k=0∨k=1∨k=2∨k=3∨k=4:=by omega
 rcases h with rfl|rfl|rfl|rfl|rfl<;>decide
theorem p8_bd3 (hk:k<4):1≤p8 k∧p8 k≤16777216:=by
 have h:k=0∨k=1∨k=2∨k=3:=by omega
 rcases h with rfl|rfl|rfl|rfl<;>decide
theorem wide_neg (h11:op=11→P=256)(h12:op=12→P=65536)(h:op=11∨op=12)(h0:0≤X)(h1:X<P)(hg:P/2≤X):Wd.lo (X-P)=wide op X:=by
 unfold Wd.lo wide
 rcases h with h|h
 ·have:=h11 h;rw [if_pos h,if_neg (by omega)];omega
 ·have:=h12 h;rw [if_neg (by omega),if_pos h,if_neg (by omega)];omega
theorem wide_pos (h11:op=11→P=256)(h12:op=12→P=65536)(h:(op=11∨op=12)→¬P/2≤X)(h0:0≤X)(h1:X<P)(hP:P≤4294967296):Wd.lo X=wide op X:=by
 unfold Wd.lo wide
 by_cases e1:op=11
 ·have:=h11 e1;have:=h (.inl e1);rw [if_pos e1,if_pos (by omega)];omega
 ·by_cases e2:op=12
  ·have:=h12 e2;have:=h (.inr e2);rw [if_neg e1,if_pos e2,if_pos (by omega)];omega
  ·rw [if_neg e1,if_neg e2];omega
theorem ret2 {k:IntKind}{y:Int}{b:Bool}(h:x=y):Ending.returned (.tuple #[.int k x,.bool b])=.returned (.tuple #[.int k y,.bool b]):=by rw [h]
theorem beq_t (h:a=b):(a == b)=true:=by simp [h]
theorem beq_f (h:¬a=b):(a == b)=false:=by simp [h]
theorem Load_yes (b o n cap:Nat)(l:List UInt8)(op:Int)(a:Nat)(w:World)(hn:n≤140737488351232)(hl:l.length=n)(ha:a<4294967296)
  (hc:∀t,t<n→w.cell? ⟨b,o+t,none⟩=some (.int .u8 (bv l t)))(hok:thr n (lsz op) (a:Int)=true):
  Calls Tryz.prog 24 #[.slice (some ⟨b,o,none⟩) n cap,.int .i64 op,.int .u32 a] w fun e w'=>e=.returned (.tuple #[.int .u32 (wide op (raw l a (lsz op))),.bool true])∧w'=w:=by
 have hs:=lsz_le op
 have hk:=hok
 simp only [thr,decide_eq_true_eq] at hk
 obtain ⟨k0,k1,k2⟩:=hk
 have hroom:=lsz_room k1 ha k0
 go_enter Tryz.func24,Tryz.ntmps24
 go_wp2_with (first|(go_at_call 43;refine (Size_load _ _).mono ?_;rintro e w' ⟨rfl,rfl⟩)|(go_at_call 44;refine (there_any _ _ _ _ _ _ hn hs (by omega) (by omega)).mono ?_;rintro e w' ⟨rfl,rfl⟩))
 go_loop [9,10,11] (fun x p i=>∃k:Nat,k≤lsz op∧i=.int .i64 k∧p=.int .i64 (p8 k)∧x=.int .i64 (raw l a k)) (fun _ _ i=>lsz op-(intOf i).toNat)
 case atStart=>exact ⟨0,Nat.zero_le _,rfl,rfl,rfl⟩
 case round=>
  obtain ⟨k,hk,rfl,rfl,rfl⟩:=hrel
  have rb:=raw_bd l a k
  change _∧_<p8 k at rb
  have bb:=bv_bd l (a+k)
  have pb:=p8_bd (show k≤4 by omega)
  by_cases hlt:k<lsz op
  ·have hck:=hc (a+k) (by omega)
   have pb3:=p8_bd3 (show k<4 by omega)
   have hm0:0≤bv l (a+k)*p8 k:=Int.mul_nonneg bb.1 (by omega)
   have hm1:bv l (a+k)*p8 k≤255*p8 k:=Int.mul_le_mul_of_nonneg_right bb.2 (by omega)
   have HP:Hid (p8 (k+1)=256*p8 k):=p8_succ k
   have HR:Hid (raw l a (k+1)=raw l a k+bv l (a+k)*p8 k):=rfl
   clear hc
   go_wp2
   go_round
   case rel=>exact ⟨k+1,by omega,by go_num,by rw [HP.out],by rw [HR.out]⟩
   case measure=>simp [intOf];omega
  ·obtain rfl:k=lsz op:=by omega
   have c11:Hid (op=11→p8 (lsz op)=256):=fun e=>by subst e;rfl
   have c12:Hid (op=12→p8 (lsz op)=65536):=fun e=>by subst e;rfl
   clear hc hok hroom k1 k2 bb hk
   by_cases e1:op=11
   ·have E:Hid (op=11∨op=12):=Or.inl e1
    have b1:=beq_t e1
    clear e1
    by_cases hge:p8 (lsz op)/2≤raw l a (lsz op)
    ·have F:Hid (Wd.lo (raw l a (lsz op)-p8 (lsz op))=wide op (raw l a (lsz op))):=wide_neg c11.out c12.out E.out rb.1 rb.2 hge
     go_wp2_with (go_at_call 35;refine (Rw.Of_any _ _ (by omega) (by omega)).mono ?_;rintro e w' ⟨rfl,rfl⟩)
     go_ret2
     exact ⟨ret2 F.out,rfl⟩
    ·have F:Hid (Wd.lo (raw l a (lsz op))=wide op (raw l a (lsz op))):=wide_pos c11.out c12.out (fun _=>hge) rb.1 rb.2 pb.2
     go_wp2_with (go_at_call 35;refine (Rw.Of_any _ _ (by omega) (by omega)).mono ?_;rintro e w' ⟨rfl,rfl⟩)
     go_ret2
     exact ⟨ret2 F.out,rfl⟩
   by_cases e2:op=12
   ·have E:Hid (op=11∨op=12):=Or.inr e2
    have b1:=beq_f e1
    have b2:=beq_t e2
    clear e1 e2
    by_cases hge:p8 (lsz op)/2≤raw l a (lsz op)
    ·have F:Hid (Wd.lo (raw l a (lsz op)-p8 (lsz op))=wide op (raw l a (lsz op))):=wide_neg c11.out c12.out E.out rb.1 rb.2 hge
     go_wp2_with (go_at_call 35;refine (Rw.Of_any _ _ (by omega) (by omega)).mono ?_;rintro e w' ⟨rfl,rfl⟩)
     go_ret2
     exact ⟨ret2 F.out,rfl⟩
    ·have F:Hid (Wd.lo (raw l a (lsz op))=wide op (raw l a (lsz op))):=wide_pos c11.out c12.out (fun _=>hge) rb.1 rb.2 pb.2
     go_wp2_with (go_at_call 35;refine (Rw.Of_any _ _ (by omega) (by omega)).mono ?_;rintro e w' ⟨rfl,rfl⟩)
     go_ret2
     exact ⟨ret2 F.out,rfl⟩
   ·have F:Hid (Wd.lo (raw l a (lsz op))=wide op (raw l a (lsz op))):=wide_pos c11.out c12.out (fun h=>absurd h (by omega)) rb.1 rb.2 pb.2
    have b1:=beq_f e1
    have b2:=beq_f e2
    clear e1 e2
    go_wp2_with (go_at_call 35;refine (Rw.Of_any _ _ (by omega) (by omega)).mono ?_;rintro e w' ⟨rfl,rfl⟩)
    go_ret2
    exact ⟨ret2 F.out,rfl⟩
theorem Load_any (cap:Nat)(op a:Int)(M:Mem w ao n l)(hn:n≤140737488351232)(h0:0≤a)(h1:a<4294967296):
  Calls Tryz.prog 24 #[.slice ao n cap,.int .i64 op,.int .u32 a] w fun e w'=>e=.returned (.tuple #[.int .u32 (ldV l op a),.bool (ldOk l op a)])∧w'=w:=by
 have hl:=M.len
 cases hok:thr n (lsz op) a with
 | false=>
  have e1:ldOk l op a=false:=by unfold ldOk;rw [hl];exact hok
  have e2:ldV l op a=0:=by unfold ldV;rw [e1];rfl
  rw [e1,e2]
  exact Load_no ao n cap op a w hn h0 h1 hok
 | true=>
  have e1:ldOk l op a=true:=by unfold ldOk;rw [hl];exact hok
  have e2:ldV l op a=wide op (raw l a.toNat (lsz op)):=by unfold ldV;rw [e1];rfl
  rw [e1,e2]
  obtain ⟨b,o,rfl,_,hc⟩:=M.spot (thr_pos hok h0)
  obtain ⟨a,rfl⟩:=Int.eq_ofNat_of_zero_le h0
  exact Load_yes b o n cap l op a w hn hl (by omega) hc hok
theorem Store_no (ao:Option Addr)(n cap:Nat)(op a x:Int)(w:World)(hn:n≤140737488351232)(h0:0≤a)(h1:a<4294967296)(hok:thr n (ssz op) a=false):
  Calls Tryz.prog 57 #[.slice ao n cap,.int .i64 op,.int .u32 a,.int .u32 x] w fun e w'=>e=.returned (.tuple #[.slice none 0 0,.bool false])∧w'=w:=by
 have hs:=ssz_le op
 go_enter Tryz.func57,Tryz.ntmps57
 go_wp2_with (first|(go_at_call 43;refine (Size_store _ _).mono ?_;rintro e w' ⟨rfl,rfl⟩)|(go_at_call 44;refine (there_any _ _ _ _ _ _ hn hs (by omega) (by omega)).mono ?_;rintro e w' ⟨rfl,rfl⟩))
 go_ret2
 exact ⟨rfl,rfl⟩
theorem own_shape {base:Nat}{v:Value}(h:w.ownsRow base 5 1 v (0+n) ([]++bc l))(hv:¬v=.slice none 0 0):
  ∃g cap,v=.slice (some ⟨g,0,none⟩) n cap∧Row w g l∧base≤g:=by
 obtain ⟨hlen,hc⟩:=h
 rcases hc with ⟨h0,_⟩|⟨g',cap',cur,rfl,hb,hg,hn,hm,hs,htake⟩
 ·exact absurd h0 hv
 ·refine ⟨g',cap',by simp,⟨cur.toList.drop ((0+n)*1),?_⟩,hb⟩
  have:bc l=cur.toList.take ((0+n)*1):=by rw [htake];rfl
  rw [this,List.take_append_drop]
  simpa using hg
def q8 (x:Int) (k:Nat):Int:=x/256 ^ k
theorem q8_succ (x:Int)(k:Nat):q8 x (k+1)=q8 x k/256:=by
 unfold q8
 rw [Int.pow_succ,Int.ediv_ediv_of_nonneg (by exact Int.pow_nonneg (by omega))]
theorem q8_bd (h0:0≤x)(h1:x<4294967296)(k:Nat):0≤q8 x k∧q8 x k<4294967296:=by
 unfold q8
 exact ⟨Int.ediv_nonneg h0 (Int.pow_nonneg (by omega)),Int.lt_of_le_of_lt (Int.ediv_le_self _ h0) h1⟩
theorem Store_yes (b o n cap:Nat)(l:List UInt8)(op x:Int)(a:Nat)(w:World)(hn:n≤140737488351232)(hl:l.length=n)(ha:a<4294967296)(hb:b<w.heap.size)(hx0:0≤x)(hx1:x<4294967296)
  (hc:∀t,t<n→w.cell? ⟨b,o+t,none⟩=some (.int .u8 (bv l t)))(hok:thr n (ssz op) (a:Int)=true):
  Calls Tryz.prog 57 #[.slice (some ⟨b,o,none⟩) n cap,.int .i64 op,.int .u32 a,.int .u32 x] w fun e w'=>∃g cap',e=.returned (.tuple #[.slice (some ⟨g,0,none⟩) n cap',.bool true])∧Row w' g (put l a x (ssz op))∧Gr w w'∧w.heap.size≤g:=by
 have hs:=ssz_le op
 have hk:=hok
 simp only [thr,decide_eq_true_eq] at hk
 obtain ⟨k0,k1,k2⟩:=hk
 have hroom:=ssz_room k1 ha k0
 obtain ⟨i0,hi,hz0,hz1,hz2⟩:=info_parts info5
 have HC:Hid _:=hc
 clear hc
 go_enter Tryz.func57,Tryz.ntmps57
 go_wp2_with (first
  | (go_at_call 43;refine (Size_store _ _).mono ?_;rintro e w' ⟨rfl,rfl⟩)
  | (go_at_call 44;refine (there_any _ _ _ _ _ _ hn hs (by omega) (by omega)).mono ?_;rintro e w' ⟨rfl,rfl⟩)
  | (at_builtin;refine wpList_append_own _ rfl (.tmp 21) (.tmp 22) 22 rfl _ 5 i0 (.int .u8 0) 1 1 Tryz.underlying22 hi hz0 hz1 hz2 rfl (by decide) _ 0 [] rfl (World.ownsRow_made _ #[] 0 (Nat.le_refl _) (by unfold maxLen;omega) rfl) _ n _ (bc l) rfl (by rw [bc_len,hl];simp) (bc_src hl (fun t ht=>(Gr.cell ((Gr.refl _).alloc _) _ (by exact hb)).trans (HC.out t ht))) (bc_one l) (by unfold maxLen;omega) (by omega) (by simp) ?_;intro v' w1 hown1 hgrow1 hnil;obtain ⟨g,cap',rfl,R0,hgb⟩:=own_shape hown1 (fun h=>by have h2:=(hnil.1 h).1;cases h2);have B0:=Gr.grown ((Gr.refl _).alloc _) hgrow1 (fun k hk=>by cases hk;exact Nat.le_refl _);clear hown1 hgrow1 hnil))
 clear HC hi hz0 hz1 hz2
 have hq0:q8 x 0=x:=by unfold q8;simp
 have HQ:Hid _:=hq0
 clear hq0
 go_loopw [12,13] (fun y i wr=>∃k:Nat,k≤ssz op∧i=.int .i64 k∧y=.int .i64 (q8 x k)∧Row wr g (put l a x k)∧Gr w' wr) (fun _ i _=>ssz op-(intOf i).toNat)
 case atStart=>exact ⟨0,Nat.zero_le _,rfl,by rw [HQ.out],R0,B0⟩
 case round=>
  obtain ⟨k,hk,rfl,rfl,R,G⟩:=hrel
  have qb:=q8_bd hx0 hx1 k
  by_cases hlt:k<ssz op
  ·have hp:=len_put l a x k
   have hck:=R.cell (t:=a+k) (by omega)
   have hfk:=R.frozen (a+k)
   have HS:Hid (Row (wr.setCell ⟨g,a+k,none⟩ (.int .u8 (q8 x k%256))) g (put l a x (k+1))):=R.set (t:=a+k) (by omega) (q8 x k%256) (by omega) (by omega)
   have HG:Hid _:=G
   have HN:Hid (q8 x (k+1)=q8 x k/256):=q8_succ x k
   clear R G R0 B0 hp
   go_wp2
   go_roundw
   case rel=>exact ⟨k+1,by omega,by go_num,by rw [HN.out],HS.out,HG.out.setCell hgb _⟩
   case measure=>simp [intOf];omega
  ·obtain rfl:k=ssz op:=by omega
   have HR:Hid _:=R
   have HG:Hid _:=G
   clear R G R0 B0
   go_wp2
   go_ret2
   exact ⟨g,cap',rfl,HR.out,HG.out,hgb⟩
theorem Store_new (cap:Nat)(op a x:Int)(M:Mem w ao n l)(hn:n≤140737488351232)(h0:0≤a)(h1:a<4294967296)(hx0:0≤x)(hx1:x<4294967296):
  Calls Tryz.prog 57 #[.slice ao n cap,.int .i64 op,.int .u32 a,.int .u32 x] w fun e w'=>
   ∃ao' n' cap',e=.returned (.tuple #[.slice ao' n' cap',.bool (stOk l op a)])∧Mem w' ao' n' (stL l op a x)∧Gr w w'∧∀ad,ao'=some ad→w.heap.size≤ad.block:=by
 have hl:=M.len
 cases hok:thr n (ssz op) a with
 | false=>
  have e1:stOk l op a=false:=by unfold stOk;rw [hl];exact hok
  have e2:stL l op a x=[]:=by unfold stL;rw [e1];rfl
  rw [e1,e2]
  refine (Store_no ao n cap op a x w hn h0 h1 hok).mono ?_
  rintro e w' ⟨rfl,rfl⟩
  exact ⟨none,0,0,rfl,Mem.none _,Gr.refl _,fun ad h=>by cases h⟩
 | true=>
  have e1:stOk l op a=true:=by unfold stOk;rw [hl];exact hok
  have e2:stL l op a x=put l a.toNat x (ssz op):=by unfold stL;rw [e1];rfl
  rw [e1,e2]
  obtain ⟨b,o,rfl,hb,hc⟩:=M.spot (thr_pos hok h0)
  obtain ⟨a,rfl⟩:=Int.eq_ofNat_of_zero_le h0
  refine (Store_yes b o n cap l op x a w hn hl (by omega) hb hx0 hx1 hc hok).mono ?_
  rintro e w' ⟨g,cap',rfl,R,G,hg⟩
  refine ⟨_,_,_,rfl,?_,G,fun ad h=>by cases h;exact hg⟩
  have:=R.mem
  rwa [len_put,hl] at this
theorem Store_any (cap:Nat)(op a x:Int)(M:Mem w ao n l)(hn:n≤140737488351232)(h0:0≤a)(h1:a<4294967296)(hx0:0≤x)(hx1:x<4294967296):
  Calls Tryz.prog 57 #[.slice ao n cap,.int .i64 op,.int .u32 a,.int .u32 x] w fun e w'=>
   ∃ao' n' cap',e=.returned (.tuple #[.slice ao' n' cap',.bool (stOk l op a)])∧Mem w' ao' n' (stL l op a x)∧Gr w w':=by
 refine (Store_new cap op a x M hn h0 h1 hx0 hx1).mono ?_
 rintro e w' ⟨a1,n1,c1,rfl,M1,G1,_⟩
 exact ⟨a1,n1,c1,rfl,M1,G1⟩
def sof (l:List UInt8):ByteArray:=⟨l.toArray⟩
theorem sof_eq (a b:List UInt8):((sof a).toList == (sof b).toList)=decide (a=b):=by
 rw [ByteArray.toList_eq,ByteArray.toList_eq]
 show (a == b)=_
 exact (Bool.eq_iff_iff.2 (by simp))
theorem conv_any (cap:Nat)(M:Mem w ao n l):(convert 22 9 (.slice ao n cap)).run Tryz.prog w=.ok (.string (sof l)) w:=by
 have hl:=M.len
 cases ao with
 | none=>
  have h0:=M.nil rfl
  subst h0
  obtain rfl:l=[]:=List.length_eq_zero_iff.1 hl
  rw [run_convert_bytes_string w 22 9 5 none 0 cap Tryz.underlying22 Tryz.underlying5 Tryz.underlying9]
  rfl
 | some ad=>
  subst hl
  exact run_convert_bytes_back w 22 9 5 ad cap l Tryz.underlying22 Tryz.underlying5 Tryz.underlying9 (fun j hj=>by rw [M.cell ad rfl j hj,bv_of hj])
theorem Bytes_any {bo:Option Addr}{m:Nat}(ca cb:Nat){k:List UInt8}(A:Mem w ao n l)(B:Mem w bo m k):
  Calls Tryz.prog 20 #[.slice ao n ca,.slice bo m cb] w fun e w'=>e=.returned (.bool (decide (l=k)))∧w'=w:=by
 have hA:=conv_any ca A
 have hB:=conv_any cb B
 have HE:Hid (((sof l).toList == (sof k).toList)=decide (l=k)):=sof_eq l k
 clear A B
 go_enter Tryz.func20,Tryz.ntmps20
 go_wp2
 go_ret
 exact ⟨ret_bool HE.out,rfl⟩
end Go.Proofs.YtchllaeembmioaaGreatDoor.Mr
namespace Go.Proofs.YtchllaeembmioaaGreatDoor.Hr
open Go.ChangeShapes Go.WideShapes Go.ChangeAt Go.RowKit Mm Hh

variable {d : Dv} {w w' : World} {ao : Option Addr} {n cap : Nat} {l : List UInt8}
theorem dA_setM (o:d.Ok)(m:Value)(a k:Int):(((dA d).setIfInBounds 37 m).setIfInBounds 39 (.int .u32 a)).setIfInBounds 40 (.int .i64 k)=dA (d.setM m a k):=by
 have:=hL_len o.h
 unfold dA Dv.setM
 simp only [List.setIfInBounds_toArray]
 rw [List.set_append_right _ _ (by omega),List.set_append_right _ _ (by omega),List.set_append_right _ _ (by omega),this]
 rfl
theorem results_cell_tmp' {P:Program}{fn:Func}{p t:Tmp}{ty:TypeId}(h:fn.results=#[.cell p ty,.tmp t])(tmps:Array Value)(w:World)(g:Nat)(tt:TypeId)(cs:Array Value)(fr:Nat×Nat)(d:TypeDesc)
  (v:Value)(hp:tmps.getD p undef=.pointer (some ⟨g,0,none⟩))(hv:tmps.getD t undef=v)(hg:w.heap[g]?=some (.cells cs tt fr))
  (hu:P.underlying ty=some d)(hd:(match d with|.struct _|.array _ _=>true|_=>false)=true)(hi:(P.info? ty).map (·.size)=some cs.size):
  (results fn tmps).run P w=.ok (.tuple #[.agg cs,v]) w:=by
 subst hv
 have hp':tmps[p]?.getD undef=.pointer (some ⟨g,0,none⟩):=by simpa using hp
 simp [results,h,hp',asAddr,run_loadVar_row w g tt ty cs fr d hg hu hd hi]
theorem heap_of_gr (g:Gr w w'){k:Nat}{x:Obj}(h:w.heap[k]?=some x):w'.heap[k]?=some x:=by
 rw [Below.block g k (gs h).1];exact h
theorem two_blocks {A:Array Value}{t:Nat}{Z:Array Value}(g:Gr ((w.alloc (.cells A t)).alloc (.cells Z t)) w')(hz:Z.size=41):
  w'.heap[w.heap.size]?=some (.cells A t (0,0))∧∃Z:Array Value,Z.size=41∧w'.heap[w.heap.size+1]?=some (.cells Z t (0,0)):=
 ⟨heap_of_gr g (heap_alloc2_old w _ _),Z,hz,heap_of_gr g (heap_alloc2_new w _ _)⟩
theorem store_no (o:d.Ok)(hm:d.m=.slice ao n cap)(op a x:Int)(M:Mem w ao n l)(hn:n≤140737488351232)(h0:0≤a)(h1:a<4294967296)(hx0:0≤x)(hx1:x<4294967296)(ok:stOk l op a=false):
  Calls Tryz.prog 39 #[.agg (dA d),.int .i64 op,.int .u32 a,.int .u32 x] w fun e w'=>e=.returned (.tuple #[.agg (dA d),.bool false])∧Gr w w':=by
 have S:Hid (∀W:World,Gr w W→Calls Tryz.prog 57 #[.slice ao n cap,.int .i64 op,.int .u32 a,.int .u32 x] W fun e w'=>∃ao' n' cap',e=.returned (.tuple #[.slice ao' n' cap',.bool false])∧Mem w' ao' n' (stL l op a x)∧Gr W w'):=fun W G=>by
  have:=Mr.Store_any cap op a x (M.of G) hn h0 h1 hx0 hx1
  rwa [ok] at this
 have g37:(dA d)[37]?=some (.slice ao n cap):=by rw [dA_fld o.h 0];simp [hm]
 have hs:Hid ((dA d).size=41):=dA_size o.h
 have H1:Hid ((dA d).all (·.oneCell')=true):=one_dA o
 generalize dA d=D0 at *
 clear M hm ok o
 go_enter Tryz.func39,Tryz.ntmps39
 go_wp2_with fail
 refine (S.out _ (((Gr.refl _).alloc _).alloc _)).mono ?_
 rintro e w1 ⟨a1,n1,c1,rfl,M1,G1⟩
 obtain ⟨hB,Z,hz,hR⟩:=two_blocks G1 rfl
 have HG:Hid (Gr w w1):=(((Gr.refl _).alloc _).alloc _).trans G1
 have HB:Hid _:=hB
 have HR:Hid _:=hR
 clear M1 G1 S hB hR
 go_wp2_with (first
  | (refine wpList_load_row rfl 71 _ rfl _ rfl _ _ _ _ HB.out Tryz.underlying71 rfl (by rw [hs.out];exact iD) ?_)
  | (refine wpList_store_row rfl 71 _ _ rfl _ _ rfl rfl _ _ HR.out (by rw [hs.out];exact iD) (by rw [hs.out,hz]) H1.out ?_))
 refine bodyPost_ret (v:=.tuple #[.agg D0,.bool false]) (results_cell_tmp' Tryz.results39 _ _ _ _ _ (0,0) _ _ rfl rfl (srh HR.out) Tryz.underlying71 rfl (by rw [hs.out];exact iD)) rfl ⟨rfl,?_⟩
 exact gr_setRow HG.out (Nat.le_succ _) _
theorem store_yes {d:Dv}(o:d.Ok){ao:Option Addr}{n cap:Nat}{l:List UInt8}(hm:d.m=.slice ao n cap)(op a x:Int){w:World}(M:Mem w ao n l)(hn:n≤140737488351232)(h0:0≤a)(h1:a<4294967296)(hx0:0≤x)(hx1:x<4294967296)(ok:stOk l op a=true):
  Calls Tryz.prog 39 #[.agg (dA d),.int .i64 op,.int .u32 a,.int .u32 x] w fun e w'=>∃ao' n' cap',e=.returned (.tuple #[.agg (dA (d.setM (.slice ao' n' cap') a (ssz op:Nat))),.bool true])∧Mem w' ao' n' (stL l op a x)∧Gr w w'∧∀ad,ao'=some ad→w.heap.size≤ad.block:=by
 have S:Hid (∀W:World,Gr w W→Calls Tryz.prog 57 #[.slice ao n cap,.int .i64 op,.int .u32 a,.int .u32 x] W fun e w'=>∃ao' n' cap',e=.returned (.tuple #[.slice ao' n' cap',.bool true])∧Mem w' ao' n' (stL l op a x)∧Gr W w'∧∀ad,ao'=some ad→W.heap.size≤ad.block):=fun W G=>by
  have:=Mr.Store_new cap op a x (M.of G) hn h0 h1 hx0 hx1
  rwa [ok] at this
 have g37:(dA d)[37]?=some (.slice ao n cap):=by rw [dA_fld o.h 0];simp [hm]
 have g39:(dA d)[39]?=some (.int .u32 d.fro):=by rw [dA_fld o.h 2];rfl
 have g40:(dA d)[40]?=some (.int .i64 d.many):=by rw [dA_fld o.h 3];rfl
 have hs:Hid ((dA d).size=41):=dA_size o.h
 have E:Hid (∀(a1:Option Addr) (n1 c1:Nat),(((dA d).setIfInBounds 37 (.slice a1 n1 c1)).setIfInBounds 39 (.int .u32 a)).setIfInBounds 40 (.int .i64 (ssz op:Nat))=dA (d.setM (.slice a1 n1 c1) a (ssz op:Nat))):=fun a1 n1 c1=>dA_setM o _ _ _
 have SE:Hid (∀(a1:Option Addr) (n1 c1:Nat),(dA (d.setM (.slice a1 n1 c1) a (ssz op:Nat))).size=41):=fun a1 n1 c1=>dA_size (d:=d.setM _ _ _) o.h
 have H1:Hid (∀(a1:Option Addr) (n1 c1:Nat),(dA (d.setM (.slice a1 n1 c1) a (ssz op:Nat))).all (·.oneCell')=true):=fun a1 n1 c1=>one_dA ⟨o.h,rfl,o.out⟩
 generalize d.fro=y1 at *
 generalize d.many=y2 at *
 generalize dA d=D0 at *
 clear M hm ok o
 go_enter Tryz.func39,Tryz.ntmps39
 go_wp2_with fail
 refine (S.out _ (((Gr.refl _).alloc _).alloc _)).mono ?_
 rintro e w1 ⟨a1,n1,c1,rfl,M1,G1,F1⟩
 have HF:Hid (∀ad,a1=some ad→w.heap.size+1<ad.block):=fun ad q=>by have:=F1 ad q;simp at this;omega
 obtain ⟨hB,Z,hz,hR⟩:=two_blocks G1 rfl
 have HG:Hid (Gr w w1):=(((Gr.refl _).alloc _).alloc _).trans G1
 have HM:Hid (Mem w1 a1 n1 (stL l op a x)):=M1
 have c37:w1.cell? ⟨w.heap.size,37,none⟩=some (.slice ao n cap):=by rw [cell_of_row _ _ _ _ _ _ hB];exact g37
 have c39:w1.cell? ⟨w.heap.size,39,none⟩=some (.int .u32 y1):=by rw [cell_of_row _ _ _ _ _ _ hB];exact g39
 have c40:w1.cell? ⟨w.heap.size,40,none⟩=some (.int .i64 y2):=by rw [cell_of_row _ _ _ _ _ _ hB];exact g40
 have fz:∀j,w1.frozen? ⟨w.heap.size,j,none⟩=false:=fun j=>frozen_of_row _ _ j _ _ hB
 have hSE:=SE.out a1 n1 c1
 have hE:=E.out a1 n1 c1
 have hH:=H1.out a1 n1 c1
 clear SE E H1
 generalize hD:dA (d.setM (.slice a1 n1 c1) a (ssz op:Nat))=D2 at *
 have HD:Hid (dA (d.setM (.slice a1 n1 c1) a (ssz op:Nat))=D2):=hD
 clear hD F1
 have HB:Hid ((((w1.setCell ⟨w.heap.size,37,none⟩ (.slice a1 n1 c1)).setCell ⟨w.heap.size,39,none⟩ (.int .u32 a)).setCell ⟨w.heap.size,40,none⟩ (.int .i64 (ssz op:Nat))).heap[w.heap.size]?=some (.cells D2 71 (0,0))):=by
  rw [←hE]
  exact heap_setCell_same _ _ _ _ _ _ (heap_setCell_same _ _ _ _ _ _ (heap_setCell_same _ _ _ _ _ _ hB))
 have HR:Hid ((((w1.setCell ⟨w.heap.size,37,none⟩ (.slice a1 n1 c1)).setCell ⟨w.heap.size,39,none⟩ (.int .u32 a)).setCell ⟨w.heap.size,40,none⟩ (.int .i64 (ssz op:Nat))).heap[w.heap.size+1]?=some (.cells Z 71 (0,0))):=by
  show _=_
  rw [heap_setCell_other _ _ _ _ (by simp),heap_setCell_other _ _ _ _ (by simp),heap_setCell_other _ _ _ _ (by simp)]
  exact hR
 have HS:Hid (D2.size=41):=hSE
 have HO:Hid (D2.all (·.oneCell')=true):=hH
 clear M1 G1 S hB hR hSE hE hH g37 g39 g40 hs
 go_wp2_with (first
  | (go_at_call 43;refine (Mr.Size_store _ _).mono ?_;rintro e w' ⟨rfl,rfl⟩)
  | (refine wpList_load_row rfl 71 _ rfl w.heap.size rfl 71 D2 (0,0) _ ?hb1 Tryz.underlying71 rfl (by rw [HS.out];exact iD) ?_;(case hb1=>exact HB.out))
  | (refine wpList_store_row rfl 71 _ _ rfl (w.heap.size+1) D2 rfl rfl 71 Z ?hb2 (by rw [HS.out];exact iD) (by rw [HS.out,hz]) HO.out ?_;(case hb2=>exact HR.out)))
 refine bodyPost_ret (v:=.tuple #[.agg D2,.bool true]) (results_cell_tmp' Tryz.results39 _ _ _ _ _ (0,0) _ _ rfl rfl (setRow_heap _ _ _ _ _ (0,0) HR.out) Tryz.underlying71 rfl (by rw [HS.out];exact iD)) rfl ⟨a1,n1,c1,by rw [HD.out],?_,?_,fun ad q=>by have:=HF.out ad q;omega⟩
 ·refine HM.out.apart fun ad q=>?_
  have:=HF.out ad q
  rw [setRow_other _ _ _ _ (by omega),heap_setCell_other _ _ _ _ (by simp;omega),heap_setCell_other _ _ _ _ (by simp;omega),heap_setCell_other _ _ _ _ (by simp;omega)]
 ·exact gr_setRow (((HG.out.setCell (Nat.le_refl _) _).setCell (Nat.le_refl _) _).setCell (Nat.le_refl _) _) (Nat.le_succ _) _
end Go.Proofs.YtchllaeembmioaaGreatDoor.Hr
namespace Go.Proofs.YtchllaeembmioaaGreatDoor.Hc
open Go.ChangeShapes Go.WideShapes Go.ChangeAt Go.RowKit Mm Hh

theorem mem_bc {w w':World}{ad:Addr}{n:Nat}{l:List UInt8}(M:Mem w (some ad) n l)(G:Gr w w'):∀j u,(bc l)[j]?=some u→w'.cell? (ad.add j)=some u:=by
 intro j u hj
 obtain ⟨h1,rfl⟩:=bc_get hj
 have hl:=M.len
 exact (M.of G).cell ad rfl j (by omega)
theorem own_of {w:World}{base n:Nat}{v:Value}{l:List UInt8}(hl:l.length=n)(h:w.ownsRow base 5 1 v n (bc l)):Own w base v l:=by
 subst hl
 obtain ⟨_,h⟩:=h
 rcases h with ⟨rfl,h0⟩|⟨g,cap,cur,rfl,hb,hg,hn,hm,hs,ht⟩
 ·exact .inl ⟨rfl,List.eq_nil_of_length_eq_zero h0⟩
 ·refine .inr ⟨g,cap,rfl,hb,cur.toList.drop (l.length*1),?_⟩
  rw [←ht,List.take_append_drop]
  exact hg
theorem Clone_any {w:World}{ao:Option Addr}{n cap:Nat}{l:List UInt8}(M:Mem w ao n l)(hcap:ao=none→cap=0)(hn:n≤140737488351232):
  Calls Tryz.prog 30 #[.slice ao n cap] w fun e w'=>∃v,e=.returned v∧Own w' w.heap.size v l∧Gr w w':=by
 have hl:=M.len
 cases ao with
 | none=>
  obtain rfl:=M.nil rfl
  obtain rfl:=hcap rfl
  obtain rfl:l=[]:=List.eq_nil_of_length_eq_zero hl
  clear M hcap
  have he:∀w:World,(binOp .eql 22 (.slice none 0 0) (.slice none 0 0)).run Tryz.prog w=.ok (.bool true) w:=fun _=>by kernel_rfl
  go_enter Tryz.func30,Tryz.ntmps30
  go_wp2
  go_ret
  exact ⟨_,rfl,.inl ⟨rfl,rfl⟩,Gr.refl _⟩
 | some ad=>
  obtain ⟨i0,hi,hz0,hz1,hz2⟩:=info_parts info5
  have HM:Hid (Mem w (some ad) n l):=M
  have he:∀w:World,(binOp .eql 22 (.slice (some ad) n cap) (.slice none 0 0)).run Tryz.prog w=.ok (.bool false) w:=fun _=>by kernel_rfl
  clear M hcap
  go_enter Tryz.func30,Tryz.ntmps30
  go_wp2_with (at_builtin;refine wpList_append_own _ rfl (.tmp 5) (.tmp 6) 22 rfl w.heap.size 5 i0 (.int .u8 0) 1 1 Tryz.underlying22 hi hz0 hz1 hz2 rfl (by decide) _ 0 [] rfl (World.ownsRow_made w #[] 0 (Nat.le_refl _) (by decide) rfl) ad n cap (bc l) rfl (by rw [bc_len,hl];simp) (mem_bc HM.out ((Gr.refl _).alloc _)) (bc_one l) (by unfold maxLen;omega) (by omega) (by simp) ?_;intro v' w1 hown hgrow _;have HO:Hid (Own w1 w.heap.size v' l):=own_of hl (by simpa using hown);have HG:Hid (Gr w w1):=((Gr.refl _).alloc _).grown hgrow (fun k e=>Nat.le_of_eq (Option.some.inj e));clear hown hgrow)
  go_ret
  exact ⟨_,rfl,HO.out,HG.out⟩
theorem iC:(Tryz.prog.info? 115).map (·.size)=some 40:=by kernel_rfl
theorem two_of {w w':World}{A Z:Array Value}{t u:Nat}(g:Gr ((w.alloc (.cells A t)).alloc (.cells Z u)) w'):w'.heap[w.heap.size]?=some (.cells A t (0,0))∧w'.heap[w.heap.size+1]?=some (.cells Z u (0,0)):=
 ⟨Hr.heap_of_gr g (heap_alloc2_old w _ _),Hr.heap_of_gr g (heap_alloc2_new w _ _)⟩
theorem Own.cells {w:World}{base:Nat}{v:Value}{l:List UInt8}(h:Own w base v l):v.cells=#[v]∧v.oneCell'=true:=by
 rcases h with ⟨rfl,_⟩|⟨k,cap,rfl,_⟩<;>exact ⟨rfl,rfl⟩
theorem Own.base {w w':World}{b b':Nat}{v:Value}{l:List UInt8}(h:Own w b v l)(hb:b'≤b):Own w b' v l:=by
 rcases h with h|⟨k,cap,e,q,R⟩
 ·exact .inl h
 ·exact .inr ⟨k,cap,e,Nat.le_trans hb q,R⟩
theorem range_of {w:World}{b:Nat}{h:Hv}{t:Nat}(e:w.heap[b]?=some (.cells (hA h) t (0,0))):w.rangeAt b 0 (hL h):=fun j v hv=>by
 rw [Nat.zero_add,cell_of_row _ _ _ _ _ _ e]
 simpa [hA] using hv
theorem NewCore_yes {h:Hv}(o:h.Ok){ao:Option Addr}{n cap:Nat}{l:List UInt8}{w:World}(M:Mem w ao n l)(hcap:ao=none→cap=0)(hn:n≤4096)(hm:may h=true)(hs:h.state=0):
  Calls Tryz.prog 99 #[.agg (hA h),.slice ao n cap] w fun e w'=>∃v,e=.returned (.tuple #[.agg (cA ⟨h,v,nilS,nilS⟩),.bool true])∧Own w' w.heap.size v l∧Gr w w':=by
 have HM:Hid (∀W:World,Calls Tryz.prog 69 #[.agg (hA h)] W fun e w'=>e=.returned (.bool true)∧Gr W w'):=fun W=>by rw [←hm];exact may_any o W
 have g35:(hA h)[35]?=some (.int .i64 0):=by rw [←hs];exact (may_get h o).2.2.2.1
 have HS:Hid ((hA h).size=37):=hA_size o
 have HL:Hid ((hL h).length=37):=hL_len o
 have HC:Hid (∀W:World,Gr w W→Calls Tryz.prog 30 #[.slice ao n cap] W fun e w'=>∃v,e=.returned v∧Own w' w.heap.size v l∧Gr W w'):=fun W G=>
  (Clone_any (M.of G) hcap (by omega)).mono fun e w' ⟨v,e1,e2,e3⟩=>⟨v,e1,e2.base (w':=w') G.size,e3⟩
 have HBu:Hid (∀v:Value,v.cells=#[v]→Tryz.prog.built 115 [(0,.agg (hA h)),(1,v)]=some (cA ⟨h,v,nilS,nilS⟩)):=fun v hv=>built_core o v hv
 have HZ:Hid (∀v,(cA ⟨h,v,nilS,nilS⟩).size=40):=fun v=>cA_size o
 clear M hm hs hcap o
 go_enter Tryz.func99,Tryz.ntmps99
 go_wp2_with (refine wpList_load_row rfl 51 _ rfl w.heap.size rfl 51 (hA h) (0,0) _ ?hb1 Tryz.underlying51 rfl (by rw [HS.out];exact Hr.iH) ?_;(case hb1=>exact heap_alloc2_old w _ _))
 refine (HM.out _).mono ?_
 rintro e w1 ⟨rfl,G1⟩
 obtain ⟨hB,hR⟩:=two_of G1
 have HG:Hid (Gr w w1):=(((Gr.refl _).alloc _).alloc _).trans G1
 have k35:w1.cell? ⟨w.heap.size,35,none⟩=some (.int .i64 0):=(cell_of_row _ _ _ _ _ _ hB).trans g35
 have HB:Hid (w1.heap[w.heap.size]?=some (.cells (hA h) 51 (0,0))):=hB
 have HR:Hid (∃Z:Array Value,Z.size=40∧w1.heap[w.heap.size+1]?=some (.cells Z 115 (0,0))):=⟨_,rfl,hR⟩
 clear G1 hB hR HM g35
 obtain ⟨Z,hz,hR⟩:=HR.out
 have HR2:Hid (w1.heap[w.heap.size+1]?=some (.cells Z 115 (0,0))):=hR
 clear HR hR
 go_wp2_with fail
 refine wp_region_any (by kernel_rfl) ?_
 change wpAny _ _ _ _ _ _ _ (World.drew _)
 refine wpAny_take (i:=1) (v:=.slice ao n cap) rfl (by kernel_rfl) (by kernel_rfl) (by kernel_rfl) (fun _ _ _ h=>h) (Or.inl ⟨by rfl,fun w=>by go_simp⟩) ?_
 refine wpAny_ready (rs:=[0,2]) (by kernel_rfl) (by simp) ?_
 refine AllReady.cons rfl (fun K hK=>?_) (AllReady.cons rfl (fun K hK=>?_) AllReady.nil)
 ·refine step_load rfl 51 (.tmp 2) rfl w.heap.size (by simp [Act.eval,Act.put]) (hL h) _ (range_of (by exact HB.out)) Tryz.underlying51 rfl (by rw [HL.out];exact Hr.iH) ?_
  refine hK _ _ ?_
  clear hK K
  refine wpAny_ready (rs:=[2]) (by kernel_rfl) (by simp) ?_
  refine AllReady.cons rfl (fun K hK=>?_) AllReady.nil
  go_simp
  refine (HC.out _ (by repeat (first|exact HG.out|refine Gr.drew ?_))).mono ?_
  rintro e w2 ⟨v,rfl,O2,G2⟩
  simp only []
  refine hK _ _ ?_
  clear hK K
  have HO2:Hid (Own w2 w.heap.size v l):=O2
  have HG2:Hid (Gr w1 w2):=(Gr.refl w1).drew.trans G2
  clear O2 G2
  refine wpAny_ready (rs:=[3]) (by kernel_rfl) (by simp) ?_
  refine AllReady.cons rfl (fun K hK=>?_) AllReady.nil
  refine step_build rfl 115 _ rfl (cA ⟨h,v,nilS,nilS⟩) (by have:=HBu.out v HO2.out.cells.1;simp [Act.eval,Act.put];exact this) ?_
  refine hK _ _ ?_
  clear hK K
  refine wpAny_ready (rs:=[4]) (by kernel_rfl) (by simp) ?_
  refine AllReady.cons rfl (fun K hK=>?_) AllReady.nil
  refine step_store rfl 115 (.tmp 4) (.tmp 23) rfl (w.heap.size+1) (cA ⟨h,v,nilS,nilS⟩) (by simp [Act.eval,Act.put]) (by simp [Act.eval,Act.put]) 115 Z (Hr.heap_of_gr HG2.out HR2.out) (by rw [HZ.out];exact iC) (by rw [HZ.out,hz]) (one_cA _ HO2.out.cells.2 rfl rfl) ?_
  refine hK _ _ ?_
  clear hK K
  refine wpAny_ready (rs:=[5]) (by kernel_rfl) (by simp) ?_
  refine AllReady.cons rfl (fun K hK=>?_) AllReady.nil
  go_simp
  refine hK _ _ ?_
  clear hK K
  refine wpAny_done (by kernel_rfl) ?_ _
  go_wp2_with fail
  refine bodyPost_ret (v:=.tuple #[.agg (cA ⟨h,v,nilS,nilS⟩),.bool true]) (Hr.results_cell_tmp' Tryz.results99 _ _ _ _ _ (0,0) _ _ (by simp [Act.put]) (by simp [Act.put]) (setRow_heap _ _ _ _ _ (0,0) (Hr.heap_of_gr HG2.out HR2.out)) Tryz.underlying115 rfl (by rw [HZ.out];exact iC)) rfl ⟨v,rfl,?_,?_⟩
  ·refine HO2.out.to fun k q f hk=>setRow_other _ _ _ _ ?_
   exact ne_of_types hk (Hr.heap_of_gr HG2.out HR2.out) (by decide)
  ·exact gr_setRow (HG.out.trans HG2.out) (Nat.le_succ _) _
 ·go_simp
  refine (HC.out _ (by repeat (first|exact HG.out|refine Gr.drew ?_))).mono ?_
  rintro e w2 ⟨v,rfl,O2,G2⟩
  simp only []
  refine hK _ _ ?_
  clear hK K
  have HO2:Hid (Own w2 w.heap.size v l):=O2
  have HG2:Hid (Gr w1 w2):=(Gr.refl w1).drew.trans G2
  clear O2 G2
  refine wpAny_ready (rs:=[0]) (by kernel_rfl) (by simp) ?_
  refine AllReady.cons rfl (fun K hK=>?_) AllReady.nil
  refine step_load rfl 51 (.tmp 2) rfl w.heap.size (by simp [Act.eval,Act.put]) (hL h) _ (range_of (Hr.heap_of_gr HG2.out HB.out)) Tryz.underlying51 rfl (by rw [HL.out];exact Hr.iH) ?_
  refine hK _ _ ?_
  clear hK K
  refine wpAny_ready (rs:=[3]) (by kernel_rfl) (by simp) ?_
  refine AllReady.cons rfl (fun K hK=>?_) AllReady.nil
  refine step_build rfl 115 _ rfl (cA ⟨h,v,nilS,nilS⟩) (by have:=HBu.out v HO2.out.cells.1;simp [Act.eval,Act.put];exact this) ?_
  refine hK _ _ ?_
  clear hK K
  refine wpAny_ready (rs:=[4]) (by kernel_rfl) (by simp) ?_
  refine AllReady.cons rfl (fun K hK=>?_) AllReady.nil
  refine step_store rfl 115 (.tmp 4) (.tmp 23) rfl (w.heap.size+1) (cA ⟨h,v,nilS,nilS⟩) (by simp [Act.eval,Act.put]) (by simp [Act.eval,Act.put]) 115 Z (Hr.heap_of_gr HG2.out HR2.out) (by rw [HZ.out];exact iC) (by rw [HZ.out,hz]) (one_cA _ HO2.out.cells.2 rfl rfl) ?_
  refine hK _ _ ?_
  clear hK K
  refine wpAny_ready (rs:=[5]) (by kernel_rfl) (by simp) ?_
  refine AllReady.cons rfl (fun K hK=>?_) AllReady.nil
  go_simp
  refine hK _ _ ?_
  clear hK K
  refine wpAny_done (by kernel_rfl) ?_ _
  go_wp2_with fail
  refine bodyPost_ret (v:=.tuple #[.agg (cA ⟨h,v,nilS,nilS⟩),.bool true]) (Hr.results_cell_tmp' Tryz.results99 _ _ _ _ _ (0,0) _ _ (by simp [Act.put]) (by simp [Act.put]) (setRow_heap _ _ _ _ _ (0,0) (Hr.heap_of_gr HG2.out HR2.out)) Tryz.underlying115 rfl (by rw [HZ.out];exact iC)) rfl ⟨v,rfl,?_,?_⟩
  ·refine HO2.out.to fun k q f hk=>setRow_other _ _ _ _ ?_
   exact ne_of_types hk (Hr.heap_of_gr HG2.out HR2.out) (by decide)
  ·exact gr_setRow (HG.out.trans HG2.out) (Nat.le_succ _) _
end Go.Proofs.YtchllaeembmioaaGreatDoor.Hc
namespace Go.Proofs.YtchllaeembmioaaGreatDoor.Mc
open Go.ChangeShapes Go.WideShapes Go.ChangeAt Go.RowKit Mm Hh Hc

variable {hs : List Hv} {w : World} {n : Nat}
theorem pwrong_any {ma ha pa:Option Addr}{hn pn:Nat}(mc hc pc:Nat){m:List UInt8}{hs:List Hv}{ps:List (Int×Int)}{w:World}(mn:Nat)(hmn:m.length=mn)(H:Hs w ha hn hs)(P:Ps w pa pn ps)(b1:mn≤140737488351232)(b2:hn≤140737488351232)(b3:pn≤140737488351232):
  Calls Tryz.prog 29 #[.agg #[.slice ma mn mc,.slice ha hn hc],.slice pa pn pc] w fun e w'=>e=.returned (.int .i64 (wrong m hs ps))∧Gr w w':=by
 have HM:Hid (∀W:World,Gr w W→Calls Tryz.prog 51 #[.agg #[.slice ma mn mc,.slice ha hn hc]] W fun e w'=>e=.returned (.bool (mayM mn hs))∧Gr W w'):=fun W G=>MMay_any mc hc mn (H.of G) b1 b2
 have HWr:Hid (wrong m hs ps=if mayM mn hs=false then 2 else if 300<ps.length then 1 else if ps.all (pickOk hs.length)=false then 3 else 0):=by have:=wrong_may m hs ps;rw [hmn] at this;exact this
 have HL:Hid (hs.length=hn):=H.len
 have PL:Hid (ps.length=pn):=P.len
 have HP:Hid (Ps w pa pn ps):=P
 clear H P hmn
 generalize mayM mn hs=B at *
 cases B with
 | false=>
  have HE:Hid (wrong m hs ps=2):=by unfold Hid;rw [HWr.out,if_pos rfl]
  clear HWr HP
  go_enter Tryz.func29,Tryz.ntmps29
  go_wp2_with fail
  refine (HM.out _ ((Gr.refl _).alloc _)).mono ?_
  rintro e w1 ⟨rfl,G1⟩
  have HG1:Hid (Gr w w1):=((Gr.refl _).alloc _).trans G1
  clear G1 HM
  go_wp2_with fail
  go_ret
  exact ⟨ret_int HE.out.symm,HG1.out⟩
 | true=>
  have HW2:Hid (wrong m hs ps=if 300<pn then 1 else if ps.all (pickOk hn)=false then 3 else 0):=by unfold Hid;rw [HWr.out,if_neg (by simp),PL.out,HL.out]
  clear HWr
  go_enter Tryz.func29,Tryz.ntmps29
  go_wp2_with fail
  refine (HM.out _ ((Gr.refl _).alloc _)).mono ?_
  rintro e w1 ⟨rfl,G1⟩
  have HG1:Hid (Gr w w1):=((Gr.refl _).alloc _).trans G1
  have HB:Hid (w1.heap[w.heap.size]?=some (.cells #[.slice ma mn mc,.slice ha hn hc] 25 (0,0))):=(G1.block _ (by simp)).trans (heap_alloc_new w _)
  have hlt1:w.heap.size<w1.heap.size:=(Array.getElem?_eq_some_iff.1 HB.out).1
  clear G1 HM
  by_cases c3:300<pn
  ·have HE:Hid (wrong m hs ps=1):=by unfold Hid;rw [HW2.out,if_pos c3]
   go_wp2_with fail
   go_ret
   exact ⟨ret_int HE.out.symm,HG1.out⟩
  ·have HW3:Hid (wrong m hs ps=if ps.all (pickOk hn)=false then 3 else 0):=by unfold Hid;rw [HW2.out,if_neg c3]
   clear HW2
   by_cases p0:pn=0
   ·subst p0
    have HE:Hid (wrong m hs ps=0):=by
     have:ps=[]:=List.eq_nil_of_length_eq_zero PL.out
     unfold Hid;rw [HW3.out,this];rfl
    go_wp2_with fail
    go_loopw [15] (fun i wq=>i=.int .i64 0∧wq=w1) (fun _ _=>0)
    case atStart=>exact ⟨rfl,rfl⟩
    case round=>
     obtain ⟨rfl,rfl⟩:=hrel
     go_wp2
     go_ret
     exact ⟨ret_int HE.out.symm,HG1.out⟩
   ·obtain ⟨b',o',rfl,hb',hcell'⟩:=HP.out.spot (by omega)
    have HC:Hid (∀i p,ps[i]?=some p→w1.cell? ⟨b',o'+i*2,none⟩=some (.int .i64 p.1)∧w1.cell? ⟨b',o'+i*2+1,none⟩=some (.int .i64 p.2)):=fun i p hp=>⟨(HG1.out.cell _ (by exact hb')).trans (hcell' i p hp).1,(HG1.out.cell _ (by exact hb')).trans (hcell' i p hp).2⟩
    have hb1:b'<w1.heap.size:=Nat.lt_of_lt_of_le hb' HG1.out.size
    clear hcell' HP
    go_wp2_with fail
    go_loopw [15] (fun i wq=>∃j:Nat,j≤pn∧i=.int .i64 j∧(ps.take j).all (pickOk hn)=true∧Gr w1 wq) (fun i _=>pn-(intOf i).toNat)
    case atStart=>exact ⟨0,Nat.zero_le _,rfl,rfl,Gr.refl _⟩
    case round=>
     obtain ⟨j,hj,rfl,hall,G⟩:=hrel
     have HA:Hid ((ps.take j).all (pickOk hn)=true):=hall
     have HG:Hid (Gr w1 wr):=G
     have hbr:b'<wr.heap.size:=Nat.lt_of_lt_of_le hb1 G.size
     have hwr:w.heap.size<wr.heap.size:=Nat.lt_of_lt_of_le hlt1 G.size
     have k1:wr.cell? ⟨w.heap.size,1,none⟩=some (.slice ha hn hc):=(G.cell _ (by exact hlt1)).trans (cell_of_row _ _ _ _ _ _ HB.out)
     clear hall G
     by_cases hlt2:j<pn
     ·obtain ⟨p,hp⟩:∃p,ps[j]?=some p:=⟨_,List.getElem?_eq_getElem (by rw [PL.out];exact hlt2)⟩
      have q0:wr.cell? ⟨b',o'+j*2,none⟩=some (.int .i64 p.1):=(HG.out.cell _ (by exact hb1)).trans (HC.out j p hp).1
      have q1:wr.cell? ⟨b',o'+j*2+1,none⟩=some (.int .i64 p.2):=(HG.out.cell _ (by exact hb1)).trans (HC.out j p hp).2
      have HE:Hid (¬(0≤p.1∧p.1<hn∧0≤p.2∧p.2≤400)→wrong m hs ps=3):=fun hno=>by rw [HW3.out,if_pos (all_false hp (by unfold pickOk;exact decide_eq_false hno))]
      have HN:Hid ((0≤p.1∧p.1<hn∧0≤p.2∧p.2≤400)→(ps.take (j+1)).all (pickOk hn)=true):=fun hy=>by
       rw [all_take _ ps j p hp,HA.out,show pickOk hn p=true by unfold pickOk;exact decide_eq_true hy];rfl
      clear hp
      obtain ⟨x,y⟩:=p
      simp only at *
      have hc:x<0∨(¬x<0∧(hn:Int)≤x)∨(¬x<0∧¬(hn:Int)≤x∧y<0)∨(¬x<0∧¬(hn:Int)≤x∧¬y<0∧400<y)∨(¬x<0∧¬(hn:Int)≤x∧¬y<0∧¬400<y):=by omega
      rcases hc with h1|⟨h1,h2⟩|⟨h1,h2,h3⟩|⟨h1,h2,h3,h4⟩|⟨h1,h2,h3,h4⟩
      ·go_wp2
       go_ret
       exact ⟨ret_int (HE.out (by omega)).symm,HG1.out.trans (HG.out.alloc _)⟩
      ·go_wp2
       go_ret
       exact ⟨ret_int (HE.out (by omega)).symm,HG1.out.trans (HG.out.alloc _)⟩
      ·go_wp2
       go_ret
       exact ⟨ret_int (HE.out (by omega)).symm,HG1.out.trans (HG.out.alloc _)⟩
      ·go_wp2
       go_ret
       exact ⟨ret_int (HE.out (by omega)).symm,HG1.out.trans (HG.out.alloc _)⟩
      ·go_wp2
       go_roundw
       case rel=>exact ⟨j+1,by omega,by go_num,HN.out (by omega),HG.out.alloc _⟩
       case measure=>simp [intOf];omega
     ·have HE:Hid (wrong m hs ps=0):=by
       have e:(ps.take j).all (pickOk hn)=true:=HA.out
       rw [show j=pn by omega,←PL.out,List.take_length] at e
       unfold Hid;rw [HW3.out,e];rfl
      go_wp2
      go_ret
      exact ⟨ret_int HE.out.symm,HG1.out.trans HG.out⟩
theorem owns_at {base e sz:Nat}{v:Value}{xs:List Value}(h:w.ownsRow base e sz v n xs)(hn:1≤n):∃g cap,v=.slice (some ⟨g,0,none⟩) n cap∧base≤g:=by
 obtain ⟨_,h⟩:=h
 rcases h with ⟨_,h0⟩|⟨g,cap,cur,hv,hb,_⟩
 ·omega
 ·exact ⟨g,cap,hv,hb⟩
theorem infoH:(Tryz.prog.info? 51).map (fun i=>(i.zero,i.size,i.bytes))=some (some (.agg (hA h0)),37,160):=by kernel_rfl
theorem HClone_any {ad:Addr}(cap:Nat)(H:Hs w (some ad) n hs)(hn1:1≤n)(hn:n≤4):
  Calls Tryz.prog 31 #[.slice (some ad) n cap] w fun e w'=>∃g c,e=.returned (.slice (some ⟨g,0,none⟩) n c)∧w.heap.size≤g∧HRow w' g hs∧Gr w w':=by
 obtain ⟨i0,hi,hz0,hz1,hz2⟩:=info_parts infoH
 have HH:Hid _:=H
 have HL:Hid _:=H.len
 have HO:Hid _:=H.ok
 have he:∀w:World,(binOp .eql 23 (.slice (some ad) n cap) (.slice none 0 0)).run Tryz.prog w=.ok (.bool false) w:=fun _=>by kernel_rfl
 clear H
 go_enter Tryz.func31,Tryz.ntmps31
 go_wp2_with (at_builtin;refine wpList_append_own _ rfl (.tmp 5) (.tmp 6) 23 rfl w.heap.size 51 i0 (.agg (hA h0)) 37 160 Tryz.underlying23 hi hz0 hz1 hz2 rfl (by decide) _ 0 [] rfl (World.ownsRow_made w #[] 0 (Nat.le_refl _) (by decide) rfl) ad n cap (hC hs) rfl (by rw [hC_len HO.out,HL.out]) (HH.out.of ((Gr.refl _).alloc _)).src (hC_one hs) (by unfold maxLen;omega) (by omega) (by simp) ?_;intro v' w1 hown hgrow _;have HOw:Hid (w1.ownsRow w.heap.size 51 37 v' n (hC hs)):=(by unfold Hid;simpa using hown);have HG:Hid (Gr w w1):=((Gr.refl _).alloc _).grown hgrow (fun k e=>Nat.le_of_eq (Option.some.inj e));clear hown hgrow)
 obtain ⟨g,c,rfl,hg⟩:=owns_at HOw.out hn1
 have HR:Hid (HRow w1 g hs):=HRow.own HO.out HOw.out
 clear HOw
 go_ret
 exact ⟨g,c,rfl,hg,HR.out,HG.out⟩
end Go.Proofs.YtchllaeembmioaaGreatDoor.Mc
