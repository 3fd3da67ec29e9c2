/-
  Tabs, Ref2a: texts of ours that lie in one file.
-/
import Derived.Test.YtchllaeembmioaaGreatDoorRows
import Derived.Test.YtchllaeembmioaaGreatDoorK02
import Derived.WalkKit
import Derived.ProofKit
import Derived.OpenShut
import Derived.LaidMore
import Derived.RowKit3
import Derived.Deep.QuietTactic
import Derived.BigQuiet
set_option linter.unusedVariables false
set_option linter.unusedSimpArgs false
set_option maxHeartbeats 8000000
set_option maxRecDepth 100000
namespace Go.Proofs.YtchllaeembmioaaGreatDoor.Dw
open Go.ChangeShapes Go.WideShapes Go.ChangeAt Go.RowKit

variable {w w' a : World} {v : Value}
def Gr (w w':World):Prop:=Below w.heap.size w w'∧∀a,w'.frozen? a=w.frozen? a
theorem Gr.refl (w:World):Gr w w:=⟨Below.refl _ _,fun _=>rfl⟩
theorem Gr.size (h:Gr w w'):w.heap.size≤w'.heap.size:=h.1.size
theorem Gr.trans {b c:World}(h:Gr a b)(k:Gr b c):Gr a c:=⟨h.1.trans (k.1.mono h.1.size),fun x=>(k.2 x).trans (h.2 x)⟩
theorem Gr.alloc (h:Gr a w)(c:Array Value)(t:TypeId):Gr a (w.alloc (.cells c t)):=⟨h.1.alloc h.1.size _,fun x=>(frozen?_alloc_cells _ _ _ x).trans (h.2 x)⟩
theorem Gr.setCell (h:Gr a w){p:Addr}(hp:a.heap.size≤p.block)(v:Value):Gr a (w.setCell p v):=⟨h.1.setCell hp v,fun x=>(World.frozen?_setCell _ _ _ _).trans (h.2 x)⟩
theorem Gr.drewN (h:Gr a w)(n:Nat):Gr a (w.drewN n):=⟨⟨h.1.os,h.1.tape,h.1.output,h.1.size,h.1.block⟩,h.2⟩
theorem Gr.cell (h:Gr w w')(b o:Nat)(hb:b<w.heap.size):w'.cell? ⟨b,o,none⟩=w.cell? ⟨b,o,none⟩:=h.1.cell (p:=⟨b,o,none⟩) hb
theorem lt_of_cell {b o:Nat}(h:w.cell? ⟨b,o,none⟩=some v):b<w.heap.size:=by
 by_cases hb:b<w.heap.size
 ·exact hb
 ·have:w.heap[b]?=none:=by simp;omega
  simp [World.cell?,this] at h
def look {H:Type} (P:Program):Nat→TypeId→DataW H→Nat→Option Value
 | 0,_,_,_=>none
 | n+1,t,d,i=>
  match P.underlying t,d with
  | some .bool,.lit (.bool b)=>if i=0 then some (.bool b) else none
  | some (.int _),.lit (.int k m)=>if i=0 then some (.int k m) else none
  | some (.struct fs),.agg ds=>
   match (List.range fs.size).find? (fun j=>match fs[j]? with|some f=>decide (f.offset≤i) && decide (i<f.offset+P.cellsOf f.type)|none=>false) with
   | some j=>match fs[j]?,ds[j]? with
    | some f,some e=>if f.offset≤i∧i<f.offset+P.cellsOf f.type then look P n f.type e (i-f.offset) else none
    | _,_=>none
   | none=>none
  | some (.array k e),.agg ds=>
   match ds[i/P.cellsOf e]? with
   | some x=>if 0<P.cellsOf e∧i/P.cellsOf e<k then look P n e x (i%P.cellsOf e) else none
   | none=>none
  | _,_=>none
theorem take_drop_get {α:Type}(cs:List α)(a n i:Nat)(v:α)(h:((cs.drop a).take n)[i]?=some v):cs[a+i]?=some v:=by
 rw [List.getElem?_take] at h
 split at h
 ·rwa [List.getElem?_drop] at h
 ·cases h
theorem look_cell {H:Type}{enc:TypeId×Value→H}{P:Program}{base:Nat}{spare:Nat→Bool}{held:Bool}:(n:Nat)→∀{fuel:Nat} {t:TypeId} {cs:List Value} {d:DataW H} {ps:List MemPlace} {i:Nat} {v:Value},
  DataW.trod enc P w base spare held fuel t cs=some (d,ps)→look P n t d i=some v→cs[i]?=some v
 | 0,_,_,_,_,_,_,_,_,hl=>by cases hl
 | n+1,fuel,t,cs,d,ps,i,v,h,hl=>by
  unfold look at hl
  split at hl
  ·rename_i ht
   obtain ⟨b,rfl,hx⟩:=DataW.trod_bool ht h
   simp at hx
   split at hl
   ·subst_vars;simpa [hx.1] using hl
   ·cases hl
  ·rename_i ht
   obtain ⟨b,rfl,hx,_⟩:=DataW.trod_int ht h
   simp at hx
   split at hl
   ·subst_vars;simp at hl;rw [←hl,hx.1.1,hx.1.2];rfl
   ·cases hl
  ·rename_i fs ds ht
   obtain ⟨xs,m,rfl,hx,_,hlen,hel⟩:=DataW.trod_struct ht h
   simp only [Prod.mk.injEq,DataW.agg.injEq] at hx
   split at hl
   ·rename_i j _
    split at hl
    ·rename_i f e hf he
     split at hl
     ·rename_i hi
      have hE:=hel j f hf
      rw [hx.1,List.getElem?_map] at he
      cases hy:xs[j]? with
      | none=>simp [hy] at he
      | some y=>
       rw [hy] at hE he
       simp at he
       have:=look_cell n (d:=e) (ps:=y.2) (by rw [hE,←he]) hl
       have:=take_drop_get _ _ _ _ _ this
       rwa [show f.offset+(i-f.offset)=i by omega] at this
     ·cases hl
    ·cases hl
   ·cases hl
  ·rename_i k e ds ht
   obtain ⟨xs,m,rfl,hx,_,hlen,hel⟩:=DataW.trod_array ht h
   simp only [Prod.mk.injEq,DataW.agg.injEq] at hx
   split at hl
   ·rename_i x he
    split at hl
    ·rename_i hi
     have hE:=hel _ hi.2
     rw [hx.1,List.getElem?_map] at he
     cases hy:xs[i/P.cellsOf e]? with
     | none=>simp [hy] at he
     | some y=>
      rw [hy] at hE he
      simp at he
      have:=look_cell n (d:=x) (ps:=y.2) (by rw [hE,←he]) hl
      have:=take_drop_get _ _ _ _ _ this
      rwa [Nat.mul_comm,Nat.div_add_mod] at this
    ·cases hl
   ·cases hl
  ·cases hl
def shape (told:Int) (rd rs1 rs2:Bool) (imm:List Int) (spare:Int):List Value:=[.int .u32 told,.bool rd,.bool rs1,.bool rs2]++imm.map (fun n=>.int .i64 n)++[.int .i64 spare]
def pieces (f:Nat):List Int:=match f with
 | 1=>[12,12,20,0,0,0,0,0,0,0,0,0]|2=>[31,20,1,12,12,8,20,11,1,21,1,10]|3=>[20,0,12,0,0,0,0,0,0,0,0,0]|4=>[20,0,5,0,0,0,0,0,0,0,0,0]
 | 5=>[31,12,1,7,11,1,25,5,6,8,1,4]|6=>[25,5,7,7,0,5,0,0,0,0,0,0]|8=>[25,0,2,0,0,0,0,0,0,0,0,0]|_=>[0,0,0,0,0,0,0,0,0,0,0,0]
def spare (f:Nat):Int:=match f with|2=>11|3=>20|5=>19|6=>20|_=>0
def shapes:List Value:=(List.range 10).flatMap fun (f:Nat)=>shape (Dc.mask f) (Dc.hasRd f) (Dc.hasRs1 f) (Dc.hasRs2 f) (pieces f) (spare f)
structure Tab (w:World):Prop where
 shapes:∀i v,shapes[i]?=some v→w.cell? ⟨0,i,none⟩=some v
 uppers:∀i n,Dc.uppers[i]?=some n→w.cell? ⟨5,i,none⟩=some (.int .u32 n)
theorem Tab.of (h:Tab w)(g:Gr w w'):Tab w':=
 ⟨fun i v hi=>(g.cell _ _ (lt_of_cell (h.shapes i v hi))).trans (h.shapes i v hi),fun i v hi=>(g.cell _ _ (lt_of_cell (h.uppers i v hi))).trans (h.uppers i v hi)⟩
theorem gShapes : Tryz.prog.globalNamed "ferrybridge/decode.shapes" = some 0 := by kernel_rfl
theorem gUppers : Tryz.prog.globalNamed "ferrybridge/decode.uppers" = some 5 := by kernel_rfl
theorem tShapes:(Tryz.prog.globals[0]?).map (·.type)=some 185:=by kernel_rfl
theorem tUppers:(Tryz.prog.globals[5]?).map (·.type)=some 216:=by kernel_rfl
theorem lookShapes:(List.range 170).map (look Tryz.prog 5 185 (Rows.laid_ferrybridge_decode_shapes (H:=Unit)))=shapes.map some:=by kernel_rfl
theorem lookUppers:(List.range 60).map (look Tryz.prog 3 216 (Rows.laid_ferrybridge_decode_uppers (H:=Unit)))=Dc.uppers.map fun n=>some (.int .u32 n):=by kernel_rfl
theorem look_of {d:DataW Unit}{n t N:Nat}{l:List Value}(h:(List.range N).map (look Tryz.prog n t d)=l.map some){i:Nat}(hi:l[i]?=some v):look Tryz.prog n t d i=some v:=by
 have e:=congrArg (·[i]?) h
 simp only [List.getElem?_map,hi,Option.map_some] at e
 cases hr:(List.range N)[i]? with
 | none=>simp [hr] at e
 | some j=>
  rw [hr] at e
  have:j=i:=by
   rw [List.getElem?_eq_some_iff] at hr
   obtain ⟨_,hr⟩:=hr
   simpa using hr.symm
  subst this
  simpa using e
end Go.Proofs.YtchllaeembmioaaGreatDoor.Dw
namespace Go.Proofs.YtchllaeembmioaaGreatDoor.Re
open Go.ChangeShapes Go.WideShapes Go.ChangeAt Go.RowKit Dw

variable {n : Int}
theorem ret_int {k:IntKind}{a b:Int}(h:a=b):Ending.returned (.int k a)=.returned (.int k b):=by rw [h]
theorem Signed_any (a:Int)(w:World)(ha:0≤a)(ha':a<4294967296):
  Calls Tryz.prog 47 #[.int .u32 a] w fun e w'=>e=.returned (.int .i64 (Wd.sg a))∧w'=w:=by
 by_cases h:a<2147483648
 ·have H:Hid (Wd.sg a=a):=(if_pos h:Wd.sg a=a)
  go_enter Tryz.func47,Tryz.ntmps47
  go_wp2
  go_ret
  exact ⟨ret_int H.out.symm,rfl⟩
 ·have H:Hid (Wd.sg a=a-4294967296):=(if_neg h:Wd.sg a=_)
  go_enter Tryz.func47,Tryz.ntmps47
  go_wp2
  go_ret
  exact ⟨ret_int H.out.symm,rfl⟩
theorem Power_any (n:Nat)(w:World)(hn:n≤32):
  Calls Tryz.prog 59 #[.int .i64 n] w fun e w'=>e=.returned (.int .i64 ((2 ^ n:Nat):Int))∧w'=w:=by
 go_enter Tryz.func59,Tryz.ntmps59
 go_wp2
 go_loop [3,4] (fun p i=>∃k:Nat,k≤n∧i=.int .i64 k∧p=.int .i64 ((2 ^ k:Nat):Int)) (fun _ i=>n-(intOf i).toNat)
 case atStart=>exact ⟨0,Nat.zero_le _,rfl,rfl⟩
 case round=>
  obtain ⟨k,hk,rfl,rfl⟩:=hrel
  by_cases hlt:k<n
  ·have h2:2 ^ k≤2 ^ 32:=Nat.pow_le_pow_right (by omega) (by omega)
   have HS:Hid (2 ^ (k+1)=2 ^ k+2 ^ k):=(by rw [Nat.pow_succ];omega:2 ^ (k+1)=_)
   generalize 2 ^ k=P at *
   go_wp2
   go_round
   case rel=>exact ⟨k+1,by omega,by go_num,by rw [HS.out];go_num⟩
   case measure=>simp [intOf];omega
  ·obtain rfl:k=n:=by omega
   go_wp2
   go_ret
   exact ⟨rfl,rfl⟩
theorem Power_as (n P:Int)(w:World)(h0:0≤n)(h1:n≤32)(hP:((2 ^ n.toNat:Nat):Int)=P):
  Calls Tryz.prog 59 #[.int .i64 n] w fun e w'=>e=.returned (.int .i64 P)∧w'=w:=by
 have:=Power_any n.toNat w (by omega)
 rw [hP,show ((n.toNat:Nat):Int)=n by omega] at this
 exact this
theorem pw0 (w:World):Calls Tryz.prog 59 #[.int .i64 0] w fun e w'=>e=.returned (.int .i64 1)∧w'=w:=Power_as 0 1 w (by omega) (by omega) (by decide)
theorem pw1 (w:World):Calls Tryz.prog 59 #[.int .i64 1] w fun e w'=>e=.returned (.int .i64 2)∧w'=w:=Power_as 1 2 w (by omega) (by omega) (by decide)
theorem pw2 (w:World):Calls Tryz.prog 59 #[.int .i64 2] w fun e w'=>e=.returned (.int .i64 4)∧w'=w:=Power_as 2 4 w (by omega) (by omega) (by decide)
theorem pw3 (w:World):Calls Tryz.prog 59 #[.int .i64 3] w fun e w'=>e=.returned (.int .i64 8)∧w'=w:=Power_as 3 8 w (by omega) (by omega) (by decide)
theorem pw4 (w:World):Calls Tryz.prog 59 #[.int .i64 4] w fun e w'=>e=.returned (.int .i64 16)∧w'=w:=Power_as 4 16 w (by omega) (by omega) (by decide)
theorem pw5 (w:World):Calls Tryz.prog 59 #[.int .i64 5] w fun e w'=>e=.returned (.int .i64 32)∧w'=w:=Power_as 5 32 w (by omega) (by omega) (by decide)
theorem pw6 (w:World):Calls Tryz.prog 59 #[.int .i64 6] w fun e w'=>e=.returned (.int .i64 64)∧w'=w:=Power_as 6 64 w (by omega) (by omega) (by decide)
theorem pw7 (w:World):Calls Tryz.prog 59 #[.int .i64 7] w fun e w'=>e=.returned (.int .i64 128)∧w'=w:=Power_as 7 128 w (by omega) (by omega) (by decide)
theorem pw8 (w:World):Calls Tryz.prog 59 #[.int .i64 8] w fun e w'=>e=.returned (.int .i64 256)∧w'=w:=Power_as 8 256 w (by omega) (by omega) (by decide)
theorem pw10 (w:World):Calls Tryz.prog 59 #[.int .i64 10] w fun e w'=>e=.returned (.int .i64 1024)∧w'=w:=Power_as 10 1024 w (by omega) (by omega) (by decide)
theorem pw11 (w:World):Calls Tryz.prog 59 #[.int .i64 11] w fun e w'=>e=.returned (.int .i64 2048)∧w'=w:=Power_as 11 2048 w (by omega) (by omega) (by decide)
theorem pw12 (w:World):Calls Tryz.prog 59 #[.int .i64 12] w fun e w'=>e=.returned (.int .i64 4096)∧w'=w:=Power_as 12 4096 w (by omega) (by omega) (by decide)
theorem pw15 (w:World):Calls Tryz.prog 59 #[.int .i64 15] w fun e w'=>e=.returned (.int .i64 32768)∧w'=w:=Power_as 15 32768 w (by omega) (by omega) (by decide)
theorem pw20 (w:World):Calls Tryz.prog 59 #[.int .i64 20] w fun e w'=>e=.returned (.int .i64 1048576)∧w'=w:=Power_as 20 1048576 w (by omega) (by omega) (by decide)
theorem pw21 (w:World):Calls Tryz.prog 59 #[.int .i64 21] w fun e w'=>e=.returned (.int .i64 2097152)∧w'=w:=Power_as 21 2097152 w (by omega) (by omega) (by decide)
theorem pw25 (w:World):Calls Tryz.prog 59 #[.int .i64 25] w fun e w'=>e=.returned (.int .i64 33554432)∧w'=w:=Power_as 25 33554432 w (by omega) (by omega) (by decide)
theorem pw27 (w:World):Calls Tryz.prog 59 #[.int .i64 27] w fun e w'=>e=.returned (.int .i64 134217728)∧w'=w:=Power_as 27 134217728 w (by omega) (by omega) (by decide)
theorem pw31 (w:World):Calls Tryz.prog 59 #[.int .i64 31] w fun e w'=>e=.returned (.int .i64 2147483648)∧w'=w:=Power_as 31 2147483648 w (by omega) (by omega) (by decide)
theorem Cut_0_6 (a:Int)(w:World)(ha:0≤a)(ha':a<4294967296):
  Calls Tryz.prog 46 #[.int .u32 a,.int .i64 0,.int .i64 6] w fun e w'=>e=.returned (.int .i64 (a%128))∧w'=w:=by
 go_enter Tryz.func46,Tryz.ntmps46
 go_wp2_with fail
 refine (pw0 _).mono ?_
 rintro e w' ⟨rfl,rfl⟩
 go_wp2_with fail
 refine (pw7 _).mono ?_
 rintro e w' ⟨rfl,rfl⟩
 go_wp2_with fail
 go_ret
 exact ⟨rfl,rfl⟩
theorem Cut_12_14 (a:Int)(w:World)(ha:0≤a)(ha':a<4294967296):
  Calls Tryz.prog 46 #[.int .u32 a,.int .i64 12,.int .i64 14] w fun e w'=>e=.returned (.int .i64 (a/4096%8))∧w'=w:=by
 go_enter Tryz.func46,Tryz.ntmps46
 go_wp2_with fail
 refine (pw12 _).mono ?_
 rintro e w' ⟨rfl,rfl⟩
 go_wp2_with fail
 refine (pw3 _).mono ?_
 rintro e w' ⟨rfl,rfl⟩
 go_wp2_with fail
 go_ret
 exact ⟨rfl,rfl⟩
theorem Cut_25_31 (a:Int)(w:World)(ha:0≤a)(ha':a<4294967296):
  Calls Tryz.prog 46 #[.int .u32 a,.int .i64 25,.int .i64 31] w fun e w'=>e=.returned (.int .i64 (a/33554432))∧w'=w:=by
 go_enter Tryz.func46,Tryz.ntmps46
 go_wp2_with fail
 refine (pw25 _).mono ?_
 rintro e w' ⟨rfl,rfl⟩
 go_wp2_with fail
 go_ret
 exact ⟨rfl,rfl⟩
theorem Cut_27_31 (a:Int)(w:World)(ha:0≤a)(ha':a<4294967296):
  Calls Tryz.prog 46 #[.int .u32 a,.int .i64 27,.int .i64 31] w fun e w'=>e=.returned (.int .i64 (a/134217728))∧w'=w:=by
 go_enter Tryz.func46,Tryz.ntmps46
 go_wp2_with fail
 refine (pw27 _).mono ?_
 rintro e w' ⟨rfl,rfl⟩
 go_wp2_with fail
 go_ret
 exact ⟨rfl,rfl⟩
theorem Cut_20_24 (a:Int)(w:World)(ha:0≤a)(ha':a<4294967296):
  Calls Tryz.prog 46 #[.int .u32 a,.int .i64 20,.int .i64 24] w fun e w'=>e=.returned (.int .i64 (a/1048576%32))∧w'=w:=by
 go_enter Tryz.func46,Tryz.ntmps46
 go_wp2_with fail
 refine (pw20 _).mono ?_
 rintro e w' ⟨rfl,rfl⟩
 go_wp2_with fail
 refine (pw5 _).mono ?_
 rintro e w' ⟨rfl,rfl⟩
 go_wp2_with fail
 go_ret
 exact ⟨rfl,rfl⟩
theorem Cut_7_11 (a:Int)(w:World)(ha:0≤a)(ha':a<4294967296):
  Calls Tryz.prog 46 #[.int .u32 a,.int .i64 7,.int .i64 11] w fun e w'=>e=.returned (.int .i64 (a/128%32))∧w'=w:=by
 go_enter Tryz.func46,Tryz.ntmps46
 go_wp2_with fail
 refine (pw7 _).mono ?_
 rintro e w' ⟨rfl,rfl⟩
 go_wp2_with fail
 refine (pw5 _).mono ?_
 rintro e w' ⟨rfl,rfl⟩
 go_wp2_with fail
 go_ret
 exact ⟨rfl,rfl⟩
theorem Cut_15_19 (a:Int)(w:World)(ha:0≤a)(ha':a<4294967296):
  Calls Tryz.prog 46 #[.int .u32 a,.int .i64 15,.int .i64 19] w fun e w'=>e=.returned (.int .i64 (a/32768%32))∧w'=w:=by
 go_enter Tryz.func46,Tryz.ntmps46
 go_wp2_with fail
 refine (pw15 _).mono ?_
 rintro e w' ⟨rfl,rfl⟩
 go_wp2_with fail
 refine (pw5 _).mono ?_
 rintro e w' ⟨rfl,rfl⟩
 go_wp2_with fail
 go_ret
 exact ⟨rfl,rfl⟩
theorem Cut_31_31 (a:Int)(w:World)(ha:0≤a)(ha':a<4294967296):
  Calls Tryz.prog 46 #[.int .u32 a,.int .i64 31,.int .i64 31] w fun e w'=>e=.returned (.int .i64 (a/2147483648))∧w'=w:=by
 go_enter Tryz.func46,Tryz.ntmps46
 go_wp2_with fail
 refine (pw31 _).mono ?_
 rintro e w' ⟨rfl,rfl⟩
 go_wp2_with fail
 go_ret
 exact ⟨rfl,rfl⟩
theorem Cut_0_11 (a:Int)(w:World)(ha:0≤a)(ha':a<4294967296):
  Calls Tryz.prog 46 #[.int .u32 a,.int .i64 0,.int .i64 11] w fun e w'=>e=.returned (.int .i64 (a%4096))∧w'=w:=by
 go_enter Tryz.func46,Tryz.ntmps46
 go_wp2_with fail
 refine (pw0 _).mono ?_
 rintro e w' ⟨rfl,rfl⟩
 go_wp2_with fail
 refine (pw12 _).mono ?_
 rintro e w' ⟨rfl,rfl⟩
 go_wp2_with fail
 go_ret
 exact ⟨rfl,rfl⟩
theorem Cut_12_19 (a:Int)(w:World)(ha:0≤a)(ha':a<4294967296):
  Calls Tryz.prog 46 #[.int .u32 a,.int .i64 12,.int .i64 19] w fun e w'=>e=.returned (.int .i64 (a/4096%256))∧w'=w:=by
 go_enter Tryz.func46,Tryz.ntmps46
 go_wp2_with fail
 refine (pw12 _).mono ?_
 rintro e w' ⟨rfl,rfl⟩
 go_wp2_with fail
 refine (pw8 _).mono ?_
 rintro e w' ⟨rfl,rfl⟩
 go_wp2_with fail
 go_ret
 exact ⟨rfl,rfl⟩
theorem Cut_20_20 (a:Int)(w:World)(ha:0≤a)(ha':a<4294967296):
  Calls Tryz.prog 46 #[.int .u32 a,.int .i64 20,.int .i64 20] w fun e w'=>e=.returned (.int .i64 (a/1048576%2))∧w'=w:=by
 go_enter Tryz.func46,Tryz.ntmps46
 go_wp2_with fail
 refine (pw20 _).mono ?_
 rintro e w' ⟨rfl,rfl⟩
 go_wp2_with fail
 refine (pw1 _).mono ?_
 rintro e w' ⟨rfl,rfl⟩
 go_wp2_with fail
 go_ret
 exact ⟨rfl,rfl⟩
theorem Cut_21_30 (a:Int)(w:World)(ha:0≤a)(ha':a<4294967296):
  Calls Tryz.prog 46 #[.int .u32 a,.int .i64 21,.int .i64 30] w fun e w'=>e=.returned (.int .i64 (a/2097152%1024))∧w'=w:=by
 go_enter Tryz.func46,Tryz.ntmps46
 go_wp2_with fail
 refine (pw21 _).mono ?_
 rintro e w' ⟨rfl,rfl⟩
 go_wp2_with fail
 refine (pw10 _).mono ?_
 rintro e w' ⟨rfl,rfl⟩
 go_wp2_with fail
 go_ret
 exact ⟨rfl,rfl⟩
theorem Cut_20_31 (a:Int)(w:World)(ha:0≤a)(ha':a<4294967296):
  Calls Tryz.prog 46 #[.int .u32 a,.int .i64 20,.int .i64 31] w fun e w'=>e=.returned (.int .i64 (a/1048576))∧w'=w:=by
 go_enter Tryz.func46,Tryz.ntmps46
 go_wp2_with fail
 refine (pw20 _).mono ?_
 rintro e w' ⟨rfl,rfl⟩
 go_wp2_with fail
 go_ret
 exact ⟨rfl,rfl⟩
theorem Cut_7_7 (a:Int)(w:World)(ha:0≤a)(ha':a<4294967296):
  Calls Tryz.prog 46 #[.int .u32 a,.int .i64 7,.int .i64 7] w fun e w'=>e=.returned (.int .i64 (a/128%2))∧w'=w:=by
 go_enter Tryz.func46,Tryz.ntmps46
 go_wp2_with fail
 refine (pw7 _).mono ?_
 rintro e w' ⟨rfl,rfl⟩
 go_wp2_with fail
 refine (pw1 _).mono ?_
 rintro e w' ⟨rfl,rfl⟩
 go_wp2_with fail
 go_ret
 exact ⟨rfl,rfl⟩
theorem Cut_25_30 (a:Int)(w:World)(ha:0≤a)(ha':a<4294967296):
  Calls Tryz.prog 46 #[.int .u32 a,.int .i64 25,.int .i64 30] w fun e w'=>e=.returned (.int .i64 (a/33554432%64))∧w'=w:=by
 go_enter Tryz.func46,Tryz.ntmps46
 go_wp2_with fail
 refine (pw25 _).mono ?_
 rintro e w' ⟨rfl,rfl⟩
 go_wp2_with fail
 refine (pw6 _).mono ?_
 rintro e w' ⟨rfl,rfl⟩
 go_wp2_with fail
 go_ret
 exact ⟨rfl,rfl⟩
theorem Cut_8_11 (a:Int)(w:World)(ha:0≤a)(ha':a<4294967296):
  Calls Tryz.prog 46 #[.int .u32 a,.int .i64 8,.int .i64 11] w fun e w'=>e=.returned (.int .i64 (a/256%16))∧w'=w:=by
 go_enter Tryz.func46,Tryz.ntmps46
 go_wp2_with fail
 refine (pw8 _).mono ?_
 rintro e w' ⟨rfl,rfl⟩
 go_wp2_with fail
 refine (pw4 _).mono ?_
 rintro e w' ⟨rfl,rfl⟩
 go_wp2_with fail
 go_ret
 exact ⟨rfl,rfl⟩
theorem Cut_25_26 (a:Int)(w:World)(ha:0≤a)(ha':a<4294967296):
  Calls Tryz.prog 46 #[.int .u32 a,.int .i64 25,.int .i64 26] w fun e w'=>e=.returned (.int .i64 (a/33554432%4))∧w'=w:=by
 go_enter Tryz.func46,Tryz.ntmps46
 go_wp2_with fail
 refine (pw25 _).mono ?_
 rintro e w' ⟨rfl,rfl⟩
 go_wp2_with fail
 refine (pw2 _).mono ?_
 rintro e w' ⟨rfl,rfl⟩
 go_wp2_with fail
 go_ret
 exact ⟨rfl,rfl⟩
theorem signed_12 (n:Int)(w:World)(h0:0≤n)(h1:n<4096):
  Calls Tryz.prog 48 #[.int .i64 n,.int .i64 12] w fun e w'=>e=.returned (.int .i32 (Dc.sgn 2048 n))∧w'=w:=by
 by_cases h:2048≤n
 ·have H:Hid (Dc.sgn 2048 n=n-4096):=(if_pos h:Dc.sgn 2048 n=_)
  go_enter Tryz.func48,Tryz.ntmps48
  go_wp2_with fail
  refine (pw11 _).mono ?_
  rintro e w' ⟨rfl,rfl⟩
  go_wp2_with fail
  refine (pw11 _).mono ?_
  rintro e w' ⟨rfl,rfl⟩
  go_wp2_with fail
  go_ret
  rw [H.out]
  exact ⟨rfl,rfl⟩
 ·have H:Hid (Dc.sgn 2048 n=n):=(if_neg h:Dc.sgn 2048 n=_)
  go_enter Tryz.func48,Tryz.ntmps48
  go_wp2_with fail
  refine (pw11 _).mono ?_
  rintro e w' ⟨rfl,rfl⟩
  go_wp2_with fail
  go_ret
  rw [H.out]
  exact ⟨rfl,rfl⟩
theorem signed_13 (n:Int)(w:World)(h0:0≤n)(h1:n<8192):
  Calls Tryz.prog 48 #[.int .i64 n,.int .i64 13] w fun e w'=>e=.returned (.int .i32 (Dc.sgn 4096 n))∧w'=w:=by
 by_cases h:4096≤n
 ·have H:Hid (Dc.sgn 4096 n=n-8192):=(if_pos h:Dc.sgn 4096 n=_)
  go_enter Tryz.func48,Tryz.ntmps48
  go_wp2_with fail
  refine (pw12 _).mono ?_
  rintro e w' ⟨rfl,rfl⟩
  go_wp2_with fail
  refine (pw12 _).mono ?_
  rintro e w' ⟨rfl,rfl⟩
  go_wp2_with fail
  go_ret
  rw [H.out]
  exact ⟨rfl,rfl⟩
 ·have H:Hid (Dc.sgn 4096 n=n):=(if_neg h:Dc.sgn 4096 n=_)
  go_enter Tryz.func48,Tryz.ntmps48
  go_wp2_with fail
  refine (pw12 _).mono ?_
  rintro e w' ⟨rfl,rfl⟩
  go_wp2_with fail
  go_ret
  rw [H.out]
  exact ⟨rfl,rfl⟩
theorem signed_21 (n:Int)(w:World)(h0:0≤n)(h1:n<2097152):
  Calls Tryz.prog 48 #[.int .i64 n,.int .i64 21] w fun e w'=>e=.returned (.int .i32 (Dc.sgn 1048576 n))∧w'=w:=by
 by_cases h:1048576≤n
 ·have H:Hid (Dc.sgn 1048576 n=n-2097152):=(if_pos h:Dc.sgn 1048576 n=_)
  go_enter Tryz.func48,Tryz.ntmps48
  go_wp2_with fail
  refine (pw20 _).mono ?_
  rintro e w' ⟨rfl,rfl⟩
  go_wp2_with fail
  refine (pw20 _).mono ?_
  rintro e w' ⟨rfl,rfl⟩
  go_wp2_with fail
  go_ret
  rw [H.out]
  exact ⟨rfl,rfl⟩
 ·have H:Hid (Dc.sgn 1048576 n=n):=(if_neg h:Dc.sgn 1048576 n=_)
  go_enter Tryz.func48,Tryz.ntmps48
  go_wp2_with fail
  refine (pw20 _).mono ?_
  rintro e w' ⟨rfl,rfl⟩
  go_wp2_with fail
  go_ret
  rw [H.out]
  exact ⟨rfl,rfl⟩
def pkR (n:Int):List (Int×Int)→Int
 | [] => -1
 | (a,o)::r=>if n=a then o else pkR n r
theorem pkR_at:(l:List (Int×Int))→(k:Nat)→(hk:k<l.length)→(∀j (hj:j<l.length),j<k→l[j].1≠n)→l[k].1=n→pkR n l=l[k].2
 | (a,o)::r,0,_,_,h=>if_pos h.symm
 | (a,o)::r,k+1,hk,hn,h=>by
  have:n≠a:=fun e=>hn 0 (by simp) (by omega) e.symm
  unfold pkR
  rw [if_neg this]
  exact pkR_at r k (by simpa using hk) (fun j hj hjk=>hn (j+1) (by simpa using hj) (by omega)) h
theorem pkR_none:(l:List (Int×Int))→(∀j (hj:j<l.length),l[j].1≠n)→pkR n l = -1
 | [],_=>rfl
 | (a,o)::r,hn=>by
  have:n≠a:=fun e=>hn 0 (by simp) e.symm
  unfold pkR
  rw [if_neg this]
  exact pkR_none r fun j hj=>hn (j+1) (by simpa using hj)
theorem pick_any (n:Int)(l:List (Int×Int))(b1 b2:Nat)(w:World)(hl:l.length≤20)
  (h1:∀i (hi:i<l.length),w.cell? ⟨b1,i,none⟩=some (.int .i64 l[i].1))(h2:∀i (hi:i<l.length),w.cell? ⟨b2,i,none⟩=some (.int .i64 l[i].2)):
  Calls Tryz.prog 64 #[.int .i64 n,.slice (some ⟨b1,0,none⟩) l.length l.length,.slice (some ⟨b2,0,none⟩) l.length l.length] w fun e w'=>e=.returned (.int .i64 (pkR n l))∧w'=w:=by
 go_enter Tryz.func64,Tryz.ntmps64
 go_wp2
 go_loop [7] (fun i=>∃k:Nat,i=.int .i64 k∧k≤l.length∧∀j (hj:j<l.length),j<k→l[j].1≠n) (fun i=>l.length-(intOf i).toNat)
 case atStart=>exact ⟨0,rfl,Nat.zero_le _,fun j _ hj=>by omega⟩
 case round=>
  obtain ⟨k,rfl,hk,hn⟩:=hrel
  by_cases hlt:k<l.length
  ·have c1:=h1 k hlt
   have c2:=h2 k hlt
   have N:Hid _:=hn
   have H1:Hid _:=h1
   clear h1 h2 hn
   by_cases he:l[k].1=n
   ·have E:Hid (pkR n l=l[k].2):=pkR_at l k hlt N.out he
    have be:(l[k].1 == n)=true:=by simpa using he
    clear he
    generalize l[k].1=x at *
    generalize l[k].2=y at *
    go_wp2
    go_ret
    exact ⟨ret_int E.out.symm,rfl⟩
   ·have be:(l[k].1 == n)=false:=by simpa using he
    have he':Hid _:=he
    clear he
    generalize hx:l[k].1=x at *
    clear hx c2
    go_wp2
    go_round
    case rel=>
     refine ⟨k+1,by go_num,by omega,fun j hj hjk=>?_⟩
     by_cases e:j=k
     ·subst e
      have:=H1.out j hj
      rw [c1] at this
      simp at this
      rw [←this];exact he'.out
     ·exact N.out j hj (by omega)
    case measure=>simp [intOf];omega
  ·have E:Hid (pkR n l = -1):=pkR_none l fun j hj=>hn j hj (by omega)
   clear h1 h2 hn
   go_wp2
   go_ret
   exact ⟨ret_int E.out.symm,rfl⟩
end Go.Proofs.YtchllaeembmioaaGreatDoor.Re
