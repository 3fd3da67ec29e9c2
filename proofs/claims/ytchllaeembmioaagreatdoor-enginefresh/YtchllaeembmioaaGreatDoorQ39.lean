/-
  EfW: texts of ours that lie in one file.
-/
import Derived.Test.YtchllaeembmioaaGreatDoorQ38
import Derived.Test.YtchllaeembmioaaGreatDoorQ14
import Derived.Test.YtchllaeembmioaaGreatDoorQ20
import Derived.Test.YtchllaeembmioaaGreatDoorQ06
import Derived.Test.YtchllaeembmioaaGreatDoorQ01
import Derived.Test.YtchllaeembmioaaGreatDoorQ27
import Derived.Deep.RegionHeld3
set_option linter.unusedVariables false
set_option linter.unusedSimpArgs false
set_option maxHeartbeats 8000000
set_option maxRecDepth 100000
namespace Go.Proofs.YtchllaeembmioaaGreatDoor.En
open Go.ChangeShapes Go.WideShapes Go.ChangeAt Go.RowKit Mm Hh Hc
open Mc hiding Fit

theorem iHt : (Tryz.prog.info? 51).map (·.size) = some 37 := by kernel_rfl
theorem en_new (w : World) (a b : Obj) : ((w.alloc a).alloc b).heap[w.heap.size + 1]? = some b := by
 have := heap_alloc_new (w.alloc a) b
 simpa using this
theorem cap_own {w : World} {base e sz n : Nat} {sa : Option Addr} {sc : Nat} {xs : List Value} (h : w.ownsRow base e sz (.slice sa n sc) n xs) : n ≤ sc := by
 rcases h.2 with ⟨h1, rfl⟩ | ⟨g, cap, cur, h1, _, _, h2, _⟩
 ·exact Nat.zero_le _
 ·injection h1 with _ _ h3
  rw [h3]; exact h2
theorem rshareE {P Q : Prop} (h : Hr.Rest P → Q) (p : P) : Q := h ⟨p⟩
theorem set_bc {w : World} {g t : Nat} {p : Int} {a : Option Addr} {n c : Nat} {b : Kc.Bv} {x y : Value} (h : Kc.Bc w b x y) (hg : w.heap[g]? = some (.cells #[.int .u32 p, .slice a n c] t (0, 0))) (v : Value) : Kc.Bc (w.setCell ⟨g, 1, none⟩ v) b x y := by
 obtain ⟨e1, e2, sa, sn, sc, e3, I, e4⟩ := h
 refine ⟨e1, e2, sa, sn, sc, e3, Kc.Is.keep (g := g) I (fun b o x hx e => ?_) (fun b o hb => Kc.cell_set_other _ _ _ _ (by exact hb)) (by simp), e4⟩
 subst e
 rw [cell_of_row _ _ _ _ _ _ hg] at hx
 match o, hx with
 | 0, hx => simp at hx
 | 1, hx => simp at hx
 | o + 2, hx => simp at hx
theorem cut_bc {W : World} {l : List UInt8} {b : Kc.Bv} {gn : Nat} (F : FreshB l b) (hgn : b.is.length = gn) {sa : Option Addr} {sc : Nat} (h : Kc.Bc W ⟨b.pc, (Bk.blk l b.pc 16 0).map Ts.ivX⟩ (.int .u32 b.pc) (.slice sa (Bk.blk l b.pc 16 0).length sc)) : Kc.Bc W b (.int .u32 b.pc) (.slice sa gn sc) := by
 obtain ⟨_, hp, sa', sn', sc', e, I, hs⟩ := h
 injection e with e1 e2 e3
 subst e1 e2 e3
 have hle := F.le
 have he : b.is = ((Bk.blk l b.pc 16 0).map Ts.ivX).take gn := by rw [← List.map_take, ← hgn]; exact F.eq
 have hok : ∀ i ∈ b.is, i.Ok := fun i hi => I.ok i (by rw [he] at hi; exact List.mem_of_mem_take hi)
 refine ⟨rfl, hp, sa, gn, sc, rfl, ⟨hgn, hok, fun h0 => ?_⟩, by omega⟩
 obtain ⟨g, o, ea, hg, hc⟩ := I.spot (by omega)
 refine ⟨g, o, ea, hg, fun j i hj => hc j i ?_⟩
 rw [he, List.getElem?_take] at hj
 split at hj
 ·exact hj
 ·cases hj
theorem make_bc {w : World} {ao : Option Addr} {n : Nat} (cap : Nat) {l : List UInt8} {pc : Int} (M : Mem w ao n l) (hn : n ≤ 4096) (h0 : 0 ≤ pc) (h1 : pc < 4294967296) :
  Calls Tryz.prog 12 #[.slice ao n cap, .int .u32 pc] w fun e w' => ∃ sa sc, e = .returned (.agg #[.int .u32 pc, .slice sa (Bk.blk l pc 16 0).length sc]) ∧ (Kc.Bc w' ⟨pc, (Bk.blk l pc 16 0).map Ts.ivX⟩ (.int .u32 pc) (.slice sa (Bk.blk l pc 16 0).length sc) ∧ (Bk.blk l pc 16 0).length ≤ sc) ∧ Gr w w' := by
 refine (Bk.RMake_yes cap pc M hn h0 h1).mono ?_
 rintro e w' ⟨v, rfl, O, G⟩
 have e1 : Bk.bkP n pc = pc := if_neg (by omega)
 have e2 : Bk.bkX n l pc = Bk.blk l pc 16 0 := if_neg (by omega)
 rw [e2] at O
 rw [e1]
 obtain ⟨sa, sc, rfl⟩ := Ts.shape_own O
 have h16 := (Ts.blk_facts l pc 16 0).1
 exact ⟨sa, sc, rfl, ⟨⟨rfl, ⟨h0, h1⟩, sa, _, sc, rfl, Ts.is_own O (Ts.blk_words l pc), by omega⟩, cap_own O⟩, G⟩
theorem ef_no {ma ha pa : Option Addr} {hn pn : Nat} (mc hc pc : Nat) {m : List UInt8} {hs : List Hv} {ps : List (Int × Int)} {w : World} (mn : Nat) (room : Int) (hmn : m.length = mn) (H : Hs w ha hn hs) (P : Ps w pa pn ps) (b1 : mn ≤ 140737488351232) (b2 : hn ≤ 140737488351232) (b3 : pn ≤ 140737488351232) (hno : ¬ wrong m hs ps = 0) :
  Calls Tryz.prog 4 #[.agg #[.slice ma mn mc, .slice ha hn hc], .slice pa pn pc, .int .i64 room] w fun e w' => e = .returned (.bool true) ∧ Gr w w' := by
 have HWr : Hid (∀ W : World, Gr w W → Calls Tryz.prog 6 #[.agg #[.slice ma mn mc, .slice ha hn hc], .slice pa pn pc] W fun e w' => e = .returned (.int .i64 (wrong m hs ps)) ∧ Gr W w') := fun W G => Wrong_any (fun h o W => rmay_any o W) mc hc pc mn hmn (H.of G) (P.of G) b1 b2 b3
 clear H P hmn
 generalize wrong m hs ps = E at *
 have hE : (E != 0) = true := by simpa using hno
 clear hno
 go_enter Tryz.func4, Tryz.ntmps4
 go_wp2_with fail
 refine (HWr.out _ ((Gr.refl _).alloc _)).mono ?_
 rintro e w1 ⟨rfl, G1⟩
 have HG1 : Hid (Gr w w1) := ((Gr.refl _).alloc _).trans G1
 have HB1 : Hid (w1.heap[w.heap.size]? = some (.cells #[.slice ma mn mc, .slice ha hn hc] 25 (0, 0))) := Hr.heap_of_gr G1 (heap_alloc_new w _)
 clear G1 HWr
 go_wp2_with fail
 go_ret
 exact ⟨rfl, HG1.out⟩
theorem ef_rng {ma ha pa : Option Addr} {hn pn : Nat} (mc hc pc : Nat) {m : List UInt8} {hs : List Hv} {ps : List (Int × Int)} {w : World} (mn : Nat) (room : Int) (hml : m.length = mn) (H : Hs w ha hn hs) (P : Ps w pa pn ps) (hy : wrong m hs ps = 0) (hr : room < 0 ∨ ¬ room < 0 ∧ 64 < room) :
  Calls Tryz.prog 4 #[.agg #[.slice ma mn mc, .slice ha hn hc], .slice pa pn pc, .int .i64 room] w fun e w' => e = .returned (.bool true) ∧ Gr w w' := by
 obtain ⟨b1, b2, b4, _, b3, hpk⟩ := wrong_ok hy
 have hl := H.len
 have hpl := P.len
 have HWr : Hid (∀ W : World, Gr w W → Calls Tryz.prog 6 #[.agg #[.slice ma mn mc, .slice ha hn hc], .slice pa pn pc] W fun e w' => e = .returned (.int .i64 0) ∧ Gr W w') := fun W G => (Wrong_any (fun h o W => rmay_any o W) mc hc pc mn hml (H.of G) (P.of G) (by omega) (by omega) (by omega)).mono fun e w' h => ⟨by rw [h.1, hy], h.2⟩
 clear H P hy hl hpl hml b1 b2 b4 b3 hpk
 rcases hr with hr | ⟨hr, hr'⟩
 all_goals
  go_enter Tryz.func4, Tryz.ntmps4
  go_wp2_with fail
  refine (HWr.out _ ((Gr.refl _).alloc _)).mono ?_
  rintro e w1 ⟨rfl, G1⟩
  have HG1 : Hid (Gr w w1) := ((Gr.refl _).alloc _).trans G1
  have HB1 : Hid (w1.heap[w.heap.size]? = some (.cells #[.slice ma mn mc, .slice ha hn hc] 25 (0, 0))) := Hr.heap_of_gr G1 (heap_alloc_new w _)
  clear G1 HWr
  go_wp2_with fail
  go_ret
  exact ⟨rfl, HG1.out⟩
theorem ef_yes {ma ha pa : Option Addr} {hn pn : Nat} (mc hc pc : Nat) {m : List UInt8} {hs : List Hv} {ps : List (Int × Int)} {w : World} (mn : Nat) (room : Int) (M : Mem w ma mn m) (H : Hs w ha hn hs) (P : Ps w pa pn ps) (hy : wrong m hs ps = 0) (hr0 : 0 ≤ room) (hr1 : room ≤ 64) (S : Sh) (R : ErYes w ma ha pa mn mc hn hc pn pc room S (Kept room S.m (DidF m hs ps))) :
  Calls Tryz.prog 4 #[.agg #[.slice ma mn mc, .slice ha hn hc], .slice pa pn pc, .int .i64 room] w fun e w' => e = .returned (.bool true) ∧ Gr w w' := by
 obtain ⟨b1, b2, b4, _, b3, hpk⟩ := wrong_ok hy
 have hml := M.len
 have hl := H.len
 have hpl := P.len
 have HWr : Hid (∀ W : World, Gr w W → Calls Tryz.prog 6 #[.agg #[.slice ma mn mc, .slice ha hn hc], .slice pa pn pc] W fun e w' => e = .returned (.int .i64 0) ∧ Gr W w') := fun W G => (Wrong_any (fun h o W => rmay_any o W) mc hc pc mn hml (H.of G) (P.of G) (by omega) (by omega) (by omega)).mono fun e w' h => ⟨by rw [h.1, hy], h.2⟩
 have HWk : Hid (∀ W : World, Gr w W → Calls Tryz.prog 7 #[.slice pa pn pc] W fun e w' => ∃ z, e = .returned (.int .i64 z) ∧ Gr W w') := fun W G => work_any pc (P.of G) (by omega) (fun p hp => ⟨(hpk p hp).2.2.1, (hpk p hp).2.2.2⟩)
 have HR : Hid (ErYes w ma ha pa mn mc hn hc pn pc room S (Kept room S.m (DidF m hs ps))) := R
 have HM : Hid (Mem w ma mn m) := M
 have HH : Hid (Hs w ha hn hs) := H
 have HP : Hid (Ps w pa pn ps) := P
 have HPk : Hid (∀ p ∈ ps, 0 ≤ p.1 ∧ p.1 < (hn : Int)) := fun p hp => ⟨(hpk p hp).1, by have := (hpk p hp).2.1; rw [hl] at this; exact this⟩
 have hmn : mn ≤ 4096 := by omega
 have hpn : pn ≤ 300 := by omega
 have hhn : hn ≤ 4 := by omega
 clear M H P hy hl hpl hml b1 b2 b4 b3 hpk R
 go_enter Tryz.func4, Tryz.ntmps4
 go_wp2_with fail
 refine (HWr.out _ ((Gr.refl _).alloc _)).mono ?_
 rintro e w1 ⟨rfl, G1⟩
 have HG1 : Hid (Gr w w1) := ((Gr.refl _).alloc _).trans G1
 have HB1 : Hid (w1.heap[w.heap.size]? = some (.cells #[.slice ma mn mc, .slice ha hn hc] 25 (0, 0))) := Hr.heap_of_gr G1 (heap_alloc_new w _)
 clear G1 HWr
 go_wp2_with fail
 refine (HWk.out _ HG1.out).mono ?_
 rintro e w2 ⟨z, rfl, G2⟩
 have HG2 : Hid (Gr w w2) := HG1.out.trans G2
 have HB2 : Hid (w2.heap[w.heap.size]? = some (.cells #[.slice ma mn mc, .slice ha hn hc] 25 (0, 0))) := Hr.heap_of_gr G2 HB1.out
 have x0 : w2.cell? ⟨w.heap.size, 0, none⟩ = some (.slice ma mn mc) := cell_of_row _ _ _ _ _ _ HB2.out
 have x1 : w2.cell? ⟨w.heap.size, 1, none⟩ = some (.slice ha hn hc) := cell_of_row _ _ _ _ _ _ HB2.out
 clear G2 HWk HG1 HB1
 by_cases hz : 3000 < z
 ·go_wp2_with fail
  go_ret
  exact ⟨rfl, HG2.out⟩
 ·go_wp2_with fail
  refine (HR.out _ HG2.out).mono ?_
  rintro e w3 ⟨v, a, k, c, pu, sl, L, rfl, S3, ⟨B3, hkc, K3⟩, G3⟩
  obtain ⟨s1, s2, s3, s4, s5, s6, rfl, M3, -⟩ := S3
  have HF : Hid (∀ W : World, Gr w3 W → W.heap[w3.heap.size]? = some (.cells #[.slice s1 mn s2, .slice s3 hn s4, .slice s5 S.out.length s6, .int .i64 S.steps] 32 (0, 0)) → W.heap[w3.heap.size + 1]? = some (.cells #[.int .i64 room, .slice a k c, .int .i64 pu, .int .i64 sl] 35 (0, 0)) → (W.heap[w.heap.size]? = some (.cells #[.slice ma mn mc, .slice ha hn hc] 25 (0, 0)) ∧ W.heap[w3.heap.size]? = some (.cells #[.slice s1 mn s2, .slice s3 hn s4, .slice s5 S.out.length s6, .int .i64 S.steps] 32 (0, 0)) ∧ W.heap[w3.heap.size + 1]? = some (.cells #[.int .i64 room, .slice a k c, .int .i64 pu, .int .i64 sl] 35 (0, 0))) ∧ Kc.Bs W a k L ∧ Mem W s1 mn S.m ∧ Gr w W) := fun W G h1 h2 => ⟨⟨Hr.heap_of_gr (G3.trans G) HB2.out, h1, h2⟩, B3.of G, M3.of G, (HG2.out.trans G3).trans G⟩
  have HK : Hid (Kept room S.m (DidF m hs ps) L pu sl) := K3
  have HLk : Hid (L.length = k) := B3.len
  have hkr : (k : Int) ≤ room := by have := K3.cok.len; rw [B3.len] at this; exact this
  clear B3 M3 K3 G3 HR x0 x1 HG2 HB2
  go_wp2_with fail
  refine Kc.atWd (fun W => (W.heap[w.heap.size]? = some (.cells #[.slice ma mn mc, .slice ha hn hc] 25 (0, 0)) ∧ W.heap[w3.heap.size]? = some (.cells #[.slice s1 mn s2, .slice s3 hn s4, .slice s5 S.out.length s6, .int .i64 S.steps] 32 (0, 0)) ∧ W.heap[w3.heap.size + 1]? = some (.cells #[.int .i64 room, .slice a k c, .int .i64 pu, .int .i64 sl] 35 (0, 0))) ∧ Kc.Bs W a k L ∧ Mem W s1 mn S.m ∧ Gr w W) (HF.out _ (((Gr.refl _).alloc _).alloc _) (Hr.heap_of_gr ((Gr.refl _).alloc _) (heap_alloc_new w3 _)) (en_new w3 _ _)) ?_
  clear HF
  generalize w3.heap.size = o1 at *
  clear w3
  rintro W0 ⟨⟨B1, B2, B3⟩, X0, M0, G0⟩
  have HBm : Hid (∀ W : World, Gr W0 W → W.heap[w.heap.size]? = some (.cells #[.slice ma mn mc, .slice ha hn hc] 25 (0, 0)) ∧ W.heap[o1]? = some (.cells #[.slice s1 mn s2, .slice s3 hn s4, .slice s5 S.out.length s6, .int .i64 S.steps] 32 (0, 0)) ∧ W.heap[o1 + 1]? = some (.cells #[.int .i64 room, .slice a k c, .int .i64 pu, .int .i64 sl] 35 (0, 0))) := fun W G => ⟨Hr.heap_of_gr G B1, Hr.heap_of_gr G B2, Hr.heap_of_gr G B3⟩
  have HX0 : Hid (∀ W : World, Gr W0 W → Kc.Bs W a k L) := fun W G => X0.of G
  have HM0 : Hid (∀ W : World, Gr W0 W → Mem W s1 mn S.m) := fun W G => M0.of G
  have HG0 : Hid (Gr w W0) := G0
  clear B1 B2 B3 X0 M0 G0
  go_loopw [10] (fun i wr => ∃ t : Nat, t ≤ k ∧ i = .int .i64 t ∧ Gr W0 wr) (fun i _ => k - (intOf i).toNat)
  case atStart => exact ⟨0, Nat.zero_le _, rfl, Gr.refl _⟩
  case round =>
   obtain ⟨t, ht, rfl, Gq⟩ := hrel
   have HGq : Hid (Gr W0 wr) := Gq
   have z1 : wr.cell? ⟨o1 + 1, 1, none⟩ = some (.slice a k c) := cell_of_row _ _ _ _ _ _ (HBm.out _ Gq).2.2
   have z0 : wr.cell? ⟨o1, 0, none⟩ = some (.slice s1 mn s2) := cell_of_row _ _ _ _ _ _ (HBm.out _ Gq).2.1
   clear Gq
   by_cases htk : t < k
   ·obtain ⟨b, hb⟩ : ∃ b, L[t]? = some b := ⟨_, List.getElem?_eq_getElem (by rw [HLk.out]; exact htk)⟩
    have Fb := HK.out.fresh b (List.mem_of_getElem? hb)
    obtain ⟨b3, o3, rfl, hb3, hcl3⟩ := (HX0.out _ HGq.out).spot (by omega)
    obtain ⟨u, v, g0, g1, CB⟩ := hcl3 t b hb
    have HCB : Hid (∀ W : World, Gr wr W → Kc.Bc W b u v) := fun W G => CB.of G
    obtain ⟨rfl, hpb, ga, gn, gc, rfl, Ib, -⟩ := CB
    have hgn : b.is.length = gn := Ib.len
    have MK : Hid (∀ W : World, Gr wr W → Calls Tryz.prog 12 #[.slice s1 mn s2, .int .u32 b.pc] W fun e w' => ∃ sa sc, e = .returned (.agg #[.int .u32 b.pc, .slice sa (Bk.blk S.m b.pc 16 0).length sc]) ∧ (Kc.Bc w' ⟨b.pc, (Bk.blk S.m b.pc 16 0).map Ts.ivX⟩ (.int .u32 b.pc) (.slice sa (Bk.blk S.m b.pc 16 0).length sc) ∧ (Bk.blk S.m b.pc 16 0).length ≤ sc) ∧ Gr W w') := fun W G => make_bc s2 (HM0.out _ (HGq.out.trans G)) hmn hpb.1 hpb.2
    have PL : Hid (∀ W : World, Gr wr W → Calls Tryz.prog 13 #[.slice (some ⟨b3, o3, none⟩) t c, .int .u32 b.pc] W fun e w' => e = .returned (.int .i64 (-1)) ∧ Gr W w') := fun W G => by have := Kc.Place_any c ((HX0.out _ (HGq.out.trans G)).take ht) (by omega) b.pc; rwa [HK.out.cok.sole.ahead hb] at this
    have hle : gn ≤ (Bk.blk S.m b.pc 16 0).length := by rw [← hgn]; exact Fb.le
    have HEq : Hid (∀ (W : World) (sa : Option Addr) (sc : Nat), Kc.Bc W ⟨b.pc, (Bk.blk S.m b.pc 16 0).map Ts.ivX⟩ (.int .u32 b.pc) (.slice sa (Bk.blk S.m b.pc 16 0).length sc) → Kc.Bc W b (.int .u32 b.pc) (.slice sa gn sc)) := fun W sa sc h => cut_bc Fb hgn h
    have hg0 : 0 < gn := by rw [← hgn]; exact Fb.pos
    have ht0 : (0 : Int) ≤ (t : Int) := by omega
    have ht1 : (t : Int) < (k : Int) := by omega
    have ht2 : (t : Int) ≤ (c : Int) := by omega
    clear hcl3 hb Fb Ib hpb hgn
    generalize (Bk.blk S.m b.pc 16 0).length = xn at *
    go_wp2_with fail
    apply rshareE
    ·intro CONT
     refine wp_region_held_drew (S := fun W => Gr wr W) (by kernel_rfl) (Gr.refl wr).drew (fun hHeld => ?_)
     have HS0 : Hid _ := hHeld
     clear hHeld
     refine wpAnyH_take (i := 0) (v := .pointer (some ⟨o1, 0, none⟩)) rfl (by kernel_rfl) (by kernel_rfl) (by kernel_rfl) (fun _ _ _ h => h) (Or.inl ⟨by rfl, fun W hW => by go_simp⟩) HS0.out ?_
     simp only [List.getElem_toArray, List.getElem_cons_succ, List.getElem_cons_zero, Act.put, List.setIfInBounds_toArray, List.set_cons_zero, List.set_cons_succ]
     refine wpAnyH_take (i := 1) (v := .pointer (some ⟨o1, 0, none⟩)) rfl (by kernel_rfl) (by kernel_rfl) (by kernel_rfl) (fun _ _ _ h => h) (Or.inl ⟨by rfl, fun W hW => by go_simp⟩) HS0.out ?_
     simp only [List.getElem_toArray, List.getElem_cons_succ, List.getElem_cons_zero, Act.put, List.setIfInBounds_toArray, List.set_cons_zero, List.set_cons_succ]
     refine wpAnyH_take (i := 2) (v := .slice s1 mn s2) rfl (by kernel_rfl) (by kernel_rfl) (by kernel_rfl) (fun _ _ _ h => h) (Or.inl ⟨by rfl, fun W hW => by have z0' := (hW.cell _ (by exact Kc.lt_cell z0)).trans z0; go_simp⟩) HS0.out ?_
     simp only [List.getElem_toArray, List.getElem_cons_succ, List.getElem_cons_zero, Act.put, List.setIfInBounds_toArray, List.set_cons_zero, List.set_cons_succ]
     refine wpAnyH_take (i := 3) (v := .pointer (some ⟨o1 + 1, 1, none⟩)) rfl (by kernel_rfl) (by kernel_rfl) (by kernel_rfl) (fun _ _ _ h => h) (Or.inl ⟨by rfl, fun W hW => by go_simp⟩) HS0.out ?_
     simp only [List.getElem_toArray, List.getElem_cons_succ, List.getElem_cons_zero, Act.put, List.setIfInBounds_toArray, List.set_cons_zero, List.set_cons_succ]
     refine wpAnyH_take (i := 4) (v := .slice (some ⟨b3, o3, none⟩) k c) rfl (by kernel_rfl) (by kernel_rfl) (by kernel_rfl) (fun _ _ _ h => h) (Or.inl ⟨by rfl, fun W hW => by have z1' := (hW.cell _ (by exact Kc.lt_cell z1)).trans z1; go_simp⟩) HS0.out ?_
     simp only [List.getElem_toArray, List.getElem_cons_succ, List.getElem_cons_zero, Act.put, List.setIfInBounds_toArray, List.set_cons_zero, List.set_cons_succ]
     refine wpAnyH_take (i := 5) (v := .int .i64 t) rfl (by kernel_rfl) (by kernel_rfl) (by kernel_rfl) (fun _ _ _ h => h) (Or.inl ⟨by rfl, fun W hW => by go_simp⟩) HS0.out ?_
     simp only [List.getElem_toArray, List.getElem_cons_succ, List.getElem_cons_zero, Act.put, List.setIfInBounds_toArray, List.set_cons_zero, List.set_cons_succ]
     refine wpAnyH_take (i := 6) (v := .pointer (some ⟨b3, o3 + t * 2, none⟩)) rfl (by kernel_rfl) (by kernel_rfl) (by kernel_rfl) (fun _ _ _ h => h) (Or.inl ⟨by rfl, fun W hW => by go_simp⟩) HS0.out ?_
     simp only [List.getElem_toArray, List.getElem_cons_succ, List.getElem_cons_zero, Act.put, List.setIfInBounds_toArray, List.set_cons_zero, List.set_cons_succ]
     refine wpAnyH_take (i := 7) (v := .pointer (some ⟨b3, o3 + t * 2, none⟩)) rfl (by kernel_rfl) (by kernel_rfl) (by kernel_rfl) (fun _ _ _ h => h) (Or.inl ⟨by rfl, fun W hW => by go_simp⟩) HS0.out ?_
     simp only [List.getElem_toArray, List.getElem_cons_succ, List.getElem_cons_zero, Act.put, List.setIfInBounds_toArray, List.set_cons_zero, List.set_cons_succ]
     refine wpAnyH_take (i := 8) (v := .int .u32 b.pc) rfl (by kernel_rfl) (by kernel_rfl) (by kernel_rfl) (fun _ _ _ h => h) (Or.inl ⟨by rfl, fun W hW => by have g0' := (hW.cell _ (by exact Kc.lt_cell g0)).trans g0; go_simp⟩) HS0.out ?_
     simp only [List.getElem_toArray, List.getElem_cons_succ, List.getElem_cons_zero, Act.put, List.setIfInBounds_toArray, List.set_cons_zero, List.set_cons_succ]
     refine wpAnyH_ready (rs := [9, 10]) (by kernel_rfl) (by simp) ?_
     refine AllReadyH.cons rfl (fun K hK => ?_) (AllReadyH.cons rfl (fun K hK => ?_) AllReadyH.nil)
     ·go_simp
      refine (MK.out _ ((Gr.refl wr).drew)).mono ?_
      rintro e w5 ⟨sa, sc, rfl, ⟨BC5, hxc⟩, G5⟩
      have HGW : Hid (Gr wr w5) := Gr.trans ((Gr.refl wr).drew) G5
      have HBF : Hid (Kc.Bc w5 b (.int .u32 b.pc) (.slice sa gn sc)) := HEq.out _ _ _ BC5
      clear BC5
      refine hK.out _ _ HGW.out (fun hx => ?_)
      clear hK K hx HS0
      refine wpAnyH_ready (rs := [10]) (by kernel_rfl) (by simp) ?_
      refine AllReadyH.cons rfl (fun K hK => ?_) AllReadyH.nil
      go_simp
      refine hK.out _ _ (HGW.out.alloc _) (fun hx => ?_)
      clear hK K hx
      refine Kc.held_sr (i := 11) (by kernel_rfl) rfl rfl 45 (.tmp 11) (.tmp 73) rfl w5.heap.size #[.int .u32 b.pc, .slice sa xn sc] (by simp [Act.eval]) (by simp [Act.eval]) 45 _ (heap_alloc_new w5 _) Kc.iBk2 rfl (Kc.one_bk _ _ _ _) ?_ ?_
      ·exact Kc.gr_sr (HGW.out.alloc _) HGW.out.size _
      have HS0 : Hid _ := Kc.gr_sr (HGW.out.alloc (.cells #[.int .u32 0, .slice none 0 0] 45)) HGW.out.size #[.int .u32 b.pc, .slice sa xn sc]
      refine wpAnyH_done (by kernel_rfl) ?_ _
      refine Kc.atWd (fun W => W.heap[w5.heap.size]? = some (.cells #[.int .u32 b.pc, .slice sa xn sc] 45 (0, 0)) ∧ Gr wr W ∧ Kc.Bc W b (.int .u32 b.pc) (.slice sa gn sc) ∧ xn ≤ sc) ⟨setRow_heap _ _ _ _ _ (0, 0) (heap_alloc_new w5 _), HS0.out, HBF.out.of (Kc.gr_sr ((Gr.refl _).alloc _) (Nat.le_refl _) _), hxc⟩ ?_
      have hsz := HGW.out.size
      clear HS0 HBF G5 HGW
      generalize egb : w5.heap.size = gb at ⊢
      have hgb : wr.heap.size ≤ gb := by omega
      clear egb hsz
      clear hxc
      clear w5
      revert gb
      revert sc
      revert sa
      exact CONT.out
     ·go_simp
      refine hK.out _ _ ((Gr.refl wr).alloc _).drew (fun hx => ?_)
      clear hK K hx
      refine wpAnyH_ready (rs := [9]) (by kernel_rfl) (by simp) ?_
      refine AllReadyH.cons rfl (fun K hK => ?_) AllReadyH.nil
      go_simp
      refine (MK.out _ (((Gr.refl wr).alloc _).drew)).mono ?_
      rintro e w5 ⟨sa, sc, rfl, ⟨BC5, hxc⟩, G5⟩
      have HGW : Hid (Gr wr w5) := Gr.trans (((Gr.refl wr).alloc _).drew) G5
      have HBF : Hid (Kc.Bc w5 b (.int .u32 b.pc) (.slice sa gn sc)) := HEq.out _ _ _ BC5
      clear BC5
      have HNW : Hid (w5.heap[wr.heap.size]? = some (.cells #[.int .u32 0, .slice none 0 0] 45 (0, 0))) := Hr.heap_of_gr G5 (Hr.heap_of_gr (Gr.refl _).drew (heap_alloc_new wr _))
      refine hK.out _ _ HGW.out (fun hx => ?_)
      clear hK K hx HS0
      refine Kc.held_sr (i := 11) (by kernel_rfl) rfl rfl 45 (.tmp 11) (.tmp 73) rfl wr.heap.size #[.int .u32 b.pc, .slice sa xn sc] (by simp [Act.eval]) (by simp [Act.eval]) 45 _ HNW.out Kc.iBk2 rfl (Kc.one_bk _ _ _ _) ?_ ?_
      ·exact Kc.gr_sr HGW.out (Nat.le_refl _) _
      have HS0 : Hid (Gr wr (w5.setRow wr.heap.size #[.int .u32 b.pc, .slice sa xn sc])) := Kc.gr_sr HGW.out (Nat.le_refl _) _
      refine wpAnyH_done (by kernel_rfl) ?_ _
      refine Kc.atWd (fun W => W.heap[wr.heap.size]? = some (.cells #[.int .u32 b.pc, .slice sa xn sc] 45 (0, 0)) ∧ Gr wr W ∧ Kc.Bc W b (.int .u32 b.pc) (.slice sa gn sc) ∧ xn ≤ sc) ⟨setRow_heap _ _ _ _ _ (0, 0) HNW.out, HS0.out, Kc.Bc.five HBF.out HNW.out _, hxc⟩ ?_
      have hsz := HGW.out.size
      clear HS0 HBF G5 HGW HNW
      generalize egb : wr.heap.size = gb at ⊢
      have hgb : wr.heap.size ≤ gb := by omega
      clear egb hsz
      clear hxc
      clear w5
      revert gb
      revert sc
      revert sa
      exact CONT.out
    clear MK HEq
    intro sa sc gb hgb W5
    rintro ⟨D5, G5, C5, hxc⟩
    have HG5 : Hid (Gr wr W5) := G5
    have HC5 : Hid (∀ W : World, Gr W5 W → Kc.Bc W b (.int .u32 b.pc) (.slice sa gn sc)) := fun W G => C5.of G
    have HD5 : Hid (W5.heap[gb]? = some (.cells #[.int .u32 b.pc, .slice sa xn sc] 45 (0, 0))) := D5
    have y1 := (G5.cell _ (by exact Kc.lt_cell z1)).trans z1
    have q1 := (G5.cell _ (by exact Kc.lt_cell g1)).trans g1
    have d0 : W5.cell? ⟨gb, 0, none⟩ = some (.int .u32 b.pc) := cell_of_row _ _ _ _ _ _ D5
    have d1 : W5.cell? ⟨gb, 1, none⟩ = some (.slice sa xn sc) := cell_of_row _ _ _ _ _ _ D5
    have PL2 : Hid (∀ W : World, Gr W5 W → Calls Tryz.prog 13 #[.slice (some ⟨b3, o3, none⟩) t c, .int .u32 b.pc] W fun e w' => e = .returned (.int .i64 (-1)) ∧ Gr W w') := fun W G => PL.out W (HG5.out.trans G)
    clear PL D5 G5 C5
    have hgz : ((gn : Int) == 0) = false := by simp; omega
    have hgx : decide ((xn : Int) < (gn : Int)) = false := decide_eq_false (by omega)
    have hgs : (gn : Int) ≤ (sc : Int) := by omega
    go_wp2_with fail
    refine wp_region_held_drew (S := fun W => Gr W5 W) (by kernel_rfl) (Gr.refl W5).drew (fun hHeld => ?_)
    have HS0 : Hid _ := hHeld
    clear hHeld
    refine wpAnyH_take (i := 0) (v := .int .i64 gn) rfl (by kernel_rfl) (by kernel_rfl) (by kernel_rfl) (fun _ _ _ h => h) (Or.inl ⟨by rfl, fun W hW => by go_simp⟩) HS0.out ?_
    simp only [List.getElem_toArray, List.getElem_cons_succ, List.getElem_cons_zero, Act.put, List.setIfInBounds_toArray, List.set_cons_zero, List.set_cons_succ]
    refine wpAnyH_take (i := 1) (v := .bool false) rfl (by kernel_rfl) (by kernel_rfl) (by kernel_rfl) (fun _ _ _ h => h) (Or.inl ⟨by rfl, fun W hW => by go_simp⟩) HS0.out ?_
    simp only [List.getElem_toArray, List.getElem_cons_succ, List.getElem_cons_zero, Act.put, List.setIfInBounds_toArray, List.set_cons_zero, List.set_cons_succ]
    refine wpAnyH_take (i := 2) (v := .bool false) rfl (by kernel_rfl) (by kernel_rfl) (by kernel_rfl) (fun _ _ _ h => h) (Or.inl ⟨by rfl, fun W hW => by go_simp⟩) HS0.out ?_
    simp only [List.getElem_toArray, List.getElem_cons_succ, List.getElem_cons_zero, Act.put, List.setIfInBounds_toArray, List.set_cons_zero, List.set_cons_succ]
    refine wpAnyH_take (i := 3) (v := .int .i64 gn) rfl (by kernel_rfl) (by kernel_rfl) (by kernel_rfl) (fun _ _ _ h => h) (Or.inl ⟨by rfl, fun W hW => by go_simp⟩) HS0.out ?_
    simp only [List.getElem_toArray, List.getElem_cons_succ, List.getElem_cons_zero, Act.put, List.setIfInBounds_toArray, List.set_cons_zero, List.set_cons_succ]
    refine wpAnyH_take (i := 4) (v := .pointer (some ⟨gb, 1, none⟩)) rfl (by kernel_rfl) (by kernel_rfl) (by kernel_rfl) (fun _ _ _ h => h) (Or.inl ⟨by rfl, fun W hW => by go_simp⟩) HS0.out ?_
    simp only [List.getElem_toArray, List.getElem_cons_succ, List.getElem_cons_zero, Act.put, List.setIfInBounds_toArray, List.set_cons_zero, List.set_cons_succ]
    refine wpAnyH_take (i := 5) (v := .slice sa xn sc) rfl (by kernel_rfl) (by kernel_rfl) (by kernel_rfl) (fun _ _ _ h => h) (Or.inl ⟨by rfl, fun W hW => by have d1' := (hW.cell _ (by exact Kc.lt_cell d1)).trans d1; go_simp⟩) HS0.out ?_
    simp only [List.getElem_toArray, List.getElem_cons_succ, List.getElem_cons_zero, Act.put, List.setIfInBounds_toArray, List.set_cons_zero, List.set_cons_succ]
    refine wpAnyH_take (i := 6) (v := .int .i64 xn) rfl (by kernel_rfl) (by kernel_rfl) (by kernel_rfl) (fun _ _ _ h => h) (Or.inl ⟨by rfl, fun W hW => by go_simp⟩) HS0.out ?_
    simp only [List.getElem_toArray, List.getElem_cons_succ, List.getElem_cons_zero, Act.put, List.setIfInBounds_toArray, List.set_cons_zero, List.set_cons_succ]
    refine wpAnyH_take (i := 7) (v := .bool false) rfl (by kernel_rfl) (by kernel_rfl) (by kernel_rfl) (fun _ _ _ h => h) (Or.inl ⟨by rfl, fun W hW => by go_simp⟩) HS0.out ?_
    simp only [List.getElem_toArray, List.getElem_cons_succ, List.getElem_cons_zero, Act.put, List.setIfInBounds_toArray, List.set_cons_zero, List.set_cons_succ]
    refine wpAnyH_take (i := 8) (v := .bool false) rfl (by kernel_rfl) (by kernel_rfl) (by kernel_rfl) (fun _ _ _ h => h) (Or.inl ⟨by rfl, fun W hW => by go_simp⟩) HS0.out ?_
    simp only [List.getElem_toArray, List.getElem_cons_succ, List.getElem_cons_zero, Act.put, List.setIfInBounds_toArray, List.set_cons_zero, List.set_cons_succ]
    refine wpAnyH_take (i := 9) (v := .bool false) rfl (by kernel_rfl) (by kernel_rfl) (by kernel_rfl) (fun _ _ _ h => h) (Or.inl ⟨by rfl, fun W hW => by go_simp⟩) HS0.out ?_
    simp only [List.getElem_toArray, List.getElem_cons_succ, List.getElem_cons_zero, Act.put, List.setIfInBounds_toArray, List.set_cons_zero, List.set_cons_succ]
    refine wpAnyH_take (i := 10) (v := .pointer (some ⟨o1 + 1, 1, none⟩)) rfl (by kernel_rfl) (by kernel_rfl) (by kernel_rfl) (fun _ _ _ h => h) (Or.inl ⟨by rfl, fun W hW => by go_simp⟩) HS0.out ?_
    simp only [List.getElem_toArray, List.getElem_cons_succ, List.getElem_cons_zero, Act.put, List.setIfInBounds_toArray, List.set_cons_zero, List.set_cons_succ]
    refine wpAnyH_take (i := 11) (v := .slice (some ⟨b3, o3, none⟩) k c) rfl (by kernel_rfl) (by kernel_rfl) (by kernel_rfl) (fun _ _ _ h => h) (Or.inl ⟨by rfl, fun W hW => by have y1' := (hW.cell _ (by exact Kc.lt_cell y1)).trans y1; go_simp⟩) HS0.out ?_
    simp only [List.getElem_toArray, List.getElem_cons_succ, List.getElem_cons_zero, Act.put, List.setIfInBounds_toArray, List.set_cons_zero, List.set_cons_succ]
    refine wpAnyH_take (i := 12) (v := .int .i64 t) rfl (by kernel_rfl) (by kernel_rfl) (by kernel_rfl) (fun _ _ _ h => h) (Or.inl ⟨by rfl, fun W hW => by go_simp⟩) HS0.out ?_
    simp only [List.getElem_toArray, List.getElem_cons_succ, List.getElem_cons_zero, Act.put, List.setIfInBounds_toArray, List.set_cons_zero, List.set_cons_succ]
    refine wpAnyH_take (i := 13) (v := .slice (some ⟨b3, o3, none⟩) t c) rfl (by kernel_rfl) (by kernel_rfl) (by kernel_rfl) (fun _ _ _ h => h) (Or.inl ⟨by rfl, fun W hW => by go_simp⟩) HS0.out ?_
    simp only [List.getElem_toArray, List.getElem_cons_succ, List.getElem_cons_zero, Act.put, List.setIfInBounds_toArray, List.set_cons_zero, List.set_cons_succ]
    refine wpAnyH_take (i := 14) (v := .pointer (some ⟨gb, 0, none⟩)) rfl (by kernel_rfl) (by kernel_rfl) (by kernel_rfl) (fun _ _ _ h => h) (Or.inl ⟨by rfl, fun W hW => by go_simp⟩) HS0.out ?_
    simp only [List.getElem_toArray, List.getElem_cons_succ, List.getElem_cons_zero, Act.put, List.setIfInBounds_toArray, List.set_cons_zero, List.set_cons_succ]
    refine wpAnyH_take (i := 15) (v := .int .u32 b.pc) rfl (by kernel_rfl) (by kernel_rfl) (by kernel_rfl) (fun _ _ _ h => h) (Or.inl ⟨by rfl, fun W hW => by have d0' := (hW.cell _ (by exact Kc.lt_cell d0)).trans d0; go_simp⟩) HS0.out ?_
    simp only [List.getElem_toArray, List.getElem_cons_succ, List.getElem_cons_zero, Act.put, List.setIfInBounds_toArray, List.set_cons_zero, List.set_cons_succ]
    refine wpAnyH_ready (rs := [16]) (by kernel_rfl) (by simp) ?_
    refine AllReadyH.cons rfl (fun K hK => ?_) AllReadyH.nil
    go_simp
    refine (PL2.out _ (Gr.refl _).drew).mono ?_
    rintro e w6 ⟨rfl, G6⟩
    have HG6 : Hid (Gr W5 w6) := (Gr.refl W5).drew.trans G6
    refine hK.out _ _ HG6.out (fun hx => ?_)
    clear hK K hx G6 HS0
    have HS0 : Hid (Gr W5 w6) := HG6.out
    refine wpAnyH_take (i := 17) (v := .bool false) rfl (by kernel_rfl) (by kernel_rfl) (by kernel_rfl) (fun _ _ _ h => h) (Or.inl ⟨by rfl, fun W hW => by go_simp⟩) HS0.out ?_
    simp only [List.getElem_toArray, List.getElem_cons_succ, List.getElem_cons_zero, Act.put, List.setIfInBounds_toArray, List.set_cons_zero, List.set_cons_succ]
    refine wpAnyH_take (i := 18) (v := .bool false) rfl (by kernel_rfl) (by kernel_rfl) (by kernel_rfl) (fun _ _ _ h => h) (Or.inl ⟨by rfl, fun W hW => by go_simp⟩) HS0.out ?_
    simp only [List.getElem_toArray, List.getElem_cons_succ, List.getElem_cons_zero, Act.put, List.setIfInBounds_toArray, List.set_cons_zero, List.set_cons_succ]
    refine wpAnyH_done (by kernel_rfl) ?_ _
    have D6 := Hr.heap_of_gr HG6.out HD5.out
    have HD6 : Hid (w6.heap[gb]? = some (.cells #[.int .u32 b.pc, .slice sa xn sc] 45 (0, 0))) := D6
    have e0 : w6.cell? ⟨gb, 0, none⟩ = some (.int .u32 b.pc) := cell_of_row _ _ _ _ _ _ D6
    have e1 : w6.cell? ⟨gb, 1, none⟩ = some (.slice sa xn sc) := cell_of_row _ _ _ _ _ _ D6
    have ef : w6.frozen? ⟨gb, 1, none⟩ = false := frozen_of_row _ _ _ _ _ D6
    clear HS0 PL2 D6 y1 q1 d0 d1
    go_wp2_with fail
    refine Kc.atWd (fun W => W.heap[gb]? = some (.cells #[.int .u32 b.pc, .slice sa gn sc] 45 (0, 0)) ∧ Gr wr W ∧ Kc.Bc W b (.int .u32 b.pc) (.slice sa gn sc)) ⟨by rw [heap_setCell_same _ _ _ _ _ _ HD6.out]; rfl, (HG5.out.trans HG6.out).setCell (by exact hgb) _, set_bc (HC5.out _ HG6.out) HD6.out _⟩ ?_
    clear HD6 HG6 HC5 HD5 HG5 e0 e1 ef hgb hxc hgz hgx hgs
    clear w6
    clear W5
    rintro W7 ⟨D7, G7, C7⟩
    have HG7 : Hid (Gr wr W7) := G7
    have e0 : W7.cell? ⟨gb, 0, none⟩ = some (.int .u32 b.pc) := cell_of_row _ _ _ _ _ _ D7
    have e1 : W7.cell? ⟨gb, 1, none⟩ = some (.slice sa gn sc) := cell_of_row _ _ _ _ _ _ D7
    have y1 := (G7.cell _ (by exact Kc.lt_cell z1)).trans z1
    have r0 := (G7.cell _ (by exact Kc.lt_cell g0)).trans g0
    have r1 := (G7.cell _ (by exact Kc.lt_cell g1)).trans g1
    have SM : Hid (∀ W : World, Gr W7 W → Calls Tryz.prog 14 #[.agg #[.int .u32 b.pc, .slice sa gn sc], .agg #[.int .u32 b.pc, .slice ga gn gc]] W fun e w' => e = .returned (.bool true) ∧ Gr W w') := fun W G => Kc.Same6 (C7.of G) (HCB.out _ (HG7.out.trans G))
    clear D7 G7 C7 HCB
    refine wp_region_held_drew (S := fun W => Gr W7 W) (by kernel_rfl) (Gr.refl W7).drew (fun hHeld => ?_)
    have HS0 : Hid _ := hHeld
    clear hHeld
    refine wpAnyH_take (i := 0) (v := .agg #[.int .u32 b.pc, .slice sa gn sc]) rfl (by kernel_rfl) (by kernel_rfl) (by kernel_rfl) (fun _ _ _ h => h) (Or.inl ⟨by rfl, fun W hW => by have e0' := (hW.cell _ (by exact Kc.lt_cell e0)).trans e0; have e1' := (hW.cell _ (by exact Kc.lt_cell e1)).trans e1; go_simp⟩) HS0.out ?_
    simp only [List.getElem_toArray, List.getElem_cons_succ, List.getElem_cons_zero, Act.put, List.setIfInBounds_toArray, List.set_cons_zero, List.set_cons_succ]
    refine wpAnyH_take (i := 1) (v := .pointer (some ⟨o1 + 1, 1, none⟩)) rfl (by kernel_rfl) (by kernel_rfl) (by kernel_rfl) (fun _ _ _ h => h) (Or.inl ⟨by rfl, fun W hW => by go_simp⟩) HS0.out ?_
    simp only [List.getElem_toArray, List.getElem_cons_succ, List.getElem_cons_zero, Act.put, List.setIfInBounds_toArray, List.set_cons_zero, List.set_cons_succ]
    refine wpAnyH_take (i := 2) (v := .slice (some ⟨b3, o3, none⟩) k c) rfl (by kernel_rfl) (by kernel_rfl) (by kernel_rfl) (fun _ _ _ h => h) (Or.inl ⟨by rfl, fun W hW => by have y1' := (hW.cell _ (by exact Kc.lt_cell y1)).trans y1; go_simp⟩) HS0.out ?_
    simp only [List.getElem_toArray, List.getElem_cons_succ, List.getElem_cons_zero, Act.put, List.setIfInBounds_toArray, List.set_cons_zero, List.set_cons_succ]
    refine wpAnyH_take (i := 3) (v := .int .i64 t) rfl (by kernel_rfl) (by kernel_rfl) (by kernel_rfl) (fun _ _ _ h => h) (Or.inl ⟨by rfl, fun W hW => by go_simp⟩) HS0.out ?_
    simp only [List.getElem_toArray, List.getElem_cons_succ, List.getElem_cons_zero, Act.put, List.setIfInBounds_toArray, List.set_cons_zero, List.set_cons_succ]
    refine wpAnyH_take (i := 4) (v := .pointer (some ⟨b3, o3 + t * 2, none⟩)) rfl (by kernel_rfl) (by kernel_rfl) (by kernel_rfl) (fun _ _ _ h => h) (Or.inl ⟨by rfl, fun W hW => by go_simp⟩) HS0.out ?_
    simp only [List.getElem_toArray, List.getElem_cons_succ, List.getElem_cons_zero, Act.put, List.setIfInBounds_toArray, List.set_cons_zero, List.set_cons_succ]
    refine wpAnyH_take (i := 5) (v := .agg #[.int .u32 b.pc, .slice ga gn gc]) rfl (by kernel_rfl) (by kernel_rfl) (by kernel_rfl) (fun _ _ _ h => h) (Or.inl ⟨by rfl, fun W hW => by have r0' := (hW.cell _ (by exact Kc.lt_cell r0)).trans r0; have r1' := (hW.cell _ (by exact Kc.lt_cell r1)).trans r1; go_simp⟩) HS0.out ?_
    simp only [List.getElem_toArray, List.getElem_cons_succ, List.getElem_cons_zero, Act.put, List.setIfInBounds_toArray, List.set_cons_zero, List.set_cons_succ]
    refine wpAnyH_ready (rs := [6]) (by kernel_rfl) (by simp) ?_
    refine AllReadyH.cons rfl (fun K hK => ?_) AllReadyH.nil
    go_simp
    refine (SM.out _ (Gr.refl _).drew).mono ?_
    rintro e w8 ⟨rfl, G8⟩
    have HG8 : Hid (Gr W7 w8) := (Gr.refl W7).drew.trans G8
    refine hK.out _ _ HG8.out (fun hx => ?_)
    clear hK K hx G8 HS0
    have HS0 : Hid (Gr W7 w8) := HG8.out
    refine wpAnyH_take (i := 7) (v := .bool false) rfl (by kernel_rfl) (by kernel_rfl) (by kernel_rfl) (fun _ _ _ h => h) (Or.inl ⟨by rfl, fun W hW => by go_simp⟩) HS0.out ?_
    simp only [List.getElem_toArray, List.getElem_cons_succ, List.getElem_cons_zero, Act.put, List.setIfInBounds_toArray, List.set_cons_zero, List.set_cons_succ]
    refine wpAnyH_done (by kernel_rfl) ?_ _
    clear HS0 SM e0 e1 y1 r0 r1
    go_wp2_with fail
    go_roundw
    case rel => exact ⟨t + 1, by omega, by go_num, (HGq.out.trans HG7.out).trans HG8.out⟩
    case measure => simp [intOf]; omega
   ·obtain rfl : t = k := by omega
    have HBq : Hid (∀ W : World, Gr wr W → W.heap[w.heap.size]? = some (.cells #[.slice ma mn mc, .slice ha hn hc] 25 (0, 0)) ∧ W.heap[o1]? = some (.cells #[.slice s1 mn s2, .slice s3 hn s4, .slice s5 S.out.length s6, .int .i64 S.steps] 32 (0, 0)) ∧ W.heap[o1 + 1]? = some (.cells #[.int .i64 room, .slice a t c, .int .i64 pu, .int .i64 sl] 35 (0, 0))) := fun W G => HBm.out W (HGq.out.trans G)
    have HGw : Hid (Gr w wr) := HG0.out.trans HGq.out
    clear HBm HX0 HM0 HG0 HGq
    go_wp2_with fail
    clear z1 z0
    go_loopw [13, 14] (fun d i wq => ∃ (j : Nat) (dd : Bool), j ≤ pn ∧ i = .int .i64 j ∧ d = .bool dd ∧ (dd = true → DidF m hs ps) ∧ Gr wr wq) (fun _ i _ => pn - (intOf i).toNat)
    case atStart => exact ⟨0, false, Nat.zero_le _, rfl, rfl, (fun h => absurd h (by decide)), Gr.refl _⟩
    case round =>
     obtain ⟨j, dd, hj, rfl, rfl, hD, Gq⟩ := hrel
     rename World => wq
     have HD : Hid (dd = true → DidF m hs ps) := hD
     have HGq : Hid (Gr wr wq) := Gq
     have y0 : wq.cell? ⟨w.heap.size, 0, none⟩ = some (.slice ma mn mc) := cell_of_row _ _ _ _ _ _ (HBq.out _ Gq).1
     have y1 : wq.cell? ⟨w.heap.size, 1, none⟩ = some (.slice ha hn hc) := cell_of_row _ _ _ _ _ _ (HBq.out _ Gq).1
     have q1 : wq.cell? ⟨o1 + 1, 1, none⟩ = some (.slice a t c) := cell_of_row _ _ _ _ _ _ (HBq.out _ Gq).2.2
     have q2 : wq.cell? ⟨o1 + 1, 2, none⟩ = some (.int .i64 pu) := cell_of_row _ _ _ _ _ _ (HBq.out _ Gq).2.2
     have q3 : wq.cell? ⟨o1 + 1, 3, none⟩ = some (.int .i64 sl) := cell_of_row _ _ _ _ _ _ (HBq.out _ Gq).2.2
     have HE : Hid (room = 64 → dd = true → (0 < t ∨ ¬ pu = 0 ∨ ¬ sl = 0)) := fun h1 h2 => by
      rcases HK.out.some h1 (HD.out h2) with h | h
      ·left
       rw [← HLk.out]
       exact List.length_pos_iff.2 h
      ·exact .inr h
     clear hD Gq
     by_cases hjp : j < pn
     ·cases dd with
      | false =>
       clear HE q1 q2 q3
       obtain ⟨⟨p1, p2⟩, hp2⟩ : ∃ p, ps[j]? = some p := ⟨_, List.getElem?_eq_getElem (by rw [HP.out.len]; exact hjp)⟩
       obtain ⟨hq0, hq1⟩ := HPk.out _ (List.mem_of_getElem? hp2)
       obtain ⟨q, rfl⟩ : ∃ q : Nat, p1 = (q : Int) := ⟨p1.toNat, by simp only at hq0; omega⟩
       simp only at hq0 hq1
       obtain ⟨h, hh⟩ : ∃ h, hs[q]? = some h := ⟨_, List.getElem?_eq_getElem (by rw [HH.out.len]; omega)⟩
       have oh := HH.out.ok h (List.mem_of_getElem? hh)
       have HGR : Hid (Gr w wq) := HGw.out.trans HGq.out
       obtain ⟨pb, po, rfl, hpb, hpcs⟩ := (HP.out.of HGR.out).spot (by omega)
       obtain ⟨hb, ho, rfl, hhb, hhc⟩ := (HH.out.of HGR.out).spot (by omega)
       have RG : Hid (wq.rangeAt hb (ho + q * 37) (hL h)) := hhc q h hh
       obtain ⟨c0, c1⟩ := hpcs j _ hp2
       simp only at c0 c1
       have MK2 : Hid (∀ W : World, Gr wq W → Calls Tryz.prog 12 #[.slice ma mn mc, .int .u32 h.pc] W fun e w' => ∃ sa sc, e = .returned (.agg #[.int .u32 h.pc, .slice sa (Bk.blk m h.pc 16 0).length sc]) ∧ Gr W w') := fun W G => (make_bc mc (HM.out.of (HGR.out.trans G)) hmn oh.pc0 oh.pc1).mono fun e w' ⟨sa, sc, e1, _, g⟩ => ⟨sa, sc, e1, g⟩
       have HDi : Hid (j = 0 → 0 < p2 → h.state = 0 → 0 < (Bk.blk m h.pc 16 0).length → DidF m hs ps) := fun e0 h1 h2 h3 => ⟨((q : Int), p2), h, by rw [← e0]; exact hp2, h1, by simpa using hh, h2, h3⟩
       have e32 : (hL h)[32]? = some (.int .u32 h.pc) := hL_fld oh 0
       have e35 : (hL h)[35]? = some (.int .i64 h.state) := hL_fld oh 3
       have HLL : Hid ((hL h).length = 37) := hL_len oh
       have HO1 : Hid ((hL h).toArray.all (·.oneCell') = true) := one_hA h
       have hj0 : (0 : Int) ≤ (j : Int) := by omega
       have hj1 : (j : Int) < (pn : Int) := by omega
       have hq2 : (0 : Int) ≤ (q : Int) := by omega
       clear hp2 hh oh hpcs hhc
       generalize hL h = hl at *
       generalize (Bk.blk m h.pc 16 0).length = xn at *
       generalize h.state = st at *
       generalize h.pc = hpc at *
       go_wp2_with fail
       refine wp_region_held_drew (S := fun W => Gr wq W) (by kernel_rfl) (Gr.refl wq).drew (fun hHeld => ?_)
       have HS0 : Hid _ := hHeld
       clear hHeld
       refine wpAnyH_take (i := 0) (v := .pointer (some ⟨w.heap.size, 1, none⟩)) rfl (by kernel_rfl) (by kernel_rfl) (by kernel_rfl) (fun _ _ _ h => h) (Or.inl ⟨by rfl, fun W hW => by go_simp⟩) HS0.out ?_
       simp only [List.getElem_toArray, List.getElem_cons_succ, List.getElem_cons_zero, Act.put, List.setIfInBounds_toArray, List.set_cons_zero, List.set_cons_succ]
       refine wpAnyH_take (i := 1) (v := .slice (some ⟨hb, ho, none⟩) hn hc) rfl (by kernel_rfl) (by kernel_rfl) (by kernel_rfl) (fun _ _ _ h => h) (Or.inl ⟨by rfl, fun W hW => by have y1' := (hW.cell _ (by exact Kc.lt_cell y1)).trans y1; go_simp⟩) HS0.out ?_
       simp only [List.getElem_toArray, List.getElem_cons_succ, List.getElem_cons_zero, Act.put, List.setIfInBounds_toArray, List.set_cons_zero, List.set_cons_succ]
       refine wpAnyH_take (i := 2) (v := .slice (some ⟨pb, po, none⟩) pn pc) rfl (by kernel_rfl) (by kernel_rfl) (by kernel_rfl) (fun _ _ _ h => h) (Or.inl ⟨by rfl, fun W hW => by go_simp⟩) HS0.out ?_
       simp only [List.getElem_toArray, List.getElem_cons_succ, List.getElem_cons_zero, Act.put, List.setIfInBounds_toArray, List.set_cons_zero, List.set_cons_succ]
       refine wpAnyH_take (i := 3) (v := .int .i64 j) rfl (by kernel_rfl) (by kernel_rfl) (by kernel_rfl) (fun _ _ _ h => h) (Or.inl ⟨by rfl, fun W hW => by go_simp⟩) HS0.out ?_
       simp only [List.getElem_toArray, List.getElem_cons_succ, List.getElem_cons_zero, Act.put, List.setIfInBounds_toArray, List.set_cons_zero, List.set_cons_succ]
       refine wpAnyH_take (i := 4) (v := .pointer (some ⟨pb, po + j * 2, none⟩)) rfl (by kernel_rfl) (by kernel_rfl) (by kernel_rfl) (fun _ _ _ h => h) (Or.inl ⟨by rfl, fun W hW => by go_simp⟩) HS0.out ?_
       simp only [List.getElem_toArray, List.getElem_cons_succ, List.getElem_cons_zero, Act.put, List.setIfInBounds_toArray, List.set_cons_zero, List.set_cons_succ]
       refine wpAnyH_take (i := 5) (v := .pointer (some ⟨pb, po + j * 2, none⟩)) rfl (by kernel_rfl) (by kernel_rfl) (by kernel_rfl) (fun _ _ _ h => h) (Or.inl ⟨by rfl, fun W hW => by go_simp⟩) HS0.out ?_
       simp only [List.getElem_toArray, List.getElem_cons_succ, List.getElem_cons_zero, Act.put, List.setIfInBounds_toArray, List.set_cons_zero, List.set_cons_succ]
       refine wpAnyH_take (i := 6) (v := .int .i64 q) rfl (by kernel_rfl) (by kernel_rfl) (by kernel_rfl) (fun _ _ _ h => h) (Or.inl ⟨by rfl, fun W hW => by have c0' := (hW.cell _ (by exact Kc.lt_cell c0)).trans c0; go_simp⟩) HS0.out ?_
       simp only [List.getElem_toArray, List.getElem_cons_succ, List.getElem_cons_zero, Act.put, List.setIfInBounds_toArray, List.set_cons_zero, List.set_cons_succ]
       refine wpAnyH_take (i := 7) (v := .pointer (some ⟨hb, ho + q * 37, none⟩)) rfl (by kernel_rfl) (by kernel_rfl) (by kernel_rfl) (fun _ _ _ h => h) (Or.inl ⟨by rfl, fun W hW => by go_simp⟩) HS0.out ?_
       simp only [List.getElem_toArray, List.getElem_cons_succ, List.getElem_cons_zero, Act.put, List.setIfInBounds_toArray, List.set_cons_zero, List.set_cons_succ]
       refine wpAnyH_take (i := 8) (v := .agg hl.toArray) rfl (by kernel_rfl) (by kernel_rfl) (by kernel_rfl) (fun _ _ _ h => h) ?hy8 HS0.out ?_
       case hy8 => exact yieldsIf_load_mid (by rfl) 51 (.tmp 130) rfl hb (ho + q * 37) (by simp [Act.eval]) hl _ (fun W hW => fun i v hv => (hW.cell _ (by exact hhb)).trans (RG.out i v hv)) Tryz.underlying51 rfl (by rw [HLL.out]; exact iHt)
       simp only [List.getElem_toArray, List.getElem_cons_succ, List.getElem_cons_zero, Act.put, List.setIfInBounds_toArray, List.set_cons_zero, List.set_cons_succ]
       refine wpAnyH_ready (rs := [9]) (by kernel_rfl) (by simp) ?_
       refine AllReadyH.cons rfl (fun K hK => ?_) AllReadyH.nil
       go_simp
       refine hK.out _ _ ((Gr.refl wq).alloc _).drew (fun hx => ?_)
       clear hK K hx HS0
       refine Kc.held_sr (i := 10) (by kernel_rfl) rfl rfl 51 (.tmp 15) (.tmp 131) rfl wq.heap.size hl.toArray (by simp [Act.eval]) (by simp [Act.eval]) 51 _ (heap_alloc_new wq _) (by rw [List.size_toArray, HLL.out]; exact iHt) (by rw [show hl.toArray.size = 37 from List.size_toArray.trans HLL.out]; rfl) HO1.out ?_ ?_
       ·exact Kc.gr_sr (by repeat (first | exact Gr.refl wq | refine Gr.drew ?_ | refine Gr.alloc ?_ _)) (Nat.le_refl _) _
       refine wpAnyH_done (by kernel_rfl) ?_ _
       refine Kc.atWd (fun W => W.heap[wq.heap.size]? = some (.cells hl.toArray 51 (0, 0)) ∧ Gr wq W) ⟨setRow_heap _ _ _ _ _ (0, 0) (heap_alloc_new wq _), Kc.gr_sr (by repeat (first | exact Gr.refl wq | refine Gr.drew ?_ | refine Gr.alloc ?_ _)) (Nat.le_refl _) _⟩ ?_
       rintro W5 ⟨D5, G5⟩
       have d32 : W5.cell? ⟨wq.heap.size, 32, none⟩ = some (.int .u32 hpc) := by rw [cell_of_row _ _ _ _ _ _ D5]; simpa using e32
       have HG5 : Hid (Gr wq W5) := G5
       have HD5 : Hid (W5.heap[wq.heap.size]? = some (.cells hl.toArray 51 (0, 0))) := D5
       have y0' := (G5.cell _ (by exact Kc.lt_cell y0)).trans y0
       have c1' := (G5.cell _ (by exact Kc.lt_cell c1)).trans c1
       clear D5 G5
       go_wp2_with fail
       refine (MK2.out _ HG5.out).mono ?_
       rintro e w6 ⟨sa, sc, rfl, G6⟩
       have HG6 : Hid (Gr wq w6) := HG5.out.trans G6
       have D6 := Hr.heap_of_gr G6 HD5.out
       have d35 : w6.cell? ⟨wq.heap.size, 35, none⟩ = some (.int .i64 st) := by rw [cell_of_row _ _ _ _ _ _ D6]; simpa using e35
       have k1 := (G6.cell _ (by exact Kc.lt_cell c1')).trans c1'
       have l1 : wq.heap.size < w6.heap.size := Kc.lt_cell d35
       have l2 : pb < w6.heap.size := Kc.lt_cell k1
       clear G6 D6 HD5 HG5 d32 y0' c1' y0 y1 c0 c1 MK2 RG e32 e35 HLL HO1
       clear W5
       by_cases hjz : j = 0
       ·have hjb : ((j : Int) == 0) = true := by simp; omega
        have HJ : Hid (j = 0) := hjz
        clear hjz
        by_cases h2 : 0 < p2
        ·by_cases h3 : st = 0
         ·have hsb : (st == 0) = true := by simpa using h3
          have HS3 : Hid (st = 0) := h3
          clear h3
          by_cases h4 : 0 < xn
          ·have HDD : Hid (DidF m hs ps) := HDi.out HJ.out h2 HS3.out h4
           go_wp2_with fail
           go_roundw
           case rel => exact ⟨j + 1, true, by omega, by go_num, rfl, fun _ => HDD.out, HGq.out.trans (HG6.out.alloc _)⟩
           case measure => simp [intOf]; omega
          ·have h5 : xn = 0 := by omega
           subst h5
           go_wp2_with fail
           go_roundw
           case rel => exact ⟨j + 1, false, by omega, by go_num, rfl, (fun h => absurd h (by decide)), HGq.out.trans (HG6.out.alloc _)⟩
           case measure => simp [intOf]; omega
         ·have hsb : (st == 0) = false := by simpa using h3
          clear h3
          go_wp2_with fail
          go_roundw
          case rel => exact ⟨j + 1, false, by omega, by go_num, rfl, (fun h => absurd h (by decide)), HGq.out.trans (HG6.out.alloc _)⟩
          case measure => simp [intOf]; omega
        ·go_wp2_with fail
         go_roundw
         case rel => exact ⟨j + 1, false, by omega, by go_num, rfl, (fun h => absurd h (by decide)), HGq.out.trans (HG6.out.alloc _)⟩
         case measure => simp [intOf]; omega
       ·have hjb : ((j : Int) == 0) = false := by simp; omega
        clear hjz
        go_wp2_with fail
        go_roundw
        case rel => exact ⟨j + 1, false, by omega, by go_num, rfl, (fun h => absurd h (by decide)), HGq.out.trans (HG6.out.alloc _)⟩
        case measure => simp [intOf]; omega
      | true =>
       by_cases hr64 : room < 64
       ·go_wp2_with fail
        go_ret
        exact ⟨rfl, HGw.out.trans HGq.out⟩
       ·have he := HE.out (by omega) rfl
        have HE2 : Hid (0 < t ∨ ¬ pu = 0 ∨ ¬ sl = 0) := he
        clear he HE
        by_cases ht0 : 0 < t
        ·go_wp2_with fail
         go_ret
         exact ⟨rfl, HGw.out.trans HGq.out⟩
        ·by_cases hp0 : pu = 0
         ·have hs0 : (sl != 0) = true := by
           have := HE2.out
           simp
           omega
          have hp1 : (pu != 0) = false := by simpa using hp0
          clear hp0
          go_wp2_with fail
          go_ret
          exact ⟨rfl, HGw.out.trans HGq.out⟩
         ·have hp1 : (pu != 0) = true := by simpa using hp0
          clear hp0
          go_wp2_with fail
          go_ret
          exact ⟨rfl, HGw.out.trans HGq.out⟩
     ·cases dd with
      | false =>
       by_cases hr64 : room < 64
       ·go_wp2_with fail
        go_ret
        exact ⟨rfl, HGw.out.trans HGq.out⟩
       ·go_wp2_with fail
        go_ret
        exact ⟨rfl, HGw.out.trans HGq.out⟩
      | true =>
       by_cases hr64 : room < 64
       ·go_wp2_with fail
        go_ret
        exact ⟨rfl, HGw.out.trans HGq.out⟩
       ·have he := HE.out (by omega) rfl
        have HE2 : Hid (0 < t ∨ ¬ pu = 0 ∨ ¬ sl = 0) := he
        clear he HE
        by_cases ht0 : 0 < t
        ·go_wp2_with fail
         go_ret
         exact ⟨rfl, HGw.out.trans HGq.out⟩
        ·by_cases hp0 : pu = 0
         ·have hs0 : (sl != 0) = true := by
           have := HE2.out
           simp
           omega
          have hp1 : (pu != 0) = false := by simpa using hp0
          clear hp0
          go_wp2_with fail
          go_ret
          exact ⟨rfl, HGw.out.trans HGq.out⟩
         ·have hp1 : (pu != 0) = true := by simpa using hp0
          clear hp0
          go_wp2_with fail
          go_ret
          exact ⟨rfl, HGw.out.trans HGq.out⟩

end Go.Proofs.YtchllaeembmioaaGreatDoor.En
