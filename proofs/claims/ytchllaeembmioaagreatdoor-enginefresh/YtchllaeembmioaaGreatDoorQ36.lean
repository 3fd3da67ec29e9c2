/-
  Eg, Ed, Eu, Mb9, Ref5b, Mk: texts of ours that lie in one file.
-/
import Derived.Test.YtchllaeembmioaaGreatDoorQ35
import Derived.Test.YtchllaeembmioaaGreatDoorQ18
import Derived.Test.YtchllaeembmioaaGreatDoorQ22
import Derived.Test.YtchllaeembmioaaGreatDoorQ29
import Derived.Deep.RegionWith
import Derived.Test.YtchllaeembmioaaGreatDoorQ15
set_option linter.unusedVariables false
set_option linter.unusedSimpArgs false
set_option maxHeartbeats 8000000
set_option maxRecDepth 100000
namespace Go.Proofs.YtchllaeembmioaaGreatDoor.En
open Go.ChangeShapes Go.WideShapes Go.ChangeAt Go.RowKit Mm Hh Hc Mc

structure Tall (b : Nat) (w : World) : Prop where
 tt : TT w b
 tr : Mp.Tr w
 trb : 3 < b
 ts : Gc.Ts w b
 tq : Ts.Tq w
 tqb : 2 < b
theorem Tall.below {b : Nat} {w w' : World} (T : Tall b w) (h : Below b w w') : Tall b w' :=
  ⟨⟨⟨fun i n e => (Below.cell h (by exact T.tt.b1)).trans (T.tt.tab.shapes i n e), fun i n e => (Below.cell h (by exact T.tt.b2)).trans (T.tt.tab.uppers i n e)⟩, ⟨fun i n e => (Below.cell h (by exact T.tt.tb.b1)).trans (T.tt.tb.sizes i n e), fun i n e => (Below.cell h (by exact T.tt.tb.b2)).trans (T.tt.tb.opers i n e), T.tt.tb.b1, T.tt.tb.b2⟩, T.tt.b1, T.tt.b2⟩,
   ⟨fun i n e => (Below.cell h (by exact T.trb)).trans (T.tr.rows i n e), Nat.lt_of_lt_of_le T.tr.b h.size⟩, T.trb, Gc.ts_of T.ts h, fun k n e => (Below.cell h (by exact T.tqb)).trans (T.tq k n e), T.tqb⟩
theorem Tall.tt' {b : Nat} {w : World} (T : Tall b w) (h : b ≤ w.heap.size) : TT w w.heap.size :=
 ⟨T.tt.tab, ⟨T.tt.tb.sizes, T.tt.tb.opers, Nat.lt_of_lt_of_le T.tt.tb.b1 h, Nat.lt_of_lt_of_le T.tt.tb.b2 h⟩, Nat.lt_of_lt_of_le T.tt.b1 h, Nat.lt_of_lt_of_le T.tt.b2 h⟩
theorem Tall.ts' {b : Nat} {w : World} (T : Tall b w) (h : b ≤ w.heap.size) : Gc.Ts w w.heap.size := ⟨T.ts.sizes, Nat.lt_of_lt_of_le T.ts.b1 h⟩
theorem own_capE {w : World} {a : Option Addr} {n c : Nat} {l : List UInt8} (h : Own w 0 (.slice a n c) l) : a = none → c = 0 := by
 intro e
 subst e
 rcases h with ⟨h0, _⟩ | ⟨g, cap, hv, _⟩
 ·injection h0
 ·injection hv with h1
  cases h1
theorem run_dq {w : World} {ca : Option Addr} {cn cc : Nat} {cd : List Mi.Mv} (C : Mi.Cs w ca cn cd) {b : Nat} (T : Tall b w) (hb : b ≤ w.heap.size) (hl : cd.length ≤ 1000) (hm : Mi.mayC cd = true) {h : Hv} (o : h.Ok) {ma : Option Addr} {mc : Nat} {l : List UInt8} (M : Own w 0 (.slice ma l.length mc) l) (hml : l.length ≤ 4096) (bf bt : Int) {n : Nat} (hn : n ≤ 400) (hh : may h = true) (hs : h.state = 0) :
  Calls Tryz.prog 53 #[.slice ca cn cc, .agg (hA h), .slice ma l.length mc, .agg #[.int .u32 bf, .int .u32 bt], .int .i64 n] w fun e w' => ∃ d, e = .returned (.tuple #[.agg (qA d), .bool true]) ∧ (Dq w' 0 d (rnW (Mi.mplay bf bt n h l cd)) ∧ d.h.Ok) ∧ Gr w w' := by
 obtain ⟨ma', mc', hM, MM⟩ := M.mem
 injection hM with h1 h2 h3
 subst h1 h3
 have hcn := C.len
 refine (Mp.Run_own cc C T.tr (T.ts' hb) (by omega) hm o MM (own_capE M) bf bt n (by omega) (by omega) hh hs hml).mono ?_
 rintro e w' ⟨M2, O2, S2, rfl, D2, W2, G2⟩
 refine ⟨⟨(Mi.mplay bf bt n h l cd).h, M2, O2, (Mi.mplay bf bt n h l cd).n, S2⟩, rfl, ⟨⟨rfl, rfl, W2, ?_, ?_⟩, D2.ok.h⟩, G2⟩
 ·obtain ⟨b1, h⟩ := D2.out
  exact Bk.owns_base h (Nat.zero_le _)
 ·obtain ⟨b1, h⟩ := D2.sto
  exact Bk.owns_base h (Nat.zero_le _)
theorem dq_low {w : World} {b : Nat} {d : Qv} {x : Wk} (D : Dq w b d x) : Dq w 0 d x := ⟨D.hh, D.n, D.mem, Bk.owns_base D.out (Nat.zero_le _), Bk.owns_base D.sto (Nat.zero_le _)⟩
section
variable {w : World} {base g : Nat} {room : Int} {s : Sh} {L L1 : List Kc.Bv} {pu sl p1 : Int} {mn m1 : Nat}
theorem stretch_mid (E : Ev 0 w base g room s L pu sl mn) {b : Nat} (T : Tall b w) (hbb : b ≤ base) {c ml : Nat} (F : Fit s c ml) (hml : ml ≤ 4096) (hc4 : c ≤ 4) {k n : Nat} (hk : k < c) (hn : n ≤ 400) (hst : (at' s k).state = 0) (is : List Ts.Iv) (hfit : (at' s k).pc + 4 * (is.length : Int) ≤ 4294967295) (h16 : is.length ≤ 16) (hlen : (Ts.codeV (at' s k).pc is 0).length ≤ 1000) (hmay : Mi.mayC (Ts.codeV (at' s k).pc is 0) = true)
  (BA : ∀ W : World, Gr w W → Calls Tryz.prog 52 #[.pointer (some ⟨g, 0, none⟩), .int .u32 (at' s k).pc] W fun e w' => ∃ ba bc ca cn cc, e = .returned (.tuple #[.agg #[.int .u32 (at' s k).pc, .slice ba is.length bc], .slice ca cn cc]) ∧ Ts.Ct w' ca cn (Ts.codeV (at' s k).pc is 0) ∧ Ev 0 w' base g room s L1 p1 sl m1 ∧ Fm base W w') :
  Calls Tryz.prog 32 #[.pointer (some ⟨g, 0, none⟩), .agg #[.int .i64 k, .int .i64 n]] w fun e w' => ∃ d, e = .returned (.agg (qA d)) ∧ (Dq w' 0 d (if (rnW (Mi.mplay (at' s k).pc ((at' s k).pc + 4 * (is.length : Int)) n (at' s k) s.m (Ts.codeV (at' s k).pc is 0))).n = 0 then wk (w0 s k) 1 else rnW (Mi.mplay (at' s k).pc ((at' s k).pc + 4 * (is.length : Int)) n (at' s k) s.m (Ts.codeV (at' s k).pc is 0))) ∧ d.h.Ok) ∧ Ev 0 w' base g room s L1 p1 sl m1 ∧ Fm base w w' := by
 have W0 := w0_ok F hk
 have okh : (at' s k).Ok := W0.ok
 have hmy : may (at' s k) = true := W0.may
 have hbs : base ≤ w.heap.size := by
  obtain ⟨_, _, _, _, _, _, _, _, _, E⟩ := E
  exact E.base_le
 have hmm : s.m.length ≤ 4096 := by have := F.mem; omega
 refine stretch_gen E F.len hk is.length (x1 := wk (w0 s k) 1) _ BA (fun W ba bc => ?_) (fun W ca cn cc ma mc hB C M => ?_) (fun W hB EW => ?_)
 ·have := Kc.Bytes_blk W ⟨okh.pc0, okh.pc1⟩ ba (n := is.length) (by omega) bc
  have e : min ((at' s k).pc + 4 * (is.length : Int)) 4294967295 = (at' s k).pc + 4 * (is.length : Int) := by rw [Int.min_def, if_pos hfit]
  rw [e] at this
  exact this
 ·exact run_dq C (T.below (Below.mono hB hbb)) (Nat.le_trans hbb (Nat.le_trans hbs hB.size)) hlen hmay okh M hmm _ _ hn hmy hst
 ·obtain ⟨M, gh, hc, O, a, n', cap, mb, D, EW⟩ := EW
  refine (Work_any EW.bw F hml ((T.below (Below.mono hB hbb)).tt' (Nat.le_trans hbb (Nat.le_trans hbs hB.size))) hk hc4 (n := 1) (by omega)).mono ?_
  rintro e w' ⟨d, rfl, o, Dd, G⟩
  exact ⟨d, rfl, ⟨dq_low Dd, o⟩, G⟩
theorem stretch_any (E : Ev 0 w base g room s L pu sl mn) (K : Ek room s.m L pu sl mn) {b : Nat} (T : Tall b w) (hbb : b ≤ base) {c ml : Nat} (F : Fit s c ml) (hml : ml ≤ 4096) (hc4 : c ≤ 4) (hr0 : 0 ≤ room) (hr1 : room ≤ 64) (hmn : mn ≤ 1000000) {k n : Nat} (hk : k < c) (hn0 : 0 < n) (hn : n ≤ 400) (hst : (at' s k).state = 0) :
  Calls Tryz.prog 32 #[.pointer (some ⟨g, 0, none⟩), .agg #[.int .i64 k, .int .i64 n]] w fun e w' => ∃ (d : Qv) (cN : Nat) (L1 : List Kc.Bv) (p1 : Int) (m1 : Nat), e = .returned (.agg (qA d)) ∧ (Dq w' 0 d (wk (w0 s k) cN) ∧ d.h.Ok) ∧ ((wk (w0 s k) cN).n = cN ∧ 0 < cN ∧ cN ≤ n) ∧ Ev 0 w' base g room s L1 p1 sl m1 ∧ Ek room s.m L1 p1 sl m1 ∧ (mn ≤ m1 ∧ m1 ≤ mn + 1 ∧ (L = [] → 0 < (Bk.blk s.m (at' s k).pc 16 0).length → mn < m1)) ∧ Fm base w w' := by
 have W0 := w0_ok F hk
 have okh : (at' s k).Ok := W0.ok
 have hmy : may (at' s k) = true := W0.may
 have hmm : s.m.length ≤ 4096 := by have := F.mem; omega
 have hkl : k < s.hs.length := by rw [F.len]; exact hk
 have hbs : base ≤ w.heap.size := by
  obtain ⟨_, _, _, _, _, _, _, _, _, E⟩ := E
  exact E.base_le
 have hL := K.same hr1
 -- a fresh block
 have fr : ∀ (B : Kc.Bv) (L1 : List Kc.Bv) (p1 : Int) (m1 : Nat), FreshB s.m B → B.pc = (at' s k).pc → Ek room s.m L1 p1 sl m1 → (mn ≤ m1 ∧ m1 ≤ mn + 1 ∧ (L = [] → 0 < (Bk.blk s.m (at' s k).pc 16 0).length → mn < m1)) → (∀ W : World, Gr w W → Calls Tryz.prog 52 #[.pointer (some ⟨g, 0, none⟩), .int .u32 (at' s k).pc] W fun e w' => ∃ ba bc ca cn cc, e = .returned (.tuple #[.agg #[.int .u32 (at' s k).pc, .slice ba B.is.length bc], .slice ca cn cc]) ∧ Ts.Ct w' ca cn (Ts.codeV (at' s k).pc B.is 0) ∧ Ev 0 w' base g room s L1 p1 sl m1 ∧ Fm base W w') →
   Calls Tryz.prog 32 #[.pointer (some ⟨g, 0, none⟩), .agg #[.int .i64 k, .int .i64 n]] w fun e w' => ∃ (d : Qv) (cN : Nat) (L1 : List Kc.Bv) (p1 : Int) (m1 : Nat), e = .returned (.agg (qA d)) ∧ (Dq w' 0 d (wk (w0 s k) cN) ∧ d.h.Ok) ∧ ((wk (w0 s k) cN).n = cN ∧ 0 < cN ∧ cN ≤ n) ∧ Ev 0 w' base g room s L1 p1 sl m1 ∧ Ek room s.m L1 p1 sl m1 ∧ (mn ≤ m1 ∧ m1 ≤ mn + 1 ∧ (L = [] → 0 < (Bk.blk s.m (at' s k).pc 16 0).length → mn < m1)) ∧ Fm base w w' := by
  intro B L1 p1 m1 FB hp K1 hm1 BA
  obtain ⟨c0, h1, h2, h3, h4, h5, _⟩ := block_run hkl FB hmm okh hmy hst hp.symm (steps := n) (by omega)
  have hfit := (fresh_blkd FB hmm).fit
  have hln := (Ts.codeV_fine B.pc B.is 0 (fresh_in FB)).2
  have h16 := FB.len
  rw [hp] at h4 h5 hfit hln
  refine (stretch_mid E T hbb F hml hc4 hk hn hst B.is (by omega) h16 (by omega) (by have := fresh_may FB; rwa [hp] at this) BA).mono ?_
  rintro e w' ⟨d, rfl, hd, E', F'⟩
  have hne : ¬ (rnW (Mi.mplay (at' s k).pc ((at' s k).pc + 4 * (B.is.length : Int)) n (at' s k) s.m (Ts.codeV (at' s k).pc B.is 0))).n = 0 := by
   show ¬ (Mi.mplay (at' s k).pc ((at' s k).pc + 4 * (B.is.length : Int)) n (at' s k) s.m (Ts.codeV (at' s k).pc B.is 0)).n = 0
   rw [h4]; omega
  rw [if_neg hne, h5] at hd
  have hN : (wk (w0 s k) c0).n = c0 := by rw [← h5]; exact h4
  exact ⟨d, c0, L1, p1, m1, rfl, hd, ⟨hN, h1, by omega⟩, E', K1, hm1, F'⟩
 obtain ⟨M, gh, hc, O, a, n', cap, mb, D, EW⟩ := id E
 have hn' : n' ≤ 64 := by have := EW.bt.bs.len; omega
 have hTab : ∀ W : World, Gr w W → Dw.Tab W ∧ Ts.Tq W := fun W G => ⟨(T.below (Below.mono G (Nat.le_trans hbb hbs))).tt.tab, (T.below (Below.mono G (Nat.le_trans hbb hbs))).tq⟩
 by_cases hp : 0 ≤ Kc.place (at' s k).pc L 0
 ·obtain ⟨hm, hpc, FB⟩ := K.found hp
  refine fr (Kc.fnd (at' s k).pc L) L pu mn FB hpc K ⟨Nat.le_refl _, Nat.le_succ _, fun e => ?_⟩ fun W G => ?_
  ·subst e
   exact absurd hm (by simp)
  ·refine (blockAt_yes (EW.of G) (by omega) okh.pc0 okh.pc1 hp hm hpc).mono ?_
   rintro e w' ⟨ba, bc, ca, cn, cc, rfl, C, G'⟩
   exact ⟨ba, bc, ca, cn, cc, rfl, C, E.of (G.trans G'), Fm.ofGr G' (Nat.le_trans hbs G.size)⟩
 ·have hp1 : Kc.place (at' s k).pc L 0 = -1 := by
   rcases Kc.place_bd (at' s k).pc L 0 with h | ⟨j, x, h, _⟩
   ·exact h
   ·omega
  by_cases hz : (Bk.blk s.m (at' s k).pc 16 0).length = 0
  ·refine (stretch_mid (L1 := L) (p1 := pu) (m1 := mn) E T hbb F hml hc4 hk hn hst [] (by have := okh.pc1; simp; omega) (by simp) (by simp [Ts.codeV]) rfl (fun W G => ?_)).mono ?_
   ·refine (blockAt_no (EW.of G) (by omega) hL hr0 hr1 hmn okh.pc0 okh.pc1 hp1 hmm (hTab W G).1 (hTab W G).2).mono ?_
    rintro e w' ⟨ba, bc, ca, cn, cc, rfl, C, E0, _, F'⟩
    have hx : Bk.blk s.m (at' s k).pc 16 0 = [] := List.eq_nil_of_length_eq_zero hz
    rw [hx] at C
    exact ⟨ba, bc, ca, cn, cc, by rw [hx]; rfl, C, E0 hz, F'⟩
   ·rintro e w' ⟨d, rfl, hd, E', F'⟩
    have h0 : (rnW (Mi.mplay (at' s k).pc ((at' s k).pc + 4 * (([] : List Ts.Iv).length : Int)) n (at' s k) s.m (Ts.codeV (at' s k).pc [] 0))).n = 0 := rfl
    rw [if_pos h0] at hd
    refine ⟨d, 1, L, pu, mn, rfl, hd, ⟨?_, Nat.one_pos, hn0⟩, E', K, ⟨Nat.le_refl _, Nat.le_succ _, fun _ h => absurd h (by omega)⟩, F'⟩
    rw [wk_go hst]
    rfl
  ·have hz2 : 0 < (Bk.blk s.m (at' s k).pc 16 0).length := by omega
   have FB := fresh_make okh.pc0 okh.pc1 hz2
   refine fr ⟨(at' s k).pc, (Bk.blk s.m (at' s k).pc 16 0).map Ts.ivX⟩ _ _ (mn + 1) FB rfl (K.put hr0 hmn FB hp1) ⟨Nat.le_succ _, Nat.le_refl _, fun _ _ => Nat.lt_succ_self _⟩ fun W G => ?_
   refine (blockAt_no (EW.of G) (by omega) hL hr0 hr1 hmn okh.pc0 okh.pc1 hp1 hmm (hTab W G).1 (hTab W G).2).mono ?_
   rintro e w' ⟨ba, bc, ca, cn, cc, rfl, C, _, E1, F'⟩
   exact ⟨ba, bc, ca, cn, cc, by simp, C, E1 hz2, F'⟩
end
end Go.Proofs.YtchllaeembmioaaGreatDoor.En
namespace Go.Proofs.YtchllaeembmioaaGreatDoor.En
open Go.ChangeShapes Go.WideShapes Go.ChangeAt Go.RowKit Mm Hh Hc Mc

section
variable {w : World} {base g gh hc : Nat} {room : Int} {M O : Value} {a : Option Addr} {n cap mb mn : Nat} {D : DataW Value} {s : Sh} {L : List Kc.Bv} {pu sl : Int}
theorem discard_any (E : Ew 0 w base g room M gh hc O a n cap mb mn D s L pu sl) (hL : L.length ≤ 64) (hs0 : 0 ≤ sl) (hs1 : sl ≤ 1000000) {b m : Nat} {sa : Option Addr} {sc : Nat} {ss : List (Int × Int)} (OS : w.ownsRow b 109 2 (.slice sa m sc) m (rgs ss)) (hm : ss.length = m) (hm2 : m ≤ 1000000) (bd : ∀ p ∈ ss, 0 ≤ p.1 ∧ 0 < p.2 ∧ p.1 + p.2 ≤ 4096) :
  Calls Tryz.prog 33 #[.pointer (some ⟨g, 0, none⟩), .slice sa m sc] w fun e w' => e = .returned (.tuple #[]) ∧ (∃ sl', Ev 0 w' base g room s (keepS ss L) pu sl' mn ∧ 0 ≤ sl' ∧ sl' + ((keepS ss L).length : Int) = sl + (L.length : Int)) ∧ Fm base w w' := by
 have HE : Hid (Ew 0 w base g room M gh hc O a n cap mb mn D s L pu sl) := E
 have HOS : Hid (w.ownsRow b 109 2 (.slice sa m sc) m (rgs ss)) := OS
 have HM : Hid (ss.length = m) := hm
 have HBD : Hid (∀ p ∈ ss, 0 ≤ p.1 ∧ 0 < p.2 ∧ p.1 + p.2 ≤ 4096) := bd
 have g7 := E.c7
 have HL0 : Hid (L.length ≤ 64) := hL
 clear E OS hm bd hL
 go_enter Tryz.func33, Tryz.ntmps33
 go_wp2_with fail
 go_loopw [14] (fun i wr => ∃ j : Nat, j ≤ m ∧ i = .int .i64 j ∧ (∃ a' n' cap' sl', Ew 0 wr base g room M gh hc O a' n' cap' mb mn D s (keepS (ss.take j) L) pu sl' ∧ 0 ≤ sl' ∧ sl' + ((keepS (ss.take j) L).length : Int) = sl + (L.length : Int)) ∧ Fm base w wr) (fun i _ => m - (intOf i).toNat)
 case atStart => exact ⟨0, Nat.zero_le _, rfl, ⟨a, n, cap, sl, HE.out, hs0, rfl⟩, Fm.refl _ _⟩
 case round =>
  obtain ⟨j, hj, rfl, ⟨a', n', cap', sl', E1, s0, s1⟩, F1⟩ := hrel
  have HE1 : Hid (Ew 0 wr base g room M gh hc O a' n' cap' mb mn D s (keepS (ss.take j) L) pu sl') := E1
  have HF1 : Hid (Fm base w wr) := F1
  have HK1 : Hid (sl' + ((keepS (ss.take j) L).length : Int) = sl + (L.length : Int)) := s1
  have hlen : (keepS (ss.take j) L).length ≤ 64 := Nat.le_trans (keepS_sub _ L).length_le HL0.out
  have hn' : (keepS (ss.take j) L).length = n' := E1.bt.bs.len
  have HN' : Hid ((keepS (ss.take j) L).length = n') := hn'
  have hsl : sl' ≤ 1000064 := by have := HL0.out; omega
  have hnb : n' ≤ 64 := by omega
  have g7' := E1.c7
  have hgl : g < wr.heap.size := E1.bw.lt
  clear F1 s1 hlen hn'
  by_cases hlt : j < m
  ·obtain ⟨p, hp⟩ : ∃ p, ss[j]? = some p := ⟨_, List.getElem?_eq_getElem (by rw [HM.out]; exact hlt)⟩
   obtain ⟨p0, p1, p2⟩ := HBD.out p (List.mem_of_getElem? hp)
   have HTK : Hid (keepS (ss.take (j + 1)) L = Kc.keepL p.1 (Wd.lo (p.1 + p.2)) (keepS (ss.take j) L)) := by unfold Hid; rw [take_snoc hp, keepS_snoc]
   have hlo : 0 ≤ Wd.lo (p.1 + p.2) ∧ Wd.lo (p.1 + p.2) < 4294967296 := by unfold Wd.lo; omega
   have OS1 : wr.ownsRow b 109 2 (.slice sa m sc) m (rgs ss) := owns_to HOS.out fun k o f e => HF1.out.keep k o _ f e (by decide)
   obtain ⟨sb, cp, hv, _⟩ := owns_at OS1 (by omega)
   obtain rfl : sa = some ⟨sb, 0, none⟩ := by injection hv
   have q0 : wr.cell? ⟨sb, j * 2, none⟩ = some (.int .u32 p.1) := (OS1.cellAt _ (by omega)).trans (rgs_get _ _ _ hp).1
   have q1 : wr.cell? ⟨sb, j * 2 + 1, none⟩ = some (.int .u32 (Wd.lo (p.1 + p.2))) := (OS1.cellAt _ (by omega)).trans (rgs_get _ _ _ hp).2
   have HSt : Hid (∀ W : World, Gr wr W → Calls Tryz.prog 55 #[.agg #[.int .i64 room, .slice a' n' cap', .int .i64 pu, .int .i64 sl'], .agg #[.int .u32 p.1, .int .u32 (Wd.lo (p.1 + p.2))]] W fun e w' => ∃ a2 m2 c2, e = .returned (.agg #[.int .i64 room, .slice a2 m2 c2, .int .i64 pu, .int .i64 (sl' + ((n' : Int) - ((Kc.keepL p.1 (Wd.lo (p.1 + p.2)) (keepS (ss.take j) L)).length : Int)))]) ∧ (Kc.Bt 0 w' a2 m2 (Kc.keepL p.1 (Wd.lo (p.1 + p.2)) (keepS (ss.take j) L)) ∧ m2 ≤ c2) ∧ Gr W w') := fun W G => by
    have hk := keepS_len (ss.take j) p L
    rw [HN'.out] at hk
    refine (Kc.StaleT_any cap' (HE1.out.bt.of G).bs (by omega) room pu sl' ⟨p0, by omega⟩ hlo).mono ?_
    rintro e w' ⟨a2, m2, c2, rfl, ⟨B2, hc2⟩, G2⟩
    rw [wrap_id (by omega) (by omega)]
    exact ⟨a2, m2, c2, rfl, ⟨B2.low (Nat.zero_le _), hc2⟩, G2⟩
   have HK2 : Hid (0 ≤ sl' + ((n' : Int) - ((Kc.keepL p.1 (Wd.lo (p.1 + p.2)) (keepS (ss.take j) L)).length : Int)) ∧ sl' + ((n' : Int) - ((Kc.keepL p.1 (Wd.lo (p.1 + p.2)) (keepS (ss.take j) L)).length : Int)) + ((Kc.keepL p.1 (Wd.lo (p.1 + p.2)) (keepS (ss.take j) L)).length : Int) = sl + (L.length : Int)) := by
    have hk := keepS_len (ss.take j) p L
    rw [HN'.out] at hk
    have := HK1.out
    rw [HN'.out] at this
    unfold Hid
    omega
   have HSub : Hid (∀ x ∈ Kc.keepL p.1 (Wd.lo (p.1 + p.2)) (keepS (ss.take j) L), x ∈ keepS (ss.take j) L) := fun x hx => (List.mem_filter.1 hx).1
   have e4 := E1.c4
   have e5 := E1.c5
   have e6 := E1.c6
   have HCl : Hid (∀ W : World, Gr wr W → (W.cell? ⟨g, 4, none⟩ = some (.int .i64 room) ∧ W.cell? ⟨g, 5, none⟩ = some (.slice a' n' cap') ∧ W.cell? ⟨g, 6, none⟩ = some (.int .i64 pu) ∧ W.cell? ⟨g, 7, none⟩ = some (.int .i64 sl')) ∧ (W.frozen? ⟨g, 4, none⟩ = false ∧ W.frozen? ⟨g, 5, none⟩ = false ∧ W.frozen? ⟨g, 6, none⟩ = false ∧ W.frozen? ⟨g, 7, none⟩ = false)) := fun W G => by
    have X := HE1.out.of G
    exact ⟨⟨X.c4, X.c5, X.c6, X.c7⟩, X.bw.fz _, X.bw.fz _, X.bw.fz _, X.bw.fz _⟩
   have hgn : ¬ wr.heap.size = g := by omega
   clear hv OS1 hp E1 HK1 HN' p0 p1 p2 hlo hsl hnb s0
   generalize Kc.keepL p.1 (Wd.lo (p.1 + p.2)) (keepS (ss.take j) L) = L2 at *
   generalize (sl' + ((n' : Int) - (L2.length : Int))) = SV at *
   generalize Wd.lo (p.1 + p.2) = pt at *
   generalize p.1 = pf at *
   clear p
   go_wp2_with fail
   go_region_with (go_at_call 55; refine (HSt.out _ (by repeat (first | exact Gr.refl _ | refine Gr.drewN ?_ _ | refine Gr.drew ?_ | refine Gr.alloc ?_ _))).mono ?_; rintro e w2 ⟨a2, m2, c2, rfl, ⟨B2, hc2⟩, G2⟩; have HG2 : Hid (Gr wr w2) := Gr.trans (by repeat (first | exact Gr.refl wr | refine Gr.drewN ?_ _ | refine Gr.drew ?_ | refine Gr.alloc ?_ _)) G2; have HB2 : Hid (Kc.Bt 0 w2 a2 m2 L2) := B2; obtain ⟨⟨x4, x5, x6, x7⟩, y4, y5, y6, y7⟩ := HCl.out _ HG2.out; clear G2 B2)
   all_goals
    obtain ⟨E3, F3⟩ := (HE1.out.of HG2.out).set pu SV HB2.out hc2 HSub.out
    have HE3 : Hid (Ew 0 (set4 w2 g room a2 m2 c2 pu SV) base g room M gh hc O a2 m2 c2 mb mn D s L2 pu SV) := E3
    have HF3 : Hid (Fm base w (set4 w2 g room a2 m2 c2 pu SV)) := (HF1.out.trans (Fm.ofGr HG2.out HE1.out.base_le)).trans F3
    clear E3 F3 HSt HCl x4 x5 x6 x7 y4 y5 y6 y7 e4 e5 e6 g7 g7' q0 q1
    try go_wp2_with fail
    go_roundw
    case rel => exact ⟨j + 1, by omega, by go_num, ⟨a2, m2, c2, SV, by rw [HTK.out]; exact HE3.out, HK2.out.1, by rw [HTK.out]; exact HK2.out.2⟩, HF3.out⟩
    case measure => simp [intOf]; omega
  ·have HX : Hid (keepS (ss.take j) L = keepS ss L) := by unfold Hid; rw [List.take_of_length_le (by rw [HM.out]; omega)]
   have HEv : Hid (Ev 0 wr base g room s (keepS ss L) pu sl' mn) := ⟨M, gh, hc, O, a', n', cap', mb, D, by rw [← HX.out]; exact HE1.out⟩
   have HK3 : Hid (0 ≤ sl' ∧ sl' + ((keepS ss L).length : Int) = sl + (L.length : Int)) := by have := HK1.out; rw [HX.out] at this; exact ⟨s0, this⟩
   have HFg : Hid (Calls Tryz.prog 56 #[.pointer (some ⟨g, 0, none⟩)] wr fun e w' => e = .returned (.tuple #[]) ∧ Ev 0 w' base g room s (keepS ss L) pu sl' mn ∧ Fm base wr w') := by
    refine (forget_any HE1.out (by omega)).mono ?_
    rintro e w' ⟨rfl, ⟨D', E'⟩, F'⟩
    exact ⟨rfl, ⟨M, gh, hc, O, a', n', cap', mb, D', by rw [← HX.out]; exact E'⟩, F'⟩
   clear HE1 HX HK1 HN' HE E1 g7
   by_cases hne : sl' = sl
   ·subst hne
    go_wp2_with fail
    go_end0
    exact ⟨rfl, ⟨sl', HEv.out, HK3.out.1, HK3.out.2⟩, HF1.out⟩
   ·have hne2 : (sl' != sl) = true := by simpa using hne
    clear hne
    go_wp2_with fail
    refine Calls.mono HFg.out ?_
    rintro e w2 ⟨rfl, E2, F2⟩
    have HE2 : Hid (Ev 0 w2 base g room s (keepS ss L) pu sl' mn) := E2
    have HF2 : Hid (Fm base w w2) := HF1.out.trans F2
    clear HFg E2 F2 g7'
    go_wp2_with fail
    go_end0
    exact ⟨rfl, ⟨sl', HE2.out, HK3.out.1, HK3.out.2⟩, HF2.out⟩
end
end Go.Proofs.YtchllaeembmioaaGreatDoor.En
namespace Go.Proofs.YtchllaeembmioaaGreatDoor.En
open Go.ChangeShapes Go.WideShapes Go.ChangeAt Go.RowKit Mm Hh Hc Mc

theorem wk_okE {m : Nat} : ∀ (n : Nat) {x : Wk}, WOk x m → WOk (wk x n) m
 | 0, x, o => o
 | n + 1, x, o => by
  by_cases h : x.h.state = 0
  ·rw [wk_go h]
   exact wk_okE n (wk1_ok o h)
  ·rw [wk_stop h]
   exact o
structure Tn (s : Sh) (k n : Nat) (L : List Kc.Bv) (mn c ml j : Nat) (s' : Sh) (L' : List Kc.Bv) (mn' : Nat) : Prop where
 runs : runs s k n = Mc.runs s' k j
 fit : Fit s' c ml
 lo : mn ≤ mn'
 hi : mn' ≤ s'.steps
 out : s'.out.length ≤ s'.steps
 steps : s'.steps + j ≤ s.steps + n
 did : (j = n ∧ s' = s ∧ L' = L ∧ mn' = mn) ∨ (L = [] → 0 < (Bk.blk s.m (at' s k).pc 16 0).length → mn < mn')
theorem Tn.on {s s' : Sh} {k n mn c ml j mn' cN m1 : Nat} {L L' L1 : List Kc.Bv} (T : Tn s k n L mn c ml j s' L' mn') (hk : k < c) (hc : (wk (w0 s' k) cN).n = cN ∧ 0 < cN ∧ cN ≤ j) (hm : mn' ≤ m1 ∧ m1 ≤ mn' + 1 ∧ (L' = [] → 0 < (Bk.blk s'.m (at' s' k).pc 16 0).length → mn' < m1)) : Tn s k n L mn c ml (j - cN) (tk s' k (wk (w0 s' k) cN)) L1 m1 := by
 have hl : k < s'.hs.length := by rw [T.fit.len]; exact hk
 have e : Mc.runs s' k cN = tk s' k (wk (w0 s' k) cN) := runs_wk hl cN
 have o := wk_okE cN (w0_ok T.fit hk)
 have h1 := T.hi
 have h2 := T.out
 have h3 := T.steps
 have h4 := T.lo
 have o1 := o.out
 obtain ⟨c1, c2, c3⟩ := hc
 obtain ⟨m2, m3, m4⟩ := hm
 have es : (tk s' k (wk (w0 s' k) cN)).steps = s'.steps + cN := by show s'.steps + (wk (w0 s' k) cN).n = _; rw [c1]
 refine ⟨?_, by rw [← e]; exact runs_fit hk cN T.fit, by omega, by omega, ?_, by omega, .inr fun hL hb => ?_⟩
 ·rw [T.runs, ← e, ← runs_add, show cN + (j - cN) = j by omega]
 ·rw [es]
  show (s'.out ++ (wk (w0 s' k) cN).out).length ≤ _
  rw [List.length_append]
  omega
 ·rcases T.did with ⟨_, hs, hL', hmn⟩ | h
  ·have := m4 (hL'.trans hL) (by rw [hs]; exact hb)
   omega
  ·have := h hL hb
   omega
section
variable {w : World} {base g : Nat} {room : Int} {s : Sh} {L : List Kc.Bv} {pu sl : Int} {mn : Nat}
theorem turn_any (E : Ev 0 w base g room s L pu sl mn) (K : Ek room s.m L pu sl mn) {b : Nat} (T : Tall b w) (hbb : b ≤ base) {c ml : Nat} (F : Fit s c ml) (hml : ml ≤ 4096) (hc4 : c ≤ 4) (hr0 : 0 ≤ room) (hr1 : room ≤ 64) (hmn : mn ≤ s.steps) (hso : s.out.length ≤ s.steps) (hss : s.steps ≤ 200000) {k n : Nat} (hk : k < c) (hn : n ≤ 400) :
  Calls Tryz.prog 19 #[.pointer (some ⟨g, 0, none⟩), .agg #[.int .i64 k, .int .i64 n]] w fun e w' => e = .returned (.tuple #[]) ∧ (∃ (L' : List Kc.Bv) (pu' sl' : Int) (mn' : Nat), Ev 0 w' base g room (runs s k n) L' pu' sl' mn' ∧ Ek room (runs s k n).m L' pu' sl' mn' ∧ (mn ≤ mn' ∧ mn' ≤ (runs s k n).steps) ∧ (L = [] → 0 < n → (at' s k).state = 0 → 0 < (Bk.blk s.m (at' s k).pc 16 0).length → mn < mn')) ∧ Below base w w' := by
 have HE : Hid (Ev 0 w base g room s L pu sl mn) := E
 have HK : Hid (Ek room s.m L pu sl mn) := K
 have HT : Hid (Tall b w) := T
 have HF : Hid (Fit s c ml) := F
 have hbl : base ≤ w.heap.size := by
  obtain ⟨_, _, _, _, _, _, _, _, _, E⟩ := E
  exact E.base_le
 have HT0 : Hid (Tn s k n L mn c ml n s L mn) := ⟨rfl, F, Nat.le_refl _, hmn, hso, Nat.le_refl _, .inl ⟨rfl, rfl, rfl, rfl⟩⟩
 clear E K T F hmn hso
 go_enter Tryz.func19, Tryz.ntmps19
 go_wp2_with fail
 go_loopw [] (fun wr => ∃ (j : Nat) (s' : Sh) (L' : List Kc.Bv) (pu' sl' : Int) (mn' : Nat), j ≤ n ∧ wr.heap[w.heap.size]? = some (.cells #[.int .i64 k, .int .i64 j] 53 (0, 0)) ∧ Tn s k n L mn c ml j s' L' mn' ∧ Ev 0 wr base g room s' L' pu' sl' mn' ∧ Ek room s'.m L' pu' sl' mn' ∧ Below base w wr) (fun wr => match wr.cell? ⟨w.heap.size, 1, none⟩ with | some (.int _ z) => z.toNat | _ => 0)
 case atStart => exact ⟨n, s, L, pu, sl, mn, Nat.le_refl _, heap_alloc_new w _, HT0.out, HE.out.of ((Gr.refl _).alloc _), HK.out, Below.mono ((Gr.refl w).alloc _) hbl⟩
 case round =>
  obtain ⟨j, s', L', pu', sl', mn', hj, KP, T1, E1, K1, L1⟩ := hrel
  have HP : Hid (wr.heap[w.heap.size]? = some (.cells #[.int .i64 k, .int .i64 j] 53 (0, 0))) := KP
  have HT1 : Hid (Tn s k n L mn c ml j s' L' mn') := T1
  have HE1 : Hid (Ev 0 wr base g room s' L' pu' sl' mn') := E1
  have HK1 : Hid (Ek room s'.m L' pu' sl' mn') := K1
  have HL1 : Hid (Below base w wr) := L1
  have hlw : w.heap.size < wr.heap.size := (Array.getElem?_eq_some_iff.1 KP).1
  have p0 : wr.cell? ⟨w.heap.size, 0, none⟩ = some (.int .i64 k) := cell_of_row _ _ _ _ _ _ KP
  have p1 : wr.cell? ⟨w.heap.size, 1, none⟩ = some (.int .i64 j) := cell_of_row _ _ _ _ _ _ KP
  have HMs : Hid ((match wr.cell? ⟨w.heap.size, 1, none⟩ with | some (.int _ z) => z.toNat | _ => 0) = j) := by unfold Hid; rw [p1]; simp
  obtain ⟨M0, gh, hc, O0, a0, n0, cap0, mb0, D0, E0⟩ := E1
  have hl : k < s'.hs.length := by rw [T1.fit.len]; exact hk
  have eh : s'.hs[k]? = some (at' s' k) := by unfold at'; rw [List.getElem?_eq_getElem hl]; simp [List.getD, hl]
  have okh : (at' s' k).Ok := E0.bw.row.ok _ (List.mem_of_getElem? eh)
  have g1 : wr.cell? ⟨g, 1, none⟩ = some (.slice (some ⟨gh, 0, none⟩) c hc) := by have := E0.bw.c1; rw [T1.fit.len] at this; exact this
  have c35 : wr.cell? ⟨gh, k * 37 + 35, none⟩ = some (.int .i64 (at' s' k).state) := (E0.bw.row.cell eh (by omega)).trans (hL_fld okh 3)
  have hstp : s'.steps ≤ 300000 := by have := T1.steps; omega
  clear KP T1 K1 L1 E0 eh okh hl
  by_cases hgo : 0 < j ∧ (at' s' k).state = 0
  ·obtain ⟨hj0, hst⟩ := hgo
   have HSt : Hid (∀ W : World, Gr wr W → Calls Tryz.prog 32 #[.pointer (some ⟨g, 0, none⟩), .agg #[.int .i64 k, .int .i64 j]] W fun e w' => ∃ (d : Qv) (cN : Nat) (L1 : List Kc.Bv) (p1 : Int) (m1 : Nat), e = .returned (.agg (qA d)) ∧ (Dq w' 0 d (wk (w0 s' k) cN) ∧ d.h.Ok) ∧ ((wk (w0 s' k) cN).n = cN ∧ 0 < cN ∧ cN ≤ j) ∧ Ev 0 w' base g room s' L1 p1 sl' m1 ∧ Ek room s'.m L1 p1 sl' m1 ∧ (mn' ≤ m1 ∧ m1 ≤ mn' + 1 ∧ (L' = [] → 0 < (Bk.blk s'.m (at' s' k).pc 16 0).length → mn' < m1)) ∧ Fm base W w') := fun W G => by
    have := HT1.out.hi
    exact stretch_any (HE1.out.of G) HK1.out (HT.out.below (Below.mono (HL1.out.trans (Below.mono G (by omega))) hbb)) hbb HT1.out.fit hml hc4 hr0 hr1 (by omega) hk hj0 (by omega) hst
   rw [hst] at c35
   clear hst
   go_wp2_with fail
   go_quiet (fail)
   go_wp2_with fail
   refine (HSt.out _ ((Gr.refl _).drewN _)).mono ?_
   rintro e w2 ⟨d, cN, L1, q1, m1, rfl, ⟨D2, okd⟩, hcN, E2, K2, hm1, F2⟩
   have HD2 : Hid (Dq w2 0 d (wk (w0 s' k) cN) ∧ d.h.Ok) := ⟨D2, okd⟩
   have HOk : Hid d.h.Ok := okd
   have HNn : Hid (d.n = ((wk (w0 s' k) cN).n : Int)) := D2.n
   have HcN : Hid ((wk (w0 s' k) cN).n = cN ∧ 0 < cN ∧ cN ≤ j) := hcN
   have HE2 : Hid (Ev 0 w2 base g room s' L1 q1 sl' m1) := E2
   have HK2 : Hid (Ek room s'.m L1 q1 sl' m1) := K2
   have HTn : Hid (∀ L2, Tn s k n L mn c ml (j - cN) (tk s' k (wk (w0 s' k) cN)) L2 m1) := fun L2 => HT1.out.on hk hcN hm1
   have HL2 : Hid (Below base w w2) := HL1.out.trans ((Below.mono ((Gr.refl wr).drewN _) (by omega)).trans F2.below)
   have HP2 : Hid (w2.heap[w.heap.size]? = some (.cells #[.int .i64 k, .int .i64 j] 53 (0, 0))) := F2.row HP.out (by decide)
   have hm1b : m1 ≤ 300001 := by have := HT1.out.hi; have := hm1.2.1; omega
   have HWo : Hid (WOk (w0 s' k) ml ∧ WOk (wk (w0 s' k) cN) ml) := ⟨w0_ok HT1.out.fit hk, wk_okE cN (w0_ok HT1.out.fit hk)⟩
   have HFo : Hid (s'.hs.length = c ∧ s'.out.length ≤ s'.steps ∧ s'.steps ≤ 300000) := ⟨HT1.out.fit.len, HT1.out.out, hstp⟩
   clear D2 okd hcN E2 K2 hm1 F2 HSt HP HT1 HE1 HK1 HL1 p0 p1 g1 c35 HT0 HE HK
   obtain ⟨QL, HQL⟩ : ∃ QL : List Value, Hid (qA d = QL.toArray) := ⟨_, rfl⟩
   have HSD : Hid ((qA d).size = 41) := qA_size HD2.out.2
   have HOD : Hid ((qA d).all (·.oneCell') = true) := one_qA HD2.out.1.mem.cells.2 (owns_cells HD2.out.1.out).2.1 (owns_cells HD2.out.1.sto).2.1
   have HQl : Hid (QL.length = 41) := by have := HSD.out; rw [HQL.out, List.size_toArray] at this; exact this
   have HX3 : Hid (∀ Y : Array Value, Gr w2 ((w2.alloc (.cells Y 84)).setRow w2.heap.size (qA d))) := fun Y => gr_setRow ((Gr.refl _).alloc _) (Nat.le_refl _) _
   have HX4 : Hid (∀ Y : Array Value, ((w2.alloc (.cells Y 84)).setRow w2.heap.size (qA d)).heap[w2.heap.size]? = some (.cells (qA d) 84 (0, 0))) := fun Y => setRow_heap _ _ _ _ _ (0, 0) (heap_alloc_new w2 _)
   have hl2 : w.heap.size < w2.heap.size := (Array.getElem?_eq_some_iff.1 HP2.out).1
   have z0 : w2.cell? ⟨w.heap.size, 0, none⟩ = some (.int .i64 k) := cell_of_row _ _ _ _ _ _ HP2.out
   go_wp2_with (refine wpList_store_row rfl 84 _ _ rfl w2.heap.size (qA d) rfl rfl 84 _ (heap_alloc_new w2 _) (by rw [HSD.out]; exact iQ) (by rw [HSD.out]; rfl) HOD.out ?_)
   refine at_world (fun W => W.heap[w2.heap.size]? = some (.cells (qA d) 84 (0, 0)) ∧ Gr w2 W) ⟨HX4.out _, HX3.out _⟩ ?_
   rintro W3 ⟨KO, G3⟩
   obtain ⟨o, ho⟩ : ∃ o : Nat, o = w2.heap.size := ⟨_, rfl⟩
   have hol : w.heap.size < o := by omega
   have hob : base ≤ o := by omega
   rw [← ho] at KO ⊢
   have HO3 : Hid (W3.heap[o]? = some (.cells (qA d) 84 (0, 0))) := KO
   have HP3 : Hid (W3.heap[w.heap.size]? = some (.cells #[.int .i64 k, .int .i64 j] 53 (0, 0))) := Kc.up_h G3 HP2.out
   have HE3 : Hid (Ev 0 W3 base g room s' L1 q1 sl' m1) := HE2.out.of G3
   have HD3 : Hid (Dq W3 0 d (wk (w0 s' k) cN)) := HD2.out.1.gr G3
   have HL3 : Hid (Below base w W3) := HL2.out.trans (Below.mono G3 (by omega))
   clear KO G3 HX3 HX4 HE2 HP2 HL2 ho z0 hl2 hlw HD2
   clear w2
   have HS3 : Hid (∀ V : World, (∀ (q : Nat) (x : Obj), W3.heap[q]? = some x → V.heap[q]? = some x) → (fun W => W.cell? ⟨w.heap.size, 0, none⟩ = some (.int .i64 k) ∧ W.rangeAt o 0 QL) V) := fun V h => ⟨cell_of_row _ _ _ _ _ _ (h _ _ HP3.out), fun i v hv => by rw [Nat.zero_add, cell_of_row _ _ _ _ _ _ (h _ _ HO3.out), HQL.out, List.getElem?_toArray]; exact hv⟩
   obtain ⟨M0, gh, hc, O0, a0, n0, cap0, mb0, D0, E0⟩ := HE3.out
   have HE0 : Hid (Ew 0 W3 base g room M0 gh hc O0 a0 n0 cap0 mb0 m1 D0 s' L1 q1 sl') := E0
   have HTk : Hid (∀ V : World, Gr W3 V → Calls Tryz.prog 27 #[.pointer (some ⟨g, 0, none⟩), .int .i64 k, .agg QL.toArray] V fun e w' => e = .returned (.tuple #[]) ∧ Bd 66 (rsE room a0 n0 cap0 q1 sl' mb0) w' base g (tk s' k (wk (w0 s' k) cN)) ∧ Fe 66 base V w') := fun V G => by
    rw [← HQL.out]
    have o1 := HWo.out.2.out
    have o2 := HWo.out.2.sto
    obtain ⟨f1, f2, f3⟩ := HFo.out
    obtain ⟨d1, d2, d3⟩ := HcN.out
    exact Take_any (HE0.out.of G).bw f1 hc4 (HD3.out.gr G) HOk.out (fun p hp => by have := HWo.out.2.bd p hp; omega) (by omega) (by omega) (by omega) hk
   clear E0
   refine wp_region_held_drew (S := fun W => W.cell? ⟨w.heap.size, 0, none⟩ = some (.int .i64 k) ∧ W.rangeAt o 0 QL) (by kernel_rfl) ?_ (fun hHeld => ?_)
   ·exact HS3.out _ (fun q x h => h)
   have HS0 : Hid _ := hHeld
   clear hHeld
   refine wpAnyH_take (i := 0) (v := .pointer (some ⟨g, 0, none⟩)) rfl (by kernel_rfl) (by kernel_rfl) (by kernel_rfl) (fun _ _ _ h => h) (Or.inl ⟨by rfl, fun W hW => by obtain ⟨y0, y1⟩ := hW; go_simp⟩) HS0.out ?_
   simp only [List.getElem_toArray, List.getElem_cons_succ, List.getElem_cons_zero, Act.put, List.setIfInBounds_toArray, List.set_cons_zero, List.set_cons_succ]
   refine wpAnyH_take (i := 1) (v := .pointer (some ⟨g, 0, none⟩)) rfl (by kernel_rfl) (by kernel_rfl) (by kernel_rfl) (fun _ _ _ h => h) (Or.inl ⟨by rfl, fun W hW => by obtain ⟨y0, y1⟩ := hW; go_simp⟩) HS0.out ?_
   simp only [List.getElem_toArray, List.getElem_cons_succ, List.getElem_cons_zero, Act.put, List.setIfInBounds_toArray, List.set_cons_zero, List.set_cons_succ]
   refine wpAnyH_take (i := 2) (v := .pointer (some ⟨g, 0, none⟩)) rfl (by kernel_rfl) (by kernel_rfl) (by kernel_rfl) (fun _ _ _ h => h) (Or.inl ⟨by rfl, fun W hW => by obtain ⟨y0, y1⟩ := hW; go_simp⟩) HS0.out ?_
   simp only [List.getElem_toArray, List.getElem_cons_succ, List.getElem_cons_zero, Act.put, List.setIfInBounds_toArray, List.set_cons_zero, List.set_cons_succ]
   refine wpAnyH_take (i := 3) (v := .pointer (some ⟨w.heap.size, 0, none⟩)) rfl (by kernel_rfl) (by kernel_rfl) (by kernel_rfl) (fun _ _ _ h => h) (Or.inl ⟨by rfl, fun W hW => by obtain ⟨y0, y1⟩ := hW; go_simp⟩) HS0.out ?_
   simp only [List.getElem_toArray, List.getElem_cons_succ, List.getElem_cons_zero, Act.put, List.setIfInBounds_toArray, List.set_cons_zero, List.set_cons_succ]
   refine wpAnyH_take (i := 4) (v := .int .i64 k) rfl (by kernel_rfl) (by kernel_rfl) (by kernel_rfl) (fun _ _ _ h => h) (Or.inl ⟨by rfl, fun W hW => by obtain ⟨y0, y1⟩ := hW; go_simp⟩) HS0.out ?_
   simp only [List.getElem_toArray, List.getElem_cons_succ, List.getElem_cons_zero, Act.put, List.setIfInBounds_toArray, List.set_cons_zero, List.set_cons_succ]
   refine wpAnyH_take (i := 5) (v := .agg QL.toArray) rfl (by kernel_rfl) (by kernel_rfl) (by kernel_rfl) (fun _ _ _ h => h) (yieldsIf_load_mid (by rfl) 84 (.tmp 4) rfl o 0 (by simp [Act.eval]) QL _ (fun W hW => hW.2) Tryz.underlying84 rfl (by rw [HQl.out]; exact iQ)) HS0.out ?_
   simp only [List.getElem_toArray, List.getElem_cons_succ, List.getElem_cons_zero, Act.put, List.setIfInBounds_toArray, List.set_cons_zero, List.set_cons_succ]
   refine wpAnyH_ready (rs := [6]) (by kernel_rfl) (by simp) ?_
   refine AllReadyH.cons rfl (fun K hK => ?_) AllReadyH.nil
   go_simp
   refine (HTk.out _ (Gr.refl _).drew).mono ?_
   rintro e w4 ⟨rfl, B4, F4⟩
   have F4' : Fe 66 base W3 w4 := ⟨(Below.drew (Below.refl base W3)).trans F4.below, F4.keep⟩
   have HO4 : Hid (w4.heap[o]? = some (.cells (qA d) 84 (0, 0))) := (F4'.cells HO3.out (by decide) (by decide) (by decide)).trans HO3.out
   have HP4 : Hid (w4.heap[w.heap.size]? = some (.cells #[.int .i64 k, .int .i64 j] 53 (0, 0))) := (F4'.cells HP3.out (by decide) (by decide) (by decide)).trans HP3.out
   have HE4 : Hid (Ev 0 w4 base g room (tk s' k (wk (w0 s' k) cN)) L1 q1 sl' m1) := HE0.out.take B4 F4'
   have HL4 : Hid (Below base w w4) := HL3.out.trans F4'.below
   have HSo : Hid (w4.ownsRow 0 109 2 d.sto (wk (w0 s' k) cN).sto.length (rgs (wk (w0 s' k) cN).sto)) := owns_to HD3.out.sto fun q x f e => F4'.cells e (by decide) (by decide) (by decide)
   clear B4 F4
   refine hK.out _ _ ⟨cell_of_row _ _ _ _ _ _ HP4.out, fun i v hv => by rw [Nat.zero_add, cell_of_row _ _ _ _ _ _ HO4.out, HQL.out, List.getElem?_toArray]; exact hv⟩ (fun hx => ?_)
   clear hK K hx
   refine wpAnyH_done (by kernel_rfl) ?_ _
   obtain ⟨sa, sc, hsto⟩ := (owns_cells HSo.out).2.2
   have k40 : w4.cell? ⟨o, 40, none⟩ = some (.slice sa (wk (w0 s' k) cN).sto.length sc) := (cell_of_row _ _ _ _ _ _ HO4.out).trans (by rw [qA_fld HOk.out 3]; simp [hsto])
   have HDs : Hid (Calls Tryz.prog 33 #[.pointer (some ⟨g, 0, none⟩), .slice sa (wk (w0 s' k) cN).sto.length sc] w4 fun e w' => e = .returned (.tuple #[]) ∧ (∃ sl2, Ev 0 w' base g room (tk s' k (wk (w0 s' k) cN)) (keepS (wk (w0 s' k) cN).sto L1) q1 sl2 m1 ∧ 0 ≤ sl2 ∧ sl2 + ((keepS (wk (w0 s' k) cN).sto L1).length : Int) = sl' + (L1.length : Int)) ∧ Fm base w4 w') := by
    obtain ⟨M4, gh4, hc4', O4, a4, n4, cap4, mb4, D4, E4⟩ := HE4.out
    have o2 := HWo.out.2.sto
    obtain ⟨d1, d2, d3⟩ := HcN.out
    have x1 := HK2.out.cnt
    have x2 := HK2.out.p0
    have x3 := HK2.out.s0
    exact discard_any E4 (HK2.out.same hr1) x3 (by omega) (by have := HSo.out; rw [hsto] at this; exact this) rfl (by omega) (fun p hp => by have := HWo.out.2.bd p hp; omega)
   have HNu : Hid (w4.cell? ⟨o, 39, none⟩ = some (.int .i64 cN)) := (cell_of_row _ _ _ _ _ _ HO4.out).trans (by rw [qA_fld HOk.out 2]; simp [HNn.out, HcN.out.1])
   clear hsto HSo HTk HS3 HS0 HE0 HO3 HP3 HE3 HD3 HL3 HE4
   generalize (wk (w0 s' k) cN).sto.length = m at *
   go_wp2_with fail
   refine Calls.mono HDs.out ?_
   rintro e w5 ⟨rfl, ⟨sl2, E5, h50, h51⟩, F5⟩
   have HE5 : Hid (Ev 0 w5 base g room (tk s' k (wk (w0 s' k) cN)) (keepS (wk (w0 s' k) cN).sto L1) q1 sl2 m1) := E5
   have HK5 : Hid (Ek room (tk s' k (wk (w0 s' k) cN)).m (keepS (wk (w0 s' k) cN).sto L1) q1 sl2 m1) := HK2.out.work hml HWo.out.1 h50 h51
   have HP5 : Hid (w5.heap[w.heap.size]? = some (.cells #[.int .i64 k, .int .i64 j] 53 (0, 0))) := F5.row HP4.out (by decide)
   have HO5 : Hid (w5.heap[o]? = some (.cells (qA d) 84 (0, 0))) := F5.row HO4.out (by decide)
   have HL5 : Hid (Below base w w5) := HL4.out.trans F5.below
   have b1 : w5.cell? ⟨w.heap.size, 1, none⟩ = some (.int .i64 j) := cell_of_row _ _ _ _ _ _ HP5.out
   have fb1 : w5.frozen? ⟨w.heap.size, 1, none⟩ = false := frozen_of_row _ _ _ _ _ HP5.out
   have o39 : w5.cell? ⟨o, 39, none⟩ = some (.int .i64 cN) := (cell_of_row _ _ _ _ _ _ HO5.out).trans (by rw [qA_fld HOk.out 2]; simp [HNn.out, HcN.out.1])
   obtain ⟨d1, d2, d3⟩ := HcN.out
   have HRw : Hid ((w5.setCell ⟨w.heap.size, 1, none⟩ (.int .i64 ((j : Int) - (cN : Int)))).heap[w.heap.size]? = some (.cells #[.int .i64 k, .int .i64 ((j - cN : Nat) : Int)] 53 (0, 0))) := by
    unfold Hid
    rw [heap_setCell_same _ _ _ _ _ _ HP5.out, show ((j - cN : Nat) : Int) = (j : Int) - (cN : Int) by omega]
    rfl
   have HEw : Hid (Ev 0 (w5.setCell ⟨w.heap.size, 1, none⟩ (.int .i64 ((j : Int) - (cN : Int)))) base g room (tk s' k (wk (w0 s' k) cN)) (keepS (wk (w0 s' k) cN).sto L1) q1 sl2 m1) := HE5.out.oth HP5.out (by decide) fun q hq => heap_setCell_other _ _ _ _ (by exact hq)
   have HLw : Hid (Below base w (w5.setCell ⟨w.heap.size, 1, none⟩ (.int .i64 ((j : Int) - (cN : Int))))) := Below.setCell HL5.out (by exact hbl) _
   clear E5 F5 HDs k40 HNu HP4 HO4 HL4 h50 h51 d1
   go_wp2_with fail
   go_roundw
   case rel => exact ⟨j - cN, tk s' k (wk (w0 s' k) cN), _, q1, sl2, m1, by omega, HRw.out, HTn.out _, HEw.out, HK5.out, HLw.out⟩
   case measure =>
    rw [HMs.out, cell_of_row _ _ _ _ _ _ HRw.out]
    simp
    omega
  ·have HE2 : Hid (runs s k n = s') := by
    unfold Hid
    rw [HT1.out.runs]
    by_cases h1 : 0 < j
    ·exact runs_stop (fun e => hgo ⟨h1, e⟩) _
    ·rw [show j = 0 by omega]; rfl
   have HFi : Hid (∃ (L' : List Kc.Bv) (pu' sl' : Int) (mn' : Nat), Ev 0 wr base g room (runs s k n) L' pu' sl' mn' ∧ Ek room (runs s k n).m L' pu' sl' mn' ∧ (mn ≤ mn' ∧ mn' ≤ (runs s k n).steps) ∧ (L = [] → 0 < n → (at' s k).state = 0 → 0 < (Bk.blk s.m (at' s k).pc 16 0).length → mn < mn')) := by
    rw [HE2.out]
    refine ⟨L', pu', sl', mn', HE1.out, HK1.out, ⟨HT1.out.lo, HT1.out.hi⟩, fun h1 h2 h3 h4 => ?_⟩
    rcases HT1.out.did with ⟨x1, x2, _, _⟩ | h
    ·exact absurd ⟨by omega, by rw [x2]; exact h3⟩ hgo
    ·exact h h1 h4
   have hc2 : ¬ 0 < j ∨ (0 < j ∧ ((at' s' k).state == 0) = false) := by
    by_cases h1 : 0 < j
    ·exact .inr ⟨h1, by simpa using fun e => hgo ⟨h1, e⟩⟩
    ·exact .inl h1
   clear hgo HE2 HT1 HE1 HK1 HP HT0 HE HK
   rcases hc2 with h1 | ⟨h1, h2⟩
   ·have ej : j = 0 := by omega
    subst ej
    clear h1
    go_wp2_with fail
    go_quiet (fail)
    go_wp2_with fail
    go_end0
    refine ⟨rfl, ?_, HL1.out.trans (Below.mono ((Gr.refl wr).drewN _) (by omega))⟩
    obtain ⟨x1, x2, x3, x4, x5, x6⟩ := HFi.out
    exact ⟨x1, x2, x3, x4, x5.of ((Gr.refl _).drewN _), x6⟩
   ·generalize (at' s' k).state = st at *
    go_wp2_with fail
    go_quiet (fail)
    go_wp2_with fail
    go_end0
    refine ⟨rfl, ?_, HL1.out.trans (Below.mono ((Gr.refl wr).drewN _) (by omega))⟩
    obtain ⟨x1, x2, x3, x4, x5, x6⟩ := HFi.out
    exact ⟨x1, x2, x3, x4, x5.of ((Gr.refl _).drewN _), x6⟩
end
end Go.Proofs.YtchllaeembmioaaGreatDoor.En
namespace Go.Proofs.YtchllaeembmioaaGreatDoor.Mc
open Go.ChangeShapes Go.WideShapes Go.ChangeAt Go.RowKit Mm Hh Hc

theorem wk_ok {m : Nat} : ∀ (n : Nat) {x : Wk}, WOk x m → WOk (wk x n) m ∧ (wk x n).n ≤ x.n + n
 | 0, x, o => ⟨o, Nat.le_refl _⟩
 | n + 1, x, o => by
  unfold wk
  split
  ·rename_i h
   have := wk_ok n (wk1_ok o h)
   refine ⟨this.1, ?_⟩
   have h2 := this.2
   have : (wk1 x).n = x.n + 1 := rfl
   omega
  ·exact ⟨o, by omega⟩
def Few (s : Sh) (t : Nat) : Prop := s.out.length ≤ s.steps ∧ s.steps ≤ t
theorem tk_few {s : Sh} {t m n k : Nat} {x : Wk} (f : Few s t) (o : WOk x m) (h : x.n ≤ n) : Few (tk s k x) (t + n) := by
 unfold Few tk at *
 have := o.out
 simp only [List.length_append]
 omega
def nums (ps : List (Int × Int)) : List (Nat × Nat) := ps.map fun p => (p.1.toNat, p.2.toNat)
theorem nums_get {ps : List (Int × Int)} {j : Nat} {p : Int × Int} (h : ps[j]? = some p) : (nums ps).take (j + 1) = (nums ps).take j ++ [(p.1.toNat, p.2.toNat)] := by
 refine take_snoc ?_
 unfold nums
 rw [List.getElem?_map, h]
 rfl
theorem wrong_ok {m : List UInt8} {hs : List Hv} {ps : List (Int × Int)} (h : wrong m hs ps = 0) : m.length ≤ 4096 ∧ 1 ≤ hs.length ∧ hs.length ≤ 4 ∧ (∀ h ∈ hs, may h = true) ∧ ps.length ≤ 300 ∧ ∀ p ∈ ps, 0 ≤ p.1 ∧ p.1 < hs.length ∧ 0 ≤ p.2 ∧ p.2 ≤ 400 := by
 unfold wrong at h
 split at h
 ·omega
 split at h
 ·omega
 split at h
 ·omega
 split at h
 ·omega
 rename_i h1 h2 h3 h4
 refine ⟨by omega, by omega, by omega, ?_, by omega, fun p hp => ?_⟩
 ·simpa using h2
 ·have := (List.all_eq_true.1 (by simpa using h4)) p hp
  simpa [pickOk] using this
theorem HRow.lt {w : World} {g : Nat} {hs : List Hv} (r : HRow w g hs) : g < w.heap.size := by
 obtain ⟨_, e⟩ := r.row; exact (Array.getElem?_eq_some_iff.1 e).1
theorem HRow.hs {w : World} {g c : Nat} {hs : List Hv} (r : HRow w g hs) (h : hs.length = c) : Hs w (some ⟨g, 0, none⟩) c hs :=
 ⟨h, r.ok, fun _ => ⟨g, 0, rfl, r.lt, fun i q hq => by rw [Nat.zero_add]; exact r.range hq⟩⟩
def Shn (w : World) (v : Value) (c mn : Nat) (S : Sh) : Prop := ∃ ma mc ha hc oa oc, v = .agg #[.slice ma mn mc, .slice ha c hc, .slice oa S.out.length oc, .int .i64 S.steps] ∧ Mem w ma mn S.m ∧ (ma = none → mc = 0) ∧ Hs w ha c S.hs ∧ Wm w oa S.out.length S.out ∧ (oa = none → oc = 0)
theorem own_cap {w : World} {a : Option Addr} {n c : Nat} {l : List UInt8} (h : Own w 0 (.slice a n c) l) : a = none → c = 0 := by
 rintro rfl
 rcases h with ⟨h, _⟩ | ⟨k, cap, h, _⟩
 ·injection h
 ·cases h
theorem owns_cap {w : World} {base e sz n c : Nat} {a : Option Addr} {xs : List Value} (h : w.ownsRow base e sz (.slice a n c) n xs) : a = none → c = 0 := by
 rintro rfl
 rcases h.2 with ⟨h, _⟩ | ⟨g, cap, cur, h, _⟩
 ·injection h
 ·cases h
theorem gr_trans2 {a b c : World} {n : Nat} (h : Gr a b) (k : Below n b c) (hn : a.heap.size ≤ n) : Gr a c := Below.trans h (Below.mono k hn)
theorem shn_own {w : World} {va oa : Option Addr} {vc gh hc oc c mn base : Nat} {S : Sh} (h1 : Own w 0 (.slice va mn vc) S.m) (hm : S.m.length = mn) (h2 : HRow w gh S.hs) (hl : S.hs.length = c) (h3 : w.ownsRow base 42 1 (.slice oa S.out.length oc) S.out.length (S.out.map (Value.int .u32))) :
  Shn w (.agg #[.slice va mn vc, .slice (some ⟨gh, 0, none⟩) c hc, .slice oa S.out.length oc, .int .i64 S.steps]) c mn S := by
 obtain ⟨a, b, e, M⟩ := h1.mem
 obtain ⟨a2, b2, e2, W⟩ := wm_own rfl h3
 injection e with e3 e4 e5
 injection e2 with e6 e7 e8
 subst e3 e6
 rw [hm] at M
 exact ⟨_, _, _, _, _, _, rfl, M, own_cap h1, h2.hs hl, W, owns_cap h3⟩
end Go.Proofs.YtchllaeembmioaaGreatDoor.Mc
namespace Go.Proofs.YtchllaeembmioaaGreatDoor.Mc
open Go.ChangeShapes Go.WideShapes Go.ChangeAt Go.RowKit Mm Hh Hc

def Shw (w : World) (v : Value) (c mn : Nat) (S : Sh) : Prop := ∃ ma mc ha hc oa oc, v = .agg #[.slice ma mn mc, .slice ha c hc, .slice oa S.out.length oc, .int .i64 S.steps] ∧ Mem w ma mn S.m ∧ Hs w ha c S.hs ∧ Wm w oa S.out.length S.out
theorem Shn.w {w : World} {v : Value} {c mn : Nat} {S : Sh} (h : Shn w v c mn S) : Shw w v c mn S := by
 obtain ⟨ma, mc, ha, hc, oa, oc, e, h1, _, h3, h4, _⟩ := h
 exact ⟨ma, mc, ha, hc, oa, oc, e, h1, h3, h4⟩
end Go.Proofs.YtchllaeembmioaaGreatDoor.Mc
namespace Go.Proofs.YtchllaeembmioaaGreatDoor.Mc
open Go.ChangeShapes Go.WideShapes Go.ChangeAt Go.RowKit Mm Hh Hc

end Go.Proofs.YtchllaeembmioaaGreatDoor.Mc
