/-
  Pk, Mg, MicroRunsW: texts of ours that lie in one file.
-/
import Derived.Test.YtkcgcflpmggjkabDoorK12
import Derived.Test.YtkcgcflpmggjkabDoorK04
import Derived.Test.YtkcgcflpmggjkabDoorHao
import Derived.ProofKit
import Derived.SizedLaws
import Derived.Deep.Slices
/-
  What the program's Run answers, where code and steps may be: what the small steps do ('mplay'), or nothing and false.
-/
namespace Go.Proofs.YtkcgcflpmggjkabDoor.Mp
open Go.ChangeShapes Go.WideShapes Go.ChangeAt Go.RowKit Mm Hh Hc Mi
set_option linter.unusedVariables false
set_option linter.unusedSimpArgs false

set_option maxHeartbeats 2000000 in
set_option maxRecDepth 100000 in
theorem Run_no2 {w : World} {ao : Option Addr} {n : Nat} (cap : Nat) {code : List Mv} (C : Cs w ao n code) (T : Tr w) (hn : n ≤ 140737488351232) (hm : mayC code = true) {h : Hv} (o : h.Ok) (mo : Option Addr) (ml mc : Nat) (hml : ml ≤ 140737488351232) (bf bt steps : Int) (s0 : 0 ≤ steps) (s1 : steps ≤ 400) (hno : ¬ (may h = true ∧ h.state = 0 ∧ ml ≤ 4096)) :
    Calls Tryd.prog 13 #[.slice ao n cap, .agg (hA h), .slice mo ml mc, .agg #[.int .u32 bf, .int .u32 bt], .int .i64 steps] w fun e w' => e = .returned (.tuple #[.agg (gA h0 nilS nilS 0 nilS), .bool false]) ∧ Gr w w' := by
  have M0 : Hid (∀ W : World, Gr w W → Calls Tryd.prog 11 #[.slice ao n cap] W fun e w' => e = .returned (.bool true) ∧ Gr W w') := fun W G => by rw [← hm]; exact PMay_any cap (C.of G) (T.of G) hn
  have Wi : Hid (∀ W : World, Calls Tryd.prog 29 #[.int .i64 steps, .int .i64 0, .int .i64 400] W fun e w' => e = .returned (.bool true) ∧ w' = W) := fun W => by
    have := within_any steps 0 400 W
    rwa [decide_eq_true ⟨s0, s1⟩] at this
  have NR : Hid (∀ W : World, Calls Tryd.prog 30 #[.agg (hA h), .slice mo ml mc, .agg #[.int .u32 bf, .int .u32 bt], .int .i64 steps] W fun e w' => ∃ R : Array Value, e = .returned (.tuple #[.agg R, .bool false]) ∧ R.size = 49 ∧ R.all (·.oneCell') = true ∧ Gr W w') := fun W => by
    refine (newRunner_gen (PV := fun _ v => v = nilS) o h0_ok [] bf bt steps (fun _ _ v hv _ => hv) (fun _ v hv => by rw [hv]; exact ⟨rfl, rfl⟩) (fun V G => (NewCore_no o mo ml mc V hml hno).mono fun e w' ⟨e1, e2⟩ => ⟨nilS, e1, rfl, e2⟩)).mono ?_
    rintro e w' ⟨v, rfl, rfl, G⟩
    exact ⟨_, rfl, by rw [cB_size h0_ok, rsR_len rfl], one_cB _ _ _ _ _ rfl rfl rfl, G⟩
  have HB0 : Hid (Tryd.prog.built 54 [] = some (gA h0 nilS nilS 0 nilS)) := built_none
  have HZ : Hid ((gA h0 nilS nilS 0 nilS).size = 41) := gA_size h0_ok _ _ _ _
  have HO : Hid ((gA h0 nilS nilS 0 nilS).all (·.oneCell') = true) := one_gA _ _ _ _ _ rfl rfl rfl
  have HS : Hid ((hA h).size = 37) := hA_size o
  generalize gA h0 nilS nilS 0 nilS = D0 at *
  generalize hA h = H0 at *
  clear C T hno hn hm o s0 s1 hml
  go_enter Tryd.func13, Tryd.ntmps13
  go_wp2_with fail
  refine (M0.out _ ((((Gr.refl _).alloc _).alloc _).alloc _)).mono ?_
  rintro e w1 ⟨rfl, G1⟩
  obtain ⟨b0, b1, b2⟩ := three_of G1
  have HG1 : Hid (Gr w w1) := ((((Gr.refl _).alloc _).alloc _).alloc _).trans G1
  have HBZ : Hid (∃ Z : Array Value, Z.size = 41 ∧ w1.heap[w.heap.size + 1 + 1]? = some (.cells Z 54 (0, 0))) := ⟨_, rfl, b2⟩
  have HB1 : Hid (w1.heap[w.heap.size]? = some (.cells H0 48 (0, 0))) := b0
  have r0 : w1.cell? ⟨w.heap.size + 1, 0, none⟩ = some (.int .u32 bf) := cell_of_row _ _ _ _ _ _ b1
  have r1 : w1.cell? ⟨w.heap.size + 1, 1, none⟩ = some (.int .u32 bt) := cell_of_row _ _ _ _ _ _ b1
  clear G1 b0 b1 b2 M0
  obtain ⟨Z, hz, hZ⟩ := HBZ.out
  have HZ2 : Hid (w1.heap[w.heap.size + 1 + 1]? = some (.cells Z 54 (0, 0))) := hZ
  have HZs : Hid (Z.size = 41) := hz
  clear HBZ hz hZ
  go_wp2_with fail
  refine (Wi.out _).mono ?_
  rintro e w' ⟨rfl, rfl⟩
  clear Wi
  go_wp2_with (refine wpList_load_row rfl 48 _ rfl w.heap.size rfl 48 H0 (0, 0) _ ?lh1 Tryd.underlying48 rfl (by rw [HS.out]; exact iHa) ?_; (case lh1 => exact HB1.out))
  refine (NR.out _).mono ?_
  rintro e w2 ⟨R, rfl, hR, hRo, G2⟩
  have HG2 : Hid (Gr w w2) := HG1.out.trans G2
  have HR : Hid (R.size = 49) := hR
  have HRo : Hid (R.all (·.oneCell') = true) := hRo
  have HZ3 : Hid (w2.heap[w.heap.size + 1 + 1]? = some (.cells Z 54 (0, 0))) := heap_up G2 HZ2.out
  have HX : Hid (∀ Y : Array Value, Gr w2 ((w2.alloc (.cells Y 88)).setRow w2.heap.size R)) := fun Y => gr_setRow ((Gr.refl _).alloc _) (Nat.le_refl _) _
  clear G2 hR hRo NR r0 r1 HB1 HZ2
  go_wp2_with (first
    | (refine wpList_store_row rfl 88 _ _ rfl w2.heap.size R rfl rfl 88 _ (heap_alloc_new w2 _) (by rw [HR.out]; exact iRunner) (by rw [HR.out]; rfl) HRo.out ?_)
    | (refine wpList_buildTo rfl 54 _ rfl _ rfl D0 (by have := HB0.out; simp [Act.eval, Act.put]; exact this) ?_)
    | (refine wpList_store_row rfl 54 _ _ rfl (w.heap.size + 1 + 1) D0 rfl rfl 54 Z ?sr1 (by rw [HZ.out]; exact iDidA) (by rw [HZ.out]; exact HZs.out) HO.out ?_; (case sr1 => exact heap_up (HX.out _) HZ3.out)))
  refine bodyPost_ret (v := .tuple #[.agg D0, .bool false]) (Hr.results_cell_tmp' Tryd.results13 _ _ _ _ _ (0, 0) _ _ rfl rfl (setRow_heap _ _ _ _ _ (0, 0) (heap_up (HX.out _) HZ3.out)) Tryd.underlying54 rfl (by rw [HZ.out]; exact iDidA)) rfl ⟨rfl, ?_⟩
  exact gr_setRow (HG2.out.trans (HX.out _)) (by omega) _
set_option maxHeartbeats 4000000 in
set_option maxRecDepth 100000 in
theorem Run_yes {w : World} {ao : Option Addr} {n : Nat} (cap : Nat) {code : List Mv} (C : Cs w ao n code) (T : Tr w) (Ts : Gc.Ts w w.heap.size) (hn : n ≤ 140737488351232) (hm : mayC code = true) {h : Hv} (o : h.Ok) {mo : Option Addr} {ml mc : Nat} {l : List UInt8} (M : Mem w mo ml l) (hcap : mo = none → mc = 0) (bf bt steps : Int) (s0 : 0 ≤ steps) (s1 : steps ≤ 400) (hh : may h = true) (hs : h.state = 0) (hml : ml ≤ 4096) :
    Calls Tryd.prog 13 #[.slice ao n cap, .agg (hA h), .slice mo ml mc, .agg #[.int .u32 bf, .int .u32 bt], .int .i64 steps] w fun e w' => ∃ M O S, e = .returned (.tuple #[.agg (gA (mplay bf bt steps h l code).h M O (mplay bf bt steps h l code).n S), .bool true]) ∧ Dr w' (mplay bf bt steps h l code) M O S ∧ Gr w w' := by
  have M0 : Hid (∀ W : World, Gr w W → Calls Tryd.prog 11 #[.slice ao n cap] W fun e w' => e = .returned (.bool true) ∧ Gr W w') := fun W G => by rw [← hm]; exact PMay_any cap (C.of G) (T.of G) hn
  have Wi : Hid (∀ W : World, Calls Tryd.prog 29 #[.int .i64 steps, .int .i64 0, .int .i64 400] W fun e w' => e = .returned (.bool true) ∧ w' = W) := fun W => by
    have := within_any steps 0 400 W
    rwa [decide_eq_true ⟨s0, s1⟩] at this
  have hll : l.length ≤ 4096 := by have := M.len; omega
  have NR : Hid (∀ W : World, Gr w W → Calls Tryd.prog 30 #[.agg (hA h), .slice mo ml mc, .agg #[.int .u32 bf, .int .u32 bt], .int .i64 steps] W fun e w' => ∃ v, e = .returned (.tuple #[.agg (Gc.cB ⟨h, v, nilS, nilS⟩ (rsR (mstart h l) bf bt steps)), .bool true]) ∧ Own w' 0 v l ∧ Gr W w') := fun W G => by
    exact newRunner_gen (PV := fun W v => Own W 0 v l) o o l bf bt steps (fun _ _ v hv e => hv.to e) (fun _ v hv => hv.cells) (fun V GV => (NewCore_yes o (M.of (G.trans GV)) hcap hml hh hs).mono fun e w' ⟨v, e1, e2, e3⟩ => ⟨v, e1, e2.base (w' := w') (Nat.zero_le _), e3⟩)
  have RN : Hid (∀ (w0 X : World) (g : Nat), Gr w w0 → Gr w0 X → Pr X w0.heap.size g (mstart h l) bf bt steps → Calls Tryd.prog 31 #[.pointer (some ⟨g, 0, none⟩), .slice ao n cap] X fun e w' => e = .returned (.tuple #[]) ∧ Pr w' w0.heap.size g (mplay bf bt steps h l code) bf bt steps ∧ Gr w0 w') := fun w0 X g G0 GX I => run_any cap (C.of G0) hm o hs hll (Ts_gr Ts G0) I GX
  have HOk : Hid (mplay bf bt steps h l code).Ok := mplay_ok o hs hll C.wn
  have HS : Hid ((hA h).size = 37) := hA_size o
  have HR1 : Hid (∀ v, (Gc.cB ⟨h, v, nilS, nilS⟩ (rsR (mstart h l) bf bt steps)).size = 49) := fun v => by rw [cB_size o, rsR_len rfl]
  have HRo : Hid (∀ v : Value, v.oneCell' = true → (Gc.cB ⟨h, v, nilS, nilS⟩ (rsR (mstart h l) bf bt steps)).all (·.oneCell') = true) := fun v hv => one_cB _ _ _ _ _ hv rfl rfl
  have HOh : Hid h.Ok := o
  generalize hA h = H0 at *
  generalize mplay bf bt steps h l code = r at *
  clear C T Ts hn hm o hh hs M hcap s0 s1 hll hml
  go_enter Tryd.func13, Tryd.ntmps13
  go_wp2_with fail
  refine (M0.out _ ((((Gr.refl _).alloc _).alloc _).alloc _)).mono ?_
  rintro e w1 ⟨rfl, G1⟩
  obtain ⟨b0, b1, b2⟩ := three_of G1
  have HG1 : Hid (Gr w w1) := ((((Gr.refl _).alloc _).alloc _).alloc _).trans G1
  have HBZ : Hid (∃ Z : Array Value, Z.size = 41 ∧ w1.heap[w.heap.size + 1 + 1]? = some (.cells Z 54 (0, 0))) := ⟨_, rfl, b2⟩
  have HB1 : Hid (w1.heap[w.heap.size]? = some (.cells H0 48 (0, 0))) := b0
  have r0 : w1.cell? ⟨w.heap.size + 1, 0, none⟩ = some (.int .u32 bf) := cell_of_row _ _ _ _ _ _ b1
  have r1 : w1.cell? ⟨w.heap.size + 1, 1, none⟩ = some (.int .u32 bt) := cell_of_row _ _ _ _ _ _ b1
  clear G1 b0 b1 b2 M0
  obtain ⟨Z, hz, hZ⟩ := HBZ.out
  have HZ2 : Hid (w1.heap[w.heap.size + 1 + 1]? = some (.cells Z 54 (0, 0))) := hZ
  have HZs : Hid (Z.size = 41) := hz
  clear HBZ hz hZ
  go_wp2_with fail
  refine (Wi.out _).mono ?_
  rintro e w' ⟨rfl, rfl⟩
  clear Wi
  go_wp2_with (refine wpList_load_row rfl 48 _ rfl w.heap.size rfl 48 H0 (0, 0) _ ?lh1 Tryd.underlying48 rfl (by rw [HS.out]; exact iHa) ?_; (case lh1 => exact HB1.out))
  refine (NR.out _ HG1.out).mono ?_
  rintro e w2 ⟨v, rfl, hv, G2⟩
  have HG2 : Hid (Gr w w2) := HG1.out.trans G2
  have HR : Hid ((Gc.cB ⟨h, v, nilS, nilS⟩ (rsR (mstart h l) bf bt steps)).size = 49) := HR1.out v
  have HRo2 : Hid ((Gc.cB ⟨h, v, nilS, nilS⟩ (rsR (mstart h l) bf bt steps)).all (·.oneCell') = true) := HRo.out v hv.cells.2
  have HZ3 : Hid (w2.heap[w.heap.size + 1 + 1]? = some (.cells Z 54 (0, 0))) := heap_up G2 HZ2.out
  have HX : Hid (∀ Y : Array Value, Gr w2 ((w2.alloc (.cells Y 88)).setRow w2.heap.size (Gc.cB ⟨h, v, nilS, nilS⟩ (rsR (mstart h l) bf bt steps)))) := fun Y => gr_setRow ((Gr.refl _).alloc _) (Nat.le_refl _) _
  have HP : Hid (∀ Y : Array Value, Pr ((w2.alloc (.cells Y 88)).setRow w2.heap.size (Gc.cB ⟨h, v, nilS, nilS⟩ (rsR (mstart h l) bf bt steps))) w2.heap.size w2.heap.size (mstart h l) bf bt steps) := fun Y => by
    refine ⟨⟨h, v, nilS, nilS⟩, rfl, ⟨by decide, by decide, by decide, HOh.out, Nat.le_refl _, setRow_heap _ _ _ _ _ (0, 0) (heap_alloc_new w2 _), ?_, World.ownsRow_nil _ _ _ _, World.ownsRow_nil _ _ _ _⟩⟩
    exact hv.to fun k c f hk => (HX.out Y).block k (Array.getElem?_eq_some_iff.1 hk).1
  clear G2 hv NR r0 r1 HB1 HZ2 HR1 HRo
  generalize Gc.cB ⟨h, v, nilS, nilS⟩ (rsR (mstart h l) bf bt steps) = R at *
  go_wp2_with (refine wpList_store_row rfl 88 _ _ rfl w2.heap.size R rfl rfl 88 _ (heap_alloc_new w2 _) (by rw [HR.out]; exact iRunner) (by rw [HR.out]; rfl) HRo2.out ?_)
  refine (RN.out w2 _ w2.heap.size HG2.out (HX.out _) (HP.out _)).mono ?_
  rintro e w3 ⟨rfl, I3, G3⟩
  have HG3 : Hid (Gr w w3) := HG2.out.trans G3
  have HZ4 : Hid (w3.heap[w.heap.size + 1 + 1]? = some (.cells Z 54 (0, 0))) := heap_up G3 HZ3.out
  have k47 : w3.cell? ⟨w2.heap.size, 47, none⟩ = some (.int .i64 r.n) := I3.fld HOk.out 3
  obtain ⟨c, hc, I⟩ := I3
  obtain ⟨ma, mcap, hM, MM⟩ := I.mem.mem
  obtain ⟨oa, oc, hO, _⟩ := wm_own rfl I.out
  obtain ⟨sa, sc, hS⟩ := owns_word I.sto
  have k37 : w3.cell? ⟨w2.heap.size, 37, none⟩ = some (.slice ma r.m.length mcap) := by rw [← hM]; exact I.fcell 0
  have k38 : w3.cell? ⟨w2.heap.size, 38, none⟩ = some (.slice oa r.out.length oc) := by rw [← hO]; exact I.fcell 1
  have k39 : w3.cell? ⟨w2.heap.size, 39, none⟩ = some (.slice sa r.sto.length sc) := by rw [← hS]; exact I.fcell 2
  have HRg : Hid (w3.rangeAt w2.heap.size 0 (hL r.h)) := fun j u hj => by
    have hj2 : j < 37 := by have := (List.getElem?_eq_some_iff.1 hj).1; rwa [hL_len HOk.out.h] at this
    rw [Nat.zero_add, I.hcell hj2, hc]
    exact hj
  have HLn : Hid ((hL r.h).length = 37) := hL_len HOk.out.h
  have HBu : Hid (Tryd.prog.built 54 [(0, .agg (hL r.h).toArray), (1, .slice ma r.m.length mcap), (2, .slice oa r.out.length oc), (3, .int .i64 r.n), (4, .slice sa r.sto.length sc)] = some (gA r.h (.slice ma r.m.length mcap) (.slice oa r.out.length oc) r.n (.slice sa r.sto.length sc))) := built_did5 HOk.out.h _ _ _ _ rfl rfl rfl
  have HD : Hid (∀ cs : Array Value, Dr (w3.setRow (w.heap.size + 1 + 1) cs) r (.slice ma r.m.length mcap) (.slice oa r.out.length oc) (.slice sa r.sto.length sc)) := fun cs => by
    have ne : ∀ {t : Nat}, t ≠ 54 → ∀ {j : Nat} {o : Array Value} {f : Nat × Nat}, w3.heap[j]? = some (.cells o t f) → (w3.setRow (w.heap.size + 1 + 1) cs).heap[j]? = w3.heap[j]? := fun ht _ _ _ hj => setRow_other _ _ _ _ (ne_of_types hj HZ4.out ht)
    obtain ⟨ma', mcap', hM', MM'⟩ := (I.mem.to fun k o f hk => ne (by decide) hk).mem
    refine ⟨HOk.out, ?_, ⟨w2.heap.size, ?_⟩, ⟨w2.heap.size, ?_⟩⟩
    · rw [← hM, hM']
      exact ⟨ma', mcap', rfl, MM'⟩
    · rw [← hO]
      exact owns_to I.out fun j o f hj => ne (by decide) hj
    · rw [← hS]
      exact owns_to I.sto fun j o f hj => ne (by decide) hj
  have HDz : Hid ((gA r.h (.slice ma r.m.length mcap) (.slice oa r.out.length oc) r.n (.slice sa r.sto.length sc)).size = 41) := gA_size HOk.out.h _ _ _ _
  have HDo : Hid ((gA r.h (.slice ma r.m.length mcap) (.slice oa r.out.length oc) r.n (.slice sa r.sto.length sc)).all (·.oneCell') = true) := one_gA _ _ _ _ _ rfl rfl rfl
  clear RN G3 I MM hM hO hS HX HP hc HOk
  generalize hD : gA r.h (.slice ma r.m.length mcap) (.slice oa r.out.length oc) r.n (.slice sa r.sto.length sc) = D at *
  have HDe : Hid (gA r.h (.slice ma r.m.length mcap) (.slice oa r.out.length oc) r.n (.slice sa r.sto.length sc) = D) := hD
  clear hD
  generalize hHl : hL r.h = HL at *
  clear hHl
  generalize r.m.length = mn at *
  generalize r.out.length = on at *
  generalize r.sto.length = sn at *
  go_wp2_with (first
    | (refine wpList_load_mid rfl 48 _ rfl w2.heap.size 0 rfl HL _ ?lm1 Tryd.underlying48 rfl (by rw [HLn.out]; exact iHa) ?_; (case lm1 => exact HRg.out))
    | (refine wpList_buildTo rfl 54 _ rfl _ rfl D (by have := HBu.out; simp [Act.eval, Act.put]; exact this) ?_)
    | (refine wpList_store_row rfl 54 _ _ rfl (w.heap.size + 1 + 1) D rfl rfl 54 Z ?sr1 (by rw [HDz.out]; exact iDidA) (by rw [HDz.out]; exact HZs.out) HDo.out ?_; (case sr1 => exact HZ4.out)))
  refine bodyPost_ret (v := .tuple #[.agg D, .bool true]) (Hr.results_cell_tmp' Tryd.results13 _ _ _ _ _ (0, 0) _ _ rfl rfl (setRow_heap _ _ _ _ _ (0, 0) HZ4.out) Tryd.underlying54 rfl (by rw [HDz.out]; exact iDidA)) rfl ⟨_, _, _, by rw [HDe.out], HD.out _, ?_⟩
  exact gr_setRow HG3.out (by omega) _
end Go.Proofs.YtkcgcflpmggjkabDoor.Mp
/-
  Small steps in a slice, and a range of bytes, that are handed in: opened.
-/
namespace Go.Proofs.YtkcgcflpmggjkabDoor.Mi
open Go.ChangeShapes Go.WideShapes Go.ChangeAt Go.RowKit Mm Hh Hc
set_option linter.unusedVariables false
set_option linter.unusedSimpArgs false

theorem cMi : Tryd.prog.cellsOf 79 = 5 := by kernel_rfl
theorem bMi : Tryd.prog.bytesOf 79 = 40 := by kernel_rfl
theorem cRa : Tryd.prog.cellsOf 50 = 2 := by kernel_rfl
theorem list2 {α : Type} {l : List α} (h : l.length = 2) : ∃ a b, l = [a, b] := by
  match l, h with
  | [a, b], _ => exact ⟨a, b, rfl⟩
theorem list5 {α : Type} {l : List α} (h : l.length = 5) : ∃ a b c d e, l = [a, b, c, d, e] := by
  match l, h with
  | [a, b, c, d, e], _ => exact ⟨a, b, c, d, e, rfl⟩
theorem i64_bd {n : Int} (h : (Lit.int .i64 n).wf = true) : -9223372036854775808 ≤ n ∧ n ≤ 9223372036854775807 := by
  simpa [Lit.wf, IntKind.min, IntKind.max, IntKind.signed, IntKind.bits] using h
def mvL (i : Mv) : List Value := [.int .i64 i.op, .int .i64 i.d, .int .i64 i.a, .int .i64 i.b, .int .u32 i.n]
set_option maxRecDepth 100000 in
theorem micro_cells {H : Type} {enc : TypeId × Value → H} {W : World} {b0 fuel : Nat} {sp : Nat → Bool} {held : Bool} {l : List Value} {x : DataW H × List MemPlace}
    (hf : DataW.trod enc Tryd.prog W b0 sp held fuel 79 l = some x) : ∃ i : Mv, l = mvL i ∧ Hh.W i.n ∧ -9223372036854775808 ≤ i.op ∧ i.op ≤ 9223372036854775807 := by
  obtain ⟨xs, m, rfl, hx, hcl, hlen, hel⟩ := DataW.trod_struct Tryd.underlying79 hf
  obtain ⟨y0, y1, y2, y3, y4, rfl⟩ := list5 (l := xs) hlen
  have k0 : DataW.trod enc Tryd.prog W b0 sp held m 3 ((l.drop 0).take (Tryd.prog.cellsOf 3)) = some y0 := hel 0 _ rfl
  have k1 : DataW.trod enc Tryd.prog W b0 sp held m 3 ((l.drop 1).take (Tryd.prog.cellsOf 3)) = some y1 := hel 1 _ rfl
  have k2 : DataW.trod enc Tryd.prog W b0 sp held m 3 ((l.drop 2).take (Tryd.prog.cellsOf 3)) = some y2 := hel 2 _ rfl
  have k3 : DataW.trod enc Tryd.prog W b0 sp held m 3 ((l.drop 3).take (Tryd.prog.cellsOf 3)) = some y3 := hel 3 _ rfl
  have k4 : DataW.trod enc Tryd.prog W b0 sp held m 38 ((l.drop 4).take (Tryd.prog.cellsOf 38)) = some y4 := hel 4 _ rfl
  rw [cMi] at hcl
  obtain ⟨a, b, c, d, e, rfl⟩ := list5 hcl
  obtain ⟨p0, e0, _, w0⟩ := DataW.trod_int Tryd.underlying3 k0
  obtain ⟨p1, e1, _, w1⟩ := DataW.trod_int Tryd.underlying3 k1
  obtain ⟨p2, e2, _, w2⟩ := DataW.trod_int Tryd.underlying3 k2
  obtain ⟨p3, e3, _, w3⟩ := DataW.trod_int Tryd.underlying3 k3
  obtain ⟨p4, e4, _, w4⟩ := DataW.trod_int Tryd.underlying38 k4
  rw [c3] at e0 e1 e2 e3
  rw [c22] at e4
  simp at e0 e1 e2 e3 e4
  subst e0 e1 e2 e3 e4
  exact ⟨⟨p0, p1, p2, p3, p4⟩, rfl, u32_bd w4, (i64_bd w0).1, (i64_bd w0).2⟩
set_option maxRecDepth 100000 in
theorem open_range {H : Type} {enc : TypeId × Value → H} {W : World} {base b0 : Nat} {sp : Nat → Bool} {held : Bool} {v : Value} {d : DataW H} {p : List MemPlace}
    (hv : Value.okWide Tryd.prog W .any base 50 v) (h : DataW.Trod enc Tryd.prog W b0 sp held 50 v d p) : ∃ bf bt : Int, v = .agg #[.int .u32 bf, .int .u32 bt] ∧ Hh.W bf ∧ Hh.W bt := by
  obtain ⟨cs, rfl, hsz⟩ := okWide_struct Tryd.underlying50 hv
  rw [cRa] at hsz
  obtain ⟨l⟩ := cs
  obtain ⟨fuel, hf⟩ := h
  obtain ⟨xs, m, rfl, hx, _, hlen, hel⟩ := DataW.trod_struct Tryd.underlying50 hf
  obtain ⟨y0, y1, rfl⟩ := list2 (l := xs) hlen
  clear hf hv hlen hx
  have k0 : DataW.trod enc Tryd.prog W b0 sp held m 38 ((l.drop 0).take (Tryd.prog.cellsOf 38)) = some y0 := hel 0 _ rfl
  have k1 : DataW.trod enc Tryd.prog W b0 sp held m 38 ((l.drop 1).take (Tryd.prog.cellsOf 38)) = some y1 := hel 1 _ rfl
  have hl : l.length = 2 := by simpa using hsz
  obtain ⟨a, b, rfl⟩ := list2 hl
  obtain ⟨p0, e0, _, w0⟩ := DataW.trod_int Tryd.underlying38 k0
  obtain ⟨p1, e1, _, w1⟩ := DataW.trod_int Tryd.underlying38 k1
  rw [c22] at e0 e1
  simp at e0 e1
  subst e0 e1
  exact ⟨p0, p1, rfl, u32_bd w0, u32_bd w1⟩
theorem cells_each {w : World} {a : Addr} {n : Nat} {cs : List Value} (h : w.cells? 0 a n = some cs) : cs.length = n ∧ ∀ j, j < n → w.cell? (a.add j) = cs[j]? := by
  obtain ⟨_, hl, hc⟩ := World.cells?_some h
  exact ⟨hl, hc⟩
theorem spot_none {w : World} {a : Addr} {v : Value} (h : w.cell? (a.add 0) = some v) : a.spot = none := by simpa [Addr.add] using World.cell?_spot h
/-- An argument of type []api.Micro, opened. -/
theorem open_code {H : Type} {enc : TypeId × Value → H} {W : World} {fuel : Nat} {ao : Option Addr} {len cap : Nat} {d : DataW H} {p : List MemPlace}
    (hf : DataW.trod enc Tryd.prog W 0 (fun _ => true) true fuel 45 (Value.slice ao len cap).cells.toList = some (d, p)) :
    ∃ code : List Mv, Cs W ao len code ∧ (d = .nil ∧ len = 0 ∨ ∃ el sp, d = .slice el sp ∧ el.length = len) := by
  rcases Deep.open_slice Tryd.underlying45 hf with ⟨hcs, hx⟩ | ⟨a, len', cap', m, n, D, Pl, hcs, hb, hl, hm, em, hx, hel⟩
  · simp [Value.cells] at hcs
    obtain ⟨rfl, rfl, rfl⟩ := hcs
    exact ⟨[], ⟨rfl, fun h hm => (by cases hm), fun h hm => (by cases hm), fun h => absurd h (by omega)⟩, .inl ⟨by injection hx, rfl⟩⟩
  · simp [Value.cells] at hcs
    obtain ⟨rfl, rfl, rfl⟩ := hcs
    have em2 : m = cap := by simpa using em
    have hex : ∀ i, i < len → ∃ q : Mv, (Hh.W q.n ∧ -9223372036854775808 ≤ q.op ∧ q.op ≤ 9223372036854775807) ∧ ∀ j v, (mvL q)[j]? = some v → W.cell? (a.add (i * 5 + j)) = some v := fun i hi => by
      obtain ⟨cs', hc, ht⟩ := hel i (by omega)
      obtain ⟨q, rfl, bd⟩ := micro_cells ht
      rw [cMi] at hc
      obtain ⟨_, hc⟩ := cells_each hc
      refine ⟨q, bd, fun j v hv => ?_⟩
      have hj : j < 5 := (List.getElem?_eq_some_iff.1 hv).1
      have := hc j hj
      rw [Deep.add_add] at this
      rw [this]
      exact hv
    obtain ⟨f, hf2⟩ := @Deep.choose_lt Mv ⟨⟨0, 0, 0, 0, 0⟩⟩ len _ hex
    refine ⟨(List.range len).map f, ⟨by simp, fun h hm => ?_, fun h hm => ?_, fun hn => ?_⟩, .inr ⟨_, _, by injection hx, by simp⟩⟩
    · obtain ⟨i, hi, rfl⟩ := List.mem_map.1 hm
      exact (hf2 i (List.mem_range.1 hi)).1.1
    · obtain ⟨i, hi, rfl⟩ := List.mem_map.1 hm
      exact (hf2 i (List.mem_range.1 hi)).1.2
    · obtain ⟨b, o, s⟩ := a
      have c0 := (hf2 0 hn).2 0 _ rfl
      have hs : s = none := spot_none (by simpa using c0)
      subst hs
      have hb : b < W.heap.size := by simpa [Addr.add] using World.block_lt_of_cell? W _ c0
      refine ⟨b, o, rfl, hb, fun i h hi => ?_⟩
      rw [List.getElem?_map] at hi
      by_cases hl2 : i < len
      · rw [List.getElem?_eq_getElem (by simpa using hl2)] at hi
        simp at hi
        subst hi
        have q := fun j v hv => (hf2 i hl2).2 j v hv
        simp only [add_at] at q
        have q0 := q 0 _ rfl
        have q1 := q 1 _ rfl
        have q2 := q 2 _ rfl
        have q3 := q 3 _ rfl
        have q4 := q 4 _ rfl
        simp only [Nat.add_zero, ← Nat.add_assoc] at q0 q1 q2 q3 q4
        exact ⟨q0, q1, q2, q3, q4⟩
      · rw [List.getElem?_eq_none (by simp; omega)] at hi
        cases hi
end Go.Proofs.YtkcgcflpmggjkabDoor.Mi
/-
  The walk of the law MicroRuns: of every small steps, hart, memory, own bytes and steps it answers true.
-/
namespace Go.Proofs.YtkcgcflpmggjkabDoor.microRuns
open Go.ChangeShapes Go.WideShapes Go.ChangeAt Go.RowKit Mm Hh Hc Mi Mp
set_option linter.unusedVariables false
set_option linter.unusedSimpArgs false

theorem Run_no {w : World} {ao : Option Addr} {n : Nat} (cap : Nat) {code : List Mv} (C : Cs w ao n code) (T : Tr w) (hn : n ≤ 140737488351232) {h : Hv} (o : h.Ok) (mo : Option Addr) (ml mc : Nat) (hml : ml ≤ 140737488351232) (bf bt steps : Int) (hw : wrg code h ml steps = true) :
    Calls Tryd.prog 13 #[.slice ao n cap, .agg (hA h), .slice mo ml mc, .agg #[.int .u32 bf, .int .u32 bt], .int .i64 steps] w fun e w' => e = .returned (.tuple #[.agg (gA h0 nilS nilS 0 nilS), .bool false]) ∧ Gr w w' := by
  by_cases hy : mayC code = true ∧ 0 ≤ steps ∧ steps ≤ 400
  · refine Run_no2 cap C T hn hy.1 o mo ml mc hml bf bt steps hy.2.1 hy.2.2 fun q => ?_
    unfold wrg at hw
    rw [decide_eq_true ⟨hy.1, q.1, q.2.1, q.2.2, hy.2.1, hy.2.2⟩] at hw
    cases hw
  · exact Run_no1 cap C T hn (hA h) (.slice mo ml mc) bf bt steps hy
theorem dr0 (w : World) : Dr w (mstart h0 []) nilS nilS nilS := ⟨start_ok h0_ok [], ⟨none, 0, rfl, Mem.none w⟩, ⟨0, World.ownsRow_nil _ _ _ _⟩, ⟨0, World.ownsRow_nil _ _ _ _⟩⟩
set_option maxRecDepth 100000 in
theorem same0 (w : World) : Calls Tryd.prog 15 #[.agg (gA h0 nilS nilS 0 nilS), .agg #[.int .u32 0, .int .u32 0, .int .u32 0, .int .u32 0, .int .u32 0, .int .u32 0, .int .u32 0, .int .u32 0, .int .u32 0, .int .u32 0, .int .u32 0, .int .u32 0, .int .u32 0, .int .u32 0, .int .u32 0, .int .u32 0, .int .u32 0, .int .u32 0, .int .u32 0, .int .u32 0, .int .u32 0, .int .u32 0, .int .u32 0, .int .u32 0, .int .u32 0, .int .u32 0, .int .u32 0, .int .u32 0, .int .u32 0, .int .u32 0, .int .u32 0, .int .u32 0, .int .u32 0, .bool false, .int .u32 0, .int .i64 0, .int .i64 0, .slice none 0 0, .slice none 0 0, .int .i64 0, .slice none 0 0]] w fun e w' => e = .returned (.bool true) ∧ Gr w w' :=
  Same_same (r := mstart h0 []) (dr0 w) (dr0 w) (by decide) (by decide)
theorem wrg_no {code : List Mv} {h : Hv} {ml : Nat} {steps : Int} (h0 : wrg code h ml steps = false) : mayC code = true ∧ may h = true ∧ h.state = 0 ∧ ml ≤ 4096 ∧ 0 ≤ steps ∧ steps ≤ 400 := by
  unfold wrg at h0
  simpa using h0
theorem dr_gr {w w' : World} {r : Rn} {M O S : Value} (D : Dr w r M O S) (G : Gr w w') : Dr w' r M O S := by
  obtain ⟨o, ⟨ao, c, e, m⟩, ⟨b, ho⟩, ⟨b2, hs⟩⟩ := D
  exact ⟨o, ⟨ao, c, e, m.of G⟩, ⟨b, owns_gr ho G⟩, ⟨b2, owns_gr hs G⟩⟩
set_option maxHeartbeats 4000000 in
set_option maxRecDepth 100000 in
theorem walk_no {w : World} {ao : Option Addr} {n : Nat} (cap : Nat) {code : List Mv} (C : Cs w ao n code) (T : Tr w) (hn : n ≤ 140737488351232) {h : Hv} (o : h.Ok) (mo : Option Addr) (ml mc : Nat) (hml : ml ≤ 140737488351232) (bf bt steps : Int) (hw : wrg code h ml steps = true) :
    Calls Tryd.prog 5 #[.slice ao n cap, .agg (hA h), .slice mo ml mc, .agg #[.int .u32 bf, .int .u32 bt], .int .i64 steps] w fun e w' => e = .returned (.bool true) ∧ Gr w w' := by
  have M1 : Hid (∀ W : World, Gr w W → Calls Tryd.prog 11 #[.slice ao n cap] W fun e w' => e = .returned (.bool (mayC code)) ∧ Gr W w') := fun W G => PMay_any cap (C.of G) (T.of G) hn
  have M2 : Hid (∀ W : World, Gr w W → Calls Tryd.prog 12 #[.slice ao n cap] W fun e w' => e = .returned (.bool (mayC code)) ∧ Gr W w') := fun W G => May_any cap (C.of G) hn
  have R1 : Hid (∀ W : World, Gr w W → Calls Tryd.prog 13 #[.slice ao n cap, .agg (hA h), .slice mo ml mc, .agg #[.int .u32 bf, .int .u32 bt], .int .i64 steps] W fun e w' => e = .returned (.tuple #[.agg (gA h0 nilS nilS 0 nilS), .bool false]) ∧ Gr W w') := fun W G => Run_no cap (C.of G) (T.of G) hn o mo ml mc hml bf bt steps hw
  have Wr : Hid (∀ W : World, Gr w W → Calls Tryd.prog 14 #[.slice ao n cap, .agg (hA h), .slice mo ml mc, .int .i64 steps] W fun e w' => e = .returned (.bool true) ∧ Gr W w') := fun W G => by rw [← hw]; exact Wrong_any cap (C.of G) hn o mo ml mc hml steps
  have Sm : Hid (∀ W : World, Calls Tryd.prog 15 #[.agg (gA h0 nilS nilS 0 nilS), .agg #[.int .u32 0, .int .u32 0, .int .u32 0, .int .u32 0, .int .u32 0, .int .u32 0, .int .u32 0, .int .u32 0, .int .u32 0, .int .u32 0, .int .u32 0, .int .u32 0, .int .u32 0, .int .u32 0, .int .u32 0, .int .u32 0, .int .u32 0, .int .u32 0, .int .u32 0, .int .u32 0, .int .u32 0, .int .u32 0, .int .u32 0, .int .u32 0, .int .u32 0, .int .u32 0, .int .u32 0, .int .u32 0, .int .u32 0, .int .u32 0, .int .u32 0, .int .u32 0, .int .u32 0, .bool false, .int .u32 0, .int .i64 0, .int .i64 0, .slice none 0 0, .slice none 0 0, .int .i64 0, .slice none 0 0]] W fun e w' => e = .returned (.bool true) ∧ Gr W w') := fun W => same0 W
  have HS : Hid ((hA h).size = 37) := hA_size o
  have HD : Hid ((gA h0 nilS nilS 0 nilS).size = 41) := gA_size h0_ok _ _ _ _
  have HO : Hid ((gA h0 nilS nilS 0 nilS).all (·.oneCell') = true) := one_gA _ _ _ _ _ rfl rfl rfl
  generalize gA h0 nilS nilS 0 nilS = D0 at *
  generalize hA h = H0 at *
  generalize mayC code = A at *
  clear C T hn o hml hw
  go_enter Tryd.func5, Tryd.ntmps5
  go_wp2_with fail
  refine (M1.out _ (((Gr.refl _).alloc _).alloc _)).mono ?_
  rintro e w1 ⟨rfl, G1⟩
  have HB1 : Hid (w1.heap[w.heap.size]? = some (.cells H0 48 (0, 0))) := (two_of G1).1
  have HC1 : Hid (w1.heap[w.heap.size + 1]? = some (.cells #[.int .u32 bf, .int .u32 bt] 50 (0, 0))) := (two_of G1).2
  have HG1 : Hid (Gr w w1) := (((Gr.refl _).alloc _).alloc _).trans G1
  clear G1 M1
  go_wp2_with fail
  refine (M2.out _ HG1.out).mono ?_
  rintro e w2 ⟨rfl, G2⟩
  have HB2 : Hid (w2.heap[w.heap.size]? = some (.cells H0 48 (0, 0))) := heap_up G2 HB1.out
  have HC2 : Hid (w2.heap[w.heap.size + 1]? = some (.cells #[.int .u32 bf, .int .u32 bt] 50 (0, 0))) := heap_up G2 HC1.out
  have r0 : w2.cell? ⟨w.heap.size + 1, 0, none⟩ = some (.int .u32 bf) := cell_of_row _ _ _ _ _ _ HC2.out
  have r1 : w2.cell? ⟨w.heap.size + 1, 1, none⟩ = some (.int .u32 bt) := cell_of_row _ _ _ _ _ _ HC2.out
  have HG2 : Hid (Gr w w2) := HG1.out.trans G2
  clear G2 M2 HB1 HC1 HG1
  go_wp2_with (refine wpList_load_row rfl 48 _ rfl w.heap.size rfl 48 H0 (0, 0) _ ?a3 Tryd.underlying48 rfl (by rw [HS.out]; exact iHa) ?_; (case a3 => exact HB2.out))
  refine (R1.out _ HG2.out).mono ?_
  rintro e w3 ⟨rfl, G3⟩
  have HB3 : Hid (w3.heap[w.heap.size]? = some (.cells H0 48 (0, 0))) := heap_up G3 HB2.out
  have HG3 : Hid (Gr w w3) := HG2.out.trans G3
  have HX : Hid (∀ Y : Array Value, Gr w3 ((w3.alloc (.cells Y 54)).setRow w3.heap.size D0)) := fun Y => gr_setRow ((Gr.refl _).alloc _) (Nat.le_refl _) _
  have HX1 : Hid (∀ Y : Array Value, ((w3.alloc (.cells Y 54)).setRow w3.heap.size D0).heap[w3.heap.size]? = some (.cells D0 54 (0, 0))) := fun Y => setRow_heap _ _ _ _ _ (0, 0) (heap_alloc_new w3 _)
  clear G3 R1 HB2 HC2 r0 r1
  go_wp2_with (first
    | (refine wpList_store_row rfl 54 _ _ rfl w3.heap.size D0 rfl rfl 54 _ (heap_alloc_new w3 _) (by rw [HD.out]; exact iDidA) (by rw [HD.out]; rfl) HO.out ?_)
    | (refine wpList_load_row rfl 48 _ rfl w.heap.size rfl 48 H0 (0, 0) _ ?a4 Tryd.underlying48 rfl (by rw [HS.out]; exact iHa) ?_; (case a4 => exact heap_up (HX.out _) HB3.out)))
  refine (Wr.out _ (HG3.out.trans (HX.out _))).mono ?_
  rintro e w4 ⟨rfl, G4⟩
  have HD4 : Hid (w4.heap[w3.heap.size]? = some (.cells D0 54 (0, 0))) := heap_up G4 (HX1.out _)
  have HG4 : Hid (Gr w w4) := (HG3.out.trans (HX.out _)).trans G4
  clear G4 Wr HX HX1 HB3
  go_wp2_with (refine wpList_gload_row (by rfl) 54 _ rfl w3.heap.size rfl 54 D0 (0, 0) _ ?b1 Tryd.underlying54 rfl (by rw [HD.out]; exact iDidA) ?_; (case b1 => exact HD4.out))
  refine (Sm.out _).mono ?_
  rintro e w5 ⟨rfl, G5⟩
  have HG5 : Hid (Gr w w5) := HG4.out.trans G5
  clear G5 Sm HD4
  go_wp2_with fail
  go_ret
  exact ⟨rfl, HG5.out⟩
set_option maxHeartbeats 4000000 in
set_option maxRecDepth 100000 in
theorem walk_yes {w : World} {ao : Option Addr} {n : Nat} (cap : Nat) {code : List Mv} (C : Cs w ao n code) (T : Tr w) (Ts : Gc.Ts w w.heap.size) (hn : n ≤ 140737488351232) {h : Hv} (o : h.Ok) {mo : Option Addr} {ml mc : Nat} {l : List UInt8} (M : Mem w mo ml l) (hcap : mo = none → mc = 0) (bf bt steps : Int) (hw : wrg code h ml steps = false) :
    Calls Tryd.prog 5 #[.slice ao n cap, .agg (hA h), .slice mo ml mc, .agg #[.int .u32 bf, .int .u32 bt], .int .i64 steps] w fun e w' => e = .returned (.bool true) ∧ Gr w w' := by
  obtain ⟨hm, hh, hs, hml, s0, s1⟩ := wrg_no hw
  have M1 : Hid (∀ W : World, Gr w W → Calls Tryd.prog 11 #[.slice ao n cap] W fun e w' => e = .returned (.bool true) ∧ Gr W w') := fun W G => by rw [← hm]; exact PMay_any cap (C.of G) (T.of G) hn
  have M2 : Hid (∀ W : World, Gr w W → Calls Tryd.prog 12 #[.slice ao n cap] W fun e w' => e = .returned (.bool true) ∧ Gr W w') := fun W G => by rw [← hm]; exact May_any cap (C.of G) hn
  have R1 : Hid (∀ W : World, Gr w W → Calls Tryd.prog 13 #[.slice ao n cap, .agg (hA h), .slice mo ml mc, .agg #[.int .u32 bf, .int .u32 bt], .int .i64 steps] W fun e w' => ∃ M O S, e = .returned (.tuple #[.agg (gA (mplay bf bt steps h l code).h M O (mplay bf bt steps h l code).n S), .bool true]) ∧ Dr w' (mplay bf bt steps h l code) M O S ∧ Gr W w') := fun W G => Run_yes cap (C.of G) (T.of G) (Ts_gr Ts G) hn hm o (M.of G) hcap bf bt steps s0 s1 hh hs hml
  have Wr : Hid (∀ W : World, Gr w W → Calls Tryd.prog 14 #[.slice ao n cap, .agg (hA h), .slice mo ml mc, .int .i64 steps] W fun e w' => e = .returned (.bool false) ∧ Gr W w') := fun W G => by rw [← hw]; exact Wrong_any cap (C.of G) hn o mo ml mc (by omega) steps
  have Pl : Hid (∀ W : World, Gr w W → Calls Tryd.prog 16 #[.slice ao n cap, .agg (hA h), .slice mo ml mc, .agg #[.int .u32 bf, .int .u32 bt], .int .i64 steps] W fun e w' => ∃ M O S, e = .returned (.agg (gA (mplay bf bt steps h l code).h M O (mplay bf bt steps h l code).n S)) ∧ Dr w' (mplay bf bt steps h l code) M O S ∧ Gr W w') := fun W G => Play_any cap (C.of G) hm o mc (M.of G) hml bf bt steps
  have hol : (mplay bf bt steps h l code).out.length ≤ 1000000 ∧ (mplay bf bt steps h l code).sto.length ≤ 1000000 := by
    have hb := bd_mrun bf bt steps (mstart h l) code code.length
    rw [List.take_length] at hb
    have hc200 : code.length ≤ 200 := by
      unfold mayC at hm
      simp only [Bool.and_eq_true, decide_eq_true_eq] at hm
      exact hm.1
    have e1 : (mstart h l).sto.length = 0 := rfl
    have e2 : (mstart h l).out.length = 0 := rfl
    unfold mplay mend
    split
    · show (mrun bf bt steps (mstart h l) code).out.length ≤ 1000000 ∧ (mrun bf bt steps (mstart h l) code).sto.length ≤ 1000000
      omega
    · omega
  have HOk : Hid (mplay bf bt steps h l code).Ok := mplay_ok o hs (by have := M.len; omega) C.wn
  have HS : Hid ((hA h).size = 37) := hA_size o
  generalize mplay bf bt steps h l code = r at *
  have Sm : Hid (∀ (W : World) (M O S M2 O2 S2 : Value), Dr W r M O S → Dr W r M2 O2 S2 → Calls Tryd.prog 15 #[.agg (gA r.h M O r.n S), .agg (gA r.h M2 O2 r.n S2)] W fun e w' => e = .returned (.bool true) ∧ Gr W w') := fun W M O S M2 O2 S2 D1 D2 => Same_same D1 D2 hol.1 hol.2
  have HGs : Hid (∀ M O S, (gA r.h M O r.n S).size = 41) := fun M O S => gA_size HOk.out.h _ _ _ _
  have HGo : Hid (∀ (W : World) (M O S : Value), Dr W r M O S → (gA r.h M O r.n S).all (·.oneCell') = true) := fun W M O S D => by
    obtain ⟨_, ⟨ma, mc, rfl, _⟩, ⟨ob, oo⟩, ⟨sb, so⟩⟩ := D
    obtain ⟨oa, oc, rfl⟩ := owns_word oo
    obtain ⟨sa, sc, rfl⟩ := owns_word so
    exact one_gA _ _ _ _ _ rfl rfl rfl
  generalize hA h = H0 at *
  clear C T Ts hn o M hcap hw hm hh hs hml s0 s1 hol
  go_enter Tryd.func5, Tryd.ntmps5
  go_wp2_with fail
  refine (M1.out _ (((Gr.refl _).alloc _).alloc _)).mono ?_
  rintro e w1 ⟨rfl, G1⟩
  have HB1 : Hid (w1.heap[w.heap.size]? = some (.cells H0 48 (0, 0))) := (two_of G1).1
  have HC1 : Hid (w1.heap[w.heap.size + 1]? = some (.cells #[.int .u32 bf, .int .u32 bt] 50 (0, 0))) := (two_of G1).2
  have HG1 : Hid (Gr w w1) := (((Gr.refl _).alloc _).alloc _).trans G1
  clear G1 M1
  go_wp2_with fail
  refine (M2.out _ HG1.out).mono ?_
  rintro e w2 ⟨rfl, G2⟩
  have HB2 : Hid (w2.heap[w.heap.size]? = some (.cells H0 48 (0, 0))) := heap_up G2 HB1.out
  have HC2 : Hid (w2.heap[w.heap.size + 1]? = some (.cells #[.int .u32 bf, .int .u32 bt] 50 (0, 0))) := heap_up G2 HC1.out
  have r0 : w2.cell? ⟨w.heap.size + 1, 0, none⟩ = some (.int .u32 bf) := cell_of_row _ _ _ _ _ _ HC2.out
  have r1 : w2.cell? ⟨w.heap.size + 1, 1, none⟩ = some (.int .u32 bt) := cell_of_row _ _ _ _ _ _ HC2.out
  have HG2 : Hid (Gr w w2) := HG1.out.trans G2
  clear G2 M2 HB1 HC1 HG1
  go_wp2_with (refine wpList_load_row rfl 48 _ rfl w.heap.size rfl 48 H0 (0, 0) _ ?a3 Tryd.underlying48 rfl (by rw [HS.out]; exact iHa) ?_; (case a3 => exact HB2.out))
  refine (R1.out _ HG2.out).mono ?_
  rintro e w3 ⟨M3, O3, S3, rfl, D3, G3⟩
  have HB3 : Hid (w3.heap[w.heap.size]? = some (.cells H0 48 (0, 0))) := heap_up G3 HB2.out
  have HC3 : Hid (w3.heap[w.heap.size + 1]? = some (.cells #[.int .u32 bf, .int .u32 bt] 50 (0, 0))) := heap_up G3 HC2.out
  have HG3 : Hid (Gr w w3) := HG2.out.trans G3
  have HDr : Hid (Dr w3 r M3 O3 S3) := D3
  have HD : Hid ((gA r.h M3 O3 r.n S3).size = 41) := HGs.out _ _ _
  have HO : Hid ((gA r.h M3 O3 r.n S3).all (·.oneCell') = true) := HGo.out _ _ _ _ D3
  have Sm3 : Hid (∀ (W : World) (M2 O2 S2 : Value), Dr W r M3 O3 S3 → Dr W r M2 O2 S2 → Calls Tryd.prog 15 #[.agg (gA r.h M3 O3 r.n S3), .agg (gA r.h M2 O2 r.n S2)] W fun e w' => e = .returned (.bool true) ∧ Gr W w') := fun W M2 O2 S2 => Sm.out W M3 O3 S3 M2 O2 S2
  generalize gA r.h M3 O3 r.n S3 = D0 at *
  have HX : Hid (∀ Y : Array Value, Gr w3 ((w3.alloc (.cells Y 54)).setRow w3.heap.size D0)) := fun Y => gr_setRow ((Gr.refl _).alloc _) (Nat.le_refl _) _
  have HX1 : Hid (∀ Y : Array Value, ((w3.alloc (.cells Y 54)).setRow w3.heap.size D0).heap[w3.heap.size]? = some (.cells D0 54 (0, 0))) := fun Y => setRow_heap _ _ _ _ _ (0, 0) (heap_alloc_new w3 _)
  clear G3 R1 HB2 HC2 r0 r1 D3 Sm
  go_wp2_with (first
    | (refine wpList_store_row rfl 54 _ _ rfl w3.heap.size D0 rfl rfl 54 _ (heap_alloc_new w3 _) (by rw [HD.out]; exact iDidA) (by rw [HD.out]; rfl) HO.out ?_)
    | (refine wpList_load_row rfl 48 _ rfl w.heap.size rfl 48 H0 (0, 0) _ ?a4 Tryd.underlying48 rfl (by rw [HS.out]; exact iHa) ?_; (case a4 => exact heap_up (HX.out _) HB3.out)))
  refine (Wr.out _ (HG3.out.trans (HX.out _))).mono ?_
  rintro e w4 ⟨rfl, G4⟩
  have HD4 : Hid (w4.heap[w3.heap.size]? = some (.cells D0 54 (0, 0))) := heap_up G4 (HX1.out _)
  have HB4 : Hid (w4.heap[w.heap.size]? = some (.cells H0 48 (0, 0))) := heap_up G4 (heap_up (HX.out _) HB3.out)
  have HC4 : Hid (w4.heap[w.heap.size + 1]? = some (.cells #[.int .u32 bf, .int .u32 bt] 50 (0, 0))) := heap_up G4 (heap_up (HX.out _) HC3.out)
  have r0 : w4.cell? ⟨w.heap.size + 1, 0, none⟩ = some (.int .u32 bf) := cell_of_row _ _ _ _ _ _ HC4.out
  have r1 : w4.cell? ⟨w.heap.size + 1, 1, none⟩ = some (.int .u32 bt) := cell_of_row _ _ _ _ _ _ HC4.out
  have HG4 : Hid (Gr w w4) := (HG3.out.trans (HX.out _)).trans G4
  have HDr4 : Hid (Dr w4 r M3 O3 S3) := dr_gr HDr.out ((HX.out _).trans G4)
  clear G4 Wr HX HX1 HB3 HC3 HDr
  go_wp2_with (refine wpList_load_row rfl 48 _ rfl w.heap.size rfl 48 H0 (0, 0) _ ?a5 Tryd.underlying48 rfl (by rw [HS.out]; exact iHa) ?_; (case a5 => exact HB4.out))
  refine (Pl.out _ HG4.out).mono ?_
  rintro e w5 ⟨M5, O5, S5, rfl, D5, G5⟩
  have HD5 : Hid (w5.heap[w3.heap.size]? = some (.cells D0 54 (0, 0))) := heap_up G5 HD4.out
  have HG5 : Hid (Gr w w5) := HG4.out.trans G5
  have HDr5 : Hid (Dr w5 r M3 O3 S3) := dr_gr HDr4.out G5
  have HDx : Hid (Dr w5 r M5 O5 S5) := D5
  have HE : Hid ((gA r.h M5 O5 r.n S5).size = 41) := HGs.out _ _ _
  have HEo : Hid ((gA r.h M5 O5 r.n S5).all (·.oneCell') = true) := HGo.out _ _ _ _ D5
  have Sm5 : Hid (∀ W : World, Dr W r M3 O3 S3 → Dr W r M5 O5 S5 → Calls Tryd.prog 15 #[.agg D0, .agg (gA r.h M5 O5 r.n S5)] W fun e w' => e = .returned (.bool true) ∧ Gr W w') := fun W => Sm3.out W M5 O5 S5
  generalize gA r.h M5 O5 r.n S5 = D1 at *
  have HX : Hid (∀ Y : Array Value, Gr w5 ((w5.alloc (.cells Y 54)).setRow w5.heap.size D1)) := fun Y => gr_setRow ((Gr.refl _).alloc _) (Nat.le_refl _) _
  have HX1 : Hid (∀ Y : Array Value, ((w5.alloc (.cells Y 54)).setRow w5.heap.size D1).heap[w5.heap.size]? = some (.cells D1 54 (0, 0))) := fun Y => setRow_heap _ _ _ _ _ (0, 0) (heap_alloc_new w5 _)
  clear G5 Pl HB4 HC4 r0 r1 D5 Sm3 HDr4 HD4
  go_wp2_with (first
    | (refine wpList_store_row rfl 54 _ _ rfl w5.heap.size D1 rfl rfl 54 _ (heap_alloc_new w5 _) (by rw [HE.out]; exact iDidA) (by rw [HE.out]; rfl) HEo.out ?_)
    | (refine wpList_gload_row (by rfl) 54 (.tmp 12) rfl w3.heap.size rfl 54 D0 (0, 0) _ ?b1 Tryd.underlying54 rfl (by rw [HD.out]; exact iDidA) ?_; (case b1 => exact heap_up (HX.out _) HD5.out))
    | (refine wpList_gload_row (by rfl) 54 (.tmp 14) rfl w5.heap.size rfl 54 D1 (0, 0) _ ?b2 Tryd.underlying54 rfl (by rw [HE.out]; exact iDidA) ?_; (case b2 => exact HX1.out _)))
  refine (Sm5.out _ (dr_gr HDr5.out (HX.out _)) (dr_gr HDx.out (HX.out _))).mono ?_
  rintro e w6 ⟨rfl, G6⟩
  have HG6 : Hid (Gr w w6) := (HG5.out.trans (HX.out _)).trans G6
  clear G6 Sm5 HX HX1
  go_wp2_with fail
  go_ret
  exact ⟨rfl, HG6.out⟩
theorem walk {w : World} {ao : Option Addr} {n : Nat} (cap : Nat) {code : List Mv} (C : Cs w ao n code) (T : Tr w) (Ts : Gc.Ts w w.heap.size) (hn : n ≤ 140737488351232) {h : Hv} (o : h.Ok) {mo : Option Addr} {ml mc : Nat} {l : List UInt8} (M : Mem w mo ml l) (hcap : mo = none → mc = 0) (hml : ml ≤ 140737488351232) (bf bt steps : Int) :
    Calls Tryd.prog 5 #[.slice ao n cap, .agg (hA h), .slice mo ml mc, .agg #[.int .u32 bf, .int .u32 bt], .int .i64 steps] w fun e w' => e = .returned (.bool true) ∧ Gr w w' := by
  cases hw : wrg code h ml steps with
  | true => exact walk_no cap C T hn o mo ml mc hml bf bt steps hw
  | false => exact walk_yes cap C T Ts hn o M hcap bf bt steps hw
end Go.Proofs.YtkcgcflpmggjkabDoor.microRuns
