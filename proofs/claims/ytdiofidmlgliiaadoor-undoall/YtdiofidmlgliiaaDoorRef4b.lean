/-
  What ferrybridgeref4.store returns: the struct with the memory stored in, or as it was; and nothing old in memory turns.
-/
import Derived.Test.YtdiofidmlgliiaaDoorRef4a
import Derived.Test.YtdiofidmlgliiaaDoorRef3Walks
namespace Go.Proofs.YtdiofidmlgliiaaDoor.Hr
open Go.ChangeShapes Go.WideShapes Go.ChangeAt Go.RowKit Mm Hh
set_option linter.unusedVariables false
set_option linter.unusedSimpArgs false

variable {d : Dv} {w w' : World} {ao : Option Addr} {n cap : Nat} {l : List UInt8}
theorem dA_setM (o : d.Ok) (m : Value) (a k : Int) : (((dA d).setIfInBounds 37 m).setIfInBounds 39 (.int .u32 a)).setIfInBounds 40 (.int .i64 k) = dA (d.setM m a k) := by
  have := hL_len o.h
  unfold dA Dv.setM
  simp only [List.setIfInBounds_toArray]
  rw [List.set_append_right _ _ (by omega), List.set_append_right _ _ (by omega), List.set_append_right _ _ (by omega), this]
  rfl
theorem results_cell_tmp' {P : Program} {fn : Func} {p t : Tmp} {ty : TypeId} (h : fn.results = #[.cell p ty, .tmp t]) (tmps : Array Value) (w : World) (g : Nat) (tt : TypeId) (cs : Array Value) (fr : Nat × Nat) (d : TypeDesc)
    (v : Value) (hp : tmps.getD p undef = .pointer (some ⟨g, 0, none⟩)) (hv : tmps.getD t undef = v) (hg : w.heap[g]? = some (.cells cs tt fr))
    (hu : P.underlying ty = some d) (hd : (match d with | .struct _ | .array _ _ => true | _ => false) = true) (hi : (P.info? ty).map (·.size) = some cs.size) :
    (results fn tmps).run P w = .ok (.tuple #[.agg cs, v]) w := by
  subst hv
  have hp' : tmps[p]?.getD undef = .pointer (some ⟨g, 0, none⟩) := by simpa using hp
  simp [results, h, hp', asAddr, run_loadVar_row w g tt ty cs fr d hg hu hd hi]
theorem heap_of_gr (g : Gr w w') {k : Nat} {x : Obj} (h : w.heap[k]? = some x) : w'.heap[k]? = some x := by
  rw [Below.block g k (gs h).1]; exact h
/-- Two blocks made one behind the other, in every later world. -/
theorem two_blocks {A : Array Value} {t : Nat} {Z : Array Value} (g : Gr ((w.alloc (.cells A t)).alloc (.cells Z t)) w') (hz : Z.size = 41) :
    w'.heap[w.heap.size]? = some (.cells A t (0, 0)) ∧ ∃ Z : Array Value, Z.size = 41 ∧ w'.heap[w.heap.size + 1]? = some (.cells Z t (0, 0)) :=
  ⟨heap_of_gr g (heap_alloc2_old w _ _), Z, hz, heap_of_gr g (heap_alloc2_new w _ _)⟩

set_option maxHeartbeats 1000000 in
theorem store_no (o : d.Ok) (hm : d.m = .slice ao n cap) (op a x : Int) (M : Mem w ao n l) (hn : n ≤ 140737488351232) (h0 : 0 ≤ a) (h1 : a < 4294967296) (hx0 : 0 ≤ x) (hx1 : x < 4294967296) (ok : stOk l op a = false) :
    Calls Tryd.prog 65 #[.agg (dA d), .int .i64 op, .int .u32 a, .int .u32 x] w fun e w' => e = .returned (.tuple #[.agg (dA d), .bool false]) ∧ Gr w w' := by
  have S : Hid (∀ W : World, Gr w W → Calls Tryd.prog 94 #[.slice ao n cap, .int .i64 op, .int .u32 a, .int .u32 x] W fun e w' => ∃ ao' n' cap', e = .returned (.tuple #[.slice ao' n' cap', .bool false]) ∧ Mem w' ao' n' (stL l op a x) ∧ Gr W w') := fun W G => by
    have := Mr.Store_any cap op a x (M.of G) hn h0 h1 hx0 hx1
    rwa [ok] at this
  have g37 : (dA d)[37]? = some (.slice ao n cap) := by rw [dA_fld o.h 0]; simp [hm]
  have hs : Hid ((dA d).size = 41) := dA_size o.h
  have H1 : Hid ((dA d).all (·.oneCell') = true) := one_dA o
  generalize dA d = D0 at *
  clear M hm ok o
  go_enter Tryd.func65, Tryd.ntmps65
  go_wp2_with fail
  refine (S.out _ (((Gr.refl _).alloc _).alloc _)).mono ?_
  rintro e w1 ⟨a1, n1, c1, rfl, M1, G1⟩
  obtain ⟨hB, Z, hz, hR⟩ := two_blocks G1 rfl
  have HG : Hid (Gr w w1) := (((Gr.refl _).alloc _).alloc _).trans G1
  have HB : Hid _ := hB
  have HR : Hid _ := hR
  clear M1 G1 S hB hR
  go_wp2_with (first
    | (refine wpList_load_row rfl 81 _ rfl _ rfl _ _ _ _ HB.out Tryd.underlying81 rfl (by rw [hs.out]; exact iD) ?_)
    | (refine wpList_store_row rfl 81 _ _ rfl _ _ rfl rfl _ _ HR.out (by rw [hs.out]; exact iD) (by rw [hs.out, hz]) H1.out ?_))
  refine bodyPost_ret (v := .tuple #[.agg D0, .bool false]) (results_cell_tmp' Tryd.results65 _ _ _ _ _ (0, 0) _ _ rfl rfl (srh HR.out) Tryd.underlying81 rfl (by rw [hs.out]; exact iD)) rfl ⟨rfl, ?_⟩
  exact gr_setRow HG.out (Nat.le_succ _) _

set_option maxHeartbeats 1000000 in
theorem store_yes {d : Dv} (o : d.Ok) {ao : Option Addr} {n cap : Nat} {l : List UInt8} (hm : d.m = .slice ao n cap) (op a x : Int) {w : World} (M : Mem w ao n l) (hn : n ≤ 140737488351232) (h0 : 0 ≤ a) (h1 : a < 4294967296) (hx0 : 0 ≤ x) (hx1 : x < 4294967296) (ok : stOk l op a = true) :
    Calls Tryd.prog 65 #[.agg (dA d), .int .i64 op, .int .u32 a, .int .u32 x] w fun e w' => ∃ ao' n' cap', e = .returned (.tuple #[.agg (dA (d.setM (.slice ao' n' cap') a (ssz op : Nat))), .bool true]) ∧ Mem w' ao' n' (stL l op a x) ∧ Gr w w' ∧ ∀ ad, ao' = some ad → w.heap.size ≤ ad.block := by
  have S : Hid (∀ W : World, Gr w W → Calls Tryd.prog 94 #[.slice ao n cap, .int .i64 op, .int .u32 a, .int .u32 x] W fun e w' => ∃ ao' n' cap', e = .returned (.tuple #[.slice ao' n' cap', .bool true]) ∧ Mem w' ao' n' (stL l op a x) ∧ Gr W w' ∧ ∀ ad, ao' = some ad → W.heap.size ≤ ad.block) := fun W G => by
    have := Mr.Store_new cap op a x (M.of G) hn h0 h1 hx0 hx1
    rwa [ok] at this
  have g37 : (dA d)[37]? = some (.slice ao n cap) := by rw [dA_fld o.h 0]; simp [hm]
  have g39 : (dA d)[39]? = some (.int .u32 d.fro) := by rw [dA_fld o.h 2]; rfl
  have g40 : (dA d)[40]? = some (.int .i64 d.many) := by rw [dA_fld o.h 3]; rfl
  have hs : Hid ((dA d).size = 41) := dA_size o.h
  have E : Hid (∀ (a1 : Option Addr) (n1 c1 : Nat), (((dA d).setIfInBounds 37 (.slice a1 n1 c1)).setIfInBounds 39 (.int .u32 a)).setIfInBounds 40 (.int .i64 (ssz op : Nat)) = dA (d.setM (.slice a1 n1 c1) a (ssz op : Nat))) := fun a1 n1 c1 => dA_setM o _ _ _
  have SE : Hid (∀ (a1 : Option Addr) (n1 c1 : Nat), (dA (d.setM (.slice a1 n1 c1) a (ssz op : Nat))).size = 41) := fun a1 n1 c1 => dA_size (d := d.setM _ _ _) o.h
  have H1 : Hid (∀ (a1 : Option Addr) (n1 c1 : Nat), (dA (d.setM (.slice a1 n1 c1) a (ssz op : Nat))).all (·.oneCell') = true) := fun a1 n1 c1 => one_dA ⟨o.h, rfl, o.out⟩
  generalize d.fro = y1 at *
  generalize d.many = y2 at *
  generalize dA d = D0 at *
  clear M hm ok o
  go_enter Tryd.func65, Tryd.ntmps65
  go_wp2_with fail
  refine (S.out _ (((Gr.refl _).alloc _).alloc _)).mono ?_
  rintro e w1 ⟨a1, n1, c1, rfl, M1, G1, F1⟩
  have HF : Hid (∀ ad, a1 = some ad → w.heap.size + 1 < ad.block) := fun ad q => by have := F1 ad q; simp at this; omega
  obtain ⟨hB, Z, hz, hR⟩ := two_blocks G1 rfl
  have HG : Hid (Gr w w1) := (((Gr.refl _).alloc _).alloc _).trans G1
  have HM : Hid (Mem w1 a1 n1 (stL l op a x)) := M1
  have c37 : w1.cell? ⟨w.heap.size, 37, none⟩ = some (.slice ao n cap) := by rw [cell_of_row _ _ _ _ _ _ hB]; exact g37
  have c39 : w1.cell? ⟨w.heap.size, 39, none⟩ = some (.int .u32 y1) := by rw [cell_of_row _ _ _ _ _ _ hB]; exact g39
  have c40 : w1.cell? ⟨w.heap.size, 40, none⟩ = some (.int .i64 y2) := by rw [cell_of_row _ _ _ _ _ _ hB]; exact g40
  have fz : ∀ j, w1.frozen? ⟨w.heap.size, j, none⟩ = false := fun j => frozen_of_row _ _ j _ _ hB
  have hSE := SE.out a1 n1 c1
  have hE := E.out a1 n1 c1
  have hH := H1.out a1 n1 c1
  clear SE E H1
  generalize hD : dA (d.setM (.slice a1 n1 c1) a (ssz op : Nat)) = D2 at *
  have HD : Hid (dA (d.setM (.slice a1 n1 c1) a (ssz op : Nat)) = D2) := hD
  clear hD F1
  have HB : Hid ((((w1.setCell ⟨w.heap.size, 37, none⟩ (.slice a1 n1 c1)).setCell ⟨w.heap.size, 39, none⟩ (.int .u32 a)).setCell ⟨w.heap.size, 40, none⟩ (.int .i64 (ssz op : Nat))).heap[w.heap.size]? = some (.cells D2 81 (0, 0))) := by
    rw [← hE]
    exact heap_setCell_same _ _ _ _ _ _ (heap_setCell_same _ _ _ _ _ _ (heap_setCell_same _ _ _ _ _ _ hB))
  have HR : Hid ((((w1.setCell ⟨w.heap.size, 37, none⟩ (.slice a1 n1 c1)).setCell ⟨w.heap.size, 39, none⟩ (.int .u32 a)).setCell ⟨w.heap.size, 40, none⟩ (.int .i64 (ssz op : Nat))).heap[w.heap.size + 1]? = some (.cells Z 81 (0, 0))) := by
    show _ = _
    rw [heap_setCell_other _ _ _ _ (by simp), heap_setCell_other _ _ _ _ (by simp), heap_setCell_other _ _ _ _ (by simp)]
    exact hR
  have HS : Hid (D2.size = 41) := hSE
  have HO : Hid (D2.all (·.oneCell') = true) := hH
  clear M1 G1 S hB hR hSE hE hH g37 g39 g40 hs
  go_wp2_with (first
    | (go_at_call 88; refine (Mr.Size_store _ _).mono ?_; rintro e w' ⟨rfl, rfl⟩)
    | (refine wpList_load_row rfl 81 _ rfl w.heap.size rfl 81 D2 (0, 0) _ ?hb1 Tryd.underlying81 rfl (by rw [HS.out]; exact iD) ?_; (case hb1 => exact HB.out))
    | (refine wpList_store_row rfl 81 _ _ rfl (w.heap.size + 1) D2 rfl rfl 81 Z ?hb2 (by rw [HS.out]; exact iD) (by rw [HS.out, hz]) HO.out ?_; (case hb2 => exact HR.out)))
  refine bodyPost_ret (v := .tuple #[.agg D2, .bool true]) (results_cell_tmp' Tryd.results65 _ _ _ _ _ (0, 0) _ _ rfl rfl (setRow_heap _ _ _ _ _ (0, 0) HR.out) Tryd.underlying81 rfl (by rw [HS.out]; exact iD)) rfl ⟨a1, n1, c1, by rw [HD.out], ?_, ?_, fun ad q => by have := HF.out ad q; omega⟩
  · refine HM.out.apart fun ad q => ?_
    have := HF.out ad q
    rw [setRow_other _ _ _ _ (by omega), heap_setCell_other _ _ _ _ (by simp; omega), heap_setCell_other _ _ _ _ (by simp; omega), heap_setCell_other _ _ _ _ (by simp; omega)]
  · exact gr_setRow (((HG.out.setCell (Nat.le_refl _) _).setCell (Nat.le_refl _) _).setCell (Nat.le_refl _) _) (Nat.le_succ _) _
end Go.Proofs.YtdiofidmlgliiaaDoor.Hr
