/-
  Ref4b, Hm7, Mb2, Mb3, Hm3, Hm4, Hm5, Bp, Bk: texts of ours that lie in one file.
-/
import Derived.Test.YtdiofidmlgliiaaDoorL02
import Derived.Test.YtdiofidmlgliiaaDoorRef3Walks
import Derived.Deep.RegionHeld3
import Derived.Test.YtdiofidmlgliiaaDoorL01
import Derived.Test.YtdiofidmlgliiaaDoorWalks4
/-
  What ferrybridgeref4.store returns: the struct with the memory stored in, or as it was; and nothing old in memory turns.
-/
namespace Go.Proofs.YtdiofidmlgliiaaDoor.Hr
open Go.ChangeShapes Go.WideShapes Go.ChangeAt Go.RowKit Mm Hh
set_option linter.unusedVariables false
set_option linter.unusedSimpArgs false

variable {d : Dv} {w w' : World} {ao : Option Addr} {n cap : Nat} {l : List UInt8}
theorem dA_setM (o : d.Ok) (m : Value) (a k : Int) : (((dA d).setIfInBounds 37 m).setIfInBounds 39 (.int .u32 a)).setIfInBounds 40 (.int .i64 k) = dA (d.setM m a k) := by
  have := hL_len o.h
  unfold dA Dv.setM
  simp only [List.setIfInBounds_toArray]
  rw [List.set_append_right _ _ (by omega), List.set_append_right _ _ (by omega), List.set_append_right _ _ (by omega), this]
  rfl
theorem results_cell_tmp' {P : Program} {fn : Func} {p t : Tmp} {ty : TypeId} (h : fn.results = #[.cell p ty, .tmp t]) (tmps : Array Value) (w : World) (g : Nat) (tt : TypeId) (cs : Array Value) (fr : Nat × Nat) (d : TypeDesc)
    (v : Value) (hp : tmps.getD p undef = .pointer (some ⟨g, 0, none⟩)) (hv : tmps.getD t undef = v) (hg : w.heap[g]? = some (.cells cs tt fr))
    (hu : P.underlying ty = some d) (hd : (match d with | .struct _ | .array _ _ => true | _ => false) = true) (hi : (P.info? ty).map (·.size) = some cs.size) :
    (results fn tmps).run P w = .ok (.tuple #[.agg cs, v]) w := by
  subst hv
  have hp' : tmps[p]?.getD undef = .pointer (some ⟨g, 0, none⟩) := by simpa using hp
  simp [results, h, hp', asAddr, run_loadVar_row w g tt ty cs fr d hg hu hd hi]
theorem heap_of_gr (g : Gr w w') {k : Nat} {x : Obj} (h : w.heap[k]? = some x) : w'.heap[k]? = some x := by
  rw [Below.block g k (gs h).1]; exact h
/-- Two blocks made one behind the other, in every later world. -/
theorem two_blocks {A : Array Value} {t : Nat} {Z : Array Value} (g : Gr ((w.alloc (.cells A t)).alloc (.cells Z t)) w') (hz : Z.size = 41) :
    w'.heap[w.heap.size]? = some (.cells A t (0, 0)) ∧ ∃ Z : Array Value, Z.size = 41 ∧ w'.heap[w.heap.size + 1]? = some (.cells Z t (0, 0)) :=
  ⟨heap_of_gr g (heap_alloc2_old w _ _), Z, hz, heap_of_gr g (heap_alloc2_new w _ _)⟩

set_option maxHeartbeats 1000000 in
theorem store_no (o : d.Ok) (hm : d.m = .slice ao n cap) (op a x : Int) (M : Mem w ao n l) (hn : n ≤ 140737488351232) (h0 : 0 ≤ a) (h1 : a < 4294967296) (hx0 : 0 ≤ x) (hx1 : x < 4294967296) (ok : stOk l op a = false) :
    Calls Tryd.prog 65 #[.agg (dA d), .int .i64 op, .int .u32 a, .int .u32 x] w fun e w' => e = .returned (.tuple #[.agg (dA d), .bool false]) ∧ Gr w w' := by
  have S : Hid (∀ W : World, Gr w W → Calls Tryd.prog 94 #[.slice ao n cap, .int .i64 op, .int .u32 a, .int .u32 x] W fun e w' => ∃ ao' n' cap', e = .returned (.tuple #[.slice ao' n' cap', .bool false]) ∧ Mem w' ao' n' (stL l op a x) ∧ Gr W w') := fun W G => by
    have := Mr.Store_any cap op a x (M.of G) hn h0 h1 hx0 hx1
    rwa [ok] at this
  have g37 : (dA d)[37]? = some (.slice ao n cap) := by rw [dA_fld o.h 0]; simp [hm]
  have hs : Hid ((dA d).size = 41) := dA_size o.h
  have H1 : Hid ((dA d).all (·.oneCell') = true) := one_dA o
  generalize dA d = D0 at *
  clear M hm ok o
  go_enter Tryd.func65, Tryd.ntmps65
  go_wp2_with fail
  refine (S.out _ (((Gr.refl _).alloc _).alloc _)).mono ?_
  rintro e w1 ⟨a1, n1, c1, rfl, M1, G1⟩
  obtain ⟨hB, Z, hz, hR⟩ := two_blocks G1 rfl
  have HG : Hid (Gr w w1) := (((Gr.refl _).alloc _).alloc _).trans G1
  have HB : Hid _ := hB
  have HR : Hid _ := hR
  clear M1 G1 S hB hR
  go_wp2_with (first
    | (refine wpList_load_row rfl 81 _ rfl _ rfl _ _ _ _ HB.out Tryd.underlying81 rfl (by rw [hs.out]; exact iD) ?_)
    | (refine wpList_store_row rfl 81 _ _ rfl _ _ rfl rfl _ _ HR.out (by rw [hs.out]; exact iD) (by rw [hs.out, hz]) H1.out ?_))
  refine bodyPost_ret (v := .tuple #[.agg D0, .bool false]) (results_cell_tmp' Tryd.results65 _ _ _ _ _ (0, 0) _ _ rfl rfl (srh HR.out) Tryd.underlying81 rfl (by rw [hs.out]; exact iD)) rfl ⟨rfl, ?_⟩
  exact gr_setRow HG.out (Nat.le_succ _) _

set_option maxHeartbeats 1000000 in
theorem store_yes {d : Dv} (o : d.Ok) {ao : Option Addr} {n cap : Nat} {l : List UInt8} (hm : d.m = .slice ao n cap) (op a x : Int) {w : World} (M : Mem w ao n l) (hn : n ≤ 140737488351232) (h0 : 0 ≤ a) (h1 : a < 4294967296) (hx0 : 0 ≤ x) (hx1 : x < 4294967296) (ok : stOk l op a = true) :
    Calls Tryd.prog 65 #[.agg (dA d), .int .i64 op, .int .u32 a, .int .u32 x] w fun e w' => ∃ ao' n' cap', e = .returned (.tuple #[.agg (dA (d.setM (.slice ao' n' cap') a (ssz op : Nat))), .bool true]) ∧ Mem w' ao' n' (stL l op a x) ∧ Gr w w' ∧ ∀ ad, ao' = some ad → w.heap.size ≤ ad.block := by
  have S : Hid (∀ W : World, Gr w W → Calls Tryd.prog 94 #[.slice ao n cap, .int .i64 op, .int .u32 a, .int .u32 x] W fun e w' => ∃ ao' n' cap', e = .returned (.tuple #[.slice ao' n' cap', .bool true]) ∧ Mem w' ao' n' (stL l op a x) ∧ Gr W w' ∧ ∀ ad, ao' = some ad → W.heap.size ≤ ad.block) := fun W G => by
    have := Mr.Store_new cap op a x (M.of G) hn h0 h1 hx0 hx1
    rwa [ok] at this
  have g37 : (dA d)[37]? = some (.slice ao n cap) := by rw [dA_fld o.h 0]; simp [hm]
  have g39 : (dA d)[39]? = some (.int .u32 d.fro) := by rw [dA_fld o.h 2]; rfl
  have g40 : (dA d)[40]? = some (.int .i64 d.many) := by rw [dA_fld o.h 3]; rfl
  have hs : Hid ((dA d).size = 41) := dA_size o.h
  have E : Hid (∀ (a1 : Option Addr) (n1 c1 : Nat), (((dA d).setIfInBounds 37 (.slice a1 n1 c1)).setIfInBounds 39 (.int .u32 a)).setIfInBounds 40 (.int .i64 (ssz op : Nat)) = dA (d.setM (.slice a1 n1 c1) a (ssz op : Nat))) := fun a1 n1 c1 => dA_setM o _ _ _
  have SE : Hid (∀ (a1 : Option Addr) (n1 c1 : Nat), (dA (d.setM (.slice a1 n1 c1) a (ssz op : Nat))).size = 41) := fun a1 n1 c1 => dA_size (d := d.setM _ _ _) o.h
  have H1 : Hid (∀ (a1 : Option Addr) (n1 c1 : Nat), (dA (d.setM (.slice a1 n1 c1) a (ssz op : Nat))).all (·.oneCell') = true) := fun a1 n1 c1 => one_dA ⟨o.h, rfl, o.out⟩
  generalize d.fro = y1 at *
  generalize d.many = y2 at *
  generalize dA d = D0 at *
  clear M hm ok o
  go_enter Tryd.func65, Tryd.ntmps65
  go_wp2_with fail
  refine (S.out _ (((Gr.refl _).alloc _).alloc _)).mono ?_
  rintro e w1 ⟨a1, n1, c1, rfl, M1, G1, F1⟩
  have HF : Hid (∀ ad, a1 = some ad → w.heap.size + 1 < ad.block) := fun ad q => by have := F1 ad q; simp at this; omega
  obtain ⟨hB, Z, hz, hR⟩ := two_blocks G1 rfl
  have HG : Hid (Gr w w1) := (((Gr.refl _).alloc _).alloc _).trans G1
  have HM : Hid (Mem w1 a1 n1 (stL l op a x)) := M1
  have c37 : w1.cell? ⟨w.heap.size, 37, none⟩ = some (.slice ao n cap) := by rw [cell_of_row _ _ _ _ _ _ hB]; exact g37
  have c39 : w1.cell? ⟨w.heap.size, 39, none⟩ = some (.int .u32 y1) := by rw [cell_of_row _ _ _ _ _ _ hB]; exact g39
  have c40 : w1.cell? ⟨w.heap.size, 40, none⟩ = some (.int .i64 y2) := by rw [cell_of_row _ _ _ _ _ _ hB]; exact g40
  have fz : ∀ j, w1.frozen? ⟨w.heap.size, j, none⟩ = false := fun j => frozen_of_row _ _ j _ _ hB
  have hSE := SE.out a1 n1 c1
  have hE := E.out a1 n1 c1
  have hH := H1.out a1 n1 c1
  clear SE E H1
  generalize hD : dA (d.setM (.slice a1 n1 c1) a (ssz op : Nat)) = D2 at *
  have HD : Hid (dA (d.setM (.slice a1 n1 c1) a (ssz op : Nat)) = D2) := hD
  clear hD F1
  have HB : Hid ((((w1.setCell ⟨w.heap.size, 37, none⟩ (.slice a1 n1 c1)).setCell ⟨w.heap.size, 39, none⟩ (.int .u32 a)).setCell ⟨w.heap.size, 40, none⟩ (.int .i64 (ssz op : Nat))).heap[w.heap.size]? = some (.cells D2 81 (0, 0))) := by
    rw [← hE]
    exact heap_setCell_same _ _ _ _ _ _ (heap_setCell_same _ _ _ _ _ _ (heap_setCell_same _ _ _ _ _ _ hB))
  have HR : Hid ((((w1.setCell ⟨w.heap.size, 37, none⟩ (.slice a1 n1 c1)).setCell ⟨w.heap.size, 39, none⟩ (.int .u32 a)).setCell ⟨w.heap.size, 40, none⟩ (.int .i64 (ssz op : Nat))).heap[w.heap.size + 1]? = some (.cells Z 81 (0, 0))) := by
    show _ = _
    rw [heap_setCell_other _ _ _ _ (by simp), heap_setCell_other _ _ _ _ (by simp), heap_setCell_other _ _ _ _ (by simp)]
    exact hR
  have HS : Hid (D2.size = 41) := hSE
  have HO : Hid (D2.all (·.oneCell') = true) := hH
  clear M1 G1 S hB hR hSE hE hH g37 g39 g40 hs
  go_wp2_with (first
    | (go_at_call 88; refine (Mr.Size_store _ _).mono ?_; rintro e w' ⟨rfl, rfl⟩)
    | (refine wpList_load_row rfl 81 _ rfl w.heap.size rfl 81 D2 (0, 0) _ ?hb1 Tryd.underlying81 rfl (by rw [HS.out]; exact iD) ?_; (case hb1 => exact HB.out))
    | (refine wpList_store_row rfl 81 _ _ rfl (w.heap.size + 1) D2 rfl rfl 81 Z ?hb2 (by rw [HS.out]; exact iD) (by rw [HS.out, hz]) HO.out ?_; (case hb2 => exact HR.out)))
  refine bodyPost_ret (v := .tuple #[.agg D2, .bool true]) (results_cell_tmp' Tryd.results65 _ _ _ _ _ (0, 0) _ _ rfl rfl (setRow_heap _ _ _ _ _ (0, 0) HR.out) Tryd.underlying81 rfl (by rw [HS.out]; exact iD)) rfl ⟨a1, n1, c1, by rw [HD.out], ?_, ?_, fun ad q => by have := HF.out ad q; omega⟩
  · refine HM.out.apart fun ad q => ?_
    have := HF.out ad q
    rw [setRow_other _ _ _ _ (by omega), heap_setCell_other _ _ _ _ (by simp; omega), heap_setCell_other _ _ _ _ (by simp; omega), heap_setCell_other _ _ _ _ (by simp; omega)]
  · exact gr_setRow (((HG.out.setCell (Nat.le_refl _) _).setCell (Nat.le_refl _) _).setCell (Nat.le_refl _) _) (Nat.le_succ _) _
end Go.Proofs.YtdiofidmlgliiaaDoor.Hr
/-
  What bytes.Clone, and package hart's NewCore, return.
-/
namespace Go.Proofs.YtdiofidmlgliiaaDoor.Hc
open Go.ChangeShapes Go.WideShapes Go.ChangeAt Go.RowKit Mm Hh
set_option linter.unusedVariables false
set_option linter.unusedSimpArgs false

theorem mem_bc {w w' : World} {ad : Addr} {n : Nat} {l : List UInt8} (M : Mem w (some ad) n l) (G : Gr w w') : ∀ j u, (bc l)[j]? = some u → w'.cell? (ad.add j) = some u := by
  intro j u hj
  obtain ⟨h1, rfl⟩ := bc_get hj
  have hl := M.len
  exact (M.of G).cell ad rfl j (by omega)
theorem own_of {w : World} {base n : Nat} {v : Value} {l : List UInt8} (hl : l.length = n) (h : w.ownsRow base 5 1 v n (bc l)) : Own w base v l := by
  subst hl
  obtain ⟨_, h⟩ := h
  rcases h with ⟨rfl, h0⟩ | ⟨g, cap, cur, rfl, hb, hg, hn, hm, hs, ht⟩
  · exact .inl ⟨rfl, List.eq_nil_of_length_eq_zero h0⟩
  · refine .inr ⟨g, cap, rfl, ⟨hb, hn⟩, cur.toList.drop (l.length * 1), ?_⟩
    rw [← ht, List.take_append_drop]
    exact hg
set_option maxHeartbeats 1000000 in
set_option maxRecDepth 100000 in
theorem Clone_any {w : World} {ao : Option Addr} {n cap : Nat} {l : List UInt8} (M : Mem w ao n l) (hcap : ao = none → cap = 0) (hn : n ≤ 140737488351232) :
    Calls Tryd.prog 36 #[.slice ao n cap] w fun e w' => ∃ v, e = .returned v ∧ Own w' w.heap.size v l ∧ Gr w w' := by
  have hl := M.len
  cases ao with
  | none =>
    obtain rfl := M.nil rfl
    obtain rfl := hcap rfl
    obtain rfl : l = [] := List.eq_nil_of_length_eq_zero hl
    clear M hcap
    have he : ∀ w : World, (binOp .eql 31 (.slice none 0 0) (.slice none 0 0)).run Tryd.prog w = .ok (.bool true) w := fun _ => by kernel_rfl
    go_enter Tryd.func36, Tryd.ntmps36
    go_wp2
    go_ret
    exact ⟨_, rfl, .inl ⟨rfl, rfl⟩, Gr.refl _⟩
  | some ad =>
    obtain ⟨i0, hi, hz0, hz1, hz2⟩ := info_parts info5
    have HM : Hid (Mem w (some ad) n l) := M
    have he : ∀ w : World, (binOp .eql 31 (.slice (some ad) n cap) (.slice none 0 0)).run Tryd.prog w = .ok (.bool false) w := fun _ => by kernel_rfl
    clear M hcap
    go_enter Tryd.func36, Tryd.ntmps36
    go_wp2_with (at_builtin; refine wpList_append_own _ rfl (.tmp 5) (.tmp 6) 31 rfl w.heap.size 5 i0 (.int .u8 0) 1 1 Tryd.underlying31 hi hz0 hz1 hz2 rfl (by decide) _ 0 [] rfl (World.ownsRow_made w #[] 0 (Nat.le_refl _) (by decide) rfl) ad n cap (bc l) rfl (by rw [bc_len, hl]; simp) (mem_bc HM.out ((Gr.refl _).alloc _)) (bc_one l) (by unfold maxLen; omega) (by omega) (by simp) ?_; intro v' w1 hown hgrow _; have HO : Hid (Own w1 w.heap.size v' l) := own_of hl (by simpa using hown); have HG : Hid (Gr w w1) := ((Gr.refl _).alloc _).grown hgrow (fun k e => Nat.le_of_eq (Option.some.inj e)); clear hown hgrow)
    go_ret
    exact ⟨_, rfl, HO.out, HG.out⟩

theorem iC : (Tryd.prog.info? 146).map (·.size) = some 40 := by kernel_rfl
theorem two_of {w w' : World} {A Z : Array Value} {t u : Nat} (g : Gr ((w.alloc (.cells A t)).alloc (.cells Z u)) w') : w'.heap[w.heap.size]? = some (.cells A t (0, 0)) ∧ w'.heap[w.heap.size + 1]? = some (.cells Z u (0, 0)) :=
  ⟨Hr.heap_of_gr g (heap_alloc2_old w _ _), Hr.heap_of_gr g (heap_alloc2_new w _ _)⟩
theorem Own.cells {w : World} {base : Nat} {v : Value} {l : List UInt8} (h : Own w base v l) : v.cells = #[v] ∧ v.oneCell' = true := by
  rcases h with ⟨rfl, _⟩ | ⟨k, cap, rfl, _⟩ <;> exact ⟨rfl, rfl⟩
theorem Own.base {w w' : World} {b b' : Nat} {v : Value} {l : List UInt8} (h : Own w b v l) (hb : b' ≤ b) : Own w b' v l := by
  rcases h with h | ⟨k, cap, e, q, R⟩
  · exact .inl h
  · exact .inr ⟨k, cap, e, ⟨Nat.le_trans hb q.1, q.2⟩, R⟩
theorem range_of {w : World} {b : Nat} {h : Hv} {t : Nat} (e : w.heap[b]? = some (.cells (hA h) t (0, 0))) : w.rangeAt b 0 (hL h) := fun j v hv => by
  rw [Nat.zero_add, cell_of_row _ _ _ _ _ _ e]
  simpa [hA] using hv
end Go.Proofs.YtdiofidmlgliiaaDoor.Hc
/-
  What package machine's wrong and slices.Clone (of harts) answer.
-/
namespace Go.Proofs.YtdiofidmlgliiaaDoor.Mc
open Go.ChangeShapes Go.WideShapes Go.ChangeAt Go.RowKit Mm Hh Hc
set_option linter.unusedVariables false
set_option linter.unusedSimpArgs false

variable {hs : List Hv} {w : World} {n : Nat}
set_option maxHeartbeats 1000000 in
set_option maxRecDepth 100000 in
theorem pwrong_any {ma ha pa : Option Addr} {hn pn : Nat} (mc hc pc : Nat) {m : List UInt8} {hs : List Hv} {ps : List (Int × Int)} {w : World} (mn : Nat) (hmn : m.length = mn) (H : Hs w ha hn hs) (P : Ps w pa pn ps) (b1 : mn ≤ 140737488351232) (b2 : hn ≤ 140737488351232) (b3 : pn ≤ 140737488351232) :
    Calls Tryd.prog 56 #[.agg #[.slice ma mn mc, .slice ha hn hc], .slice pa pn pc] w fun e w' => e = .returned (.int .i64 (wrong m hs ps)) ∧ Gr w w' := by
  have HM : Hid (∀ W : World, Gr w W → Calls Tryd.prog 34 #[.agg #[.slice ma mn mc, .slice ha hn hc]] W fun e w' => e = .returned (.bool (mayM mn hs)) ∧ Gr W w') := fun W G => MMay_any mc hc mn (H.of G) b1 b2
  have HWr : Hid (wrong m hs ps = if mayM mn hs = false then 2 else if 300 < ps.length then 1 else if ps.all (pickOk hs.length) = false then 3 else 0) := by have := wrong_may m hs ps; rw [hmn] at this; exact this
  have HL : Hid (hs.length = hn) := H.len
  have PL : Hid (ps.length = pn) := P.len
  have HP : Hid (Ps w pa pn ps) := P
  clear H P hmn
  generalize mayM mn hs = B at *
  cases B with
  | false =>
    have HE : Hid (wrong m hs ps = 2) := by unfold Hid; rw [HWr.out, if_pos rfl]
    clear HWr HP
    go_enter Tryd.func56, Tryd.ntmps56
    go_wp2_with fail
    refine (HM.out _ ((Gr.refl _).alloc _)).mono ?_
    rintro e w1 ⟨rfl, G1⟩
    have HG1 : Hid (Gr w w1) := ((Gr.refl _).alloc _).trans G1
    clear G1 HM
    go_wp2_with fail
    go_ret
    exact ⟨ret_int HE.out.symm, HG1.out⟩
  | true =>
    have HW2 : Hid (wrong m hs ps = if 300 < pn then 1 else if ps.all (pickOk hn) = false then 3 else 0) := by unfold Hid; rw [HWr.out, if_neg (by simp), PL.out, HL.out]
    clear HWr
    go_enter Tryd.func56, Tryd.ntmps56
    go_wp2_with fail
    refine (HM.out _ ((Gr.refl _).alloc _)).mono ?_
    rintro e w1 ⟨rfl, G1⟩
    have HG1 : Hid (Gr w w1) := ((Gr.refl _).alloc _).trans G1
    have HB : Hid (w1.heap[w.heap.size]? = some (.cells #[.slice ma mn mc, .slice ha hn hc] 34 (0, 0))) := (G1.block _ (by simp)).trans (heap_alloc_new w _)
    have hlt1 : w.heap.size < w1.heap.size := (Array.getElem?_eq_some_iff.1 HB.out).1
    clear G1 HM
    by_cases c3 : 300 < pn
    · have HE : Hid (wrong m hs ps = 1) := by unfold Hid; rw [HW2.out, if_pos c3]
      go_wp2_with fail
      go_ret
      exact ⟨ret_int HE.out.symm, HG1.out⟩
    · have HW3 : Hid (wrong m hs ps = if ps.all (pickOk hn) = false then 3 else 0) := by unfold Hid; rw [HW2.out, if_neg c3]
      clear HW2
      by_cases p0 : pn = 0
      · subst p0
        have HE : Hid (wrong m hs ps = 0) := by
          have : ps = [] := List.eq_nil_of_length_eq_zero PL.out
          unfold Hid; rw [HW3.out, this]; rfl
        go_wp2_with fail
        go_loopw [15] (fun i wq => i = .int .i64 0 ∧ wq = w1) (fun _ _ => 0)
        case atStart => exact ⟨rfl, rfl⟩
        case round =>
          obtain ⟨rfl, rfl⟩ := hrel
          go_wp2
          go_ret
          exact ⟨ret_int HE.out.symm, HG1.out⟩
      · obtain ⟨b', o', rfl, hb', hcell'⟩ := HP.out.spot (by omega)
        have HC : Hid (∀ i p, ps[i]? = some p → w1.cell? ⟨b', o' + i * 2, none⟩ = some (.int .i64 p.1) ∧ w1.cell? ⟨b', o' + i * 2 + 1, none⟩ = some (.int .i64 p.2)) := fun i p hp => ⟨(HG1.out.cell _ (by exact hb')).trans (hcell' i p hp).1, (HG1.out.cell _ (by exact hb')).trans (hcell' i p hp).2⟩
        have hb1 : b' < w1.heap.size := Nat.lt_of_lt_of_le hb' HG1.out.size
        clear hcell' HP
        go_wp2_with fail
        go_loopw [15] (fun i wq => ∃ j : Nat, j ≤ pn ∧ i = .int .i64 j ∧ (ps.take j).all (pickOk hn) = true ∧ Gr w1 wq) (fun i _ => pn - (intOf i).toNat)
        case atStart => exact ⟨0, Nat.zero_le _, rfl, rfl, Gr.refl _⟩
        case round =>
          obtain ⟨j, hj, rfl, hall, G⟩ := hrel
          have HA : Hid ((ps.take j).all (pickOk hn) = true) := hall
          have HG : Hid (Gr w1 wr) := G
          have hbr : b' < wr.heap.size := Nat.lt_of_lt_of_le hb1 G.size
          have hwr : w.heap.size < wr.heap.size := Nat.lt_of_lt_of_le hlt1 G.size
          have k1 : wr.cell? ⟨w.heap.size, 1, none⟩ = some (.slice ha hn hc) := (G.cell _ (by exact hlt1)).trans (cell_of_row _ _ _ _ _ _ HB.out)
          clear hall G
          by_cases hlt2 : j < pn
          · obtain ⟨p, hp⟩ : ∃ p, ps[j]? = some p := ⟨_, List.getElem?_eq_getElem (by rw [PL.out]; exact hlt2)⟩
            have q0 : wr.cell? ⟨b', o' + j * 2, none⟩ = some (.int .i64 p.1) := (HG.out.cell _ (by exact hb1)).trans (HC.out j p hp).1
            have q1 : wr.cell? ⟨b', o' + j * 2 + 1, none⟩ = some (.int .i64 p.2) := (HG.out.cell _ (by exact hb1)).trans (HC.out j p hp).2
            have HE : Hid (¬ (0 ≤ p.1 ∧ p.1 < hn ∧ 0 ≤ p.2 ∧ p.2 ≤ 400) → wrong m hs ps = 3) := fun hno => by rw [HW3.out, if_pos (all_false hp (by unfold pickOk; exact decide_eq_false hno))]
            have HN : Hid ((0 ≤ p.1 ∧ p.1 < hn ∧ 0 ≤ p.2 ∧ p.2 ≤ 400) → (ps.take (j + 1)).all (pickOk hn) = true) := fun hy => by
              rw [all_take _ ps j p hp, HA.out, show pickOk hn p = true by unfold pickOk; exact decide_eq_true hy]; rfl
            clear hp
            obtain ⟨x, y⟩ := p
            simp only at *
            have hc : x < 0 ∨ (¬ x < 0 ∧ (hn : Int) ≤ x) ∨ (¬ x < 0 ∧ ¬ (hn : Int) ≤ x ∧ y < 0) ∨ (¬ x < 0 ∧ ¬ (hn : Int) ≤ x ∧ ¬ y < 0 ∧ 400 < y) ∨ (¬ x < 0 ∧ ¬ (hn : Int) ≤ x ∧ ¬ y < 0 ∧ ¬ 400 < y) := by omega
            rcases hc with h1 | ⟨h1, h2⟩ | ⟨h1, h2, h3⟩ | ⟨h1, h2, h3, h4⟩ | ⟨h1, h2, h3, h4⟩
            · go_wp2
              go_ret
              exact ⟨ret_int (HE.out (by omega)).symm, HG1.out.trans (HG.out.alloc _)⟩
            · go_wp2
              go_ret
              exact ⟨ret_int (HE.out (by omega)).symm, HG1.out.trans (HG.out.alloc _)⟩
            · go_wp2
              go_ret
              exact ⟨ret_int (HE.out (by omega)).symm, HG1.out.trans (HG.out.alloc _)⟩
            · go_wp2
              go_ret
              exact ⟨ret_int (HE.out (by omega)).symm, HG1.out.trans (HG.out.alloc _)⟩
            · go_wp2
              go_roundw
              case rel => exact ⟨j + 1, by omega, by go_num, HN.out (by omega), HG.out.alloc _⟩
              case measure => simp [intOf]; omega
          · have HE : Hid (wrong m hs ps = 0) := by
              have e : (ps.take j).all (pickOk hn) = true := HA.out
              rw [show j = pn by omega, ← PL.out, List.take_length] at e
              unfold Hid; rw [HW3.out, e]; rfl
            go_wp2
            go_ret
            exact ⟨ret_int HE.out.symm, HG1.out.trans HG.out⟩

theorem owns_at {base e sz : Nat} {v : Value} {xs : List Value} (h : w.ownsRow base e sz v n xs) (hn : 1 ≤ n) : ∃ g cap, v = .slice (some ⟨g, 0, none⟩) n cap ∧ base ≤ g := by
  obtain ⟨_, h⟩ := h
  rcases h with ⟨_, h0⟩ | ⟨g, cap, cur, hv, hb, _⟩
  · omega
  · exact ⟨g, cap, hv, hb⟩
theorem infoH : (Tryd.prog.info? 70).map (fun i => (i.zero, i.size, i.bytes)) = some (some (.agg (hA h0)), 37, 160) := by kernel_rfl
set_option maxHeartbeats 1000000 in
set_option maxRecDepth 100000 in
/-- slices.Clone, of harts. -/
theorem HClone_any {ad : Addr} (cap : Nat) (H : Hs w (some ad) n hs) (hn1 : 1 ≤ n) (hn : n ≤ 4) :
    Calls Tryd.prog 37 #[.slice (some ad) n cap] w fun e w' => ∃ g c, e = .returned (.slice (some ⟨g, 0, none⟩) n c) ∧ w.heap.size ≤ g ∧ HRow w' g hs ∧ Gr w w' := by
  obtain ⟨i0, hi, hz0, hz1, hz2⟩ := info_parts infoH
  have HH : Hid _ := H
  have HL : Hid _ := H.len
  have HO : Hid _ := H.ok
  have he : ∀ w : World, (binOp .eql 32 (.slice (some ad) n cap) (.slice none 0 0)).run Tryd.prog w = .ok (.bool false) w := fun _ => by kernel_rfl
  clear H
  go_enter Tryd.func37, Tryd.ntmps37
  go_wp2_with (at_builtin; refine wpList_append_own _ rfl (.tmp 5) (.tmp 6) 32 rfl w.heap.size 70 i0 (.agg (hA h0)) 37 160 Tryd.underlying32 hi hz0 hz1 hz2 rfl (by decide) _ 0 [] rfl (World.ownsRow_made w #[] 0 (Nat.le_refl _) (by decide) rfl) ad n cap (hC hs) rfl (by rw [hC_len HO.out, HL.out]) (HH.out.of ((Gr.refl _).alloc _)).src (hC_one hs) (by unfold maxLen; omega) (by omega) (by simp) ?_; intro v' w1 hown hgrow _; have HOw : Hid (w1.ownsRow w.heap.size 70 37 v' n (hC hs)) := (by unfold Hid; simpa using hown); have HG : Hid (Gr w w1) := ((Gr.refl _).alloc _).grown hgrow (fun k e => Nat.le_of_eq (Option.some.inj e)); clear hown hgrow)
  obtain ⟨g, c, rfl, hg⟩ := owns_at HOw.out hn1
  have HR : Hid (HRow w1 g hs) := HRow.own HO.out HOw.out
  clear HOw
  go_ret
  exact ⟨g, c, rfl, hg, HR.out, HG.out⟩
end Go.Proofs.YtdiofidmlgliiaaDoor.Mc
/-
  A board of package machine, as cells of memory; what NewBoard answers.
-/
namespace Go.Proofs.YtdiofidmlgliiaaDoor.Mc
open Go.ChangeShapes Go.WideShapes Go.ChangeAt Go.RowKit Mm Hh Hc
set_option linter.unusedVariables false
set_option linter.unusedSimpArgs false

variable {ty : Nat} {rs : List Value}
theorem HRow.of {w w' : World} {g : Nat} {hs : List Hv} (r : HRow w g hs) (G : Gr w w') : HRow w' g hs := by
  obtain ⟨rest, e⟩ := r.row
  exact ⟨r.ok, rest, (G.block _ (gs e).1).trans e⟩
theorem own_gr {w w' : World} {base : Nat} {v : Value} {l : List UInt8} (h : Own w base v l) (G : Gr w w') : Own w' base v l :=
  h.to fun k o f e => G.block _ (gs e).1
/-- A board at the beginning of block g, which is of type ty (the cells behind the board: rs): its memory M, its harts in block gh, what came out O. -/
structure Bw (ty : Nat) (rs : List Value) (w : World) (base g : Nat) (M : Value) (gh hc : Nat) (O : Value) (s : Sh) : Prop where
  t1 : ty ≠ 5
  t2 : ty ≠ 59
  t3 : ty ≠ 70
  bg : base ≤ g
  blk : w.heap[g]? = some (.cells (M :: .slice (some ⟨gh, 0, none⟩) s.hs.length hc :: O :: .int .i64 s.steps :: rs).toArray ty (0, 0))
  mem : Own w 0 M s.m
  bh : base ≤ gh
  row : HRow w gh s.hs
  out : w.ownsRow base 59 1 O s.out.length (s.out.map (Value.int .u32))
def Bd (ty : Nat) (rs : List Value) (w : World) (base g : Nat) (s : Sh) : Prop := ∃ M gh hc O, Bw ty rs w base g M gh hc O s
theorem Bw.of {w w' : World} {base g : Nat} {M : Value} {gh hc : Nat} {O : Value} {s : Sh} (B : Bw ty rs w base g M gh hc O s) (G : Gr w w') : Bw ty rs w' base g M gh hc O s :=
  ⟨B.t1, B.t2, B.t3, B.bg, (G.block _ (gs B.blk).1).trans B.blk, own_gr B.mem G, B.bh, B.row.of G, owns_to B.out fun k o f e => G.block _ (gs e).1⟩
theorem Bd.of {w w' : World} {base g : Nat} {s : Sh} (B : Bd ty rs w base g s) (G : Gr w w') : Bd ty rs w' base g s := by
  obtain ⟨M, gh, hc, O, B⟩ := B
  exact ⟨M, gh, hc, O, B.of G⟩
section
variable {w : World} {base g gh hc : Nat} {M O : Value} {s : Sh}
theorem Bw.lt (B : Bw ty rs w base g M gh hc O s) : g < w.heap.size := (gs B.blk).1
theorem Bw.c0 (B : Bw ty rs w base g M gh hc O s) : w.cell? ⟨g, 0, none⟩ = some M := (cr B.blk).trans (by simp)
theorem Bw.c1 (B : Bw ty rs w base g M gh hc O s) : w.cell? ⟨g, 1, none⟩ = some (.slice (some ⟨gh, 0, none⟩) s.hs.length hc) := (cr B.blk).trans (by simp)
theorem Bw.c2 (B : Bw ty rs w base g M gh hc O s) : w.cell? ⟨g, 2, none⟩ = some O := (cr B.blk).trans (by simp)
theorem Bw.c3 (B : Bw ty rs w base g M gh hc O s) : w.cell? ⟨g, 3, none⟩ = some (.int .i64 s.steps) := (cr B.blk).trans (by simp)
theorem Bw.rest (B : Bw ty rs w base g M gh hc O s) (i : Nat) : w.cell? ⟨g, 4 + i, none⟩ = rs[i]? := (cr B.blk).trans (by rw [List.getElem?_toArray, Nat.add_comm]; rfl)
end

theorem one_bd (a b c : Option Addr) (n1 n2 n3 c1 c2 c3 : Nat) (x : Int) : (#[.slice a n1 c1, .slice b n2 c2, .slice c n3 c3, .int .i64 x] : Array Value).all (·.oneCell') = true := by
  refine all_oneCell_toArray ?_
  intro v hv
  simp only [List.mem_cons, List.not_mem_nil, or_false] at hv
  rcases hv with rfl | rfl | rfl | rfl <;> rfl
theorem iB : (Tryd.prog.info? 72).map (·.size) = some 4 := by kernel_rfl
set_option maxHeartbeats 1000000 in
set_option maxRecDepth 100000 in
theorem NewBoard_no {ma ha pa : Option Addr} {hn pn : Nat} (mc hc pc : Nat) {m : List UInt8} {hs : List Hv} {ps : List (Int × Int)} {w : World} (mn : Nat) (hmn : m.length = mn) (H : Hs w ha hn hs) (P : Ps w pa pn ps) (b1 : mn ≤ 140737488351232) (b2 : hn ≤ 140737488351232) (b3 : pn ≤ 140737488351232) (hno : ¬ wrong m hs ps = 0) :
    Calls Tryd.prog 28 #[.agg #[.slice ma mn mc, .slice ha hn hc], .slice pa pn pc] w fun e w' => e = .returned (.tuple #[.agg #[.slice none 0 0, .slice none 0 0, .slice none 0 0, .int .i64 0], .int .i64 (wrong m hs ps)]) ∧ Gr w w' := by
  have HM : Hid (∀ W : World, Gr w W → Calls Tryd.prog 56 #[.agg #[.slice ma mn mc, .slice ha hn hc], .slice pa pn pc] W fun e w' => e = .returned (.int .i64 (wrong m hs ps)) ∧ Gr W w') := fun W G => pwrong_any mc hc pc mn hmn (H.of G) (P.of G) b1 b2 b3
  clear H P hmn
  generalize wrong m hs ps = E at *
  have hE : (E != 0) = true := by simpa using hno
  clear hno
  go_enter Tryd.func28, Tryd.ntmps28
  go_wp2_with fail
  refine (HM.out _ (((Gr.refl _).alloc _).alloc _)).mono ?_
  rintro e w1 ⟨rfl, G1⟩
  have HG1 : Hid (Gr w w1) := (((Gr.refl _).alloc _).alloc _).trans G1
  have HB : Hid (w1.heap[w.heap.size + 1]? = some (.cells #[.slice none 0 0, .slice none 0 0, .slice none 0 0, .int .i64 0] 72 (0, 0))) := (two_of G1).2
  clear G1 HM
  have HI : Hid ((Tryd.prog.info? 72).map (·.size) = some 4) := iB
  go_wp2_with (refine wpList_store_row rfl 72 _ _ rfl (w.heap.size + 1) #[.slice none 0 0, .slice none 0 0, .slice none 0 0, .int .i64 0] rfl rfl 72 _ ?hb HI.out rfl (by kernel_rfl) ?_; (case hb => exact HB.out))
  refine bodyPost_ret (v := .tuple #[.agg _, .int .i64 E]) (Hr.results_cell_tmp' Tryd.results28 _ _ _ _ _ (0, 0) _ _ rfl rfl (setRow_heap _ _ _ _ _ (0, 0) HB.out) Tryd.underlying72 rfl HI.out) rfl ⟨rfl, ?_⟩
  exact gr_setRow HG1.out (Nat.le_succ _) _
theorem clone_own {ma : Option Addr} {mc : Nat} {m : List UInt8} {w : World} {mn : Nat} (M : Mem w ma mn m) (hcap : ma = none → mc = 0) (hn : mn ≤ 4096) :
    Calls Tryd.prog 36 #[.slice ma mn mc] w fun e w' => ∃ a c, e = .returned (.slice a mn c) ∧ Own w' 0 (.slice a mn c) m ∧ Gr w w' :=
  (Clone_any M hcap (by omega)).mono fun e w' ⟨v, e1, e2, e3⟩ => by
    obtain ⟨a, c, rfl, _⟩ := e2.mem
    have := M.len
    rw [this] at e1 e2
    exact ⟨a, c, e1, e2.base (w' := w') (Nat.zero_le _), e3⟩
set_option maxHeartbeats 1000000 in
set_option maxRecDepth 100000 in
theorem NewBoard_yes {ma ha pa : Option Addr} {hn pn : Nat} (mc hc pc : Nat) {m : List UInt8} {hs : List Hv} {ps : List (Int × Int)} {w : World} (mn : Nat) (M : Mem w ma mn m) (hcap : ma = none → mc = 0) (H : Hs w ha hn hs) (P : Ps w pa pn ps) (b3 : pn ≤ 140737488351232) (hy : wrong m hs ps = 0) (b1 : mn ≤ 4096) (b2 : 1 ≤ hn) (b4 : hn ≤ 4) :
    Calls Tryd.prog 28 #[.agg #[.slice ma mn mc, .slice ha hn hc], .slice pa pn pc] w fun e w' => ∃ a c gh hc, e = .returned (.tuple #[.agg #[.slice a mn c, .slice (some ⟨gh, 0, none⟩) hn hc, .slice none 0 0, .int .i64 0], .int .i64 0]) ∧ Own w' 0 (.slice a mn c) m ∧ w.heap.size ≤ gh ∧ HRow w' gh hs ∧ Gr w w' := by
  have HM : Hid (∀ W : World, Gr w W → Calls Tryd.prog 56 #[.agg #[.slice ma mn mc, .slice ha hn hc], .slice pa pn pc] W fun e w' => e = .returned (.int .i64 0) ∧ Gr W w') := fun W G => by rw [← hy]; exact pwrong_any mc hc pc mn M.len (H.of G) (P.of G) (by omega) (by omega) b3
  obtain ⟨b, o, rfl, _, _⟩ := H.spot (by omega)
  have C1 : Hid (∀ W : World, Gr w W → _) := fun W G => clone_own (M.of G) hcap b1
  have C2 : Hid (∀ W : World, Gr w W → Calls Tryd.prog 37 #[.slice (some ⟨b, o, none⟩) hn hc] W fun e w' => ∃ g c, e = .returned (.slice (some ⟨g, 0, none⟩) hn c) ∧ w.heap.size ≤ g ∧ HRow w' g hs ∧ Gr W w') := fun W G => (HClone_any hc (H.of G) b2 b4).mono fun e w' ⟨g, c, e1, e2, e3⟩ => ⟨g, c, e1, Nat.le_trans G.size e2, e3⟩
  clear H P hy M hcap
  go_enter Tryd.func28, Tryd.ntmps28
  go_wp2_with fail
  refine (HM.out _ (((Gr.refl _).alloc _).alloc _)).mono ?_
  rintro e w1 ⟨rfl, G1⟩
  have HG1 : Hid (Gr w w1) := (((Gr.refl _).alloc _).alloc _).trans G1
  have HA : Hid (w1.heap[w.heap.size]? = some (.cells #[.slice ma mn mc, .slice (some ⟨b, o, none⟩) hn hc] 34 (0, 0))) := (two_of G1).1
  have HB : Hid (w1.heap[w.heap.size + 1]? = some (.cells #[.slice none 0 0, .slice none 0 0, .slice none 0 0, .int .i64 0] 72 (0, 0))) := (two_of G1).2
  have k0 := cr0 HA.out
  have k1 := cr1 HA.out
  clear G1 HM
  go_wp2_with fail
  have hlt : w.heap.size < w1.heap.size := (gs HA.out).1
  have hne : w1.heap.size ≠ w.heap.size := by omega
  go_region_held3 (fun W => W.cell? ⟨w.heap.size, 0, none⟩ = some (.slice ma mn mc) ∧ W.cell? ⟨w.heap.size, 1, none⟩ = some (.slice (some ⟨b, o, none⟩) hn hc)) (first | go_keep | (constructor <;> assumption)) (first
    | (go_at_call 36; refine (C1.out _ (by repeat (first | exact HG1.out | refine Gr.drew ?_ | refine Gr.alloc ?_ _))).mono ?_; rintro e w2 ⟨a2, c2, rfl, O2, G2⟩; have HO2 : Hid (Own w2 0 (.slice a2 mn c2) m) := O2; have HG2 : Hid (Gr w1 w2) := Gr.trans (by repeat (first | exact Gr.refl w1 | refine Gr.drew ?_ | refine Gr.alloc ?_ _)) G2; have HC2 : Hid (w2.heap[w1.heap.size]? = some (.cells #[.slice none 0 0, .slice none 0 0, .slice none 0 0, .int .i64 0] 72 (0, 0))) := Hr.heap_of_gr ((Gr.refl (w1.alloc _)).drew.trans G2) (heap_alloc_new w1 _); have q0 : w2.cell? ⟨w.heap.size, 0, none⟩ = some (.slice ma mn mc) := cr (Hr.heap_of_gr HG2.out HA.out); have q1 : w2.cell? ⟨w.heap.size, 1, none⟩ = some (.slice (some ⟨b, o, none⟩) hn hc) := cr (Hr.heap_of_gr HG2.out HA.out); clear G2 O2 k0 k1 C1)
    | (go_at_call 37; refine (C2.out _ (by repeat (first | exact HG1.out.trans HG2.out | refine Gr.drew ?_ | refine Gr.alloc ?_ _))).mono ?_; rintro e w3 ⟨g3, c3, rfl, hg3, R3, G3⟩; have HR3 : Hid (HRow w3 g3 hs) := R3; have HO3 : Hid (Own w3 0 (.slice a2 mn c2) m) := own_gr HO2.out G3; have HG3 : Hid (Gr w1 w3) := HG2.out.trans G3; have HC3 : Hid (w3.heap[w1.heap.size]? = some (.cells #[.slice none 0 0, .slice none 0 0, .slice none 0 0, .int .i64 0] 72 (0, 0))) := Hr.heap_of_gr G3 HC2.out; have q3 : w3.cell? ⟨w.heap.size, 0, none⟩ = some (.slice ma mn mc) := cr (Hr.heap_of_gr HG3.out HA.out); have q4 : w3.cell? ⟨w.heap.size, 1, none⟩ = some (.slice (some ⟨b, o, none⟩) hn hc) := cr (Hr.heap_of_gr HG3.out HA.out); have z0 : w3.cell? ⟨w1.heap.size, 0, none⟩ = some (.slice none 0 0) := cr HC3.out; have z1 : w3.cell? ⟨w1.heap.size, 1, none⟩ = some (.slice none 0 0) := cr HC3.out; have z2 : w3.cell? ⟨w1.heap.size, 2, none⟩ = some (.slice none 0 0) := cr HC3.out; have z3 : w3.cell? ⟨w1.heap.size, 3, none⟩ = some (.int .i64 0) := cr HC3.out; have f0 : w3.frozen? ⟨w1.heap.size, 0, none⟩ = false := fzr HC3.out; have f1 : w3.frozen? ⟨w1.heap.size, 1, none⟩ = false := fzr HC3.out; clear G3 R3 C2 q0 q1 HO2 HG2 HC2))
  have hlt2 : w.heap.size + 1 < w1.heap.size := (gs HB.out).1
  have HB3 : Hid (w3.heap[w.heap.size + 1]? = some (.cells #[.slice none 0 0, .slice none 0 0, .slice none 0 0, .int .i64 0] 72 (0, 0))) := Hr.heap_of_gr HG3.out HB.out
  have hne2 : w1.heap.size ≠ w.heap.size + 1 := by omega
  have HI : Hid _ := iB
  go_wp2_with (refine wpList_store_row rfl 72 _ _ rfl (w.heap.size + 1) #[.slice a2 mn c2, .slice (some ⟨g3, 0, none⟩) hn c3, .slice none 0 0, .int .i64 0] rfl rfl 72 #[.slice none 0 0, .slice none 0 0, .slice none 0 0, .int .i64 0] ?hb HI.out rfl (one_bd _ _ _ _ _ _ _ _ _ _) ?_; (case hb => (rw [hso (by exact hne2.symm), hso (by exact hne2.symm)]; exact HB3.out)))
  refine bodyPost_ret (v := .tuple #[.agg _, .int .i64 0]) (Hr.results_cell_tmp' Tryd.results28 _ _ _ _ _ (0, 0) _ _ rfl rfl (srh (by rw [hso (by exact hne2.symm), hso (by exact hne2.symm)]; exact HB3.out)) Tryd.underlying72 rfl HI.out) rfl ?_
  have ne : ∀ (t : Nat) (k : Nat) (q : Array Value) (f : Nat × Nat), t ≠ 72 → w3.heap[k]? = some (.cells q t f) → (((w3.setCell ⟨w1.heap.size, 0, none⟩ (.slice a2 mn c2)).setCell ⟨w1.heap.size, 1, none⟩ (.slice (some ⟨g3, 0, none⟩) hn c3)).setRow (w.heap.size + 1) #[.slice a2 mn c2, .slice (some ⟨g3, 0, none⟩) hn c3, .slice none 0 0, .int .i64 0]).heap[k]? = w3.heap[k]? := fun t k q f ht hk => by
    have n1 : k ≠ w1.heap.size := ne_of_types hk HC3.out ht
    have n2 : k ≠ w.heap.size + 1 := ne_of_types hk HB3.out ht
    rw [sro n2, hso (by exact n1), hso (by exact n1)]
  refine ⟨a2, c2, g3, c3, rfl, HO3.out.to fun k q f hk => ne _ k q f (by decide) hk, hg3, ?_, ?_⟩
  · obtain ⟨rest, hr⟩ := HR3.out.row
    exact ⟨HR3.out.ok, rest, (ne _ _ _ _ (by decide) hr).trans hr⟩
  · exact gr_setRow (((HG1.out.trans HG3.out).setCell (Nat.le_of_lt hlt) _).setCell (Nat.le_of_lt hlt) _) (Nat.le_succ _) _
end Go.Proofs.YtdiofidmlgliiaaDoor.Mc
/-
  What the methods of package hart's core do: reserve, storeHeld, Atom, effect.
-/
namespace Go.Proofs.YtdiofidmlgliiaaDoor.Hc
open Go.ChangeShapes Go.WideShapes Go.ChangeAt Go.RowKit Mm Hh
set_option linter.unusedVariables false
set_option linter.unusedSimpArgs false

abbrev Ptr (g : Nat) : Value := .pointer (some ⟨g, 0, none⟩)
def ret2 (r : Option Int) : Value := .tuple #[.int .u32 (r.getD 0), .bool r.isSome]

set_option maxHeartbeats 1000000 in
theorem reserve_any {w : World} {base g : Nat} {h : Hv} {l : List UInt8} {os : List Int} {ss : List (Int × Int)} (I : In w base g h l os ss) (hl : l.length ≤ 140737488351232) (a : Int) (h0 : 0 ≤ a) (h1 : a < 4294967296) :
    Calls Tryd.prog 159 #[.pointer (some ⟨g, 0, none⟩), .int .u32 a] w fun e w' => e = .returned (ret2 (efLr h l a).res) ∧ In w' base g (efLr h l a).h l os ss ∧ Fr base w w' := by
  have L := Load_any I hl 13 a h0 h1
  unfold efLr
  have HI : Hid (In w base g h l os ss) := I
  clear I
  cases hB : ldOk l 13 a with
  | false =>
    have hX : ldV l 13 a = 0 := by unfold ldV; rw [hB]; rfl
    rw [hB, hX] at L
    have HL : Hid (Calls Tryd.prog 137 #[.pointer (some ⟨g, 0, none⟩), .int .i64 13, .int .u32 a] w fun e w' => e = .returned (.tuple #[.int .u32 0, .bool false]) ∧ In w' base g (h.trap 3) l os ss ∧ Ch g w w') := L
    clear L hX hB
    go_enter Tryd.func159, Tryd.ntmps159
    go_wp2_with fail
    refine HL.out.mono ?_
    rintro e w' ⟨rfl, I2, C2⟩
    have HI2 : Hid (In w' base g (h.trap 3) l os ss) := I2
    have HC2 : Hid (Ch g w w') := C2
    clear I2 C2 HL
    go_wp2_with fail
    go_ret2
    exact ⟨rfl, HI2.out, HI.out.below HC2.out⟩
  | true =>
    rw [hB] at L
    have HL : Hid (Calls Tryd.prog 137 #[.pointer (some ⟨g, 0, none⟩), .int .i64 13, .int .u32 a] w fun e w' => e = .returned (.tuple #[.int .u32 (ldV l 13 a), .bool true]) ∧ In w' base g h l os ss ∧ Ch g w w') := L
    clear L hB
    generalize ldV l 13 a = X at *
    go_enter Tryd.func159, Tryd.ntmps159
    go_wp2_with fail
    refine HL.out.mono ?_
    rintro e w' ⟨rfl, I2, C2⟩
    have HC2 : Hid (Ch g w w') := C2
    obtain ⟨c0, rfl, I⟩ := I2
    have k1 : w'.cell? ⟨g, 33, none⟩ = some (.bool c0.h.held) := (I.hcell (by omega)).trans (hL_fld I.ok 1)
    have k2 : w'.cell? ⟨g, 34, none⟩ = some (.int .u32 c0.h.heldAt) := (I.hcell (by omega)).trans (hL_fld I.ok 2)
    have fz := I.fz
    have o1 : Hv.Ok { c0.h with held := true } := ⟨I.ok.len, I.ok.reg, I.ok.pc0, I.ok.pc1, I.ok.at0, I.ok.at1⟩
    have HJ : Hid (Inv ((w'.setCell ⟨g, 33, none⟩ (.bool true)).setCell ⟨g, 34, none⟩ (.int .u32 a)) base g { c0 with h := c0.h.hold true a } l os ss) :=
      (I.set (by omega) (set_held I.ok true) o1).set (c := { c0 with h := { c0.h with held := true } }) (by omega) (set_heldAt o1 a) (I.ok.hold true h0 h1)
    generalize c0.h.held = x1 at *
    generalize c0.h.heldAt = x2 at *
    clear I o1 HL C2
    go_wp2_with fail
    go_ret2
    exact ⟨rfl, HJ.out.inn, HI.out.below ((HC2.out.setCell _ _).setCell _ _)⟩

set_option maxHeartbeats 1000000 in
theorem storeHeld_any {w : World} {base g : Nat} {h : Hv} {l : List UInt8} {os : List Int} {ss : List (Int × Int)} (I : In w base g h l os ss) (T : Tb w base) (hl : l.length ≤ 140737488351232) (hss : ss.length ≤ 1000000) (a b : Int) (h0 : 0 ≤ a) (h1 : a < 4294967296) (hx0 : 0 ≤ b) (hx1 : b < 4294967296) (ok : ldOk l 13 a = true) :
    Calls Tryd.prog 160 #[.pointer (some ⟨g, 0, none⟩), .int .u32 a, .int .u32 b] w fun e w' => e = .returned (.int .u32 ((efSc h l a b).res.getD 0)) ∧ In w' base g (efSc h l a b).h (efSc h l a b).m os (ss ++ (efSc h l a b).sto) ∧ Fr base w w' := by
  unfold efSc
  rw [if_pos ok]
  have HI : Hid (In w base g h l os ss) := I
  obtain ⟨c0, rfl, I⟩ := I
  have k1 : w.cell? ⟨g, 33, none⟩ = some (.bool c0.h.held) := (I.hcell (by omega)).trans (hL_fld I.ok 1)
  have k2 : w.cell? ⟨g, 34, none⟩ = some (.int .u32 c0.h.heldAt) := (I.hcell (by omega)).trans (hL_fld I.ok 2)
  have fz := I.fz
  have o1 : Hv.Ok { c0.h with held := false } := ⟨I.ok.len, I.ok.reg, I.ok.pc0, I.ok.pc1, I.ok.at0, I.ok.at1⟩
  have J : Inv ((w.setCell ⟨g, 33, none⟩ (.bool false)).setCell ⟨g, 34, none⟩ (.int .u32 0)) base g { c0 with h := c0.h.hold false 0 } l os ss :=
    (I.set (by omega) (set_held I.ok false) o1).set (c := { c0 with h := { c0.h with held := false } }) (by omega) (set_heldAt o1 0) (I.ok.hold false (x := 0) (by omega) (by omega))
  have B : Fr base w ((w.setCell ⟨g, 33, none⟩ (.bool false)).setCell ⟨g, 34, none⟩ (.int .u32 0)) := HI.out.below (((Ch.refl g w).setCell _ _).setCell _ _)
  have S := Store_any J.inn (T.of B) hl hss 18 a b h0 h1 hx0 hx1
  have e1 : efStore (c0.h.hold false 0) l 18 a b = ⟨c0.h.hold false 0, stL l 18 a b, [], [(a, 4)], none⟩ := by unfold efStore; rw [if_pos (st_of_ld ok)]; rfl
  have HS : Hid (Calls Tryd.prog 138 #[.pointer (some ⟨g, 0, none⟩), .int .i64 18, .int .u32 a, .int .u32 b] ((w.setCell ⟨g, 33, none⟩ (.bool false)).setCell ⟨g, 34, none⟩ (.int .u32 0)) fun e w' => e = .returned (.tuple #[]) ∧ In w' base g (c0.h.hold false 0) (stL l 18 a b) os (ss ++ [(a, 4)]) ∧ Fr base ((w.setCell ⟨g, 33, none⟩ (.bool false)).setCell ⟨g, 34, none⟩ (.int .u32 0)) w') := by
    have S1 : Calls Tryd.prog 138 #[.pointer (some ⟨g, 0, none⟩), .int .i64 18, .int .u32 a, .int .u32 b] ((w.setCell ⟨g, 33, none⟩ (.bool false)).setCell ⟨g, 34, none⟩ (.int .u32 0)) fun e w' => e = .returned (.tuple #[]) ∧ In w' base g (efStore (c0.h.hold false 0) l 18 a b).h (efStore (c0.h.hold false 0) l 18 a b).m os (ss ++ (efStore (c0.h.hold false 0) l 18 a b).sto) ∧ Fr base ((w.setCell ⟨g, 33, none⟩ (.bool false)).setCell ⟨g, 34, none⟩ (.int .u32 0)) w' := S
    rw [e1] at S1
    exact S1
  have HJ : Hid (In ((w.setCell ⟨g, 33, none⟩ (.bool false)).setCell ⟨g, 34, none⟩ (.int .u32 0)) base g (c0.h.hold false 0) l os ss) := J.inn
  have HB : Hid (Fr base w ((w.setCell ⟨g, 33, none⟩ (.bool false)).setCell ⟨g, 34, none⟩ (.int .u32 0))) := B
  clear S J B I o1 T e1
  generalize c0.h.held = x1 at *
  generalize c0.h.heldAt = x2 at *
  cases x1 with
  | false =>
    rw [if_neg (by simp)]
    clear HS
    go_enter Tryd.func160, Tryd.ntmps160
    go_wp2_with fail
    go_ret
    exact ⟨rfl, by simpa using HJ.out, HB.out⟩
  | true =>
    by_cases ha : x2 = a
    · rw [if_pos ⟨rfl, ha⟩]
      have ba : (x2 == a) = true := by simp [ha]
      clear ha
      go_enter Tryd.func160, Tryd.ntmps160
      go_wp2_with fail
      refine HS.out.mono ?_
      rintro e w' ⟨rfl, I2, B2⟩
      have HI2 : Hid (In w' base g (c0.h.hold false 0) (stL l 18 a b) os (ss ++ [(a, 4)])) := I2
      have HB2 : Hid (Fr base w w') := HB.out.trans B2
      clear I2 B2 HS HB HJ k1 k2 fz
      go_wp2_with fail
      go_ret
      exact ⟨rfl, HI2.out, HB2.out⟩
    · rw [if_neg (by simp [ha])]
      have ba : (x2 == a) = false := by simp [ha]
      clear ha HS
      go_enter Tryd.func160, Tryd.ntmps160
      go_wp2_with fail
      go_ret
      exact ⟨rfl, by simpa using HJ.out, HB.out⟩

set_option maxHeartbeats 1000000 in
theorem Atom_any {w : World} {base g : Nat} {h : Hv} {l : List UInt8} {os : List Int} {ss : List (Int × Int)} (I : In w base g h l os ss) (T : Tb w base) (hl : l.length ≤ 140737488351232) (hss : ss.length ≤ 1000000) (op a b : Int) (h0 : 0 ≤ a) (h1 : a < 4294967296) (hx0 : 0 ≤ b) (hx1 : b < 4294967296) :
    Calls Tryd.prog 140 #[.pointer (some ⟨g, 0, none⟩), .int .i64 op, .int .u32 a, .int .u32 b] w fun e w' => e = .returned (ret2 (efAtom h l op a b).res) ∧ In w' base g (efAtom h l op a b).h (efAtom h l op a b).m os (ss ++ (efAtom h l op a b).sto) ∧ Fr base w w' := by
  have R : Hid (Calls Tryd.prog 159 #[.pointer (some ⟨g, 0, none⟩), .int .u32 a] w fun e w' => e = .returned (ret2 (efLr h l a).res) ∧ In w' base g (efLr h l a).h l os ss ∧ Fr base w w') := reserve_any I hl a h0 h1
  have Tr : Hid (∀ c, Calls Tryd.prog 104 #[.pointer (some ⟨g, 0, none⟩), .int .i64 c] w fun e w' => e = .returned (.tuple #[]) ∧ In w' base g (h.trap c) l os ss ∧ Ch g w w') := fun c => trap_any I c
  have SH : Hid (ldOk l 13 a = true → Calls Tryd.prog 160 #[.pointer (some ⟨g, 0, none⟩), .int .u32 a, .int .u32 b] w fun e w' => e = .returned (.int .u32 ((efSc h l a b).res.getD 0)) ∧ In w' base g (efSc h l a b).h (efSc h l a b).m os (ss ++ (efSc h l a b).sto) ∧ Fr base w w') := fun ok => storeHeld_any I T hl hss a b h0 h1 hx0 hx1 ok
  have wv := W.ldV l 13 a
  have wa := W.amo (op := op) wv ⟨hx0, hx1⟩
  have St : Hid (Calls Tryd.prog 138 #[.pointer (some ⟨g, 0, none⟩), .int .i64 18, .int .u32 a, .int .u32 (Wd.amo op (ldV l 13 a) b)] w fun e w' => e = .returned (.tuple #[]) ∧ In w' base g (efStore h l 18 a (Wd.amo op (ldV l 13 a) b)).h (efStore h l 18 a (Wd.amo op (ldV l 13 a) b)).m os (ss ++ (efStore h l 18 a (Wd.amo op (ldV l 13 a) b)).sto) ∧ Fr base w w') := Store_any I T hl hss 18 a _ h0 h1 wa.1 wa.2
  have HI : Hid (In w base g h l os ss) := I
  obtain ⟨c0, rfl, I⟩ := I
  obtain ⟨ao, cap, hm, M⟩ := I.mem.mem
  have k1 : w.cell? ⟨g, 37, none⟩ = some (.slice ao l.length cap) := (I.fcell 0).trans (by rw [hm]; rfl)
  have L : Hid (Calls Tryd.prog 120 #[.slice ao l.length cap, .int .i64 13, .int .u32 a] w fun e w' => e = .returned (.tuple #[.int .u32 (ldV l 13 a), .bool (ldOk l 13 a)]) ∧ w' = w) := Mm.Load_any cap 13 a M hl h0 h1
  have Am : Hid (Calls Tryd.prog 161 #[.int .i64 op, .int .u32 (ldV l 13 a), .int .u32 b] w fun e w' => e = .returned (.int .u32 (Wd.amo op (ldV l 13 a) b)) ∧ w' = w) := Ww.amo_any op _ b w wv.1 wv.2 hx0 hx1
  clear I M hm T wv wa
  by_cases h46 : op = 46
  · have e : efAtom c0.h l op a b = efLr c0.h l a := if_pos h46
    have em : (efLr c0.h l a).m = l ∧ (efLr c0.h l a).sto = [] := by unfold efLr; split <;> exact ⟨rfl, rfl⟩
    rw [e, em.1, em.2, List.append_nil]
    have b46 : (op == 46) = true := by simp [h46]
    clear e em h46 L St SH Tr Am
    generalize efLr c0.h l a = E at *
    unfold ret2 at *
    go_enter Tryd.func140, Tryd.ntmps140
    go_wp2_with fail
    refine R.out.mono ?_
    rintro e w' ⟨rfl, I2, B2⟩
    have HI2 : Hid (In w' base g E.h l os ss) := I2
    have HB2 : Hid (Fr base w w') := B2
    clear I2 B2 R k1
    go_wp2_with fail
    go_ret2
    exact ⟨rfl, HI2.out, HB2.out⟩
  have b46 : (op == 46) = false := by simp [h46]
  clear R
  cases ok : ldOk l 13 a with
  | false =>
    have e : efAtom c0.h l op a b = ⟨c0.h.trap 4, l, [], [], none⟩ := by
      unfold efAtom efSc efAmo
      rw [if_neg h46, ok]
      simp
    rw [e, List.append_nil]
    rw [ok] at L
    have L2 : Hid (Calls Tryd.prog 120 #[.slice ao l.length cap, .int .i64 13, .int .u32 a] w fun e w' => e = .returned (.tuple #[.int .u32 (ldV l 13 a), .bool false]) ∧ w' = w) := L
    clear L e ok St SH Am h46
    generalize ldV l 13 a = X at *
    generalize l.length = n at *
    go_enter Tryd.func140, Tryd.ntmps140
    go_wp2_with fail
    refine L2.out.mono ?_
    rintro e w' ⟨rfl, rfl⟩
    clear L2
    go_wp2_with fail
    refine (Tr.out 4).mono ?_
    rintro e w2 ⟨rfl, I2, C2⟩
    have HI2 : Hid (In w2 base g (c0.h.trap 4) l os ss) := I2
    have HC2 : Hid (Ch g w' w2) := C2
    clear I2 C2 Tr k1
    go_wp2_with fail
    go_ret2
    exact ⟨rfl, HI2.out, HI.out.below HC2.out⟩
  | true =>
    rw [ok] at L
    have L2 : Hid (Calls Tryd.prog 120 #[.slice ao l.length cap, .int .i64 13, .int .u32 a] w fun e w' => e = .returned (.tuple #[.int .u32 (ldV l 13 a), .bool true]) ∧ w' = w) := L
    clear L Tr
    by_cases h47 : op = 47
    · have e : efAtom c0.h l op a b = efSc c0.h l a b := by unfold efAtom; rw [if_neg h46, if_pos h47]
      have er : ret2 (efSc c0.h l a b).res = .tuple #[.int .u32 ((efSc c0.h l a b).res.getD 0), .bool true] := by
        unfold ret2 efSc
        rw [if_pos ok]
        split <;> rfl
      rw [e, er]
      have S2 : Hid (Calls Tryd.prog 160 #[.pointer (some ⟨g, 0, none⟩), .int .u32 a, .int .u32 b] w fun e w' => e = .returned (.int .u32 ((efSc c0.h l a b).res.getD 0)) ∧ In w' base g (efSc c0.h l a b).h (efSc c0.h l a b).m os (ss ++ (efSc c0.h l a b).sto) ∧ Fr base w w') := SH.out ok
      have b47 : (op == 47) = true := by simp [h47]
      clear e er h46 h47 ok SH St Am
      generalize efSc c0.h l a b = E at *
      generalize E.res.getD 0 = Y at *
      generalize ldV l 13 a = X at *
      generalize l.length = n at *
      go_enter Tryd.func140, Tryd.ntmps140
      go_wp2_with fail
      refine L2.out.mono ?_
      rintro e w' ⟨rfl, rfl⟩
      clear L2
      go_wp2_with fail
      refine S2.out.mono ?_
      rintro e w2 ⟨rfl, I2, B2⟩
      have HI2 : Hid (In w2 base g E.h E.m os (ss ++ E.sto)) := I2
      have HB2 : Hid (Fr base w' w2) := B2
      clear I2 B2 S2 k1
      go_wp2_with fail
      go_ret2
      exact ⟨rfl, HI2.out, HB2.out⟩
    · have e : efAtom c0.h l op a b = ⟨c0.h, stL l 18 a (Wd.amo op (ldV l 13 a) b), [], [(a, 4)], some (ldV l 13 a)⟩ := by unfold efAtom efAmo; rw [if_neg h46, if_neg h47, if_pos ok]
      have e2 : efStore c0.h l 18 a (Wd.amo op (ldV l 13 a) b) = ⟨c0.h, stL l 18 a (Wd.amo op (ldV l 13 a) b), [], [(a, 4)], none⟩ := by unfold efStore; rw [if_pos (st_of_ld ok)]; rfl
      rw [e]
      rw [e2] at St
      have St2 : Hid (Calls Tryd.prog 138 #[.pointer (some ⟨g, 0, none⟩), .int .i64 18, .int .u32 a, .int .u32 (Wd.amo op (ldV l 13 a) b)] w fun e w' => e = .returned (.tuple #[]) ∧ In w' base g c0.h (stL l 18 a (Wd.amo op (ldV l 13 a) b)) os (ss ++ [(a, 4)]) ∧ Fr base w w') := St
      have b47 : (op == 47) = false := by simp [h47]
      clear e e2 h46 h47 ok SH St
      unfold ret2
      generalize stL l 18 a (Wd.amo op (ldV l 13 a) b) = K at *
      generalize Wd.amo op (ldV l 13 a) b = Y at *
      generalize ldV l 13 a = X at *
      generalize l.length = n at *
      go_enter Tryd.func140, Tryd.ntmps140
      go_wp2_with fail
      refine L2.out.mono ?_
      rintro e w' ⟨rfl, rfl⟩
      clear L2
      go_wp2_with fail
      refine Am.out.mono ?_
      rintro e w' ⟨rfl, rfl⟩
      clear Am
      go_wp2_with fail
      refine St2.out.mono ?_
      rintro e w2 ⟨rfl, I2, B2⟩
      have HI2 : Hid (In w2 base g c0.h K os (ss ++ [(a, 4)])) := I2
      have HB2 : Hid (Fr base w' w2) := B2
      clear I2 B2 St2 k1
      go_wp2_with fail
      go_ret2
      exact ⟨rfl, HI2.out, HB2.out⟩
end Go.Proofs.YtdiofidmlgliiaaDoor.Hc
/-
  What the method effect of package hart's core does, of every instruction.
-/
namespace Go.Proofs.YtdiofidmlgliiaaDoor.Hc
open Go.ChangeShapes Go.WideShapes Go.ChangeAt Go.RowKit Mm Hh
set_option linter.unusedVariables false
set_option linter.unusedSimpArgs false

variable {w : World} {base g : Nat} {h : Hv} {l : List UInt8} {os : List Int} {ss : List (Int × Int)}
theorem within_yes (n a b : Int) (w : World) (h : a ≤ n ∧ n ≤ b) : Calls Tryd.prog 101 #[.int .i64 n, .int .i64 a, .int .i64 b] w fun e w' => e = .returned (.bool true) ∧ w = w' := by
  have := within_any n a b w
  rw [show (decide (a ≤ n) && decide (n ≤ b)) = true by simp; omega] at this
  exact this.mono fun e w' h => ⟨h.1, h.2.symm⟩
theorem within_no (n a b : Int) (w : World) (h : ¬ (a ≤ n ∧ n ≤ b)) : Calls Tryd.prog 101 #[.int .i64 n, .int .i64 a, .int .i64 b] w fun e w' => e = .returned (.bool false) ∧ w = w' := by
  have := within_any n a b w
  rw [show (decide (a ≤ n) && decide (n ≤ b)) = false by simp; omega] at this
  exact this.mono fun e w' h => ⟨h.1, h.2.symm⟩
def opers : List Int := [0, 0, 0, 0, 0, 0, 0, 0, 0, 0, 0, 0, 0, 0, 0, 0, 0, 0, 0, 28, 31, 32, 33, 36, 37, 30, 34, 35]
theorem oper_cell (T : Tb w base) (op : Int) (h0 : 19 ≤ op) (h1 : op ≤ 27) : w.cell? ⟨5, op.toNat, none⟩ = some (.int .i64 (opn op)) := by
  have h : op = 19 ∨ op = 20 ∨ op = 21 ∨ op = 22 ∨ op = 23 ∨ op = 24 ∨ op = 25 ∨ op = 26 ∨ op = 27 := by omega
  rcases h with rfl | rfl | rfl | rfl | rfl | rfl | rfl | rfl | rfl
  · exact T.opers 19 _ rfl
  · exact T.opers 20 _ rfl
  · exact T.opers 21 _ rfl
  · exact T.opers 22 _ rfl
  · exact T.opers 23 _ rfl
  · exact T.opers 24 _ rfl
  · exact T.opers 25 _ rfl
  · exact T.opers 26 _ rfl
  · exact T.opers 27 _ rfl
set_option maxHeartbeats 1000000 in
theorem eff_1 (I : In w base g h l os ss) (T : Tb w base) (hl : l.length ≤ 140737488351232) (hss : ss.length ≤ 1000000) (hos : os.length ≤ 1000000) (op a b n : Int) (ha : W a) (hb : W b) (hn : W n) (ho : op = 1) :
    Calls Tryd.prog 122 #[.pointer (some ⟨g, 0, none⟩), .int .i64 op, .int .u32 a, .int .u32 b, .int .u32 n] w fun e w' => e = .returned (ret2 (⟨h, l, [], [], some n⟩ : Ev).res) ∧ In w' base g (⟨h, l, [], [], some n⟩ : Ev).h (⟨h, l, [], [], some n⟩ : Ev).m (os ++ (⟨h, l, [], [], some n⟩ : Ev).out) (ss ++ (⟨h, l, [], [], some n⟩ : Ev).sto) ∧ Fr base w w' := by
  have HI : Hid (In w base g h l (os ++ []) (ss ++ [])) := by unfold Hid; simpa using I
  subst ho
  clear I T
  go_enter Tryd.func122, Tryd.ntmps122
  go_wp2_with (go_at_call 101; first | (refine (within_yes _ _ _ _ (by omega)).mono ?_; rintro e w' ⟨rfl, rfl⟩) | (refine (within_no _ _ _ _ (by omega)).mono ?_; rintro e w' ⟨rfl, rfl⟩))
  unfold ret2
  go_ret2
  exact ⟨rfl, HI.out, Fr.refl _ _⟩

set_option maxHeartbeats 1000000 in
theorem eff_2 (I : In w base g h l os ss) (T : Tb w base) (hl : l.length ≤ 140737488351232) (hss : ss.length ≤ 1000000) (hos : os.length ≤ 1000000) (op a b n : Int) (ha : W a) (hb : W b) (hn : W n) (ho : op = 2) :
    Calls Tryd.prog 122 #[.pointer (some ⟨g, 0, none⟩), .int .i64 op, .int .u32 a, .int .u32 b, .int .u32 n] w fun e w' => e = .returned (ret2 (⟨h, l, [], [], some (Wd.lo (h.pc + n))⟩ : Ev).res) ∧ In w' base g (⟨h, l, [], [], some (Wd.lo (h.pc + n))⟩ : Ev).h (⟨h, l, [], [], some (Wd.lo (h.pc + n))⟩ : Ev).m (os ++ (⟨h, l, [], [], some (Wd.lo (h.pc + n))⟩ : Ev).out) (ss ++ (⟨h, l, [], [], some (Wd.lo (h.pc + n))⟩ : Ev).sto) ∧ Fr base w w' := by
  have HI : Hid (In w base g h l (os ++ []) (ss ++ [])) := by unfold Hid; simpa using I
  have HI0 : Hid _ := I
  obtain ⟨c0, rfl, J⟩ := HI0.out
  have k32 : w.cell? ⟨g, 32, none⟩ = some (.int .u32 c0.h.pc) := (J.hcell (by omega)).trans (hL_fld J.ok 0)
  have p0 := J.ok.pc0
  have p1 := J.ok.pc1
  clear HI0 J
  subst ho
  clear I T
  go_enter Tryd.func122, Tryd.ntmps122
  go_wp2_with (go_at_call 101; first | (refine (within_yes _ _ _ _ (by omega)).mono ?_; rintro e w' ⟨rfl, rfl⟩) | (refine (within_no _ _ _ _ (by omega)).mono ?_; rintro e w' ⟨rfl, rfl⟩))
  unfold ret2
  go_ret2
  exact ⟨rfl, HI.out, Fr.refl _ _⟩

set_option maxHeartbeats 1000000 in
theorem eff_3 (I : In w base g h l os ss) (T : Tb w base) (hl : l.length ≤ 140737488351232) (hss : ss.length ≤ 1000000) (hos : os.length ≤ 1000000) (op a b n : Int) (ha : W a) (hb : W b) (hn : W n) (ho : op = 3) :
    Calls Tryd.prog 122 #[.pointer (some ⟨g, 0, none⟩), .int .i64 op, .int .u32 a, .int .u32 b, .int .u32 n] w fun e w' => e = .returned (ret2 (⟨h, l, [], [], some (Wd.lo (h.pc + 4))⟩ : Ev).res) ∧ In w' base g (⟨h, l, [], [], some (Wd.lo (h.pc + 4))⟩ : Ev).h (⟨h, l, [], [], some (Wd.lo (h.pc + 4))⟩ : Ev).m (os ++ (⟨h, l, [], [], some (Wd.lo (h.pc + 4))⟩ : Ev).out) (ss ++ (⟨h, l, [], [], some (Wd.lo (h.pc + 4))⟩ : Ev).sto) ∧ Fr base w w' := by
  have HI : Hid (In w base g h l (os ++ []) (ss ++ [])) := by unfold Hid; simpa using I
  have HI0 : Hid _ := I
  obtain ⟨c0, rfl, J⟩ := HI0.out
  have k32 : w.cell? ⟨g, 32, none⟩ = some (.int .u32 c0.h.pc) := (J.hcell (by omega)).trans (hL_fld J.ok 0)
  have p0 := J.ok.pc0
  have p1 := J.ok.pc1
  clear HI0 J
  subst ho
  clear I T
  go_enter Tryd.func122, Tryd.ntmps122
  go_wp2_with (go_at_call 101; first | (refine (within_yes _ _ _ _ (by omega)).mono ?_; rintro e w' ⟨rfl, rfl⟩) | (refine (within_no _ _ _ _ (by omega)).mono ?_; rintro e w' ⟨rfl, rfl⟩))
  unfold ret2
  go_ret2
  exact ⟨rfl, HI.out, Fr.refl _ _⟩

set_option maxHeartbeats 1000000 in
theorem eff_4 (I : In w base g h l os ss) (T : Tb w base) (hl : l.length ≤ 140737488351232) (hss : ss.length ≤ 1000000) (hos : os.length ≤ 1000000) (op a b n : Int) (ha : W a) (hb : W b) (hn : W n) (ho : op = 4) :
    Calls Tryd.prog 122 #[.pointer (some ⟨g, 0, none⟩), .int .i64 op, .int .u32 a, .int .u32 b, .int .u32 n] w fun e w' => e = .returned (ret2 (⟨h, l, [], [], some (Wd.lo (h.pc + 4))⟩ : Ev).res) ∧ In w' base g (⟨h, l, [], [], some (Wd.lo (h.pc + 4))⟩ : Ev).h (⟨h, l, [], [], some (Wd.lo (h.pc + 4))⟩ : Ev).m (os ++ (⟨h, l, [], [], some (Wd.lo (h.pc + 4))⟩ : Ev).out) (ss ++ (⟨h, l, [], [], some (Wd.lo (h.pc + 4))⟩ : Ev).sto) ∧ Fr base w w' := by
  have HI : Hid (In w base g h l (os ++ []) (ss ++ [])) := by unfold Hid; simpa using I
  have HI0 : Hid _ := I
  obtain ⟨c0, rfl, J⟩ := HI0.out
  have k32 : w.cell? ⟨g, 32, none⟩ = some (.int .u32 c0.h.pc) := (J.hcell (by omega)).trans (hL_fld J.ok 0)
  have p0 := J.ok.pc0
  have p1 := J.ok.pc1
  clear HI0 J
  subst ho
  clear I T
  go_enter Tryd.func122, Tryd.ntmps122
  go_wp2_with (go_at_call 101; first | (refine (within_yes _ _ _ _ (by omega)).mono ?_; rintro e w' ⟨rfl, rfl⟩) | (refine (within_no _ _ _ _ (by omega)).mono ?_; rintro e w' ⟨rfl, rfl⟩))
  unfold ret2
  go_ret2
  exact ⟨rfl, HI.out, Fr.refl _ _⟩

set_option maxHeartbeats 1000000 in
theorem eff_none (I : In w base g h l os ss) (T : Tb w base) (hl : l.length ≤ 140737488351232) (hss : ss.length ≤ 1000000) (hos : os.length ≤ 1000000) (op a b n : Int) (ha : W a) (hb : W b) (hn : W n) (ho : op ≤ 0 ∨ 5 ≤ op ∧ op ≤ 10 ∨ op = 57 ∨ 60 ≤ op) :
    Calls Tryd.prog 122 #[.pointer (some ⟨g, 0, none⟩), .int .i64 op, .int .u32 a, .int .u32 b, .int .u32 n] w fun e w' => e = .returned (ret2 (⟨h, l, [], [], none⟩ : Ev).res) ∧ In w' base g (⟨h, l, [], [], none⟩ : Ev).h (⟨h, l, [], [], none⟩ : Ev).m (os ++ (⟨h, l, [], [], none⟩ : Ev).out) (ss ++ (⟨h, l, [], [], none⟩ : Ev).sto) ∧ Fr base w w' := by
  have HI : Hid (In w base g h l (os ++ []) (ss ++ [])) := by unfold Hid; simpa using I
  have b1 : (op == 1) = false := by simp; omega
  have b2 : (op == 2) = false := by simp; omega
  have b3 : (op == 3) = false := by simp; omega
  have b4 : (op == 4) = false := by simp; omega
  have b58 : (op == 58) = false := by simp; omega
  have b59 : (op == 59) = false := by simp; omega
  clear I T
  go_enter Tryd.func122, Tryd.ntmps122
  go_wp2_with (go_at_call 101; first | (refine (within_yes _ _ _ _ (by omega)).mono ?_; rintro e w' ⟨rfl, rfl⟩) | (refine (within_no _ _ _ _ (by omega)).mono ?_; rintro e w' ⟨rfl, rfl⟩))
  unfold ret2
  go_ret2
  exact ⟨rfl, HI.out, Fr.refl _ _⟩

set_option maxHeartbeats 1000000 in
theorem eff_load {w : World} {base g : Nat} {h : Hv} {l : List UInt8} {os : List Int} {ss : List (Int × Int)} (I : In w base g h l os ss) (T : Tb w base) (hl : l.length ≤ 140737488351232) (hss : ss.length ≤ 1000000) (hos : os.length ≤ 1000000) (op a b n : Int) (ha : W a) (hb : W b) (hn : W n) (ho : 11 ≤ op ∧ op ≤ 15) :
    Calls Tryd.prog 122 #[.pointer (some ⟨g, 0, none⟩), .int .i64 op, .int .u32 a, .int .u32 b, .int .u32 n] w fun e w' => e = .returned (ret2 (efLoad h l op (Wd.lo (a + n))).res) ∧ In w' base g (efLoad h l op (Wd.lo (a + n))).h (efLoad h l op (Wd.lo (a + n))).m (os ++ (efLoad h l op (Wd.lo (a + n))).out) (ss ++ (efLoad h l op (Wd.lo (a + n))).sto) ∧ Fr base w w' := by
  have HI : Hid (In w base g h l os ss) := I
  have L := Load_any I hl op (Wd.lo (a + n)) (Wd.lo_bd _).1 (Wd.lo_bd _).2
  have e : (efLoad h l op (Wd.lo (a + n))).res.getD 0 = ldV l op (Wd.lo (a + n)) ∧ (efLoad h l op (Wd.lo (a + n))).res.isSome = ldOk l op (Wd.lo (a + n)) ∧ (efLoad h l op (Wd.lo (a + n))).h = (if ldOk l op (Wd.lo (a + n)) = true then h else h.trap 3) ∧ (efLoad h l op (Wd.lo (a + n))).m = l ∧ (efLoad h l op (Wd.lo (a + n))).out = [] ∧ (efLoad h l op (Wd.lo (a + n))).sto = [] := by
    unfold efLoad
    cases ok : ldOk l op (Wd.lo (a + n)) with
    | false => refine ⟨?_, by simp, by simp, by simp, by simp, by simp⟩; unfold ldV; simp [ok]
    | true => simp
  obtain ⟨e1, e2, e3, e4, e5, e6⟩ := e
  unfold ret2
  rw [e1, e2, e3, e4, e5, e6, List.append_nil, List.append_nil]
  generalize ldV l op (Wd.lo (a + n)) = X at *
  generalize ldOk l op (Wd.lo (a + n)) = B at *
  generalize (if B = true then h else h.trap 3) = h' at *
  have L2 : Hid (Calls Tryd.prog 137 #[.pointer (some ⟨g, 0, none⟩), .int .i64 op, .int .u32 ((a + n) % 4294967296)] w fun e w' => e = .returned (.tuple #[.int .u32 X, .bool B]) ∧ In w' base g h' l os ss ∧ Ch g w w') := L
  clear L e1 e2 e3 e4 e5 e6 I T
  unfold W at ha hb hn
  have b1 : (op == 1) = false := by simp; omega
  have b2 : (op == 2) = false := by simp; omega
  have b3 : (op == 3) = false := by simp; omega
  have b4 : (op == 4) = false := by simp; omega
  have b58 : (op == 58) = false := by simp; omega
  have b59 : (op == 59) = false := by simp; omega
  go_enter Tryd.func122, Tryd.ntmps122
  go_wp2_with (go_at_call 101; first | (refine (within_yes _ _ _ _ (by omega)).mono ?_; rintro e w' ⟨rfl, rfl⟩) | (refine (within_no _ _ _ _ (by omega)).mono ?_; rintro e w' ⟨rfl, rfl⟩))
  refine L2.out.mono ?_
  rintro e w' ⟨rfl, I2, C2⟩
  have HI2 : Hid (In w' base g h' l os ss) := I2
  have HC2 : Hid (Ch g w w') := C2
  clear I2 C2 L2
  go_wp2_with fail
  go_ret2
  exact ⟨rfl, HI2.out, HI.out.below HC2.out⟩

set_option maxHeartbeats 1000000 in
theorem eff_store {w : World} {base g : Nat} {h : Hv} {l : List UInt8} {os : List Int} {ss : List (Int × Int)} (I : In w base g h l os ss) (T : Tb w base) (hl : l.length ≤ 140737488351232) (hss : ss.length ≤ 1000000) (hos : os.length ≤ 1000000) (op a b n : Int) (ha : W a) (hb : W b) (hn : W n) (ho : 16 ≤ op ∧ op ≤ 18) :
    Calls Tryd.prog 122 #[.pointer (some ⟨g, 0, none⟩), .int .i64 op, .int .u32 a, .int .u32 b, .int .u32 n] w fun e w' => e = .returned (ret2 (efStore h l op (Wd.lo (a + n)) b).res) ∧ In w' base g (efStore h l op (Wd.lo (a + n)) b).h (efStore h l op (Wd.lo (a + n)) b).m (os ++ (efStore h l op (Wd.lo (a + n)) b).out) (ss ++ (efStore h l op (Wd.lo (a + n)) b).sto) ∧ Fr base w w' := by
  have L := Store_any I T hl hss op (Wd.lo (a + n)) b (Wd.lo_bd _).1 (Wd.lo_bd _).2 hb.1 hb.2
  have e : (efStore h l op (Wd.lo (a + n)) b).res = none ∧ (efStore h l op (Wd.lo (a + n)) b).out = [] := by unfold efStore; split <;> exact ⟨rfl, rfl⟩
  unfold ret2
  rw [e.1, e.2, List.append_nil]
  generalize efStore h l op (Wd.lo (a + n)) b = E at *
  have L2 : Hid (Calls Tryd.prog 138 #[.pointer (some ⟨g, 0, none⟩), .int .i64 op, .int .u32 ((a + n) % 4294967296), .int .u32 b] w fun e w' => e = .returned (.tuple #[]) ∧ In w' base g E.h E.m os (ss ++ E.sto) ∧ Fr base w w') := L
  clear L e I T
  unfold W at ha hb hn
  have b1 : (op == 1) = false := by simp; omega
  have b2 : (op == 2) = false := by simp; omega
  have b3 : (op == 3) = false := by simp; omega
  have b4 : (op == 4) = false := by simp; omega
  have b58 : (op == 58) = false := by simp; omega
  have b59 : (op == 59) = false := by simp; omega
  go_enter Tryd.func122, Tryd.ntmps122
  go_wp2_with (go_at_call 101; first | (refine (within_yes _ _ _ _ (by omega)).mono ?_; rintro e w' ⟨rfl, rfl⟩) | (refine (within_no _ _ _ _ (by omega)).mono ?_; rintro e w' ⟨rfl, rfl⟩))
  refine L2.out.mono ?_
  rintro e w' ⟨rfl, I2, B2⟩
  have HI2 : Hid (In w' base g E.h E.m os (ss ++ E.sto)) := I2
  have HB2 : Hid (Fr base w w') := B2
  clear I2 B2 L2
  go_wp2_with fail
  go_ret2
  exact ⟨rfl, HI2.out, HB2.out⟩

set_option maxHeartbeats 1000000 in
theorem eff_alun (I : In w base g h l os ss) (T : Tb w base) (hl : l.length ≤ 140737488351232) (hss : ss.length ≤ 1000000) (hos : os.length ≤ 1000000) (op a b n : Int) (ha : W a) (hb : W b) (hn : W n) (ho : 19 ≤ op ∧ op ≤ 27) :
    Calls Tryd.prog 122 #[.pointer (some ⟨g, 0, none⟩), .int .i64 op, .int .u32 a, .int .u32 b, .int .u32 n] w fun e w' => e = .returned (ret2 (⟨h, l, [], [], some (Wd.alu (opn op) a n)⟩ : Ev).res) ∧ In w' base g (⟨h, l, [], [], some (Wd.alu (opn op) a n)⟩ : Ev).h (⟨h, l, [], [], some (Wd.alu (opn op) a n)⟩ : Ev).m (os ++ (⟨h, l, [], [], some (Wd.alu (opn op) a n)⟩ : Ev).out) (ss ++ (⟨h, l, [], [], some (Wd.alu (opn op) a n)⟩ : Ev).sto) ∧ Fr base w w' := by
  have HI : Hid (In w base g h l (os ++ []) (ss ++ [])) := by unfold Hid; simpa using I
  have kc := oper_cell T op ho.1 ho.2
  have A : Hid (Calls Tryd.prog 139 #[.int .i64 (opn op), .int .u32 a, .int .u32 n] w fun e w' => e = .returned (.int .u32 (Wd.alu (opn op) a n)) ∧ w' = w) := Ww.alu_any _ a n w ha.1 ha.2 hn.1 hn.2
  clear I T
  unfold W at ha hb hn
  have b1 : (op == 1) = false := by simp; omega
  have b2 : (op == 2) = false := by simp; omega
  have b3 : (op == 3) = false := by simp; omega
  have b4 : (op == 4) = false := by simp; omega
  have b58 : (op == 58) = false := by simp; omega
  have b59 : (op == 59) = false := by simp; omega
  unfold ret2
  generalize Wd.alu (opn op) a n = X at *
  go_enter Tryd.func122, Tryd.ntmps122
  go_wp2_with (go_at_call 101; first | (refine (within_yes _ _ _ _ (by omega)).mono ?_; rintro e w' ⟨rfl, rfl⟩) | (refine (within_no _ _ _ _ (by omega)).mono ?_; rintro e w' ⟨rfl, rfl⟩))
  refine A.out.mono ?_
  rintro e w9 ⟨rfl, hw9⟩
  obtain rfl := hw9.symm
  clear A
  go_wp2_with fail
  go_ret2
  exact ⟨rfl, HI.out, Fr.refl _ _⟩

set_option maxHeartbeats 1000000 in
theorem eff_alu (I : In w base g h l os ss) (T : Tb w base) (hl : l.length ≤ 140737488351232) (hss : ss.length ≤ 1000000) (hos : os.length ≤ 1000000) (op a b n : Int) (ha : W a) (hb : W b) (hn : W n) (ho : 28 ≤ op ∧ op ≤ 45) :
    Calls Tryd.prog 122 #[.pointer (some ⟨g, 0, none⟩), .int .i64 op, .int .u32 a, .int .u32 b, .int .u32 n] w fun e w' => e = .returned (ret2 (⟨h, l, [], [], some (Wd.alu op a b)⟩ : Ev).res) ∧ In w' base g (⟨h, l, [], [], some (Wd.alu op a b)⟩ : Ev).h (⟨h, l, [], [], some (Wd.alu op a b)⟩ : Ev).m (os ++ (⟨h, l, [], [], some (Wd.alu op a b)⟩ : Ev).out) (ss ++ (⟨h, l, [], [], some (Wd.alu op a b)⟩ : Ev).sto) ∧ Fr base w w' := by
  have HI : Hid (In w base g h l (os ++ []) (ss ++ [])) := by unfold Hid; simpa using I
  have A : Hid (Calls Tryd.prog 139 #[.int .i64 op, .int .u32 a, .int .u32 b] w fun e w' => e = .returned (.int .u32 (Wd.alu op a b)) ∧ w' = w) := Ww.alu_any _ a b w ha.1 ha.2 hb.1 hb.2
  clear I T
  unfold W at ha hb hn
  have b1 : (op == 1) = false := by simp; omega
  have b2 : (op == 2) = false := by simp; omega
  have b3 : (op == 3) = false := by simp; omega
  have b4 : (op == 4) = false := by simp; omega
  have b58 : (op == 58) = false := by simp; omega
  have b59 : (op == 59) = false := by simp; omega
  unfold ret2
  generalize Wd.alu op a b = X at *
  go_enter Tryd.func122, Tryd.ntmps122
  go_wp2_with (go_at_call 101; first | (refine (within_yes _ _ _ _ (by omega)).mono ?_; rintro e w' ⟨rfl, rfl⟩) | (refine (within_no _ _ _ _ (by omega)).mono ?_; rintro e w' ⟨rfl, rfl⟩))
  refine A.out.mono ?_
  rintro e w9 ⟨rfl, hw9⟩
  obtain rfl := hw9.symm
  clear A
  go_wp2_with fail
  go_ret2
  exact ⟨rfl, HI.out, Fr.refl _ _⟩

set_option maxHeartbeats 1000000 in
theorem eff_atom {w : World} {base g : Nat} {h : Hv} {l : List UInt8} {os : List Int} {ss : List (Int × Int)} (I : In w base g h l os ss) (T : Tb w base) (hl : l.length ≤ 140737488351232) (hss : ss.length ≤ 1000000) (hos : os.length ≤ 1000000) (op a b n : Int) (ha : W a) (hb : W b) (hn : W n) (ho : 46 ≤ op ∧ op ≤ 56) :
    Calls Tryd.prog 122 #[.pointer (some ⟨g, 0, none⟩), .int .i64 op, .int .u32 a, .int .u32 b, .int .u32 n] w fun e w' => e = .returned (ret2 (efAtom h l op a b).res) ∧ In w' base g (efAtom h l op a b).h (efAtom h l op a b).m (os ++ (efAtom h l op a b).out) (ss ++ (efAtom h l op a b).sto) ∧ Fr base w w' := by
  have L := Atom_any I T hl hss op a b ha.1 ha.2 hb.1 hb.2
  have e : (efAtom h l op a b).out = [] := by unfold efAtom efLr efSc efAmo; repeat' split
                                              all_goals rfl
  rw [e, List.append_nil]
  unfold ret2 at L ⊢
  generalize efAtom h l op a b = E at *
  have L2 : Hid (Calls Tryd.prog 140 #[.pointer (some ⟨g, 0, none⟩), .int .i64 op, .int .u32 a, .int .u32 b] w fun e w' => e = .returned (.tuple #[.int .u32 (E.res.getD 0), .bool E.res.isSome]) ∧ In w' base g E.h E.m os (ss ++ E.sto) ∧ Fr base w w') := L
  generalize E.res.getD 0 = X at *
  generalize E.res.isSome = Y at *
  clear L e I T
  unfold W at ha hb hn
  have b1 : (op == 1) = false := by simp; omega
  have b2 : (op == 2) = false := by simp; omega
  have b3 : (op == 3) = false := by simp; omega
  have b4 : (op == 4) = false := by simp; omega
  have b58 : (op == 58) = false := by simp; omega
  have b59 : (op == 59) = false := by simp; omega
  go_enter Tryd.func122, Tryd.ntmps122
  go_wp2_with (go_at_call 101; first | (refine (within_yes _ _ _ _ (by omega)).mono ?_; rintro e w' ⟨rfl, rfl⟩) | (refine (within_no _ _ _ _ (by omega)).mono ?_; rintro e w' ⟨rfl, rfl⟩))
  refine L2.out.mono ?_
  rintro e w' ⟨rfl, I2, B2⟩
  have HI2 : Hid (In w' base g E.h E.m os (ss ++ E.sto)) := I2
  have HB2 : Hid (Fr base w w') := B2
  clear I2 B2 L2
  go_wp2_with fail
  go_ret2
  exact ⟨rfl, HI2.out, HB2.out⟩

set_option maxHeartbeats 1000000 in
theorem eff_call {w : World} {base g : Nat} {h : Hv} {l : List UInt8} {os : List Int} {ss : List (Int × Int)} (I : In w base g h l os ss) (T : Tb w base) (hl : l.length ≤ 140737488351232) (hss : ss.length ≤ 1000000) (hos : os.length ≤ 1000000) (op a b n : Int) (ha : W a) (hb : W b) (hn : W n) (ho : op = 58) :
    Calls Tryd.prog 122 #[.pointer (some ⟨g, 0, none⟩), .int .i64 op, .int .u32 a, .int .u32 b, .int .u32 n] w fun e w' => e = .returned (ret2 (efCall h l).res) ∧ In w' base g (efCall h l).h (efCall h l).m (os ++ (efCall h l).out) (ss ++ (efCall h l).sto) ∧ Fr base w w' := by
  have L := Call_any I hos
  have e : (efCall h l).res = none ∧ (efCall h l).sto = [] ∧ (efCall h l).m = l := by unfold efCall; repeat' split
                                                                                      all_goals exact ⟨rfl, rfl, rfl⟩
  unfold ret2
  rw [e.1, e.2.1, e.2.2, List.append_nil]
  generalize efCall h l = E at *
  have L2 : Hid (Calls Tryd.prog 141 #[.pointer (some ⟨g, 0, none⟩)] w fun e w' => e = .returned (.tuple #[]) ∧ In w' base g E.h l (os ++ E.out) ss ∧ Fr base w w') := L
  clear L e I T
  subst ho
  unfold W at ha hb hn
  go_enter Tryd.func122, Tryd.ntmps122
  go_wp2_with (go_at_call 101; first | (refine (within_yes _ _ _ _ (by omega)).mono ?_; rintro e w' ⟨rfl, rfl⟩) | (refine (within_no _ _ _ _ (by omega)).mono ?_; rintro e w' ⟨rfl, rfl⟩))
  refine L2.out.mono ?_
  rintro e w' ⟨rfl, I2, B2⟩
  have HI2 : Hid (In w' base g E.h l (os ++ E.out) ss) := I2
  have HB2 : Hid (Fr base w w') := B2
  clear I2 B2 L2
  go_wp2_with fail
  go_ret2
  exact ⟨rfl, HI2.out, HB2.out⟩

set_option maxHeartbeats 1000000 in
theorem eff_break {w : World} {base g : Nat} {h : Hv} {l : List UInt8} {os : List Int} {ss : List (Int × Int)} (I : In w base g h l os ss) (T : Tb w base) (hl : l.length ≤ 140737488351232) (hss : ss.length ≤ 1000000) (hos : os.length ≤ 1000000) (op a b n : Int) (ha : W a) (hb : W b) (hn : W n) (ho : op = 59) :
    Calls Tryd.prog 122 #[.pointer (some ⟨g, 0, none⟩), .int .i64 op, .int .u32 a, .int .u32 b, .int .u32 n] w fun e w' => e = .returned (ret2 (⟨h.trap 6, l, [], [], none⟩ : Ev).res) ∧ In w' base g (⟨h.trap 6, l, [], [], none⟩ : Ev).h (⟨h.trap 6, l, [], [], none⟩ : Ev).m (os ++ (⟨h.trap 6, l, [], [], none⟩ : Ev).out) (ss ++ (⟨h.trap 6, l, [], [], none⟩ : Ev).sto) ∧ Fr base w w' := by
  have HI : Hid (In w base g h l os ss) := I
  have L2 : Hid (Calls Tryd.prog 104 #[.pointer (some ⟨g, 0, none⟩), .int .i64 6] w fun e w' => e = .returned (.tuple #[]) ∧ In w' base g (h.trap 6) l os ss ∧ Ch g w w') := trap_any I 6
  unfold ret2
  rw [List.append_nil, List.append_nil]
  clear I T
  subst ho
  unfold W at ha hb hn
  go_enter Tryd.func122, Tryd.ntmps122
  go_wp2_with (go_at_call 101; first | (refine (within_yes _ _ _ _ (by omega)).mono ?_; rintro e w' ⟨rfl, rfl⟩) | (refine (within_no _ _ _ _ (by omega)).mono ?_; rintro e w' ⟨rfl, rfl⟩))
  refine L2.out.mono ?_
  rintro e w' ⟨rfl, I2, B2⟩
  have HI2 : Hid (In w' base g (h.trap 6) l os ss) := I2
  have HB2 : Hid (Ch g w w') := B2
  clear I2 B2 L2
  go_wp2_with fail
  go_ret2
  exact ⟨rfl, HI2.out, HI.out.below HB2.out⟩

theorem effect_any (I : In w base g h l os ss) (T : Tb w base) (hl : l.length ≤ 140737488351232) (hss : ss.length ≤ 1000000) (hos : os.length ≤ 1000000) (op a b n : Int) (ha : W a) (hb : W b) (hn : W n) :
    Calls Tryd.prog 122 #[.pointer (some ⟨g, 0, none⟩), .int .i64 op, .int .u32 a, .int .u32 b, .int .u32 n] w fun e w' => e = .returned (ret2 (eff h l op a b n).res) ∧ In w' base g (eff h l op a b n).h (eff h l op a b n).m (os ++ (eff h l op a b n).out) (ss ++ (eff h l op a b n).sto) ∧ Fr base w w' := by
  unfold eff
  by_cases h1 : op = 1
  · rw [if_pos h1]; exact eff_1 I T hl hss hos op a b n ha hb hn h1
  rw [if_neg h1]
  by_cases h2 : op = 2
  · rw [if_pos h2]; exact eff_2 I T hl hss hos op a b n ha hb hn h2
  rw [if_neg h2]
  by_cases h3 : op = 3
  · rw [if_pos (.inl h3)]; exact eff_3 I T hl hss hos op a b n ha hb hn h3
  by_cases h4 : op = 4
  · rw [if_pos (.inr h4)]; exact eff_4 I T hl hss hos op a b n ha hb hn h4
  rw [if_neg (by omega)]
  by_cases h5 : 11 ≤ op ∧ op ≤ 15
  · rw [if_pos h5]; exact eff_load I T hl hss hos op a b n ha hb hn h5
  rw [if_neg h5]
  by_cases h6 : 16 ≤ op ∧ op ≤ 18
  · rw [if_pos h6]; exact eff_store I T hl hss hos op a b n ha hb hn h6
  rw [if_neg h6]
  by_cases h7 : 19 ≤ op ∧ op ≤ 27
  · rw [if_pos h7]; exact eff_alun I T hl hss hos op a b n ha hb hn h7
  rw [if_neg h7]
  by_cases h8 : 28 ≤ op ∧ op ≤ 45
  · rw [if_pos h8]; exact eff_alu I T hl hss hos op a b n ha hb hn h8
  rw [if_neg h8]
  by_cases h9 : 46 ≤ op ∧ op ≤ 56
  · rw [if_pos h9]; exact eff_atom I T hl hss hos op a b n ha hb hn h9
  rw [if_neg h9]
  by_cases h10 : op = 58
  · rw [if_pos h10]; exact eff_call I T hl hss hos op a b n ha hb hn h10
  rw [if_neg h10]
  by_cases h11 : op = 59
  · rw [if_pos h11]; exact eff_break I T hl hss hos op a b n ha hb hn h11
  rw [if_neg h11]
  exact eff_none I T hl hss hos op a b n ha hb hn (by omega)
end Go.Proofs.YtdiofidmlgliiaaDoor.Hc
/-
  What the methods do and Step of package hart's core do, of every instruction and every word.
-/
namespace Go.Proofs.YtdiofidmlgliiaaDoor.Hc
open Go.ChangeShapes Go.WideShapes Go.ChangeAt Go.RowKit Mm Hh
set_option linter.unusedVariables false
set_option linter.unusedSimpArgs false

set_option maxHeartbeats 1000000 in
theorem do_any {w : World} {base g : Nat} {h : Hv} {l : List UInt8} {os : List Int} {ss : List (Int × Int)} (I : In w base g h l os ss) (T : Tb w base) (hl : l.length ≤ 140737488351232) (hss : ss.length ≤ 1000000) (hos : os.length ≤ 1000000) (op rd r1 r2 im : Int) (d0 : 0 ≤ rd) (d1 : rd < 32) (s0 : 0 ≤ r1) (s1 : r1 < 32) (t0 : 0 ≤ r2) (t1 : r2 < 32) (i0 : -2147483648 ≤ im) (i1 : im ≤ 2147483647) :
    Calls Tryd.prog 105 #[.pointer (some ⟨g, 0, none⟩), .agg #[.int .i64 op, .int .i64 rd, .int .i64 r1, .int .i64 r2, .int .i32 im]] w fun e w' => e = .returned (.tuple #[]) ∧ In w' base g (ins h l op rd r1 r2 im).h (ins h l op rd r1 r2 im).m (os ++ (ins h l op rd r1 r2 im).out) (ss ++ (ins h l op rd r1 r2 im).sto) ∧ Fr base w w' := by
  obtain ⟨r1, rfl⟩ := Int.eq_ofNat_of_zero_le s0
  obtain ⟨r2, rfl⟩ := Int.eq_ofNat_of_zero_le t0
  have HI : Hid (In w base g h l os ss) := I
  have HT : Hid (Tb w base) := T
  obtain ⟨c0, rfl, J⟩ := I
  have hr1 : r1 < 32 := by omega
  have hr2 : r2 < 32 := by omega
  have k1 := J.reg hr1
  have k2 := J.reg hr2
  have hg := J.lt
  have hbl : base ≤ w.heap.size := J.base_le
  have wa := W.reg J.ok r1
  have wb := W.reg J.ok r2
  have wn : W (im % 4294967296) := W.lo im
  have HE : Hid (ins c0.h l op rd (r1 : Int) (r2 : Int) im = done (eff c0.h l op (rg c0.h r1) (rg c0.h r2) (im % 4294967296)) rd.toNat (nxt c0.h op (rg c0.h r1) (rg c0.h r2) (im % 4294967296))) := rfl
  have ok : Hid ((eff c0.h l op (rg c0.h r1) (rg c0.h r2) (im % 4294967296)).Ok l) := eff_ok J.ok l wa wb wn
  have hx : Hid (W (nxt c0.h op (rg c0.h r1) (rg c0.h r2) (im % 4294967296))) := .nxt
  have N : Hid (∀ W1, In W1 base g c0.h l os ss → Calls Tryd.prog 121 #[.pointer (some ⟨g, 0, none⟩), .int .i64 op, .int .u32 (rg c0.h r1), .int .u32 (rg c0.h r2), .int .u32 (im % 4294967296)] W1 fun e w' => e = .returned (.int .u32 (nxt c0.h op (rg c0.h r1) (rg c0.h r2) (im % 4294967296))) ∧ Gr W1 w') := fun W1 I1 => (next_any I1 op _ _ _ wa.1 wa.2 wb.1 wb.2 wn.1 wn.2).mono fun e w' h => ⟨h.1, by rw [h.2]; exact Gr.refl _⟩
  have E : Hid (∀ W1, In W1 base g c0.h l os ss → Tb W1 base → Calls Tryd.prog 122 #[.pointer (some ⟨g, 0, none⟩), .int .i64 op, .int .u32 (rg c0.h r1), .int .u32 (rg c0.h r2), .int .u32 (im % 4294967296)] W1 fun e w' => e = .returned (ret2 (eff c0.h l op (rg c0.h r1) (rg c0.h r2) (im % 4294967296)).res) ∧ In w' base g (eff c0.h l op (rg c0.h r1) (rg c0.h r2) (im % 4294967296)).h (eff c0.h l op (rg c0.h r1) (rg c0.h r2) (im % 4294967296)).m (os ++ (eff c0.h l op (rg c0.h r1) (rg c0.h r2) (im % 4294967296)).out) (ss ++ (eff c0.h l op (rg c0.h r1) (rg c0.h r2) (im % 4294967296)).sto) ∧ Fr base W1 w') := fun W1 I1 T1 => effect_any I1 T1 hl hss hos op _ _ _ wa wb wn
  rw [HE.out]
  generalize eff c0.h l op (rg c0.h r1) (rg c0.h r2) (im % 4294967296) = Z at *
  generalize nxt c0.h op (rg c0.h r1) (rg c0.h r2) (im % 4294967296) = X at *
  generalize rg c0.h r1 = xa at *
  generalize rg c0.h r2 = xb at *
  generalize c0.h = h0 at *
  clear J HE wa wb wn T
  unfold done ret2 at *
  simp only at *
  have hw0 : Hid (W (Z.res.getD 0)) := ok.out.res
  clear ok
  generalize Z.res = rr at *
  cases rr with
  | none =>
    have e0 : Z.h.put rd.toNat none = Z.h := rfl
    rw [e0]
    clear e0
    generalize Z.h = HH at *
    go_enter Tryd.func105, Tryd.ntmps105
    go_wp2_with fail
    go_quiet (fail)
    go_wp2_with fail
    refine (N.out _ (HI.out.of (((Gr.refl _).alloc _).drewN _))).mono ?_
    rintro e w1 ⟨rfl, G0⟩
    have G1 : Gr w w1 := (((Gr.refl _).alloc _).drewN _).trans G0
    have HB1 : Hid (w1.heap[w.heap.size]? = some (.cells #[.int .i64 op, .int .i64 rd, .int .i64 r1, .int .i64 r2, .int .i32 im] 23 (0, 0))) := (G0.block _ (by simp)).trans (heap_alloc_new w _)
    have HI1 : Hid (In w1 base g h0 l os ss) := HI.out.of G1
    have HF1 : Hid (Fr base w w1) := .ofGr G1 hbl
    have HT1 : Hid (Tb w1 base) := HT.out.of HF1.out
    have q0 : w1.cell? ⟨w.heap.size, 0, none⟩ = some (.int .i64 op) := cell_of_row _ _ _ _ _ _ HB1.out
    clear G0 G1 N k1 k2 hg
    go_wp2_with fail
    refine (E.out _ HI1.out HT1.out).mono ?_
    rintro e w2 ⟨rfl, I2, F2⟩
    have HB2 : Hid (w2.heap[w.heap.size]? = some (.cells #[.int .i64 op, .int .i64 rd, .int .i64 r1, .int .i64 r2, .int .i32 im] 23 (0, 0))) := (F2.keep _ _ _ _ HB1.out (by decide) (by decide) (by decide)).trans HB1.out
    have q1 : w2.cell? ⟨w.heap.size, 1, none⟩ = some (.int .i64 rd) := cell_of_row _ _ _ _ _ _ HB2.out
    have HI2 : Hid (In w2 base g HH Z.m (os ++ Z.out) (ss ++ Z.sto)) := I2
    have HF2 : Hid (Fr base w w2) := HF1.out.trans F2
    clear I2 F2 E HB1 HB2 HI1 HF1 HT1 HT HI q0
    generalize hw : w2 = w3 at *
    have HI3 : Hid (In w3 base g HH Z.m (os ++ Z.out) (ss ++ Z.sto)) := HI2
    have HF3 : Hid (Fr base w w3) := HF2
    clear hw HI2 HF2 q1
    obtain ⟨c1, hc1, J1⟩ := HI3.out
    have k35 : w3.cell? ⟨g, 35, none⟩ = some (.int .i64 HH.state) := (J1.hcell (by omega)).trans (by rw [← hc1]; exact hL_fld J1.ok 3)
    have k32 : w3.cell? ⟨g, 32, none⟩ = some (.int .u32 HH.pc) := (J1.hcell (by omega)).trans (by rw [← hc1]; exact hL_fld J1.ok 0)
    have fz := J1.fz
    have HP : Hid (In (w3.setCell ⟨g, 32, none⟩ (.int .u32 X)) base g (HH.go X) Z.m (os ++ Z.out) (ss ++ Z.sto)) := by
      have := (J1.set (by omega) (set_pc J1.ok X) (J1.ok.go hx.out.1 hx.out.2)).inn
      rw [← hc1]
      exact this
    have HQ : Hid (Fr base w (w3.setCell ⟨g, 32, none⟩ (.int .u32 X))) := HF3.out.trans (HI3.out.below ((Ch.refl g w3).setCell _ _))
    clear J1 hc1
    by_cases h0 : HH.state = 0
    · have e1 : Hid (HH.on X = HH.go X) := by unfold Hid Hv.on; rw [if_pos h0]
      rw [h0] at k35
      clear h0
      generalize HH.pc = pc at *
      go_wp2_with fail
      go_end0
      exact ⟨rfl, by rw [e1.out]; exact HP.out, HQ.out⟩
    · have e1 : Hid (HH.on X = HH) := by unfold Hid Hv.on; rw [if_neg h0]
      have b0 : (HH.state == 0) = false := by simp [h0]
      clear h0
      generalize HH.state = st at *
      generalize HH.pc = pc at *
      go_wp2_with fail
      go_end0
      exact ⟨rfl, by rw [e1.out]; exact HI3.out, HF3.out⟩
  | some x =>
    have e0 : Z.h.put rd.toNat (some x) = Z.h.set rd.toNat x := rfl
    rw [e0]
    clear e0
    have S : Hid (∀ w2, In w2 base g Z.h Z.m (os ++ Z.out) (ss ++ Z.sto) → Calls Tryd.prog 123 #[.pointer (some ⟨g, 0, none⟩), .int .i64 rd, .int .u32 x] w2 fun e w' => e = .returned (.tuple #[]) ∧ In w' base g (Z.h.set rd.toNat x) Z.m (os ++ Z.out) (ss ++ Z.sto) ∧ Ch g w2 w') := fun w2 I2 => set_any I2 rd x d0 d1 hw0.out.1 hw0.out.2
    generalize Z.h.set rd.toNat x = HH at *
    simp only [Option.getD_some, Option.isSome_some] at E
    go_enter Tryd.func105, Tryd.ntmps105
    go_wp2_with fail
    go_quiet (fail)
    go_wp2_with fail
    refine (N.out _ (HI.out.of (((Gr.refl _).alloc _).drewN _))).mono ?_
    rintro e w1 ⟨rfl, G0⟩
    have G1 : Gr w w1 := (((Gr.refl _).alloc _).drewN _).trans G0
    have HB1 : Hid (w1.heap[w.heap.size]? = some (.cells #[.int .i64 op, .int .i64 rd, .int .i64 r1, .int .i64 r2, .int .i32 im] 23 (0, 0))) := (G0.block _ (by simp)).trans (heap_alloc_new w _)
    have HI1 : Hid (In w1 base g h0 l os ss) := HI.out.of G1
    have HF1 : Hid (Fr base w w1) := .ofGr G1 hbl
    have HT1 : Hid (Tb w1 base) := HT.out.of HF1.out
    have q0 : w1.cell? ⟨w.heap.size, 0, none⟩ = some (.int .i64 op) := cell_of_row _ _ _ _ _ _ HB1.out
    clear G0 G1 N k1 k2 hg
    go_wp2_with fail
    refine (E.out _ HI1.out HT1.out).mono ?_
    rintro e w2 ⟨rfl, I2, F2⟩
    have HB2 : Hid (w2.heap[w.heap.size]? = some (.cells #[.int .i64 op, .int .i64 rd, .int .i64 r1, .int .i64 r2, .int .i32 im] 23 (0, 0))) := (F2.keep _ _ _ _ HB1.out (by decide) (by decide) (by decide)).trans HB1.out
    have q1 : w2.cell? ⟨w.heap.size, 1, none⟩ = some (.int .i64 rd) := cell_of_row _ _ _ _ _ _ HB2.out
    have HI2 : Hid (In w2 base g Z.h Z.m (os ++ Z.out) (ss ++ Z.sto)) := I2
    have HF2 : Hid (Fr base w w2) := HF1.out.trans F2
    clear I2 F2 E HB1 HB2 HI1 HF1 HT1 HT HI q0
    go_wp2_with fail
    refine (S.out _ HI2.out).mono ?_
    rintro e w3 ⟨rfl, I3, C3⟩
    have HI3 : Hid (In w3 base g HH Z.m (os ++ Z.out) (ss ++ Z.sto)) := I3
    have HF3 : Hid (Fr base w w3) := HF2.out.trans (HI2.out.below C3)
    clear I3 C3 S HI2 HF2 q1
    obtain ⟨c1, hc1, J1⟩ := HI3.out
    have k35 : w3.cell? ⟨g, 35, none⟩ = some (.int .i64 HH.state) := (J1.hcell (by omega)).trans (by rw [← hc1]; exact hL_fld J1.ok 3)
    have k32 : w3.cell? ⟨g, 32, none⟩ = some (.int .u32 HH.pc) := (J1.hcell (by omega)).trans (by rw [← hc1]; exact hL_fld J1.ok 0)
    have fz := J1.fz
    have HP : Hid (In (w3.setCell ⟨g, 32, none⟩ (.int .u32 X)) base g (HH.go X) Z.m (os ++ Z.out) (ss ++ Z.sto)) := by
      have := (J1.set (by omega) (set_pc J1.ok X) (J1.ok.go hx.out.1 hx.out.2)).inn
      rw [← hc1]
      exact this
    have HQ : Hid (Fr base w (w3.setCell ⟨g, 32, none⟩ (.int .u32 X))) := HF3.out.trans (HI3.out.below ((Ch.refl g w3).setCell _ _))
    clear J1 hc1
    by_cases h0 : HH.state = 0
    · have e1 : Hid (HH.on X = HH.go X) := by unfold Hid Hv.on; rw [if_pos h0]
      rw [h0] at k35
      clear h0
      generalize HH.pc = pc at *
      go_wp2_with fail
      go_end0
      exact ⟨rfl, by rw [e1.out]; exact HP.out, HQ.out⟩
    · have e1 : Hid (HH.on X = HH) := by unfold Hid Hv.on; rw [if_neg h0]
      have b0 : (HH.state == 0) = false := by simp [h0]
      clear h0
      generalize HH.state = st at *
      generalize HH.pc = pc at *
      go_wp2_with fail
      go_end0
      exact ⟨rfl, by rw [e1.out]; exact HI3.out, HF3.out⟩
end Go.Proofs.YtdiofidmlgliiaaDoor.Hc
/-
  A block as plain data: the words of its instructions ('blk').
-/
namespace Go.Proofs.YtdiofidmlgliiaaDoor.Bk
open Mm Hh
set_option linter.unusedVariables false

variable {l : List UInt8} {pc : Int} {n k : Nat}
/-- Why no instruction stands at pc: 1, no word; 2, none is; 0: one stands there. -/
def ftC (l : List UInt8) (pc : Int) : Int := if ldOk l 13 pc = true then (if Dc.dop (ldV l 13 pc) = 0 then 2 else 0) else 1
/-- Does a block end with it? -/
def lastOp (op : Int) : Bool := decide ((3 ≤ op ∧ op ≤ 10) ∨ op = 58 ∨ op = 59)
/-- The place of the k-th instruction. -/
def at4 (pc : Int) (k : Nat) : Int := Wd.lo (pc + 4 * k)
/-- The words of at most n instructions, from the k-th one on. -/
def blk (l : List UInt8) (pc : Int) : Nat → Nat → List Int
  | 0, _ => []
  | n + 1, k => if ftC l (at4 pc k) = 0 then ldV l 13 (at4 pc k) :: (if lastOp (Dc.dop (ldV l 13 (at4 pc k))) = true then [] else blk l pc n (k + 1)) else []
theorem at4_bd (pc : Int) (k : Nat) : 0 ≤ at4 pc k ∧ at4 pc k < 4294967296 := by unfold at4 Wd.lo; omega
theorem blk_stop (h : ¬ ftC l (at4 pc k) = 0) : blk l pc (n + 1) k = [] := by unfold blk; rw [if_neg h]
theorem blk_last (h : ftC l (at4 pc k) = 0) (hl : lastOp (Dc.dop (ldV l 13 (at4 pc k))) = true) : blk l pc (n + 1) k = [ldV l 13 (at4 pc k)] := by unfold blk; rw [if_pos h, if_pos hl]
theorem blk_on (h : ftC l (at4 pc k) = 0) (hl : lastOp (Dc.dop (ldV l 13 (at4 pc k))) = false) : blk l pc (n + 1) k = ldV l 13 (at4 pc k) :: blk l pc n (k + 1) := by
  rw [blk, if_pos h, if_neg (by simp [hl])]
theorem blk_zero (l : List UInt8) (pc : Int) (k : Nat) : blk l pc (16 - 16) k = [] := rfl
theorem ldV_no (h : ldOk l 13 pc = false) : ldV l 13 pc = 0 := by unfold ldV; rw [h]; rfl
theorem dop0 : Dc.dop 0 = 0 := by decide
end Go.Proofs.YtdiofidmlgliiaaDoor.Bk
/-
  A block as cells of memory ('blC').
-/
namespace Go.Proofs.YtdiofidmlgliiaaDoor.Bk
open Go.ChangeShapes Go.WideShapes Go.ChangeAt Go.RowKit Mm Hh
set_option linter.unusedVariables false

/-- An instruction's cells. -/
def insC (x : Int) : List Value := [.int .i64 (Dc.dop x), .int .i64 (Dc.rdF (Dc.frm (Dc.dop x)) x), .int .i64 (Dc.rs1F (Dc.frm (Dc.dop x)) x), .int .i64 (Dc.rs2F (Dc.frm (Dc.dop x)) x), .int .i32 (Dc.immF (Dc.frm (Dc.dop x)) x)]
theorem decV_insC (x : Int) : Dw.decV x = .agg (insC x).toArray := rfl
def blC (xs : List Int) : List Value := xs.flatMap insC
theorem blC_snoc (xs : List Int) (x : Int) : blC (xs ++ [x]) = blC xs ++ insC x := by simp [blC]
theorem blC_len (xs : List Int) : (blC xs).length = xs.length * 5 := by
  induction xs with
  | nil => rfl
  | cons p r ih => simp only [blC, List.flatMap_cons, List.length_append, List.length_cons] at ih ⊢; rw [ih]; simp [insC]; omega
theorem blC_get : ∀ (xs : List Int) (i j : Nat) (x : Int), xs[i]? = some x → j < 5 → (blC xs)[i * 5 + j]? = (insC x)[j]?
  | [], i, j, x, h, _ => by simp at h
  | p :: r, 0, j, x, h, hj => by
    simp at h; subst h
    show (insC p ++ blC r)[0 * 5 + j]? = _
    rw [Nat.zero_mul, Nat.zero_add, List.getElem?_append_left (by simpa [insC] using hj)]
  | p :: r, i + 1, j, x, h, hj => by
    have ih := blC_get r i j x (by simpa using h) hj
    show (insC p ++ blC r)[(i + 1) * 5 + j]? = _
    rw [List.getElem?_append_right (by simp [insC]; omega)]
    rw [show (i + 1) * 5 + j - (insC p).length = i * 5 + j by simp [insC]; omega]
    exact ih
theorem insC_one (x : Int) : ∀ u ∈ insC x, u.oneCell' = true := by
  intro u hu
  simp only [insC, List.mem_cons, List.not_mem_nil, or_false] at hu
  rcases hu with rfl | rfl | rfl | rfl | rfl <;> rfl
end Go.Proofs.YtdiofidmlgliiaaDoor.Bk
