/-
  Ref4b, Hm7, Ir, Ir2, Ir3, Ia, Ib: texts of ours that lie in one file.
-/
import Derived.Test.YthgnfmbnbndeeacG05
import Derived.Test.YthgnfmbnbndeeacG03
import Derived.Test.YthgnfmbnbndeeacG04
import Derived.Laws.OwnMore
import Derived.Test.YthgnfmbnbndeeacG02
import Derived.Deep.RegionHeld3
import Derived.Great.BuildSlice
/-
  What ferrybridgeref4.store returns: the struct with the memory stored in, or as it was; and nothing old in memory turns.
-/
namespace Go.Proofs.Ythgnfmbnbndeeac.Hr
open Go.ChangeShapes Go.WideShapes Go.ChangeAt Go.RowKit Mm Hh
set_option linter.unusedVariables false
set_option linter.unusedSimpArgs false

variable {d : Dv} {w w' : World} {ao : Option Addr} {n cap : Nat} {l : List UInt8}
theorem dA_setM (o : d.Ok) (m : Value) (a k : Int) : (((dA d).setIfInBounds 37 m).setIfInBounds 39 (.int .u32 a)).setIfInBounds 40 (.int .i64 k) = dA (d.setM m a k) := by
  have := hL_len o.h
  unfold dA Dv.setM
  simp only [List.setIfInBounds_toArray]
  rw [List.set_append_right _ _ (by omega), List.set_append_right _ _ (by omega), List.set_append_right _ _ (by omega), this]
  rfl
theorem results_cell_tmp' {P : Program} {fn : Func} {p t : Tmp} {ty : TypeId} (h : fn.results = #[.cell p ty, .tmp t]) (tmps : Array Value) (w : World) (g : Nat) (tt : TypeId) (cs : Array Value) (fr : Nat × Nat) (d : TypeDesc)
    (v : Value) (hp : tmps.getD p undef = .pointer (some ⟨g, 0, none⟩)) (hv : tmps.getD t undef = v) (hg : w.heap[g]? = some (.cells cs tt fr))
    (hu : P.underlying ty = some d) (hd : (match d with | .struct _ | .array _ _ => true | _ => false) = true) (hi : (P.info? ty).map (·.size) = some cs.size) :
    (results fn tmps).run P w = .ok (.tuple #[.agg cs, v]) w := by
  subst hv
  have hp' : tmps[p]?.getD undef = .pointer (some ⟨g, 0, none⟩) := by simpa using hp
  simp [results, h, hp', asAddr, run_loadVar_row w g tt ty cs fr d hg hu hd hi]
theorem heap_of_gr (g : Gr w w') {k : Nat} {x : Obj} (h : w.heap[k]? = some x) : w'.heap[k]? = some x := by
  rw [Below.block g k (gs h).1]; exact h
/-- Two blocks made one behind the other, in every later world. -/
theorem two_blocks {A : Array Value} {t : Nat} {Z : Array Value} (g : Gr ((w.alloc (.cells A t)).alloc (.cells Z t)) w') (hz : Z.size = 41) :
    w'.heap[w.heap.size]? = some (.cells A t (0, 0)) ∧ ∃ Z : Array Value, Z.size = 41 ∧ w'.heap[w.heap.size + 1]? = some (.cells Z t (0, 0)) :=
  ⟨heap_of_gr g (heap_alloc2_old w _ _), Z, hz, heap_of_gr g (heap_alloc2_new w _ _)⟩

set_option maxHeartbeats 1000000 in
theorem store_no (o : d.Ok) (hm : d.m = .slice ao n cap) (op a x : Int) (M : Mem w ao n l) (hn : n ≤ 140737488351232) (h0 : 0 ≤ a) (h1 : a < 4294967296) (hx0 : 0 ≤ x) (hx1 : x < 4294967296) (ok : stOk l op a = false) :
    Calls Try.prog 51 #[.agg (dA d), .int .i64 op, .int .u32 a, .int .u32 x] w fun e w' => e = .returned (.tuple #[.agg (dA d), .bool false]) ∧ Gr w w' := by
  have S : Hid (∀ W : World, Gr w W → Calls Try.prog 63 #[.slice ao n cap, .int .i64 op, .int .u32 a, .int .u32 x] W fun e w' => ∃ ao' n' cap', e = .returned (.tuple #[.slice ao' n' cap', .bool false]) ∧ Mem w' ao' n' (stL l op a x) ∧ Gr W w') := fun W G => by
    have := Mr.Store_any cap op a x (M.of G) hn h0 h1 hx0 hx1
    rwa [ok] at this
  have g37 : (dA d)[37]? = some (.slice ao n cap) := by rw [dA_fld o.h 0]; simp [hm]
  have hs : Hid ((dA d).size = 41) := dA_size o.h
  have H1 : Hid ((dA d).all (·.oneCell') = true) := one_dA o
  generalize dA d = D0 at *
  clear M hm ok o
  go_enter Try.func51, Try.ntmps51
  go_wp2_with fail
  refine (S.out _ (((Gr.refl _).alloc _).alloc _)).mono ?_
  rintro e w1 ⟨a1, n1, c1, rfl, M1, G1⟩
  obtain ⟨hB, Z, hz, hR⟩ := two_blocks G1 rfl
  have HG : Hid (Gr w w1) := (((Gr.refl _).alloc _).alloc _).trans G1
  have HB : Hid _ := hB
  have HR : Hid _ := hR
  clear M1 G1 S hB hR
  go_wp2_with (first
    | (refine wpList_load_row rfl 81 _ rfl _ rfl _ _ _ _ HB.out Try.underlying81 rfl (by rw [hs.out]; exact iD) ?_)
    | (refine wpList_store_row rfl 81 _ _ rfl _ _ rfl rfl _ _ HR.out (by rw [hs.out]; exact iD) (by rw [hs.out, hz]) H1.out ?_))
  refine bodyPost_ret (v := .tuple #[.agg D0, .bool false]) (results_cell_tmp' Try.results51 _ _ _ _ _ (0, 0) _ _ rfl rfl (srh HR.out) Try.underlying81 rfl (by rw [hs.out]; exact iD)) rfl ⟨rfl, ?_⟩
  exact gr_setRow HG.out (Nat.le_succ _) _

set_option maxHeartbeats 1000000 in
theorem store_yes {d : Dv} (o : d.Ok) {ao : Option Addr} {n cap : Nat} {l : List UInt8} (hm : d.m = .slice ao n cap) (op a x : Int) {w : World} (M : Mem w ao n l) (hn : n ≤ 140737488351232) (h0 : 0 ≤ a) (h1 : a < 4294967296) (hx0 : 0 ≤ x) (hx1 : x < 4294967296) (ok : stOk l op a = true) :
    Calls Try.prog 51 #[.agg (dA d), .int .i64 op, .int .u32 a, .int .u32 x] w fun e w' => ∃ ao' n' cap', e = .returned (.tuple #[.agg (dA (d.setM (.slice ao' n' cap') a (ssz op : Nat))), .bool true]) ∧ Mem w' ao' n' (stL l op a x) ∧ Gr w w' ∧ ∀ ad, ao' = some ad → w.heap.size ≤ ad.block ∧ n' ≤ cap' := by
  have S : Hid (∀ W : World, Gr w W → Calls Try.prog 63 #[.slice ao n cap, .int .i64 op, .int .u32 a, .int .u32 x] W fun e w' => ∃ ao' n' cap', e = .returned (.tuple #[.slice ao' n' cap', .bool true]) ∧ Mem w' ao' n' (stL l op a x) ∧ Gr W w' ∧ ∀ ad, ao' = some ad → W.heap.size ≤ ad.block ∧ n' ≤ cap') := fun W G => by
    have := Mr.Store_new cap op a x (M.of G) hn h0 h1 hx0 hx1
    rwa [ok] at this
  have g37 : (dA d)[37]? = some (.slice ao n cap) := by rw [dA_fld o.h 0]; simp [hm]
  have g39 : (dA d)[39]? = some (.int .u32 d.fro) := by rw [dA_fld o.h 2]; rfl
  have g40 : (dA d)[40]? = some (.int .i64 d.many) := by rw [dA_fld o.h 3]; rfl
  have hs : Hid ((dA d).size = 41) := dA_size o.h
  have E : Hid (∀ (a1 : Option Addr) (n1 c1 : Nat), (((dA d).setIfInBounds 37 (.slice a1 n1 c1)).setIfInBounds 39 (.int .u32 a)).setIfInBounds 40 (.int .i64 (ssz op : Nat)) = dA (d.setM (.slice a1 n1 c1) a (ssz op : Nat))) := fun a1 n1 c1 => dA_setM o _ _ _
  have SE : Hid (∀ (a1 : Option Addr) (n1 c1 : Nat), (dA (d.setM (.slice a1 n1 c1) a (ssz op : Nat))).size = 41) := fun a1 n1 c1 => dA_size (d := d.setM _ _ _) o.h
  have H1 : Hid (∀ (a1 : Option Addr) (n1 c1 : Nat), (dA (d.setM (.slice a1 n1 c1) a (ssz op : Nat))).all (·.oneCell') = true) := fun a1 n1 c1 => one_dA ⟨o.h, rfl, o.out⟩
  generalize d.fro = y1 at *
  generalize d.many = y2 at *
  generalize dA d = D0 at *
  clear M hm ok o
  go_enter Try.func51, Try.ntmps51
  go_wp2_with fail
  refine (S.out _ (((Gr.refl _).alloc _).alloc _)).mono ?_
  rintro e w1 ⟨a1, n1, c1, rfl, M1, G1, F1⟩
  have HF : Hid (∀ ad, a1 = some ad → w.heap.size + 1 < ad.block ∧ n1 ≤ c1) := fun ad q => by have := F1 ad q; simp at this; omega
  obtain ⟨hB, Z, hz, hR⟩ := two_blocks G1 rfl
  have HG : Hid (Gr w w1) := (((Gr.refl _).alloc _).alloc _).trans G1
  have HM : Hid (Mem w1 a1 n1 (stL l op a x)) := M1
  have c37 : w1.cell? ⟨w.heap.size, 37, none⟩ = some (.slice ao n cap) := by rw [cell_of_row _ _ _ _ _ _ hB]; exact g37
  have c39 : w1.cell? ⟨w.heap.size, 39, none⟩ = some (.int .u32 y1) := by rw [cell_of_row _ _ _ _ _ _ hB]; exact g39
  have c40 : w1.cell? ⟨w.heap.size, 40, none⟩ = some (.int .i64 y2) := by rw [cell_of_row _ _ _ _ _ _ hB]; exact g40
  have fz : ∀ j, w1.frozen? ⟨w.heap.size, j, none⟩ = false := fun j => frozen_of_row _ _ j _ _ hB
  have hSE := SE.out a1 n1 c1
  have hE := E.out a1 n1 c1
  have hH := H1.out a1 n1 c1
  clear SE E H1
  generalize hD : dA (d.setM (.slice a1 n1 c1) a (ssz op : Nat)) = D2 at *
  have HD : Hid (dA (d.setM (.slice a1 n1 c1) a (ssz op : Nat)) = D2) := hD
  clear hD F1
  have HB : Hid ((((w1.setCell ⟨w.heap.size, 37, none⟩ (.slice a1 n1 c1)).setCell ⟨w.heap.size, 39, none⟩ (.int .u32 a)).setCell ⟨w.heap.size, 40, none⟩ (.int .i64 (ssz op : Nat))).heap[w.heap.size]? = some (.cells D2 81 (0, 0))) := by
    rw [← hE]
    exact heap_setCell_same _ _ _ _ _ _ (heap_setCell_same _ _ _ _ _ _ (heap_setCell_same _ _ _ _ _ _ hB))
  have HR : Hid ((((w1.setCell ⟨w.heap.size, 37, none⟩ (.slice a1 n1 c1)).setCell ⟨w.heap.size, 39, none⟩ (.int .u32 a)).setCell ⟨w.heap.size, 40, none⟩ (.int .i64 (ssz op : Nat))).heap[w.heap.size + 1]? = some (.cells Z 81 (0, 0))) := by
    show _ = _
    rw [heap_setCell_other _ _ _ _ (by simp), heap_setCell_other _ _ _ _ (by simp), heap_setCell_other _ _ _ _ (by simp)]
    exact hR
  have HS : Hid (D2.size = 41) := hSE
  have HO : Hid (D2.all (·.oneCell') = true) := hH
  clear M1 G1 S hB hR hSE hE hH g37 g39 g40 hs
  go_wp2_with (first
    | (go_at_call 57; refine (Mr.Size_store _ _).mono ?_; rintro e w' ⟨rfl, rfl⟩)
    | (refine wpList_load_row rfl 81 _ rfl w.heap.size rfl 81 D2 (0, 0) _ ?hb1 Try.underlying81 rfl (by rw [HS.out]; exact iD) ?_; (case hb1 => exact HB.out))
    | (refine wpList_store_row rfl 81 _ _ rfl (w.heap.size + 1) D2 rfl rfl 81 Z ?hb2 (by rw [HS.out]; exact iD) (by rw [HS.out, hz]) HO.out ?_; (case hb2 => exact HR.out)))
  refine bodyPost_ret (v := .tuple #[.agg D2, .bool true]) (results_cell_tmp' Try.results51 _ _ _ _ _ (0, 0) _ _ rfl rfl (setRow_heap _ _ _ _ _ (0, 0) HR.out) Try.underlying81 rfl (by rw [HS.out]; exact iD)) rfl ⟨a1, n1, c1, by rw [HD.out], ?_, ?_, fun ad q => by have := HF.out ad q; omega⟩
  · refine HM.out.apart fun ad q => ?_
    have := HF.out ad q
    rw [setRow_other _ _ _ _ (by omega), heap_setCell_other _ _ _ _ (by simp; omega), heap_setCell_other _ _ _ _ (by simp; omega), heap_setCell_other _ _ _ _ (by simp; omega)]
  · exact gr_setRow (((HG.out.setCell (Nat.le_refl _) _).setCell (Nat.le_refl _) _).setCell (Nat.le_refl _) _) (Nat.le_succ _) _
end Go.Proofs.Ythgnfmbnbndeeac.Hr
/-
  What bytes.Clone, and package hart's NewCore, return.
-/
namespace Go.Proofs.Ythgnfmbnbndeeac.Hc
open Go.ChangeShapes Go.WideShapes Go.ChangeAt Go.RowKit Mm Hh
set_option linter.unusedVariables false
set_option linter.unusedSimpArgs false

theorem mem_bc {w w' : World} {ad : Addr} {n : Nat} {l : List UInt8} (M : Mem w (some ad) n l) (G : Gr w w') : ∀ j u, (bc l)[j]? = some u → w'.cell? (ad.add j) = some u := by
  intro j u hj
  obtain ⟨h1, rfl⟩ := bc_get hj
  have hl := M.len
  exact (M.of G).cell ad rfl j (by omega)
theorem own_of {w : World} {base n : Nat} {v : Value} {l : List UInt8} (hl : l.length = n) (h : w.ownsRow base 5 1 v n (bc l)) : Own w base v l := by
  subst hl
  obtain ⟨_, h⟩ := h
  rcases h with ⟨rfl, h0⟩ | ⟨g, cap, cur, rfl, hb, hg, hn, hm, hs, ht⟩
  · exact .inl ⟨rfl, List.eq_nil_of_length_eq_zero h0⟩
  · refine .inr ⟨g, cap, rfl, ⟨hb, hn⟩, cur.toList.drop (l.length * 1), ?_⟩
    rw [← ht, List.take_append_drop]
    exact hg
set_option maxHeartbeats 1000000 in
set_option maxRecDepth 100000 in
theorem Clone_any {w : World} {ao : Option Addr} {n cap : Nat} {l : List UInt8} (M : Mem w ao n l) (hcap : ao = none → cap = 0) (hn : n ≤ 140737488351232) :
    Calls Try.prog 19 #[.slice ao n cap] w fun e w' => ∃ v, e = .returned v ∧ Own w' w.heap.size v l ∧ Gr w w' := by
  have hl := M.len
  cases ao with
  | none =>
    obtain rfl := M.nil rfl
    obtain rfl := hcap rfl
    obtain rfl : l = [] := List.eq_nil_of_length_eq_zero hl
    clear M hcap
    have he : ∀ w : World, (binOp .eql 22 (.slice none 0 0) (.slice none 0 0)).run Try.prog w = .ok (.bool true) w := fun _ => by kernel_rfl
    go_enter Try.func19, Try.ntmps19
    go_wp2
    go_ret
    exact ⟨_, rfl, .inl ⟨rfl, rfl⟩, Gr.refl _⟩
  | some ad =>
    obtain ⟨i0, hi, hz0, hz1, hz2⟩ := info_parts info5
    have HM : Hid (Mem w (some ad) n l) := M
    have he : ∀ w : World, (binOp .eql 22 (.slice (some ad) n cap) (.slice none 0 0)).run Try.prog w = .ok (.bool false) w := fun _ => by kernel_rfl
    clear M hcap
    go_enter Try.func19, Try.ntmps19
    go_wp2_with (at_builtin; refine wpList_append_own _ rfl (.tmp 5) (.tmp 6) 22 rfl w.heap.size 5 i0 (.int .u8 0) 1 1 Try.underlying22 hi hz0 hz1 hz2 rfl (by decide) _ 0 [] rfl (World.ownsRow_made w #[] 0 (Nat.le_refl _) (by decide) rfl) ad n cap (bc l) rfl (by rw [bc_len, hl]; simp) (mem_bc HM.out ((Gr.refl _).alloc _)) (bc_one l) (by unfold maxLen; omega) (by omega) (by simp) ?_; intro v' w1 hown hgrow _; have HO : Hid (Own w1 w.heap.size v' l) := own_of hl (by simpa using hown); have HG : Hid (Gr w w1) := ((Gr.refl _).alloc _).grown hgrow (fun k e => Nat.le_of_eq (Option.some.inj e)); clear hown hgrow)
    go_ret
    exact ⟨_, rfl, HO.out, HG.out⟩

theorem two_of {w w' : World} {A Z : Array Value} {t u : Nat} (g : Gr ((w.alloc (.cells A t)).alloc (.cells Z u)) w') : w'.heap[w.heap.size]? = some (.cells A t (0, 0)) ∧ w'.heap[w.heap.size + 1]? = some (.cells Z u (0, 0)) :=
  ⟨Hr.heap_of_gr g (heap_alloc2_old w _ _), Hr.heap_of_gr g (heap_alloc2_new w _ _)⟩
theorem Own.cells {w : World} {base : Nat} {v : Value} {l : List UInt8} (h : Own w base v l) : v.cells = #[v] ∧ v.oneCell' = true := by
  rcases h with ⟨rfl, _⟩ | ⟨k, cap, rfl, _⟩ <;> exact ⟨rfl, rfl⟩
theorem Own.base {w w' : World} {b b' : Nat} {v : Value} {l : List UInt8} (h : Own w b v l) (hb : b' ≤ b) : Own w b' v l := by
  rcases h with h | ⟨k, cap, e, q, R⟩
  · exact .inl h
  · exact .inr ⟨k, cap, e, ⟨Nat.le_trans hb q.1, q.2⟩, R⟩
theorem range_of {w : World} {b : Nat} {h : Hv} {t : Nat} (e : w.heap[b]? = some (.cells (hA h) t (0, 0))) : w.rangeAt b 0 (hL h) := fun j v hv => by
  rw [Nat.zero_add, cell_of_row _ _ _ _ _ _ e]
  simpa [hA] using hv
end Go.Proofs.Ythgnfmbnbndeeac.Hc
/-
  What package image's reader takes and reads.
-/
namespace Go.Proofs.Ythgnfmbnbndeeac.Im
open Go.ChangeShapes Go.WideShapes Go.ChangeAt Go.RowKit Mm Hh Hc Mc
set_option linter.unusedVariables false
set_option linter.unusedSimpArgs false

variable {lim : Nat}
/-- A reader at block g. -/
structure Re (w : World) (lim g : Nat) (r : Rd) : Prop where
  le : r.rest.length ≤ 140737488351232
  blk : ∃ a c, w.heap[g]? = some (.cells #[.slice a r.rest.length c, .bool r.wrong] 74 (0, 0)) ∧ r.rest.length ≤ c ∧ (a = none → c = 0) ∧ (0 < r.rest.length → ∀ ad, a = some ad → ad.block < lim) ∧ Mem w a r.rest.length r.rest
theorem mem_ch {w w' : World} {g n : Nat} {cs : Array Value} {t : Nat} {f : Nat × Nat} {ao : Option Addr} {l : List UInt8} (M : Mem w ao n l) (e : w.heap[g]? = some (.cells cs t f)) (ht : ∀ (i : Nat) (x : Int), cs[i]? ≠ some (Value.int .u8 x)) (C : Ch g w w') : Mem w' ao n l := by
  refine ⟨M.len, M.nil, fun ad q t ht2 => ?_⟩
  have h1 := M.cell ad q t ht2
  have h2 := World.block_lt_of_cell? w _ h1
  rw [← h1]
  refine World.cell?_of_block (C.block _ h2 fun hh => ?_)
  have hs := World.cell?_spot h1
  injection hh with hh
  have e2 : w.cell? ⟨g, (ad.add t).off, none⟩ = some (.int .u8 (bv l t)) := by
    rw [← h1]
    congr 1
    generalize ad.add t = q at *
    obtain ⟨qb, qo, qs⟩ := q
    simp only at *
    subst hh hs
    rfl
  rw [cr e] at e2
  exact ht _ _ e2
theorem two_no (a : Option Addr) (n c : Nat) (b : Bool) : ∀ (i : Nat) (x : Int), (#[.slice a n c, .bool b] : Array Value)[i]? ≠ some (Value.int .u8 x) := by
  intro i x h
  match i, h with
  | 0, h => simp at h
  | 1, h => simp at h
  | i + 2, h => simp at h
/-- Another block turned, that holds no byte. -/
theorem Re.ch {w w' : World} {g k : Nat} {r : Rd} {cs : Array Value} {t : Nat} {f : Nat × Nat} (R : Re w lim g r) (e : w.heap[k]? = some (.cells cs t f)) (ht : ∀ (i : Nat) (x : Int), cs[i]? ≠ some (Value.int .u8 x)) (hk : k ≠ g) (C : Ch k w w') : Re w' lim g r := by
  obtain ⟨a, c, e1, h1, h2, h3, M⟩ := R.blk
  exact ⟨R.le, a, c, (C.block g (gs e1).1 (fun hh => hk (Option.some.inj hh).symm)).trans e1, h1, h2, h3, mem_ch M e ht C⟩
/-- Blocks from 'lim' on turned, but the reader's own. -/
theorem Re.to {w w' : World} {g : Nat} {r : Rd} (R : Re w lim g r) (h1 : w'.heap[g]? = w.heap[g]?) (h2 : ∀ k, k < lim → k < w.heap.size → k ≠ g → w'.heap[k]? = w.heap[k]?) : Re w' lim g r := by
  obtain ⟨a, c, e1, q1, q2, q3, M⟩ := R.blk
  refine ⟨R.le, a, c, h1.trans e1, q1, q2, q3, ?_⟩
  by_cases h : 0 < r.rest.length
  · refine M.apart fun ad e => ?_
    by_cases hg : ad.block = g
    · rw [hg]; exact h1
    · obtain ⟨b, o, e', hb, _⟩ := M.spot h
      have l1 := q3 h ad e
      rw [e] at e'
      obtain rfl := Option.some.inj e'
      exact h2 _ l1 hb hg
  · exact ⟨M.len, M.nil, fun ad e t ht => absurd ht (by omega)⟩
theorem Re.gr {w w' : World} {g : Nat} {r : Rd} (R : Re w lim g r) (G : Gr w w') : Re w' lim g r := by
  obtain ⟨a, c, e1, h1, h2, h3, M⟩ := R.blk
  exact ⟨R.le, a, c, Hr.heap_of_gr G e1, h1, h2, h3, M.of G⟩
theorem Re.lt {w : World} {g : Nat} {r : Rd} (R : Re w lim g r) : g < w.heap.size := by
  obtain ⟨a, c, e1, _⟩ := R.blk
  exact (gs e1).1
theorem mem_take {w : World} {a : Option Addr} {q n : Nat} {l : List UInt8} (M : Mem w a q l) (h : n ≤ q) : Mem w a n (l.take n) :=
  ⟨by rw [List.length_take, M.len]; omega, fun e => by have := M.nil e; omega, fun ad e t ht => by
    rw [M.cell ad e t (by omega)]
    unfold bv
    rw [List.getD_eq_getElem?_getD, List.getD_eq_getElem?_getD, List.getElem?_take_of_lt ht]⟩
theorem mem_drop {w : World} {a : Option Addr} {q n : Nat} {l : List UInt8} (M : Mem w a q l) (h : n ≤ q) : Mem w (Option.map (fun x => x.add n) a) (q - n) (l.drop n) := by
  refine ⟨by rw [List.length_drop, M.len], fun e => ?_, fun ad e t ht => ?_⟩
  · cases a with
    | none => have := M.nil rfl; omega
    | some x => cases e
  · obtain ⟨b, o, rfl, hb, hc⟩ := M.spot (by omega)
    simp only [Option.map_some] at e
    obtain rfl := Option.some.inj e
    rw [add_at, add_at, Nat.add_assoc, hc (n + t) (by omega)]
    unfold bv
    rw [List.getD_eq_getElem?_getD, List.getD_eq_getElem?_getD, List.getElem?_drop]
theorem mem_nil {w : World} (a : Option Addr) : Mem w a 0 [] := ⟨rfl, fun _ => rfl, fun ad e t ht => absurd ht (by omega)⟩
/-- The reader's own two cells set. -/
theorem Re.rest {w : World} {g n q c : Nat} {a a' : Option Addr} {c' : Nat} {r : Rd} (R : Re w lim g r) (e : w.heap[g]? = some (.cells #[.slice a r.rest.length c, .bool r.wrong] 74 (0, 0))) (l : List UInt8) (hl : l.length ≤ r.rest.length) (h1 : l.length ≤ c') (h2 : a' = none → c' = 0) (h3 : 0 < l.length → ∀ ad, a' = some ad → ad.block < lim) (M : Mem w a' l.length l) :
    Re (w.setCell ⟨g, 0, none⟩ (.slice a' l.length c')) lim g ⟨l, r.wrong⟩ :=
  ⟨Nat.le_trans hl R.le, a', c', by rw [hss e]; simp, h1, h2, h3, mem_ch M e (two_no _ _ _ _) ((Ch.refl g w).setCell 0 _)⟩
theorem Re.bad {w : World} {g : Nat} {r : Rd} (R : Re w lim g r) : Re (w.setCell ⟨g, 1, none⟩ (.bool true)) lim g ⟨r.rest, true⟩ := by
  obtain ⟨a, c, e, h1, h2, h3, M⟩ := R.blk
  exact ⟨R.le, a, c, by rw [hss e]; simp, h1, h2, h3, mem_ch M e (two_no _ _ _ _) ((Ch.refl g w).setCell 1 _)⟩
set_option maxHeartbeats 1000000 in
set_option maxRecDepth 100000 in
theorem take_any {w : World} {g n : Nat} {r : Rd} (R : Re w lim g r) (hn : n < 4294967296) :
    Calls Try.prog 40 #[.pointer (some ⟨g, 0, none⟩), .int .u32 (n : Int)] w fun e w' => ∃ a c, e = .returned (.slice a (tkV r n).length c) ∧ (a = none → c = 0) ∧ Mem w' a (tkV r n).length (tkV r n) ∧ Re w' lim g (tk r n) ∧ Ch g w w' := by
  obtain ⟨a, c, e, h1, h2, h3, M⟩ := R.blk
  have hle := R.le
  have HL3 : Hid (0 < r.rest.length → ∀ ad, a = some ad → ad.block < lim) := h3
  clear h3
  have HR : Hid (Re w lim g r) := R
  have HM : Hid (Mem w a r.rest.length r.rest) := M
  have HE : Hid (w.heap[g]? = some (.cells #[.slice a r.rest.length c, .bool r.wrong] 74 (0, 0))) := e
  have x0 := cr0 e
  have x1 := cr1 e
  have f0 : w.frozen? ⟨g, 0, none⟩ = false := fzr e
  have f1 : w.frozen? ⟨g, 1, none⟩ = false := fzr e
  obtain ⟨q, hq⟩ : ∃ q, r.rest.length = q := ⟨_, rfl⟩
  have HQ : Hid (r.rest.length = q) := hq
  rw [hq] at x0 h1 hle
  clear M e R hq
  have ew : IntKind.u64.wrap (q : Int) = q := by show (q : Int) % 18446744073709551616 = q; omega
  have ew2 : IntKind.u64.wrap (n : Int) = n := by show (n : Int) % 18446744073709551616 = n; omega
  by_cases hc : n ≤ q
  · have HT : Hid (tk r n = ⟨r.rest.drop n, r.wrong⟩ ∧ tkV r n = r.rest.take n) := by unfold Hid tk tkV; rw [HQ.out, if_pos hc, if_pos hc]; exact ⟨rfl, rfl⟩
    have HL : Hid ((r.rest.take n).length = n ∧ (r.rest.drop n).length = q - n) := by unfold Hid; rw [List.length_take, List.length_drop, HQ.out]; omega
    have HM2 : Hid (Mem w a q r.rest) := by have := HM.out; rw [HQ.out] at this; exact this
    rw [HT.out.1, HT.out.2, HL.out.1]
    have d1 : ¬ (q : Int) < (n : Int) := by omega
    go_enter Try.func40, Try.ntmps40
    go_wp2_with fail
    · go_ret
      have e1 : q - n = 0 := by omega
      have e2 : r.rest.drop n = [] := List.eq_nil_of_length_eq_zero (by rw [HL.out.2, e1])
      refine ⟨a, n, rfl, fun h => by have := h2 h; omega, ?_, ?_, (Ch.refl g w).setCell 0 _⟩
      · exact mem_ch (mem_take HM2.out hc) HE.out (two_no _ _ _ _) ((Ch.refl g w).setCell 0 _)
      · rw [e2, e1]
        exact HR.out.rest (n := 0) (q := 0) HE.out [] (by simp) (by simp) (fun _ => rfl) (fun h => by simp at h) (mem_nil a)
    · go_ret
      refine ⟨a, c, rfl, fun h => h2 h, ?_, ?_, (Ch.refl g w).setCell 0 _⟩
      · exact mem_ch (mem_take HM2.out hc) HE.out (two_no _ _ _ _) ((Ch.refl g w).setCell 0 _)
      · have := HR.out.rest (n := 0) (q := 0) (a' := Option.map (fun x => x.add n) a) (c' := c - n) HE.out (r.rest.drop n) (by rw [HL.out.2, HQ.out]; omega) (by rw [HL.out.2]; omega) (fun h => by
          cases a with
          | none => have := h2 rfl; omega
          | some x => cases h) (fun h ad e => by
          cases a with
          | none => cases e
          | some x =>
            obtain rfl := Option.some.inj e
            rw [add_block]
            exact HL3.out (by rw [HL.out.2] at h; rw [HQ.out]; omega) x rfl) (by rw [HL.out.2]; exact mem_drop HM2.out hc)
        rw [HL.out.2] at this
        exact this
  · have HT : Hid (tk r n = ⟨r.rest, true⟩ ∧ tkV r n = []) := by unfold Hid tk tkV; rw [HQ.out, if_neg hc, if_neg hc]; exact ⟨rfl, rfl⟩
    rw [HT.out.1, HT.out.2]
    have d1 : (q : Int) < (n : Int) := by omega
    go_enter Try.func40, Try.ntmps40
    go_wp2_with fail
    go_ret
    exact ⟨none, 0, rfl, fun _ => rfl, mem_nil none, HR.out.bad, (Ch.refl g w).setCell 1 _⟩
end Go.Proofs.Ythgnfmbnbndeeac.Im
/-
  What package image's reader reads of numbers.
-/
namespace Go.Proofs.Ythgnfmbnbndeeac.Im
open Go.ChangeShapes Go.WideShapes Go.ChangeAt Go.RowKit Mm Hh Hc Mc
set_option linter.unusedVariables false
set_option linter.unusedSimpArgs false

variable {lim : Nat}
theorem nmV_raw (r : Rd) : nmV r = raw (tkV r 4) 0 (tkV r 4).length := by
  unfold nmV tkV
  by_cases h : 4 ≤ r.rest.length
  · rw [if_pos h, if_pos h]
    have e : (r.rest.take 4).length = 4 := by rw [List.length_take]; omega
    rw [e]
    have := raw_app_lt (r.rest.take 4) (r.rest.drop 4) 0 4 (by omega)
    rw [List.take_append_drop] at this
    exact this
  · rw [if_neg h, if_neg h]
    rfl
theorem tk4_len (r : Rd) : (tkV r 4).length ≤ 4 := by
  unfold tkV
  split
  · rw [List.length_take]; omega
  · simp
set_option maxHeartbeats 1000000 in
set_option maxRecDepth 100000 in
theorem number_any {w : World} {g : Nat} {r : Rd} (R : Re w lim g r) :
    Calls Try.prog 56 #[.pointer (some ⟨g, 0, none⟩)] w fun e w' => e = .returned (.int .u32 (nmV r)) ∧ Re w' lim g (nm r) ∧ Ch g w w' := by
  have HT : Hid (Calls Try.prog 40 #[.pointer (some ⟨g, 0, none⟩), .int .u32 4] w fun e w' => ∃ a c, e = .returned (.slice a (tkV r 4).length c) ∧ (a = none → c = 0) ∧ Mem w' a (tkV r 4).length (tkV r 4) ∧ Re w' lim g (tk r 4) ∧ Ch g w w') := take_any (n := 4) R (by omega)
  have HV : Hid (nmV r = raw (tkV r 4) 0 (tkV r 4).length) := nmV_raw r
  have h4 := tk4_len r
  rw [HV.out]
  generalize tkV r 4 = L at *
  obtain ⟨n, hn⟩ : ∃ n, L.length = n := ⟨_, rfl⟩
  rw [hn] at HT h4 ⊢
  clear R HV
  go_enter Try.func56, Try.ntmps56
  go_wp2_with fail
  refine HT.out.mono ?_
  rintro e w1 ⟨a, c, rfl, hc, M, R1, C1⟩
  have HR1 : Hid (Re w1 lim g (nm r)) := R1
  have HC1 : Hid (Ch g w w1) := C1
  have HM : Hid (Mem w1 a n L) := M
  clear HT R1 C1 M hn hc
  go_wp2_with fail
  go_loopw [3, 9] (fun x i wr => ∃ k : Nat, k ≤ n ∧ i = .int .i64 k ∧ x = .int .u32 (raw L 0 k) ∧ wr = w1) (fun _ i _ => n - (intOf i).toNat)
  case atStart => exact ⟨0, Nat.zero_le _, rfl, rfl, rfl⟩
  case round =>
    obtain ⟨k, hk, rfl, rfl, rfl⟩ := hrel
    have rb := raw_bd L 0 k
    have bb := bv_bd L k
    by_cases hlt : k < n
    · obtain ⟨b, o, rfl, _, hcell⟩ := HM.out.spot (by omega)
      have hck := hcell k hlt
      clear hcell
      have hk4 : k < 4 := by omega
      have HR : Hid (bits .or .u32 (raw L 0 k) (bv L k * 2 ^ (8 * k) % 4294967296) = raw L 0 (k + 1)) := by
        unfold Hid
        rw [or_byte _ _ k hk4 rb.1 rb.2 bb.1 bb.2, raw, Nat.zero_add]
      go_wp2_with fail
      go_roundw
      case rel => exact ⟨k + 1, by omega, by go_num, by rw [HR.out], trivial⟩
      case measure => simp [intOf]; omega
    · have ek : Hid (k = n) := by unfold Hid; omega
      go_wp2_with fail
      go_ret
      exact ⟨by rw [← ek.out]; rfl, HR1.out, HC1.out⟩
set_option maxHeartbeats 1000000 in
set_option maxRecDepth 100000 in
theorem upTo_any {w : World} {g most : Nat} {r : Rd} (R : Re w lim g r) (hm : most < 4294967296) :
    Calls Try.prog 41 #[.pointer (some ⟨g, 0, none⟩), .int .u32 (most : Int)] w fun e w' => e = .returned (.int .u32 (utV r most)) ∧ Re w' lim g (ut r most) ∧ Ch g w w' := by
  have HN : Hid (Calls Try.prog 56 #[.pointer (some ⟨g, 0, none⟩)] w fun e w' => e = .returned (.int .u32 (nmV r)) ∧ Re w' lim g (nm r) ∧ Ch g w w') := number_any R
  have hu := nmV_u4 r
  have u0 : 0 ≤ nmV r := hu.1
  have u1 : nmV r < 4294967296 := hu.2
  clear hu R
  by_cases hc : (most : Int) < nmV r
  · have HT : Hid (ut r most = ⟨(nm r).rest, true⟩ ∧ utV r most = 0) := by unfold Hid ut utV; rw [if_pos hc, if_pos hc]; exact ⟨rfl, rfl⟩
    rw [HT.out.1, HT.out.2]
    generalize nmV r = x at *
    go_enter Try.func41, Try.ntmps41
    go_wp2_with fail
    refine HN.out.mono ?_
    rintro e w1 ⟨rfl, R1, C1⟩
    have HR1 : Hid (Re w1 lim g (nm r)) := R1
    have HC1 : Hid (Ch g w w1) := C1
    obtain ⟨a, c, e, _⟩ := R1.blk
    have x1 := cr1 e
    have f1 : w1.frozen? ⟨g, 1, none⟩ = false := fzr e
    clear R1 C1 HN e
    go_wp2_with fail
    go_ret
    exact ⟨rfl, HR1.out.bad, HC1.out.setCell 1 _⟩
  · have HT : Hid (ut r most = nm r ∧ utV r most = nmV r) := by unfold Hid ut utV; rw [if_neg hc, if_neg hc]; exact ⟨rfl, rfl⟩
    rw [HT.out.1, HT.out.2]
    generalize nmV r = x at *
    go_enter Try.func41, Try.ntmps41
    go_wp2_with fail
    refine HN.out.mono ?_
    rintro e w1 ⟨rfl, R1, C1⟩
    have HR1 : Hid (Re w1 lim g (nm r)) := R1
    have HC1 : Hid (Ch g w w1) := C1
    clear R1 C1 HN
    go_wp2_with fail
    go_ret
    exact ⟨rfl, HR1.out, HC1.out⟩
end Go.Proofs.Ythgnfmbnbndeeac.Im
/-
  What package image's reader reads as a hart.
-/
namespace Go.Proofs.Ythgnfmbnbndeeac.Im
open Go.ChangeShapes Go.WideShapes Go.ChangeAt Go.RowKit Mm Hh Hc Mc
set_option linter.unusedVariables false
set_option linter.unusedSimpArgs false

variable {lim : Nat}
theorem ch_new {g k : Nat} {a w : World} (h : Ch g a w) (hk : a.heap.size ≤ k) (o : Nat) (v : Value) : Ch g a (w.setCell ⟨k, o, none⟩ v) :=
  ⟨h.os, h.tape, h.output, by simp [World.setCell]; exact h.size, fun i hi hn => (hso (by show i ≠ k; omega)).trans (h.block i hi hn)⟩
theorem ch_newR {g k : Nat} {a w : World} (h : Ch g a w) (hk : a.heap.size ≤ k) (cs : Array Value) : Ch g a (w.setRow k cs) :=
  ⟨h.os, h.tape, h.output, by have := (below_setRow (Below.refl 0 w) (Nat.zero_le k) cs).size; exact Nat.le_trans h.size this, fun i hi hn => (sro (by omega)).trans (h.block i hi hn)⟩
theorem hA_no (h : Hv) : ∀ (i : Nat) (x : Int), (hA h)[i]? ≠ some (Value.int .u8 x) := by
  intro i x e
  have hm := List.mem_of_getElem? (l := hL h) (by simpa [hA] using e)
  simp only [hL, List.mem_append, List.mem_map, List.mem_cons, List.not_mem_nil, or_false] at hm
  rcases hm with ⟨n, _, q⟩ | q | q | q | q | q <;> cases q
/-- What is read of a hart, up to register i. -/
def pt (r : Rd) (i : Nat) : Hv := ⟨nmL r i ++ List.replicate (32 - i) 0, 0, false, 0, 0, 0⟩
theorem pt_ok (r : Rd) {i : Nat} (hi : i ≤ 32) : (pt r i).Ok := by
  refine ⟨by simp [pt, nmL_len]; omega, fun j => ?_, by simp [pt], by simp [pt], by simp [pt], by simp [pt]⟩
  unfold rg pt
  rw [List.getD_eq_getElem?_getD]
  cases h : (nmL r i ++ List.replicate (32 - i) 0)[j]? with
  | none => simp
  | some x =>
    have hm := List.mem_of_getElem? h
    rcases List.mem_append.1 hm with h1 | h1
    · exact nmL_u4 r i x h1
    · have := (List.mem_replicate.1 h1).2
      subst this
      exact ⟨by simp, by simp⟩
theorem pt_set (r : Rd) {i : Nat} (hi : i < 32) : (hA (pt r i)).setIfInBounds i (.int .u32 (nmV (nmI r i))) = hA (pt r (i + 1)) := by
  unfold hA
  rw [List.setIfInBounds_toArray, set_reg (pt_ok r (by omega)) hi]
  congr 2
  unfold pt
  simp only [Hv.mk.injEq, and_true, and_self]
  rw [List.set_append_right _ _ (by rw [nmL_len]; omega), nmL_len, Nat.sub_self, show 32 - i = (32 - (i + 1)) + 1 by omega, List.replicate_succ, List.set_cons_zero]
  simp [nmL]
theorem set_h {W : World} {k i : Nat} {v : Value} {h h' : Hv} (e : W.heap[k]? = some (.cells (hA h) 48 (0, 0))) (q : (hL h).set i v = hL h') : (W.setCell ⟨k, i, none⟩ v).heap[k]? = some (.cells (hA h') 48 (0, 0)) := by
  rw [hss e]
  unfold hA
  rw [List.setIfInBounds_toArray, q]
/-- A reader at block g, a hart at block k, and a block for the result. -/
structure Rh (lim : Nat) (w0 w : World) (g : Nat) (r : Rd) (h : Hv) : Prop where
  re : Re w lim g r
  ok : h.Ok
  hb : w.heap[w0.heap.size + 1]? = some (.cells (hA h) 48 (0, 0))
  rb : ∃ Z : Array Value, (Z.size = 37 ∧ ∀ (i : Nat) (x : Int), Z[i]? ≠ some (Value.int .u8 x)) ∧ w.heap[w0.heap.size]? = some (.cells Z 48 (0, 0))
  ch : Ch g w0 w
theorem Rh.call {w0 w w' : World} {g : Nat} {r r' : Rd} {h : Hv} (A : Rh lim w0 w g r h) (R : Re w' lim g r') (C : Ch g w w') : Rh lim w0 w' g r' h := by
  obtain ⟨a, c, e, _⟩ := A.re.blk
  obtain ⟨Z, hz, hr⟩ := A.rb
  have n1 : w0.heap.size + 1 ≠ g := ne_of_types A.hb e (by decide)
  have n2 : w0.heap.size ≠ g := ne_of_types hr e (by decide)
  exact ⟨R, A.ok, (C.block _ (gs A.hb).1 (fun hh => n1 (Option.some.inj hh))).trans A.hb, ⟨Z, hz, (C.block _ (gs hr).1 (fun hh => n2 (Option.some.inj hh))).trans hr⟩, A.ch.trans C⟩
theorem Rh.set {w0 w : World} {g i : Nat} {r : Rd} {h h' : Hv} {v : Value} (A : Rh lim w0 w g r h) (o : h'.Ok) (q : (hL h).set i v = hL h') : Rh lim w0 (w.setCell ⟨w0.heap.size + 1, i, none⟩ v) g r h' := by
  obtain ⟨a, c, e, _⟩ := A.re.blk
  obtain ⟨Z, hz, hr⟩ := A.rb
  have n1 : w0.heap.size + 1 ≠ g := ne_of_types A.hb e (by decide)
  exact ⟨A.re.ch A.hb (hA_no _) n1 ((Ch.refl _ _).setCell i v), o, set_h A.hb q, ⟨Z, hz, (hso (by simp)).trans hr⟩, ch_new A.ch (by omega) i v⟩
theorem Rh.cell {w0 w : World} {g : Nat} {r : Rd} {h : Hv} (A : Rh lim w0 w g r h) {i : Nat} (hi : i < 37) : ∃ v, w.cell? ⟨w0.heap.size + 1, i, none⟩ = some v ∧ w.frozen? ⟨w0.heap.size + 1, i, none⟩ = false := by
  refine ⟨(hA h)[i]'(by rw [hA_size A.ok]; exact hi), ?_, fzr A.hb⟩
  rw [cr A.hb, Array.getElem?_eq_getElem (by rw [hA_size A.ok]; exact hi)]
/-- The block of a result written over whole: the reader's bytes are not there, as that block was made behind them. -/
theorem re_row {w : World} {g k : Nat} {r : Rd} {Z : Array Value} (R : Re w lim g r) (e : w.heap[k]? = some (.cells Z 48 (0, 0))) (hn : ∀ (i : Nat) (x : Int), Z[i]? ≠ some (Value.int .u8 x)) (hk : k ≠ g) (D : Array Value) : Re (w.setRow k D) lim g r :=
  R.ch e hn hk ⟨rfl, rfl, rfl, (below_setRow (Below.refl 0 w) (Nat.zero_le k) D).size, fun i hi hn => sro (fun h => hn (by rw [h]))⟩
theorem pt0 (r : Rd) : pt r 0 = ⟨List.replicate 32 0, 0, false, 0, 0, 0⟩ := rfl

set_option maxHeartbeats 2000000 in
set_option maxRecDepth 100000 in
theorem rhart_any {w : World} {g : Nat} {r : Rd} (R : Re w lim g r) :
    Calls Try.prog 42 #[.pointer (some ⟨g, 0, none⟩)] w fun e w' => e = .returned (.agg (hA (hrV r))) ∧ Re w' lim g (hrR r) ∧ Ch g w w' := by
  have HN : Hid (∀ (W : World) (q : Rd), Re W lim g q → Calls Try.prog 56 #[.pointer (some ⟨g, 0, none⟩)] W fun e w' => e = .returned (.int .u32 (nmV q)) ∧ Re w' lim g (nm q) ∧ Ch g W w') := fun W q R => number_any R
  have HU1 : Hid (∀ (W : World) (q : Rd), Re W lim g q → Calls Try.prog 41 #[.pointer (some ⟨g, 0, none⟩), .int .u32 1] W fun e w' => e = .returned (.int .u32 (utV q 1)) ∧ Re w' lim g (ut q 1) ∧ Ch g W w') := fun W q R => upTo_any (most := 1) R (by omega)
  have HU2 : Hid (∀ (W : World) (q : Rd), Re W lim g q → Calls Try.prog 41 #[.pointer (some ⟨g, 0, none⟩), .int .u32 2] W fun e w' => e = .returned (.int .u32 (utV q 2)) ∧ Re w' lim g (ut q 2) ∧ Ch g W w') := fun W q R => upTo_any (most := 2) R (by omega)
  have HU6 : Hid (∀ (W : World) (q : Rd), Re W lim g q → Calls Try.prog 41 #[.pointer (some ⟨g, 0, none⟩), .int .u32 6] W fun e w' => e = .returned (.int .u32 (utV q 6)) ∧ Re w' lim g (ut q 6) ∧ Ch g W w') := fun W q R => upTo_any (most := 6) R (by omega)
  have HR : Hid (Re w lim g r) := R
  clear R
  obtain ⟨x1, e1⟩ : ∃ x, x = nmV (h1 r) := ⟨_, rfl⟩
  obtain ⟨x2, e2⟩ : ∃ x, x = utV (h2 r) 1 := ⟨_, rfl⟩
  obtain ⟨x3, e3⟩ : ∃ x, x = nmV (h3 r) := ⟨_, rfl⟩
  obtain ⟨x4, e4⟩ : ∃ x, x = utV (h4 r) 2 := ⟨_, rfl⟩
  obtain ⟨x5, e5⟩ : ∃ x, x = utV (h5 r) 6 := ⟨_, rfl⟩
  have b1 : fit4 x1 := by rw [e1]; exact nmV_u4 _
  have b2 : 0 ≤ x2 ∧ x2 ≤ 1 := by rw [e2]; exact utV_bd _ (by omega)
  have b3 : fit4 x3 := by rw [e3]; exact nmV_u4 _
  have b4 : 0 ≤ x4 ∧ x4 ≤ 2 := by rw [e4]; exact utV_bd _ (by omega)
  have b5 : 0 ≤ x5 ∧ x5 ≤ 6 := by rw [e5]; exact utV_bd _ (by omega)
  have HV : Hid (hrV r = ⟨(pt r 32).regs, x1, (x2 == 1), x3, x4, x5⟩) := by unfold Hid; rw [e1, e2, e3, e4, e5]; simp only [hrV, pt, r32, Nat.sub_self, List.replicate_zero, List.append_nil]; rfl
  have o0 := pt_ok r (Nat.le_refl 32)
  have HO : Hid (∀ a b c d e, fit4 a → fit4 c → (⟨(pt r 32).regs, a, b, c, d, e⟩ : Hv).Ok) := fun a b c d e ha hc => ⟨o0.len, o0.reg, ha.1, ha.2, hc.1, hc.2⟩
  have z0 : fit4 0 := ⟨by omega, by omega⟩
  rw [HV.out]
  clear HV
  have HN1 : Hid (∀ W : World, Re W lim g (h1 r) → Calls Try.prog 56 #[.pointer (some ⟨g, 0, none⟩)] W fun e w' => e = .returned (.int .u32 x1) ∧ Re w' lim g (h2 r) ∧ Ch g W w') := fun W q => by rw [e1]; exact HN.out W _ q
  have HN2 : Hid (∀ W : World, Re W lim g (h2 r) → Calls Try.prog 41 #[.pointer (some ⟨g, 0, none⟩), .int .u32 1] W fun e w' => e = .returned (.int .u32 x2) ∧ Re w' lim g (h3 r) ∧ Ch g W w') := fun W q => by rw [e2]; exact HU1.out W _ q
  have HN3 : Hid (∀ W : World, Re W lim g (h3 r) → Calls Try.prog 56 #[.pointer (some ⟨g, 0, none⟩)] W fun e w' => e = .returned (.int .u32 x3) ∧ Re w' lim g (h4 r) ∧ Ch g W w') := fun W q => by rw [e3]; exact HN.out W _ q
  have HN4 : Hid (∀ W : World, Re W lim g (h4 r) → Calls Try.prog 41 #[.pointer (some ⟨g, 0, none⟩), .int .u32 2] W fun e w' => e = .returned (.int .u32 x4) ∧ Re w' lim g (h5 r) ∧ Ch g W w') := fun W q => by rw [e4]; exact HU2.out W _ q
  have HN5 : Hid (∀ W : World, Re W lim g (h5 r) → Calls Try.prog 41 #[.pointer (some ⟨g, 0, none⟩), .int .u32 6] W fun e w' => e = .returned (.int .u32 x5) ∧ Re w' lim g (hrR r) ∧ Ch g W w') := fun W q => by rw [e5]; exact HU6.out W _ q
  have HX1 : Hid (fit4 x1) := b1
  have HX3 : Hid (fit4 x3) := b3
  clear b1 b3 o0 e1 e2 e3 e4 e5 HU1 HU2 HU6
  obtain ⟨rs, hrs⟩ : ∃ q, q = (pt r 32).regs := ⟨_, rfl⟩
  rw [← hrs] at HO ⊢
  obtain ⟨r6, hr6⟩ : ∃ q, q = hrR r := ⟨_, rfl⟩
  rw [← hr6] at HN5 ⊢
  obtain ⟨D, hD⟩ : ∃ q, q = hA ⟨rs, x1, (x2 == 1), x3, x4, x5⟩ := ⟨_, rfl⟩
  rw [← hD]
  have HRS : Hid (rs = (pt r 32).regs) := hrs
  have HD : Hid (D = hA ⟨rs, x1, (x2 == 1), x3, x4, x5⟩) := hD
  clear hrs hr6 hD
  generalize h2 r = r2 at *
  generalize h3 r = r3 at *
  generalize h4 r = r4 at *
  generalize h5 r = r5 at *
  go_enter Try.func42, Try.ntmps42
  go_wp2_with fail
  have HA0 : Hid (Rh lim w ((w.alloc (.cells (hA (pt r 0)) 48)).alloc (.cells (hA (pt r 0)) 48)) g r (pt r 0)) := ⟨HR.out.gr (((Gr.refl _).alloc _).alloc _), pt_ok r (by omega), heap_alloc2_new w _ _, ⟨_, ⟨hA_size (pt_ok r (by omega)), hA_no _⟩, heap_alloc2_old w _ _⟩, (Ch.refl g w).gr (((Gr.refl _).alloc _).alloc _)⟩
  go_loopw [5] (fun i wr => ∃ j : Nat, j ≤ 32 ∧ i = .int .i64 j ∧ Rh lim w wr g (nmI r j) (pt r j)) (fun i _ => 32 - (intOf i).toNat)
  case atStart => exact ⟨0, Nat.zero_le _, rfl, HA0.out⟩
  case round =>
    obtain ⟨j, hj, rfl, A⟩ := hrel
    have HA : Hid (Rh lim w wr g (nmI r j) (pt r j)) := A
    clear A HA0
    by_cases hlt : j < 32
    · have hlt' : (j : Int) < 32 := by omega
      go_wp2_with fail
      refine (HN.out _ _ HA.out.re).mono ?_
      rintro e w1 ⟨rfl, R1, C1⟩
      have A1 := HA.out.call R1 C1
      have HA1 : Hid (Rh lim w w1 g (nmI r (j + 1)) (pt r j)) := A1
      obtain ⟨v, c0, f0⟩ := A1.cell (i := j) (by omega)
      have HS : Hid ((hL (pt r j)).set j (.int .u32 (nmV (nmI r j))) = hL (pt r (j + 1))) := by
        have := pt_set r hlt
        unfold hA at this
        rw [List.setIfInBounds_toArray] at this
        exact congrArg Array.toList this
      clear R1 C1 A1 HA
      generalize nmV (nmI r j) = x at *
      go_wp2_with fail
      go_roundw
      case rel => exact ⟨j + 1, by omega, by go_num, HA1.out.set (pt_ok r (by omega)) HS.out⟩
      case measure => simp [intOf]; omega
    · have HA1 : Hid (Rh lim w wr g (h1 r) (pt r 32)) := by have := HA.out; rw [show j = 32 by omega] at this; exact this
      have dj : ¬ (j : Int) < 32 := by omega
      clear HA hlt hj
      have HA1 : Hid (Rh lim w wr g (h1 r) ⟨rs, 0, false, 0, 0, 0⟩) := by rw [HRS.out]; exact HA1.out
      clear HN HR
      go_wp2_with fail
      refine (HN1.out _ HA1.out.re).mono ?_
      rintro e w1 ⟨rfl, R1, C1⟩
      have A1 := HA1.out.call R1 C1
      have HB1 : Hid (Rh lim w w1 g r2 ⟨rs, 0, false, 0, 0, 0⟩) := A1
      obtain ⟨v1, c0, f0⟩ := A1.cell (i := 32) (by omega)
      have HA2 : Hid (Rh lim w (w1.setCell ⟨w.heap.size + 1, 32, none⟩ (.int .u32 x1)) g r2 ⟨rs, x1, false, 0, 0, 0⟩) := A1.set (HO.out _ _ _ _ _ HX1.out z0) (set_pc A1.ok _)
      clear R1 C1 A1 HA1 HN1
      go_wp2_with fail
      generalize w1.setCell ⟨w.heap.size + 1, 32, none⟩ (.int .u32 x1) = y1 at *
      clear c0 f0 HB1
      go_wp2_with fail
      refine (HN2.out _ HA2.out.re).mono ?_
      rintro e w2 ⟨rfl, R1, C1⟩
      have A1 := HA2.out.call R1 C1
      have HB2 : Hid (Rh lim w w2 g r3 ⟨rs, x1, false, 0, 0, 0⟩) := A1
      obtain ⟨v2, c0, f0⟩ := A1.cell (i := 33) (by omega)
      have HA3 : Hid (Rh lim w (w2.setCell ⟨w.heap.size + 1, 33, none⟩ (.bool ((x2 == 1)))) g r3 ⟨rs, x1, (x2 == 1), 0, 0, 0⟩) := A1.set (HO.out _ _ _ _ _ HX1.out z0) (set_held A1.ok _)
      clear R1 C1 A1 HA2 HN2
      go_wp2_with fail
      generalize w2.setCell ⟨w.heap.size + 1, 33, none⟩ (.bool ((x2 == 1))) = y2 at *
      clear c0 f0 HB2
      go_wp2_with fail
      refine (HN3.out _ HA3.out.re).mono ?_
      rintro e w3 ⟨rfl, R1, C1⟩
      have A1 := HA3.out.call R1 C1
      have HB3 : Hid (Rh lim w w3 g r4 ⟨rs, x1, (x2 == 1), 0, 0, 0⟩) := A1
      obtain ⟨v3, c0, f0⟩ := A1.cell (i := 34) (by omega)
      have HA4 : Hid (Rh lim w (w3.setCell ⟨w.heap.size + 1, 34, none⟩ (.int .u32 x3)) g r4 ⟨rs, x1, (x2 == 1), x3, 0, 0⟩) := A1.set (HO.out _ _ _ _ _ HX1.out HX3.out) (set_heldAt A1.ok _)
      clear R1 C1 A1 HA3 HN3
      go_wp2_with fail
      generalize w3.setCell ⟨w.heap.size + 1, 34, none⟩ (.int .u32 x3) = y3 at *
      clear c0 f0 HB3
      go_wp2_with fail
      refine (HN4.out _ HA4.out.re).mono ?_
      rintro e w4 ⟨rfl, R1, C1⟩
      have A1 := HA4.out.call R1 C1
      have HB4 : Hid (Rh lim w w4 g r5 ⟨rs, x1, (x2 == 1), x3, 0, 0⟩) := A1
      obtain ⟨v4, c0, f0⟩ := A1.cell (i := 35) (by omega)
      have HA5 : Hid (Rh lim w (w4.setCell ⟨w.heap.size + 1, 35, none⟩ (.int .i64 x4)) g r5 ⟨rs, x1, (x2 == 1), x3, x4, 0⟩) := A1.set (HO.out _ _ _ _ _ HX1.out HX3.out) (set_state A1.ok _)
      clear R1 C1 A1 HA4 HN4
      go_wp2_with fail
      generalize w4.setCell ⟨w.heap.size + 1, 35, none⟩ (.int .i64 x4) = y4 at *
      clear c0 f0 HB4
      go_wp2_with fail
      refine (HN5.out _ HA5.out.re).mono ?_
      rintro e w5 ⟨rfl, R1, C1⟩
      have A1 := HA5.out.call R1 C1
      have HB5 : Hid (Rh lim w w5 g r6 ⟨rs, x1, (x2 == 1), x3, x4, 0⟩) := A1
      obtain ⟨v5, c0, f0⟩ := A1.cell (i := 36) (by omega)
      have HA6 : Hid (Rh lim w (w5.setCell ⟨w.heap.size + 1, 36, none⟩ (.int .i64 x5)) g r6 ⟨rs, x1, (x2 == 1), x3, x4, x5⟩) := A1.set (HO.out _ _ _ _ _ HX1.out HX3.out) (set_cause A1.ok _)
      clear R1 C1 A1 HA5 HN5
      obtain ⟨Z, hz, hr⟩ := HA6.out.rb
      have HZ : Hid ((w5.setCell ⟨w.heap.size + 1, 36, none⟩ (.int .i64 x5)).heap[w.heap.size]? = some (.cells Z 48 (0, 0))) := hr
      have HY : Hid ((w5.setCell ⟨w.heap.size + 1, 36, none⟩ (.int .i64 x5)).heap[w.heap.size + 1]? = some (.cells (hA ⟨rs, x1, (x2 == 1), x3, x4, x5⟩) 48 (0, 0))) := HA6.out.hb
      have HSZ : Hid ((hA ⟨rs, x1, (x2 == 1), x3, x4, x5⟩).size = 37) := hA_size HA6.out.ok
      have HONE : Hid ((hA ⟨rs, x1, (x2 == 1), x3, x4, x5⟩).all (·.oneCell') = true) := one_hA _
      obtain ⟨aa, cc, eg, _⟩ := HA6.out.re.blk
      have ng : Hid (w.heap.size ≠ g) := ne_of_types hr eg (by decide)
      have HAF : Hid (Re (w5.setCell ⟨w.heap.size + 1, 36, none⟩ (.int .i64 x5)) lim g r6 ∧ Ch g w (w5.setCell ⟨w.heap.size + 1, 36, none⟩ (.int .i64 x5))) := ⟨HA6.out.re, HA6.out.ch⟩
      have HZs : Hid (Z.size = 37) := hz.1
      have HZn : Hid (∀ (i : Nat) (x : Int), Z[i]? ≠ some (Value.int .u8 x)) := hz.2
      clear hr HA6 HB5 eg hz
      rw [← HD.out] at HY HSZ HONE
      go_wp2_with (first
        | (refine wpList_load_row rfl 48 _ rfl (w.heap.size + 1) rfl 48 D (0, 0) _ ?r2 Try.underlying48 rfl (by rw [HSZ.out]; exact iH) ?_; (case r2 => exact HY.out))
        | (refine wpList_store_row rfl 48 _ _ rfl w.heap.size D rfl rfl 48 Z ?r3 (by rw [HSZ.out]; exact iH) (by rw [HSZ.out]; exact HZs.out) HONE.out ?_; (case r3 => exact HZ.out)))
      refine bodyPost_ret (v := .agg D) (results_cell_row rfl _ _ _ _ _ (0, 0) _ rfl (srh HZ.out) Try.underlying48 rfl (by rw [HSZ.out]; exact iH)) rfl ⟨rfl, ?_, ch_newR HAF.out.2 (Nat.le_refl _) _⟩
      exact re_row HAF.out.1 HZ.out HZn.out ng.out D
end Go.Proofs.Ythgnfmbnbndeeac.Im
/-
  append from whatever slice, nil or not.
-/
namespace Go.Proofs.Ythgnfmbnbndeeac.Im
open Go.ChangeShapes Go.WideShapes Go.ChangeAt Go.RowKit Mm Hh Hc
set_option linter.unusedVariables false
set_option linter.unusedSimpArgs false

/-- The slice vx, nil or not, reads as m elements of sz cells: news. -/
def Src (w : World) (vx : Value) (m sz : Nat) (news : List Value) : Prop :=
  (vx = .slice none 0 0 ∧ m = 0 ∧ news = []) ∨ ∃ ad c, vx = .slice (some ad) m c ∧ news.length = m * sz ∧ ∀ j u, news[j]? = some u → w.cell? (ad.add j) = some u
theorem Src.own {w : World} {base e sz n : Nat} {v : Value} {xs : List Value} (h : w.ownsRow base e sz v n xs) : Src w v n sz xs := by
  obtain ⟨hl, h⟩ := h
  rcases h with ⟨rfl, rfl⟩ | ⟨g, cap, cur, rfl, _, hg, _, _, _, ht⟩
  · exact .inl ⟨rfl, rfl, List.eq_nil_of_length_eq_zero (by simpa using hl)⟩
  · refine .inr ⟨_, cap, rfl, hl, fun j u hj => ?_⟩
    rw [add_at, Nat.zero_add, cr hg]
    rw [← ht] at hj
    rw [List.getElem?_take] at hj
    split at hj
    · simpa using hj
    · cases hj
theorem Src.gr {w w' : World} {vx : Value} {m sz : Nat} {news : List Value} (h : Src w vx m sz news) (G : Gr w w') : Src w' vx m sz news := by
  rcases h with h | ⟨ad, c, e, hl, hc⟩
  · exact .inl h
  · exact .inr ⟨ad, c, e, hl, fun j u hj => (G.cell _ (World.block_lt_of_cell? w _ (hc j u hj))).trans (hc j u hj)⟩
section
variable {P : Program} {w : World} {base e size bytes n m : Nat} {i : TypeInfo} {z : Value} {t : TypeId}
theorem run_append_src (ty : TypeId) (h1 : P.underlying t = some (.slice e)) (h2 : P.info? e = some i) (h3 : i.zero = some z) (h4 : i.size = size) (h5 : i.bytes = bytes) (h6 : z.cells.size = size) (h7 : 0 < size)
    {v vx : Value} {olds news : List Value} (hown : w.ownsRow base e size v n olds) (hsrc : Src w vx m size news) (h1c : ∀ u ∈ news, u.oneCell' = true) (b1 : n + m ≤ maxLen) (b2 : (n + m) * bytes ≤ 140737488355328) (hbase : base ≤ w.heap.size) :
    ∃ v' w', (Builtin.append_ #[t, t] ty #[v, vx]).run P w = .ok v' w' ∧ w'.ownsRow base e size v' (n + m) (olds ++ news) ∧ w.grownBy w' v.ownBlock := by
  rcases hsrc with ⟨rfl, rfl, rfl⟩ | ⟨ad, c, rfl, hl, hc⟩
  · exact ⟨v, w, run_append_owned_none w base t ty e i size h1 h2 v n olds hown, by simpa using hown, ⟨rfl, rfl, rfl, Nat.le_refl _, fun _ _ _ => rfl⟩⟩
  · obtain ⟨v', w', hrun, r1, r2, _⟩ := run_append_own (P := P) w base t ty e i z size bytes h1 h2 h3 h4 h5 h6 h7 v n olds hown ad m c news hl hc h1c b1 b2 hbase
    exact ⟨v', w', hrun, r1, r2⟩
theorem step_append_src {ops : Array Oper} {o : Oper} {a : Act} {K : Act → World → Prop} {Q : Exit → Act → World → Prop} {E : Prop}
    (hg : o.guard = none) (s x : Operand) (hop : o.op = Op.call { callee := Callee.builtin Builtin.append, args := #[s, x], argTypes := #[t, t] })
    (h1 : P.underlying t = some (.slice e)) (h2 : P.info? e = some i) (h3 : i.zero = some z) (h4 : i.size = size) (h5 : i.bytes = bytes) (h6 : z.cells.size = size) (h7 : 0 < size)
    {v vx : Value} {olds news : List Value} (hs : a.eval s = v) (hx : a.eval x = vx) (hown : w.ownsRow base e size v n olds) (hsrc : Src w vx m size news) (h1c : ∀ u ∈ news, u.oneCell' = true) (b1 : n + m ≤ maxLen) (b2 : (n + m) * bytes ≤ 140737488355328) (hbase : base ≤ w.heap.size)
    (hK : ∀ v' w', w'.ownsRow base e size v' (n + m) (olds ++ news) → w.grownBy w' v.ownBlock → K (a.put o.dst v') w') :
    if Region.wanted o (yielded ops a.tmps) = true then Oper.wp P o a w K Q else E := by
  have hw : Region.wanted o (yielded ops a.tmps) = true := by simp [Region.wanted, hg]
  rw [if_pos hw]
  obtain ⟨v', w', hrun, r1, r2⟩ := run_append_src (P := P) o.type h1 h2 h3 h4 h5 h6 h7 hown hsrc h1c b1 b2 hbase
  unfold Oper.wp
  simp [execOp, hop, resolve, invoke, builtin, hs, hx, hrun, Result.andThen]
  exact hK v' w' r1 r2
theorem wpList_append_src {ops : Array Oper} {rest : List Oper} {o : Oper} {a : Act} {Q : Exit → Act → World → Prop}
    (hg : o.guard = none) (s x : Operand) (hop : o.op = Op.call { callee := Callee.builtin Builtin.append, args := #[s, x], argTypes := #[t, t] })
    (h1 : P.underlying t = some (.slice e)) (h2 : P.info? e = some i) (h3 : i.zero = some z) (h4 : i.size = size) (h5 : i.bytes = bytes) (h6 : z.cells.size = size) (h7 : 0 < size)
    {v vx : Value} {olds news : List Value} (hs : a.eval s = v) (hx : a.eval x = vx) (hown : w.ownsRow base e size v n olds) (hsrc : Src w vx m size news) (h1c : ∀ u ∈ news, u.oneCell' = true) (b1 : n + m ≤ maxLen) (b2 : (n + m) * bytes ≤ 140737488355328) (hbase : base ≤ w.heap.size)
    (hK : ∀ v' w', w'.ownsRow base e size v' (n + m) (olds ++ news) → w.grownBy w' v.ownBlock → wpList P ops Q rest (a.put o.dst v') w') : wpList P ops Q (o :: rest) a w := by
  refine wpList_plain hg fun K hk => ?_
  obtain ⟨v', w', hrun, r1, r2⟩ := run_append_src (P := P) o.type h1 h2 h3 h4 h5 h6 h7 hown hsrc h1c b1 b2 hbase
  unfold Oper.wp
  simp [execOp, hop, resolve, invoke, builtin, hs, hx, hrun, Result.andThen]
  exact hk _ _ (hK v' w' r1 r2)
end
theorem Src.mem {w : World} {ao : Option Addr} {n c : Nat} {l : List UInt8} (M : Mem w ao n l) (hc : ao = none → c = 0) : Src w (.slice ao n c) n 1 (bc l) := by
  have hl := M.len
  cases ao with
  | none =>
    obtain rfl := M.nil rfl
    obtain rfl := hc rfl
    exact .inl ⟨rfl, rfl, by rw [List.eq_nil_of_length_eq_zero hl]; rfl⟩
  | some ad => exact .inr ⟨ad, c, rfl, by rw [bc_len, hl, Nat.mul_one], mem_bc M (Gr.refl _)⟩
end Go.Proofs.Ythgnfmbnbndeeac.Im
/-
  A slice of one struct, as a step; what follows a region that draws, once for all its orders.
-/
namespace Go.Proofs.Ythgnfmbnbndeeac.Im
open Go.ChangeShapes Go.WideShapes Go.ChangeAt Go.RowKit Mm Hh Hc Mc
set_option linter.unusedVariables false
set_option linter.unusedSimpArgs false

/-- A slice of one struct. -/
theorem fill_one {n : Nat} {A Z : Array Value} (hA : A.size = n) (hZ : Z.size = n) : Instr.fill (fun i => some (i * n, n)) Z [(0, .agg A)] = some A := by
  unfold Instr.fill
  simp only [Nat.zero_mul]
  have e1 : (Value.agg A).cells = A := rfl
  rw [e1, if_neg (by simp [hA, hZ])]
  unfold Instr.fill
  refine congrArg some ?_
  apply Array.ext_getElem?
  intro i
  have a1 := fold_set 0 A Z
  rw [a1.2 i]
  by_cases hi : i < n
  · rw [if_pos (by omega)]; simp
  · rw [if_neg (by omega), Array.getElem?_eq_none (by omega), Array.getElem?_eq_none (by omega)]
theorem step_slice1 {P : Program} {ops : Array Oper} {o : Oper} {a : Act} {w : World} {K : Act → World → Prop} {Q : Exit → Act → World → Prop} {E : Prop} (hg : o.guard = none) (t e : TypeId) (x : Operand) (ho : o.op = .buildSlice t 1 #[(0, x)])
    (A : Array Value) (n : Nat) (hx : a.eval x = .agg A) (hA : A.size = n) (hu : P.underlying t = some (.slice e)) (hi : (P.info? e).map (fun i => (i.zero.isSome, i.size)) = some (true, n)) (h0 : 0 < n) (hn : n ≤ 1000)
    (h : K (a.put o.dst (.slice (some ⟨w.heap.size, 0, none⟩) 1 1)) (w.alloc (.cells A e))) : if Region.wanted o (yielded ops a.tmps) = true then Oper.wp P o a w K Q else E := by
  rw [if_pos (by simp [Region.wanted, hg])]
  cases hie : P.info? e with
  | none => simp [hie] at hi
  | some ie =>
    simp only [hie, Option.map_some, Option.some.injEq, Prod.mk.injEq] at hi
    obtain ⟨hz, hs⟩ := hi
    obtain ⟨z, hzz⟩ := Option.isSome_iff_exists.1 hz
    refine wp_buildSlice t e 1 _ ho A ie z hu hie hzz (by rw [hs]; omega) (by rw [hs]; omega) ?_ h
    simp only [List.map_toArray, List.map_cons, List.map_nil, hx, hs, Nat.one_mul]
    exact fill_one hA (by simp)
theorem wpList_slice1 {P : Program} {ops : Array Oper} {rest : List Oper} {o : Oper} {a : Act} {w : World} {Q : Exit → Act → World → Prop} (hg : o.guard = none) (t e : TypeId) (x : Operand) (ho : o.op = .buildSlice t 1 #[(0, x)])
    (A : Array Value) (n : Nat) (hx : a.eval x = .agg A) (hA : A.size = n) (hu : P.underlying t = some (.slice e)) (hi : (P.info? e).map (fun i => (i.zero.isSome, i.size)) = some (true, n)) (h0 : 0 < n) (hn : n ≤ 1000)
    (h : wpList P ops Q rest (a.put o.dst (.slice (some ⟨w.heap.size, 0, none⟩) 1 1)) (w.alloc (.cells A e))) : wpList P ops Q (o :: rest) a w :=
  wpList_plain hg fun K hK => by
    have := step_slice1 (ops := #[]) (E := True) (Q := Q) hg t e x ho A n hx hA hu hi h0 hn (hK _ _ h)
    rwa [if_pos (by simp [Region.wanted, hg])] at this
theorem atW {p : World → Prop} {x : World} (F : World → Prop) (hF : F x) (h : ∀ y, F y → p y) : p x := h x hF
structure One (P : Prop) : Prop where
  out : P
theorem shareP {P Q : Prop} (h : One P → Q) (p : P) : Q := h ⟨p⟩
theorem iMc : (Try.prog.info? 25).map (·.size) = some 2 := by kernel_rfl
theorem iHz : (Try.prog.info? 48).map (fun i => (i.zero.isSome, i.size)) = some (true, 37) := by kernel_rfl
theorem infoHt : (Try.prog.info? 48).map (fun i => (i.zero, i.size, i.bytes)) = some (some (.agg (hA ⟨List.replicate 32 0, 0, false, 0, 0, 0⟩)), 37, 160) := by kernel_rfl
/-- Harts in a row of the program's own, as a slice that is read. -/
theorem hs_own {w : World} {base n : Nat} {v : Value} {hs : List Hv} (o : ∀ h ∈ hs, h.Ok) (hl : hs.length = n) (h : w.ownsRow base 48 37 v n (hC hs)) : ∃ a c, v = .slice a n c ∧ Hs w a n hs := by
  rcases h.2 with ⟨e, h0⟩ | ⟨g, cap, cur, hv, hb, hg, _⟩
  · subst h0
    exact ⟨none, 0, e, hl, o, fun h => absurd h (by omega)⟩
  · refine ⟨_, cap, hv, hl, o, fun _ => ⟨g, 0, rfl, (gs hg).1, fun i q hq => ?_⟩⟩
    rw [hv] at h
    have := (HRow.own o h).range hq
    rwa [Nat.zero_add]
end Go.Proofs.Ythgnfmbnbndeeac.Im
