/-
  Ru, Rm1, Rm2: texts of ours that lie in one file.
-/
import Derived.Test.YtkcgcflpmggjkabDoorK02
import Derived.Test.YtkcgcflpmggjkabDoorHm2
import Derived.Test.YtkcgcflpmggjkabDoorRef1Alu
/-
  The document's run of small steps (ferrybridgeref7.Run) as cells of memory, and what is true of it from method to method ('Ru').
-/
namespace Go.Proofs.YtkcgcflpmggjkabDoor.Mi
open Go.ChangeShapes Go.WideShapes Go.ChangeAt Go.RowKit Mm Hh Hc
set_option linter.unusedVariables false
set_option linter.unusedSimpArgs false

def uT (r : Rn) (M O S : Value) (bf bt : Int) : List Value := [M, O, .int .i64 r.n, S] ++ r.tm.map (Value.int .u32) ++ [.int .u32 r.here, .bool r.own, .bool r.over, .int .u32 bf, .int .u32 bt]
def uA (r : Rn) (M O S : Value) (bf bt : Int) : Array Value := (hL r.h ++ uT r M O S bf bt).toArray
theorem uT_len {r : Rn} (o : r.Ok) (M O S : Value) (bf bt : Int) : (uT r M O S bf bt).length = 13 := by simp [uT, o.tl]
theorem uA_size {r : Rn} (o : r.Ok) (M O S : Value) (bf bt : Int) : (uA r M O S bf bt).size = 50 := by simp [uA, hL_len o.h, uT_len o]
theorem uA_h {r : Rn} (o : r.Ok) {M O S : Value} {bf bt : Int} {i : Nat} (hi : i < 37) : (uA r M O S bf bt)[i]? = (hL r.h)[i]? := by
  have := hL_len o.h
  unfold uA
  rw [List.getElem?_toArray, List.getElem?_append_left (by omega)]
theorem uA_t {r : Rn} (o : r.Ok) {M O S : Value} {bf bt : Int} (j : Nat) : (uA r M O S bf bt)[37 + j]? = (uT r M O S bf bt)[j]? := by
  unfold uA
  rw [List.getElem?_toArray, List.getElem?_append_right (by simp [hL_len o.h])]
  simp [hL_len o.h]
theorem uT_tm {r : Rn} (o : r.Ok) {M O S : Value} {bf bt : Int} {j : Nat} (hj : j < 4) : (uT r M O S bf bt)[4 + j]? = some (.int .u32 (r.tm.getD j 0)) := by
  have := o.tl
  unfold uT
  rw [List.append_assoc, List.getElem?_append_right (by simp), List.getElem?_append_left (by simp; omega)]
  simp only [List.length_cons, List.length_nil, List.getElem?_map, List.getD]
  rw [show 4 + j - (0 + 1 + 1 + 1 + 1) = j by omega, List.getElem?_eq_getElem (by omega)]
  rfl
theorem uT_fld {r : Rn} (o : r.Ok) {M O S : Value} {bf bt : Int} (j : Nat) : (uT r M O S bf bt)[8 + j]? = [Value.int .u32 r.here, .bool r.own, .bool r.over, .int .u32 bf, .int .u32 bt][j]? := by
  unfold uT
  rw [List.getElem?_append_right (by simp [o.tl])]
  simp [o.tl]
theorem uA_setH {r : Rn} (o : r.Ok) {M O S : Value} {bf bt : Int} {i : Nat} (hi : i < 37) {v : Value} {h' : Hv} (e : (hL r.h).set i v = hL h') : (uA r M O S bf bt).setIfInBounds i v = uA { r with h := h' } M O S bf bt := by
  have := hL_len o.h
  unfold uA
  simp only [List.setIfInBounds_toArray]
  rw [List.set_append_left _ _ (by omega), e]
  rfl
theorem uA_setT {r r' : Rn} (o : r.Ok) {M O S M' O' S' : Value} {bf bt : Int} {j : Nat} {v : Value} (eh : r'.h = r.h) (e : (uT r M O S bf bt).set j v = uT r' M' O' S' bf bt) : (uA r M O S bf bt).setIfInBounds (37 + j) v = uA r' M' O' S' bf bt := by
  have := hL_len o.h
  unfold uA
  simp only [List.setIfInBounds_toArray]
  rw [List.set_append_right _ _ (by omega), this, eh, show 37 + j - 37 = j by omega, e]
theorem uT_setTm {r : Rn} (o : r.Ok) {M O S : Value} {bf bt : Int} {j : Nat} (hj : j < 4) (x : Int) : (uT r M O S bf bt).set (4 + j) (.int .u32 x) = uT { r with tm := r.tm.set j x } M O S bf bt := by
  have := o.tl
  unfold uT
  rw [List.append_assoc, List.set_append_right _ _ (by simp), List.set_append_left _ _ (by simp; omega)]
  simp only [List.length_cons, List.length_nil, List.map_set]
  rw [show 4 + j - (0 + 1 + 1 + 1 + 1) = j by omega, ← List.append_assoc]
theorem uT_setF {r r' : Rn} (o : r.Ok) {M O S : Value} {bf bt : Int} {j : Nat} {v : Value} (en : r'.n = r.n) (et : r'.tm = r.tm) (e : [Value.int .u32 r.here, .bool r.own, .bool r.over, .int .u32 bf, .int .u32 bt].set j v = [Value.int .u32 r'.here, .bool r'.own, .bool r'.over, .int .u32 bf, .int .u32 bt]) : (uT r M O S bf bt).set (8 + j) v = uT r' M O S bf bt := by
  unfold uT
  rw [List.set_append_right _ _ (by simp [o.tl]), en, et]
  simp only [List.length_append, List.length_cons, List.length_nil, List.length_map, o.tl]
  rw [show 8 + j - (0 + 1 + 1 + 1 + 1 + 4) = j by omega, e]
/-- The memory of a run: what was handed in (below base), or bytes of its own. -/
def MO (w : World) (base : Nat) (M : Value) (l : List UInt8) : Prop := ∃ ao cap, M = .slice ao l.length cap ∧ Mem w ao l.length l ∧ ∀ ad, ao = some ad → 0 < l.length → ad.block < base ∨ ∃ o f, w.heap[ad.block]? = some (.cells o 5 f)
theorem MO.keep {w w' : World} {base : Nat} {M : Value} {l : List UInt8} (h : MO w base M l) (e : ∀ k, k < base → w'.heap[k]? = w.heap[k]?) (e2 : ∀ (k : Nat) (o : Array Value) (f : Nat × Nat), w.heap[k]? = some (.cells o 5 f) → w'.heap[k]? = w.heap[k]?) : MO w' base M l := by
  obtain ⟨ao, cap, hM, hm, far⟩ := h
  have k : ∀ ad, ao = some ad → 0 < l.length → w'.heap[ad.block]? = w.heap[ad.block]? := fun ad q h0 => by
    rcases far ad q h0 with h | ⟨o, f, h⟩
    · exact e _ h
    · exact e2 _ _ _ h
  refine ⟨ao, cap, hM, ?_, fun ad q h0 => ?_⟩
  · by_cases h0 : 0 < l.length
    · exact hm.apart fun ad q => k ad q h0
    · exact ⟨hm.len, hm.nil, fun ad q t ht => by omega⟩
  · rcases far ad q h0 with h | ⟨o, f, h⟩
    · exact .inl h
    · exact .inr ⟨o, f, (k ad q h0).trans h⟩
structure RV (w : World) (base g : Nat) (r : Rn) (bf bt : Int) (M O S : Value) : Prop where
  ok : r.Ok
  bg : base ≤ g
  blk : w.heap[g]? = some (.cells (uA r M O S bf bt) 95 (0, 0))
  mem : MO w base M r.m
  out : w.ownsRow base 38 1 O r.out.length (r.out.map (Value.int .u32))
  sto : w.ownsRow base 50 2 S r.sto.length (rgs r.sto)
/-- A run at block g. -/
def Ru (w : World) (base g : Nat) (r : Rn) (bf bt : Int) : Prop := ∃ M O S, RV w base g r bf bt M O S
theorem RV.lt {w : World} {base g : Nat} {r : Rn} {bf bt : Int} {M O S : Value} (V : RV w base g r bf bt M O S) : g < w.heap.size := (Array.getElem?_eq_some_iff.1 V.blk).1
theorem RV.cell {w : World} {base g : Nat} {r : Rn} {bf bt : Int} {M O S : Value} (V : RV w base g r bf bt M O S) (i : Nat) : w.cell? ⟨g, i, none⟩ = (uA r M O S bf bt)[i]? := cell_of_row _ _ _ _ _ _ V.blk
theorem RV.fz {w : World} {base g : Nat} {r : Rn} {bf bt : Int} {M O S : Value} (V : RV w base g r bf bt M O S) (i : Nat) : w.frozen? ⟨g, i, none⟩ = false := frozen_of_row _ _ _ _ _ V.blk
theorem RV.reg {w : World} {base g : Nat} {r : Rn} {bf bt : Int} {M O S : Value} (V : RV w base g r bf bt M O S) {i : Nat} (hi : i < 32) : w.cell? ⟨g, i, none⟩ = some (.int .u32 (rg r.h i)) :=
  (V.cell i).trans ((uA_h V.ok (by omega)).trans (hL_reg V.ok.h hi))
theorem RV.fld {w : World} {base g : Nat} {r : Rn} {bf bt : Int} {M O S : Value} (V : RV w base g r bf bt M O S) {j : Nat} (hj : j < 5) : w.cell? ⟨g, 32 + j, none⟩ = [Value.int .u32 r.h.pc, .bool r.h.held, .int .u32 r.h.heldAt, .int .i64 r.h.state, .int .i64 r.h.cause][j]? :=
  (V.cell _).trans ((uA_h V.ok (by omega)).trans (hL_fld V.ok.h j))
theorem RV.top {w : World} {base g : Nat} {r : Rn} {bf bt : Int} {M O S : Value} (V : RV w base g r bf bt M O S) (j : Nat) : w.cell? ⟨g, 37 + j, none⟩ = (uT r M O S bf bt)[j]? := (V.cell _).trans (uA_t V.ok j)
theorem RV.tmp {w : World} {base g : Nat} {r : Rn} {bf bt : Int} {M O S : Value} (V : RV w base g r bf bt M O S) {j : Nat} (hj : j < 4) : w.cell? ⟨g, 41 + j, none⟩ = some (.int .u32 (r.tm.getD j 0)) := by
  have := (V.top (4 + j)).trans (uT_tm V.ok hj)
  rwa [show 37 + (4 + j) = 41 + j by omega] at this
theorem RV.last {w : World} {base g : Nat} {r : Rn} {bf bt : Int} {M O S : Value} (V : RV w base g r bf bt M O S) (j : Nat) : w.cell? ⟨g, 45 + j, none⟩ = [Value.int .u32 r.here, .bool r.own, .bool r.over, .int .u32 bf, .int .u32 bt][j]? := by
  have := (V.top (8 + j)).trans (uT_fld V.ok j)
  rwa [show 37 + (8 + j) = 45 + j by omega] at this
/-- Only block g has turned, and new ones have come. -/
theorem RV.ch {w w' : World} {base g : Nat} {r r' : Rn} {bf bt : Int} {M O S M' : Value} (V : RV w base g r bf bt M O S) (q : Ch g w w') (hb : w'.heap[g]? = some (.cells (uA r' M' O S bf bt) 95 (0, 0))) (ok : r'.Ok) (hm : MO w' base M' r'.m) (eo : r'.out = r.out) (es : r'.sto = r.sto) : RV w' base g r' bf bt M' O S := by
  have st : ∀ t : Nat, t ≠ 95 → ∀ (k : Nat) (o : Array Value) (f : Nat × Nat), w.heap[k]? = some (.cells o t f) → w'.heap[k]? = w.heap[k]? := fun t ht k o f hk =>
    q.block k (Array.getElem?_eq_some_iff.1 hk).1 (fun e => ne_of_types hk V.blk ht (by injection e))
  refine ⟨ok, V.bg, hb, hm, ?_, ?_⟩
  · rw [eo]; exact owns_to V.out (st _ (by decide))
  · rw [es]; exact owns_to V.sto (st _ (by decide))
theorem RV.chM {w w' : World} {base g : Nat} {r : Rn} {bf bt : Int} {M O S : Value} (V : RV w base g r bf bt M O S) (q : Ch g w w') : MO w' base M r.m := by
  have hl := V.lt
  have hg := V.bg
  refine V.mem.keep (fun k hk => q.block k (by omega) (fun e => by injection e with e; omega)) fun k o f hk => ?_
  exact q.block k (Array.getElem?_eq_some_iff.1 hk).1 (fun e => ne_of_types hk V.blk (by decide) (by injection e))
theorem RV.of {w w' : World} {base g : Nat} {r : Rn} {bf bt : Int} {M O S : Value} (V : RV w base g r bf bt M O S) (q : Gr w w') : RV w' base g r bf bt M O S :=
  V.ch ((Ch.refl g w).gr q) ((q.block g V.lt).trans V.blk) V.ok (V.chM ((Ch.refl g w).gr q)) rfl rfl
theorem Ru.of {w w' : World} {base g : Nat} {r : Rn} {bf bt : Int} (V : Ru w base g r bf bt) (q : Gr w w') : Ru w' base g r bf bt := by
  obtain ⟨M, O, S, V⟩ := V
  exact ⟨M, O, S, V.of q⟩
theorem RV.set {w : World} {base g : Nat} {r r' : Rn} {bf bt : Int} {M O S : Value} (V : RV w base g r bf bt M O S) {i : Nat} {v : Value} (e : (uA r M O S bf bt).setIfInBounds i v = uA r' M O S bf bt) (ok : r'.Ok) (em : r'.m = r.m) (eo : r'.out = r.out) (es : r'.sto = r.sto) : RV (w.setCell ⟨g, i, none⟩ v) base g r' bf bt M O S :=
  V.ch ((Ch.refl g w).setCell i v) (by rw [heap_setCell_same _ _ _ _ _ _ V.blk, e]) ok (by rw [em]; exact V.chM ((Ch.refl g w).setCell i v)) eo es
theorem RV.below {w : World} {base g : Nat} {r : Rn} {bf bt : Int} {M O S : Value} (V : RV w base g r bf bt M O S) {w' : World} (q : Ch g w w') : Below base w w' := q.below V.bg (Nat.le_trans V.bg (Nat.le_of_lt V.lt))
theorem RV.setM {w : World} {base g : Nat} {r : Rn} {bf bt : Int} {M O S M' : Value} (V : RV w base g r bf bt M O S) {l : List UInt8} (hm : MO w base M' l) : RV (w.setCell ⟨g, 37, none⟩ M') base g { r with m := l } bf bt M' O S := by
  refine V.ch ((Ch.refl g w).setCell 37 M') ?_ (V.ok.mem l) ?_ rfl rfl
  · rw [heap_setCell_same _ _ _ _ _ _ V.blk, uA_setT (r' := { r with m := l }) (M' := M') (O' := O) (S' := S) (j := 0) V.ok rfl rfl]
  · have hl := V.lt
    have hg := V.bg
    refine hm.keep (fun k hk => ((Ch.refl g w).setCell 37 M').block k (by omega) (fun e => by injection e with e; omega)) fun k o f hk => ?_
    exact ((Ch.refl g w).setCell 37 M').block k (Array.getElem?_eq_some_iff.1 hk).1 (fun e => ne_of_types hk V.blk (by decide) (by injection e))
end Go.Proofs.YtkcgcflpmggjkabDoor.Mi
/-
  What the small methods of the document's run of small steps do: get, put, stop, trap; sum.
-/
namespace Go.Proofs.YtkcgcflpmggjkabDoor.Mi
open Go.ChangeShapes Go.WideShapes Go.ChangeAt Go.RowKit Mm Hh Hc
set_option linter.unusedVariables false
set_option linter.unusedSimpArgs false

theorem retI {k : IntKind} {a b : Int} (h : a = b) : Ending.returned (.int k a) = .returned (.int k b) := by rw [h]
theorem sum_any (a b : Int) (w : World) (ha : W a) (hb : W b) :
    Calls Tryd.prog 34 #[.int .u32 a, .int .u32 b] w fun e w' => e = .returned (.int .u32 (Wd.lo (a + b))) ∧ w' = w := by
  go_enter Tryd.func34, Tryd.ntmps34
  go_wp2_with (go_at_call 59; refine (Rw.alu_28 _ _ _ ha.1 ha.2 hb.1 hb.2).mono ?_; rintro e w' ⟨rfl, rfl⟩)
  go_ret
  exact ⟨retI rfl, rfl⟩
theorem get_any {w : World} {base g : Nat} {r : Rn} {bf bt : Int} (V : Ru w base g r bf bt) (k : Int) (h0 : 0 ≤ k) (h1 : k < 36) :
    Calls Tryd.prog 54 #[.pointer (some ⟨g, 0, none⟩), .int .i64 k] w fun e w' => e = .returned (.int .u32 (r.get k)) ∧ w' = w := by
  obtain ⟨M, O, S, V⟩ := V
  obtain ⟨k, rfl⟩ := Int.eq_ofNat_of_zero_le h0
  by_cases h : k < 32
  · have q := V.reg h
    have e : r.get (k : Int) = rg r.h k := if_pos (by omega)
    rw [e]
    clear e V
    generalize rg r.h k = x at *
    go_enter Tryd.func54, Tryd.ntmps54
    go_wp2
    go_ret
    exact ⟨rfl, rfl⟩
  · obtain ⟨j, rfl⟩ : ∃ j, k = 32 + j := ⟨k - 32, by omega⟩
    have q := V.tmp (j := j) (by omega)
    have e : r.get ((32 + j : Nat) : Int) = r.tm.getD j 0 := by
      unfold Rn.get
      rw [if_neg (by omega), show (((32 + j : Nat) : Int) - 32).toNat = j by omega]
    rw [e]
    clear e V
    generalize r.tm.getD j 0 = x at *
    go_enter Tryd.func54, Tryd.ntmps54
    go_wp2
    go_ret
    exact ⟨rfl, rfl⟩
theorem put_any {w : World} {base g : Nat} {r : Rn} {bf bt : Int} (V : Ru w base g r bf bt) (k x : Int) (h0 : 0 ≤ k) (h1 : k < 36) (hx : W x) :
    Calls Tryd.prog 53 #[.pointer (some ⟨g, 0, none⟩), .int .i64 k, .int .u32 x] w fun e w' => e = .returned (.tuple #[]) ∧ Ru w' base g (r.put k x) bf bt ∧ Ch g w w' := by
  obtain ⟨M, O, S, V⟩ := V
  obtain ⟨k, rfl⟩ := Int.eq_ofNat_of_zero_le h0
  have HO := V.ok.put k hx
  by_cases h : k < 32
  · by_cases hz : k = 0
    · subst hz
      have HR : Hid (Ru w base g (r.put ((0 : Nat) : Int) x) bf bt) := ⟨M, O, S, V⟩
      clear V
      go_enter Tryd.func53, Tryd.ntmps53
      go_wp2
      go_end0
      exact ⟨rfl, HR.out, Ch.refl _ _⟩
    · have q := V.reg h
      have f := V.fz k
      have e : r.put (k : Int) x = { r with h := { r.h with regs := r.h.regs.set k x } } := by
        unfold Rn.put
        rw [if_neg (by omega), Int.toNat_natCast, Hv.set, if_neg hz]
      rw [e] at HO
      have HR : Hid (Ru (w.setCell ⟨g, k, none⟩ (.int .u32 x)) base g (r.put k x) bf bt) := by
        rw [e]
        exact ⟨M, O, S, V.set (uA_setH V.ok (by omega) (set_reg V.ok.h h x)) HO rfl rfl rfl⟩
      clear e V HO
      have hk : ((k : Int) == 0) = false := by simp; omega
      go_enter Tryd.func53, Tryd.ntmps53
      go_wp2
      go_end0
      exact ⟨rfl, HR.out, (Ch.refl _ _).setCell _ _⟩
  · obtain ⟨j, rfl⟩ : ∃ j, k = 32 + j := ⟨k - 32, by omega⟩
    have q := V.tmp (j := j) (by omega)
    have f := V.fz (41 + j)
    have e : r.put ((32 + j : Nat) : Int) x = { r with tm := r.tm.set j x } := by
      unfold Rn.put
      rw [if_pos (by omega), show (((32 + j : Nat) : Int) - 32).toNat = j by omega]
    rw [e] at HO
    have HR : Hid (Ru (w.setCell ⟨g, 41 + j, none⟩ (.int .u32 x)) base g (r.put ((32 + j : Nat) : Int) x) bf bt) := by
      rw [e]
      have a := uA_setT (r := r) (r' := { r with tm := r.tm.set j x }) (M := M) (O := O) (S := S) (M' := M) (O' := O) (S' := S) (bf := bf) (bt := bt) V.ok rfl (uT_setTm V.ok (j := j) (by omega) x)
      rw [show 37 + (4 + j) = 41 + j by omega] at a
      exact ⟨M, O, S, V.set a HO rfl rfl rfl⟩
    clear e V HO
    go_enter Tryd.func53, Tryd.ntmps53
    go_wp2
    go_end0
    exact ⟨rfl, HR.out, (Ch.refl _ _).setCell _ _⟩
theorem RV.over {w : World} {base g : Nat} {r : Rn} {bf bt : Int} {M O S : Value} (V : RV w base g r bf bt M O S) : RV (w.setCell ⟨g, 47, none⟩ (.bool true)) base g { r with over := true } bf bt M O S :=
  V.set (uA_setT (r' := { r with over := true }) (j := 8 + 2) V.ok rfl (uT_setF V.ok rfl rfl rfl)) ⟨V.ok.h, V.ok.tl, V.ok.tb, V.ok.h0, V.ok.h1⟩ rfl rfl rfl
theorem RV.hart {w : World} {base g : Nat} {r : Rn} {bf bt : Int} {M O S : Value} (V : RV w base g r bf bt M O S) {i : Nat} (hi : i < 37) {v : Value} {h' : Hv} (e : (hL r.h).set i v = hL h') (ok : h'.Ok) : RV (w.setCell ⟨g, i, none⟩ v) base g { r with h := h' } bf bt M O S :=
  V.set (uA_setH V.ok hi e) (V.ok.hart ok) rfl rfl rfl
theorem stop_any {w : World} {base g : Nat} {r : Rn} {bf bt : Int} (V : Ru w base g r bf bt) (pc : Int) (hx : W pc) :
    Calls Tryd.prog 52 #[.pointer (some ⟨g, 0, none⟩), .int .u32 pc] w fun e w' => e = .returned (.tuple #[]) ∧ Ru w' base g (r.stop pc) bf bt ∧ Ch g w w' := by
  obtain ⟨M, O, S, V⟩ := V
  have q0 := V.last 2
  have f := V.fz
  have q1 := V.over.fld (j := 0) (by omega)
  have HR : Hid (Ru ((w.setCell ⟨g, 47, none⟩ (.bool true)).setCell ⟨g, 32, none⟩ (.int .u32 pc)) base g (r.stop pc) bf bt) := ⟨M, O, S, V.over.hart (by omega) (set_pc V.ok.h pc) (V.ok.h.go hx.1 hx.2)⟩
  have q2 := V.fld (j := 0) (by omega)
  simp at q0 q2
  clear V q1
  go_enter Tryd.func52, Tryd.ntmps52
  go_wp2
  go_end0
  exact ⟨rfl, HR.out, ((Ch.refl _ _).setCell _ _).setCell _ _⟩
theorem rtrap_any {w : World} {base g : Nat} {r : Rn} {bf bt : Int} (V : Ru w base g r bf bt) (c : Int) :
    Calls Tryd.prog 55 #[.pointer (some ⟨g, 0, none⟩), .int .i64 c] w fun e w' => e = .returned (.tuple #[]) ∧ Ru w' base g (r.trap c) bf bt ∧ Ch g w w' := by
  obtain ⟨M, O, S, V⟩ := V
  have V1 := V.hart (i := 35) (by omega) (set_state V.ok.h 2) ⟨V.ok.h.len, V.ok.h.reg, V.ok.h.pc0, V.ok.h.pc1, V.ok.h.at0, V.ok.h.at1⟩
  have V2 := V1.hart (i := 36) (by omega) (set_cause V1.ok.h c) (V.ok.h.trap c)
  have HC := stop_any ⟨M, O, S, V2⟩ r.here ⟨V.ok.h0, V.ok.h1⟩
  have HS : Hid (Calls Tryd.prog 52 #[.pointer (some ⟨g, 0, none⟩), .int .u32 r.here] ((w.setCell ⟨g, 35, none⟩ (.int .i64 2)).setCell ⟨g, 36, none⟩ (.int .i64 c)) fun e w' => e = .returned (.tuple #[]) ∧ Ru w' base g (r.trap c) bf bt ∧ Ch g ((w.setCell ⟨g, 35, none⟩ (.int .i64 2)).setCell ⟨g, 36, none⟩ (.int .i64 c)) w') := HC
  have q0 := V.fld (j := 3) (by omega)
  have q1 := V.fld (j := 4) (by omega)
  have q2 := V.last 0
  have f := V.fz
  simp at q0 q1 q2
  clear V V1 V2 HC
  go_enter Tryd.func55, Tryd.ntmps55
  go_wp2_with fail
  refine HS.out.mono ?_
  rintro e w1 ⟨rfl, R1, C1⟩
  have HR : Hid (Ru w1 base g (r.trap c) bf bt) := R1
  have HCh : Hid (Ch g w w1) := (((Ch.refl _ _).setCell _ _).setCell _ _).trans C1
  clear HS R1 C1 q0 q1 q2 f
  go_wp2_with fail
  go_end0
  exact ⟨rfl, HR.out, HCh.out⟩
end Go.Proofs.YtkcgcflpmggjkabDoor.Mi
/-
  What the document's run of small steps does at a store: 'stored'.
-/
namespace Go.Proofs.YtkcgcflpmggjkabDoor.Mi
open Go.ChangeShapes Go.WideShapes Go.ChangeAt Go.RowKit Mm Hh Hc
set_option linter.unusedVariables false
set_option linter.unusedSimpArgs false

/-- What a method of the run leaves: of what lay below 'base' nothing has turned, nor any block that is neither the run's nor of words nor of ranges. -/
structure Fu (base : Nat) (w w' : World) : Prop where
  below : Below base w w'
  keep : ∀ (k : Nat) (o : Array Value) (t : Nat) (f : Nat × Nat), w.heap[k]? = some (.cells o t f) → t ≠ 95 → t ≠ 38 → t ≠ 50 → w'.heap[k]? = w.heap[k]?
theorem Fu.refl (base : Nat) (w : World) : Fu base w w := ⟨Below.refl _ _, fun _ _ _ _ _ _ _ _ => rfl⟩
theorem Fu.trans {base : Nat} {a b c : World} (h : Fu base a b) (q : Fu base b c) : Fu base a c :=
  ⟨h.below.trans q.below, fun k o t f e n1 n2 n3 => by
    have e1 := h.keep k o t f e n1 n2 n3
    exact (q.keep k o t f (e1.trans e) n1 n2 n3).trans e1⟩
theorem Fu.ofGr {base : Nat} {w w' : World} (h : Gr w w') (hb : base ≤ w.heap.size) : Fu base w w' :=
  ⟨Below.mono h hb, fun k o t f e _ _ _ => h.block k (Array.getElem?_eq_some_iff.1 e).1⟩
theorem RV.fu {w w' : World} {base g : Nat} {r : Rn} {bf bt : Int} {M O S : Value} (V : RV w base g r bf bt M O S) (q : Ch g w w') : Fu base w w' :=
  ⟨V.below q, fun k o t f e n1 _ _ => q.block k (Array.getElem?_eq_some_iff.1 e).1 (fun h => ne_of_types e V.blk n1 (by injection h))⟩
theorem Ru.fu {w w' : World} {base g : Nat} {r : Rn} {bf bt : Int} (V : Ru w base g r bf bt) (q : Ch g w w') : Fu base w w' := by
  obtain ⟨M, O, S, V⟩ := V
  exact V.fu q
theorem Ru.base_le {w : World} {base g : Nat} {r : Rn} {bf bt : Int} (V : Ru w base g r bf bt) : base ≤ w.heap.size := by
  obtain ⟨M, O, S, V⟩ := V
  exact Nat.le_trans V.bg (Nat.le_of_lt V.lt)
theorem Ru.ok {w : World} {base g : Nat} {r : Rn} {bf bt : Int} (V : Ru w base g r bf bt) : r.Ok := by
  obtain ⟨M, O, S, V⟩ := V
  exact V.ok
theorem grown_at {w w' : World} {base : Nat} {O : Value} {n : Nat} {xs : List Value} {e sz : Nat} (hO : w.ownsRow base e sz O n xs) (q : w.grownBy w' O.ownBlock) {t : Nat} (ht : t ≠ e) {k : Nat} {o : Array Value} {f : Nat × Nat} (hk : w.heap[k]? = some (.cells o t f)) : w'.heap[k]? = w.heap[k]? :=
  q.block k (Array.getElem?_eq_some_iff.1 hk).1 (fun h => by
    rcases hO.2 with ⟨h0, _⟩ | ⟨g', cap, cur, hv, _, hg, _⟩
    · rw [h0] at h; cases h
    · rw [hv] at h
      injection h with h
      exact ne_of_types hk hg ht h)
theorem owns_word {w : World} {base e sz n : Nat} {v : Value} {xs : List Value} (h : w.ownsRow base e sz v n xs) : ∃ a c, v = .slice a n c := by
  rcases h.2 with ⟨rfl, rfl⟩ | ⟨g, cap, _, rfl, _⟩
  · exact ⟨none, 0, rfl⟩
  · exact ⟨_, cap, rfl⟩
/-- Behind 'Stores = append(Stores, ..)': behind the append, and behind the store. -/
theorem RV.appS {w w1 w2 : World} {base g : Nat} {r : Rn} {bf bt : Int} {M O S v : Value} (V : RV w base g r bf bt M O S) (G : Gr w w1) (q : w1.grownBy w2 S.ownBlock) {ss : List (Int × Int)} (hown : w2.ownsRow base 50 2 v ss.length (rgs ss)) :
    w2.cell? ⟨g, 40, none⟩ = some S ∧ w2.frozen? ⟨g, 40, none⟩ = false ∧ RV (w2.setCell ⟨g, 40, none⟩ v) base g { r with sto := ss } bf bt M O v ∧ Fu base w (w2.setCell ⟨g, 40, none⟩ v) := by
  have V1 := V.of G
  have st : ∀ {t : Nat}, t ≠ 50 → ∀ {k : Nat} {o : Array Value} {f : Nat × Nat}, w1.heap[k]? = some (.cells o t f) → w2.heap[k]? = w1.heap[k]? := fun ht _ _ _ hk => grown_at V1.sto q ht hk
  have hb := (st (by decide) V1.blk).trans V1.blk
  have ne : ∀ {t : Nat}, t ≠ 95 → ∀ {k : Nat} {o : Array Value} {f : Nat × Nat}, w2.heap[k]? = some (.cells o t f) → (w2.setCell ⟨g, 40, none⟩ v).heap[k]? = w2.heap[k]? := fun ht _ _ _ hk => heap_setCell_other _ _ _ _ (by exact ne_of_types hk hb ht)
  have two : ∀ {t : Nat}, t ≠ 95 → t ≠ 50 → ∀ {k : Nat} {o : Array Value} {f : Nat × Nat}, w1.heap[k]? = some (.cells o t f) → (w2.setCell ⟨g, 40, none⟩ v).heap[k]? = w1.heap[k]? := fun h1 h2 _ _ _ hk => by
    have e := st h2 hk
    exact (ne h1 (e.trans hk)).trans e
  have hbase : base ≤ w1.heap.size := Nat.le_trans V1.bg (Nat.le_of_lt V1.lt)
  have bl : Below base w1 (w2.setCell ⟨g, 40, none⟩ v) := Below.setCell ((Below.refl base w1).grown q hbase fun k e => (V1.sto.lt k e).1) (by exact V1.bg) _
  refine ⟨(cell_of_row _ _ _ _ _ _ hb).trans ((uA_t V.ok 3).trans rfl), frozen_of_row _ _ _ _ _ hb, ⟨⟨V.ok.h, V.ok.tl, V.ok.tb, V.ok.h0, V.ok.h1⟩, V.bg, ?_, V1.mem.keep (fun k hk => bl.block k hk) (fun k o f hk => two (by decide) (by decide) hk), owns_to V1.out fun k o f hk => two (by decide) (by decide) hk, owns_to hown fun k o f hk => ne (by decide) hk⟩, ?_⟩
  · rw [heap_setCell_same _ _ _ _ _ _ hb, uA_setT (r' := { r with sto := ss }) (M' := M) (O' := O) (S' := v) (j := 3) V.ok rfl rfl]
  · refine (Fu.ofGr G (Nat.le_trans V.bg (Nat.le_of_lt V.lt))).trans ⟨bl, fun k o t f e n1 n2 n3 => two n1 n3 e⟩
theorem RV.setOwn {w : World} {base g : Nat} {r : Rn} {bf bt : Int} {M O S : Value} (V : RV w base g r bf bt M O S) (b : Bool) : RV (w.setCell ⟨g, 46, none⟩ (.bool b)) base g { r with own := b } bf bt M O S :=
  V.set (uA_setT (r' := { r with own := b }) (j := 8 + 1) V.ok rfl (uT_setF V.ok rfl rfl rfl)) ⟨V.ok.h, V.ok.tl, V.ok.tb, V.ok.h0, V.ok.h1⟩ rfl rfl rfl
theorem lo_eq (n : Int) : Wd.lo n = n % 4294967296 := rfl
set_option maxHeartbeats 2000000 in
theorem stored_any {w : World} {base g : Nat} {r : Rn} {bf bt : Int} (V : Ru w base g r bf bt) (p : Int) (many : Nat) (hp : W p) (hm : many ≤ 4) (hs : r.sto.length ≤ 1000000) :
    Calls Tryd.prog 58 #[.pointer (some ⟨g, 0, none⟩), .int .u32 p, .int .i64 many] w fun e w' => e = .returned (.tuple #[]) ∧ Ru w' base g (r.stored bf bt p many) bf bt ∧ Fu base w w' := by
  obtain ⟨M, O, S, V⟩ := V
  obtain ⟨a, c, rfl⟩ := owns_word V.sto
  have HV : Hid (RV w base g r bf bt M O (.slice a r.sto.length c)) := V
  have q40 : w.cell? ⟨g, 40, none⟩ = some (.slice a r.sto.length c) := (V.top 3).trans rfl
  have hb : base ≤ w.heap.size := Nat.le_trans V.bg (Nat.le_of_lt V.lt)
  have hgl := V.lt
  obtain ⟨i0, hi, hz0, hz1, hz2⟩ := info_parts infoR
  have HP : Hid (W p) := hp
  clear V
  go_enter Tryd.func58, Tryd.ntmps58
  go_wp2_with (at_builtin; refine wpList_append_own _ rfl (.tmp 13) (.tmp 20) 52 rfl base 50 i0 (.agg #[.int .u32 0, .int .u32 0]) 2 8 Tryd.underlying52 hi hz0 hz1 hz2 rfl (by decide) (.slice a r.sto.length c) r.sto.length (rgs r.sto) rfl (owns_gr HV.out.sto ((Gr.refl _).alloc _)) ⟨w.heap.size, 0, none⟩ 1 1 [.int .u32 p, .int .u32 ((p + many) % 4294967296)] rfl rfl (two_cells (by simp) (by simp)) (two_one _ _) (by unfold maxLen; omega) (by omega) (by simp; omega) ?_; intro v' w2 hown hgrow _; obtain ⟨a', c', rfl⟩ := owns_word hown; obtain ⟨z1, z2, V2, F2⟩ := HV.out.appS (ss := r.sto ++ [(p, (many : Int))]) ((Gr.refl _).alloc _) hgrow (by rw [rgs_snoc, List.length_append]; exact hown); have HV2 : Hid _ := V2; have HF2 : Hid _ := F2; clear V2 F2 hown hgrow)
  clear HV q40 z1 z2
  generalize w2.setCell ⟨g, 40, none⟩ (.slice a' (r.sto.length + 1) c') = w3 at *
  have HV3 : Hid (RV w3 base g { r with sto := r.sto ++ [(p, (many : Int))] } bf bt M O (.slice a' (r.sto.length + 1) c')) := HV2
  have HF3 : Hid (Fu base w w3) := HF2
  clear HV2 HF2
  generalize (Value.slice a' (r.sto.length + 1) c') = S2 at *
  go_loopw [6] (fun i wr => ∃ j : Nat, j ≤ many ∧ i = .int .i64 j ∧ RV wr base g { r with sto := r.sto ++ [(p, (many : Int))], own := r.own || hits bf bt p j } bf bt M O S2 ∧ Fu base w wr) (fun i _ => many - (intOf i).toNat)
  case atStart => exact ⟨0, Nat.zero_le _, rfl, by have := HV3.out; simpa [hits] using this, HF3.out⟩
  case round =>
    obtain ⟨j, hj, rfl, V, F⟩ := hrel
    have k48 : wr.cell? ⟨g, 48, none⟩ = some (.int .u32 bf) := (V.last 3).trans rfl
    have k49 : wr.cell? ⟨g, 49, none⟩ = some (.int .u32 bt) := (V.last 4).trans rfl
    have k46 : wr.cell? ⟨g, 46, none⟩ = some (.bool (r.own || hits bf bt p j)) := (V.last 1).trans rfl
    have f46 := V.fz 46
    have HVr : Hid (RV wr base g { r with sto := r.sto ++ [(p, (many : Int))], own := r.own || hits bf bt p j } bf bt M O S2) := V
    have HFr : Hid (Fu base w wr) := F
    have HFx : Hid (Fu base wr (wr.setCell ⟨g, 46, none⟩ (.bool true))) := V.fu ((Ch.refl _ _).setCell _ _)
    have HVx : Hid (RV (wr.setCell ⟨g, 46, none⟩ (.bool true)) base g { r with sto := r.sto ++ [(p, (many : Int))], own := true } bf bt M O S2) := V.setOwn true
    clear V F
    by_cases hlt : j < many
    · have HH : Hid (hits bf bt p (j + 1) = (hits bf bt p j || decide (bf ≤ (p + (j : Int)) % 4294967296 ∧ (p + (j : Int)) % 4294967296 < bt))) := rfl
      generalize hits bf bt p j = B at *
      by_cases c1 : bf ≤ (p + (j : Int)) % 4294967296
      · by_cases c2 : (p + (j : Int)) % 4294967296 < bt
        · have e : hits bf bt p (j + 1) = true := by rw [HH.out, decide_eq_true ⟨c1, c2⟩, Bool.or_true]
          have HE : Hid (hits bf bt p (j + 1) = true) := e
          clear e HH
          go_wp2
          go_roundw
          case rel => exact ⟨j + 1, by omega, by go_num, by rw [HE.out, Bool.or_true]; exact HVx.out, HFr.out.trans HFx.out⟩
          case measure => simp [intOf]; omega
        · have e : hits bf bt p (j + 1) = B := by rw [HH.out, decide_eq_false (fun h => c2 h.2), Bool.or_false]
          have HE : Hid (hits bf bt p (j + 1) = B) := e
          clear e HH
          go_wp2
          go_roundw
          case rel => exact ⟨j + 1, by omega, by go_num, by rw [HE.out]; exact HVr.out, HFr.out⟩
          case measure => simp [intOf]; omega
      · have e : hits bf bt p (j + 1) = B := by rw [HH.out, decide_eq_false (fun h => c1 h.1), Bool.or_false]
        have HE : Hid (hits bf bt p (j + 1) = B) := e
        clear e HH
        go_wp2
        go_roundw
        case rel => exact ⟨j + 1, by omega, by go_num, by rw [HE.out]; exact HVr.out, HFr.out⟩
        case measure => simp [intOf]; omega
    · have e : j = many := by omega
      subst e
      go_wp2
      go_end0
      exact ⟨rfl, ⟨M, O, S2, HVr.out⟩, HFr.out⟩
end Go.Proofs.YtkcgcflpmggjkabDoor.Mi
