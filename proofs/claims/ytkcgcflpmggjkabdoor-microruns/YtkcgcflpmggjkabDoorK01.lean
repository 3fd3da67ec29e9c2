/-
  Gc: texts of ours that lie in one file.
-/
import Derived.Test.YtkcgcflpmggjkabDoorHm3
/-
  A core of package hart that is the first field of a greater struct, as cells of memory: the block's type (ty) and the cells behind the core (rs) are parameters; what is true of it from method to method ('In').
-/
namespace Go.Proofs.YtkcgcflpmggjkabDoor.Gc
open Go.ChangeShapes Go.WideShapes Go.ChangeAt Go.RowKit Mm Hh Hc
set_option linter.unusedVariables false
set_option linter.unusedSimpArgs false

variable {ty : Nat} {rs : List Value}
def cB (c : Cv) (rs : List Value) : Array Value := (hL c.h ++ ([c.m, c.out, c.sto] ++ rs)).toArray
theorem cB_get {c : Cv} (o : c.h.Ok) {i : Nat} (hi : i < 37) : (cB c rs)[i]? = (hL c.h)[i]? := by
  have := hL_len o
  unfold cB
  rw [List.getElem?_toArray, List.getElem?_append_left (by omega)]
theorem cB_fld {c : Cv} (o : c.h.Ok) {j : Nat} (hj : j < 3) : (cB c rs)[37 + j]? = [c.m, c.out, c.sto][j]? := by
  unfold cB
  rw [List.getElem?_toArray, List.getElem?_append_right (by simp [hL_len o]), hL_len o, show 37 + j - 37 = j by omega, List.getElem?_append_left (by simpa using hj)]
theorem cB_rest {c : Cv} (o : c.h.Ok) (j : Nat) : (cB c rs)[40 + j]? = rs[j]? := by
  unfold cB
  rw [List.getElem?_toArray, List.getElem?_append_right (by simp [hL_len o]; omega), hL_len o, List.getElem?_append_right (by simp; omega)]
  simp only [List.length_cons, List.length_nil]
  rw [show 40 + j - 37 - (0 + 1 + 1 + 1) = j by omega]
theorem cB_set {c : Cv} (o : c.h.Ok) {i : Nat} (hi : i < 37) {v : Value} {h' : Hv} (e : (hL c.h).set i v = hL h') : (cB c rs).setIfInBounds i v = cB { c with h := h' } rs := by
  have := hL_len o
  unfold cB
  simp only [List.setIfInBounds_toArray]
  rw [List.set_append_left _ _ (by omega), e]
theorem cB_setF {c c' : Cv} (o : c.h.Ok) {j : Nat} (hj : j < 3) {v : Value} (eh : c'.h = c.h) (e : [c.m, c.out, c.sto].set j v = [c'.m, c'.out, c'.sto]) : (cB c rs).setIfInBounds (37 + j) v = cB c' rs := by
  have := hL_len o
  unfold cB
  simp only [List.setIfInBounds_toArray]
  rw [List.set_append_right _ _ (by omega), this, show 37 + j - 37 = j by omega, List.set_append_left _ _ (by simpa using hj), e, eh]
theorem cB_setR {c : Cv} (o : c.h.Ok) (j : Nat) (v : Value) : (cB c rs).setIfInBounds (40 + j) v = cB c (rs.set j v) := by
  have := hL_len o
  unfold cB
  simp only [List.setIfInBounds_toArray]
  rw [List.set_append_right _ _ (by omega), this, List.set_append_right _ _ (by simp; omega)]
  simp only [List.length_cons, List.length_nil]
  rw [show 40 + j - 37 - (0 + 1 + 1 + 1) = j by omega]
structure Inv (ty : Nat) (rs : List Value) (w : World) (base g : Nat) (c : Cv) (l : List UInt8) (os : List Int) (ss : List (Int × Int)) : Prop where
  t1 : ty ≠ 5
  t2 : ty ≠ 38
  t3 : ty ≠ 50
  ok : c.h.Ok
  bg : base ≤ g
  core : w.heap[g]? = some (.cells (cB c rs) ty (0, 0))
  mem : Own w 0 c.m l
  out : w.ownsRow base 38 1 c.out os.length (os.map (Value.int .u32))
  sto : w.ownsRow base 50 2 c.sto ss.length (rgs ss)
/-- A core at the beginning of block g: its hart, its bytes, what came out, where was stored. -/
def In (ty : Nat) (rs : List Value) (w : World) (base g : Nat) (h : Hv) (l : List UInt8) (os : List Int) (ss : List (Int × Int)) : Prop := ∃ c : Cv, c.h = h ∧ Inv ty rs w base g c l os ss
theorem Inv.toM {w w' : World} {base g : Nat} {c c' : Cv} {l l' : List UInt8} {os : List Int} {ss : List (Int × Int)} {rs' : List Value} (I : Inv ty rs w base g c l os ss) (q : Ch g w w') (hc : w'.heap[g]? = some (.cells (cB c' rs') ty (0, 0)))
    (ok : c'.h.Ok) (em : Own w' 0 c'.m l') (eo : c'.out = c.out) (es : c'.sto = c.sto) : Inv ty rs' w' base g c' l' os ss := by
  have st : ∀ t : Nat, t ≠ ty → ∀ (k : Nat) (o : Array Value) (f : Nat × Nat), w.heap[k]? = some (.cells o t f) → w'.heap[k]? = w.heap[k]? := fun t ht k o f hk =>
    q.block k (Array.getElem?_eq_some_iff.1 hk).1 (fun e => ne_of_types hk I.core ht (by injection e))
  refine ⟨I.t1, I.t2, I.t3, ok, I.bg, hc, em, ?_, ?_⟩
  · rw [eo]; exact owns_to I.out (st _ I.t2.symm)
  · rw [es]; exact owns_to I.sto (st _ I.t3.symm)
theorem Inv.to {w w' : World} {base g : Nat} {c c' : Cv} {l : List UInt8} {os : List Int} {ss : List (Int × Int)} {rs' : List Value} (I : Inv ty rs w base g c l os ss) (q : Ch g w w') (hc : w'.heap[g]? = some (.cells (cB c' rs') ty (0, 0)))
    (ok : c'.h.Ok) (em : c'.m = c.m) (eo : c'.out = c.out) (es : c'.sto = c.sto) : Inv ty rs' w' base g c' l os ss := by
  have st : ∀ t : Nat, t ≠ ty → ∀ (k : Nat) (o : Array Value) (f : Nat × Nat), w.heap[k]? = some (.cells o t f) → w'.heap[k]? = w.heap[k]? := fun t ht k o f hk =>
    q.block k (Array.getElem?_eq_some_iff.1 hk).1 (fun e => ne_of_types hk I.core ht (by injection e))
  exact I.toM q hc ok (by rw [em]; exact I.mem.to (st _ I.t1.symm)) eo es
theorem Inv.of {w w' : World} {base g : Nat} {c : Cv} {l : List UInt8} {os : List Int} {ss : List (Int × Int)} (I : Inv ty rs w base g c l os ss) (q : Gr w w') : Inv ty rs w' base g c l os ss :=
  I.to ((Ch.refl g w).gr q) ((q.block g (Array.getElem?_eq_some_iff.1 I.core).1).trans I.core) I.ok rfl rfl rfl
theorem In.of {w w' : World} {base g : Nat} {h : Hv} {l : List UInt8} {os : List Int} {ss : List (Int × Int)} (I : In ty rs w base g h l os ss) (q : Gr w w') : In ty rs w' base g h l os ss := by
  obtain ⟨c, e, I⟩ := I
  exact ⟨c, e, I.of q⟩
theorem Inv.lt {w : World} {base g : Nat} {c : Cv} {l : List UInt8} {os : List Int} {ss : List (Int × Int)} (I : Inv ty rs w base g c l os ss) : g < w.heap.size := (Array.getElem?_eq_some_iff.1 I.core).1
theorem Inv.hcell {w : World} {base g : Nat} {c : Cv} {l : List UInt8} {os : List Int} {ss : List (Int × Int)} (I : Inv ty rs w base g c l os ss) {i : Nat} (hi : i < 37) : w.cell? ⟨g, i, none⟩ = (hL c.h)[i]? :=
  (cell_of_row _ _ _ _ _ _ I.core).trans (cB_get I.ok hi)
theorem Inv.fcell {w : World} {base g : Nat} {c : Cv} {l : List UInt8} {os : List Int} {ss : List (Int × Int)} (I : Inv ty rs w base g c l os ss) (j : Nat) (hj : j < 3 := by omega) : w.cell? ⟨g, 37 + j, none⟩ = [c.m, c.out, c.sto][j]? :=
  (cell_of_row _ _ _ _ _ _ I.core).trans (cB_fld I.ok hj)
theorem Inv.rest {w : World} {base g : Nat} {c : Cv} {l : List UInt8} {os : List Int} {ss : List (Int × Int)} (I : Inv ty rs w base g c l os ss) (j : Nat) : w.cell? ⟨g, 40 + j, none⟩ = rs[j]? :=
  (cell_of_row _ _ _ _ _ _ I.core).trans (cB_rest I.ok j)
theorem Inv.reg {w : World} {base g : Nat} {c : Cv} {l : List UInt8} {os : List Int} {ss : List (Int × Int)} (I : Inv ty rs w base g c l os ss) {i : Nat} (hi : i < 32) : w.cell? ⟨g, i, none⟩ = some (.int .u32 (rg c.h i)) :=
  (I.hcell (by omega)).trans (hL_reg I.ok hi)
theorem Inv.fz {w : World} {base g : Nat} {c : Cv} {l : List UInt8} {os : List Int} {ss : List (Int × Int)} (I : Inv ty rs w base g c l os ss) (j : Nat) : w.frozen? ⟨g, j, none⟩ = false := frozen_of_row _ _ j _ _ I.core
/-- A cell of the hart set. -/
theorem Inv.set {w : World} {base g : Nat} {c : Cv} {l : List UInt8} {os : List Int} {ss : List (Int × Int)} (I : Inv ty rs w base g c l os ss) {i : Nat} (hi : i < 37) {v : Value} {h' : Hv} (e : (hL c.h).set i v = hL h') (ok : h'.Ok) :
    Inv ty rs (w.setCell ⟨g, i, none⟩ v) base g { c with h := h' } l os ss :=
  I.to ((Ch.refl g w).setCell i v) (by rw [heap_setCell_same _ _ _ _ _ _ I.core, cB_set I.ok hi e]) ok rfl rfl rfl
/-- A cell behind the core set. -/
theorem Inv.setR {w : World} {base g : Nat} {c : Cv} {l : List UInt8} {os : List Int} {ss : List (Int × Int)} (I : Inv ty rs w base g c l os ss) (j : Nat) (v : Value) : Inv ty (rs.set j v) (w.setCell ⟨g, 40 + j, none⟩ v) base g c l os ss :=
  I.to ((Ch.refl g w).setCell (40 + j) v) (by rw [heap_setCell_same _ _ _ _ _ _ I.core, cB_setR I.ok]) I.ok rfl rfl rfl
theorem Inv.inn {w : World} {base g : Nat} {c : Cv} {l : List UInt8} {os : List Int} {ss : List (Int × Int)} (I : Inv ty rs w base g c l os ss) : In ty rs w base g c.h l os ss := ⟨c, rfl, I⟩
theorem Inv.base_le {w : World} {base g : Nat} {c : Cv} {l : List UInt8} {os : List Int} {ss : List (Int × Int)} (I : Inv ty rs w base g c l os ss) : base ≤ w.heap.size := Nat.le_trans I.bg (Nat.le_of_lt I.lt)
/-- What a method of the core leaves: of what lay below 'base' nothing has turned, nor any block that is neither of type ty nor of words nor of ranges. -/
structure Fr (ty : Nat) (base : Nat) (w w' : World) : Prop where
  below : Below base w w'
  keep : ∀ (k : Nat) (o : Array Value) (t : Nat) (f : Nat × Nat), w.heap[k]? = some (.cells o t f) → t ≠ ty → t ≠ 38 → t ≠ 50 → w'.heap[k]? = w.heap[k]?
theorem Fr.refl (base : Nat) (w : World) : Fr ty base w w := ⟨Below.refl _ _, fun _ _ _ _ _ _ _ _ => rfl⟩
theorem Fr.trans {base : Nat} {a b c : World} (h : Fr ty base a b) (q : Fr ty base b c) : Fr ty base a c :=
  ⟨h.below.trans q.below, fun k o t f e n1 n2 n3 => by
    have e1 := h.keep k o t f e n1 n2 n3
    exact (q.keep k o t f (e1.trans e) n1 n2 n3).trans e1⟩
theorem Fr.ofGr {base : Nat} {w w' : World} (h : Gr w w') (hb : base ≤ w.heap.size) : Fr ty base w w' :=
  ⟨Below.mono h hb, fun k o t f e _ _ _ => h.block k (Array.getElem?_eq_some_iff.1 e).1⟩
theorem In.below {w w' : World} {base g : Nat} {h : Hv} {l : List UInt8} {os : List Int} {ss : List (Int × Int)} (I : In ty rs w base g h l os ss) (q : Ch g w w') : Fr ty base w w' := by
  obtain ⟨c, _, I⟩ := I
  exact ⟨q.below I.bg I.base_le, fun k o t f e n1 _ _ => q.block k (Array.getElem?_eq_some_iff.1 e).1 (fun q => ne_of_types e I.core n1 (by injection q))⟩
/-- The table of a store's bytes lies below base. -/
structure Ts (w : World) (base : Nat) : Prop where
  sizes : ∀ i n, ([0, 0, 0, 0, 0, 0, 0, 0, 0, 0, 0, 0, 0, 0, 0, 0, 1, 2, 4] : List Int)[i]? = some n → w.cell? ⟨4, i, none⟩ = some (.int .u32 n)
  b1 : 4 < base
theorem ts_of {w w' : World} {base : Nat} (T : Ts w base) (h : Below base w w') : Ts w' base :=
  ⟨fun i n e => (Below.cell h (by exact T.b1)).trans (T.sizes i n e), T.b1⟩
theorem Inv.sto_grown {w W w' : World} {base g n : Nat} {c : Cv} {l : List UInt8} {os : List Int} {ss ss' : List (Int × Int)} {v : Value} (I : Inv ty rs w base g c l os ss) (G : Gr w W) (q : W.grownBy w' c.sto.ownBlock) (hn : ss'.length = n) (ho : w'.ownsRow base 50 2 v n (rgs ss')) :
    w'.cell? ⟨g, 39, none⟩ = some c.sto ∧ w'.frozen? ⟨g, 39, none⟩ = false ∧ Inv ty rs (w'.setCell ⟨g, 39, none⟩ v) base g { c with sto := v } l os ss' ∧ Fr ty base w (w'.setCell ⟨g, 39, none⟩ v) := by
  subst hn
  have I1 := I.of G
  have st : ∀ t : Nat, t ≠ 50 → ∀ (k : Nat) (o : Array Value) (f : Nat × Nat), W.heap[k]? = some (.cells o t f) → w'.heap[k]? = W.heap[k]? := fun t ht k o f hk =>
    q.block k (Array.getElem?_eq_some_iff.1 hk).1 (fun e => by
      rcases I1.sto.2 with ⟨h0, _⟩ | ⟨g', cap, cur, hv, _, hg, _⟩
      · rw [h0] at e; cases e
      · rw [hv] at e
        injection e with e
        exact ne_of_types hk hg ht e)
  have hb : ∀ k, c.sto.ownBlock = some k → base ≤ k := fun k e => (I1.sto.lt k e).1
  have hcore := (st _ I.t3 g _ _ I1.core).trans I1.core
  have ne : ∀ t : Nat, t ≠ ty → ∀ (k : Nat) (o : Array Value) (f : Nat × Nat), w'.heap[k]? = some (.cells o t f) → (w'.setCell ⟨g, 39, none⟩ v).heap[k]? = w'.heap[k]? := fun t ht k o f hk =>
    heap_setCell_other _ _ _ _ (by exact ne_of_types hk hcore ht)
  refine ⟨(cell_of_row _ _ _ _ _ _ hcore).trans (cB_fld (j := 2) I.ok (by omega)), frozen_of_row _ _ _ _ _ hcore, ⟨I.t1, I.t2, I.t3, I.ok, I.bg, ?_, ?_, ?_, ?_⟩, ?_⟩
  · rw [heap_setCell_same _ _ _ _ _ _ hcore, cB_setF (c' := { c with sto := v }) (j := 2) I.ok (by omega) rfl rfl]
  · exact (I1.mem.to (st _ (by decide))).to (ne _ I.t1.symm)
  · exact owns_to (owns_to I1.out (st _ (by decide))) (ne _ I.t2.symm)
  · exact owns_to ho (ne _ I.t3.symm)
  · refine ⟨Below.setCell ((Below.mono G I.base_le).grown q I1.base_le hb) (by exact I.bg) _, fun k o t f e n1 n2 n3 => ?_⟩
    have e1 := (Array.getElem?_eq_some_iff.1 e).1
    have e2 := (G.block k e1).trans e
    have e3 := (st _ n3 k _ _ e2).trans e2
    exact ((ne _ n1 k _ _ e3).trans e3).trans e.symm
theorem Inv.out_grown {w W w' : World} {base g n : Nat} {c : Cv} {l : List UInt8} {os os' : List Int} {ss : List (Int × Int)} {v : Value} (I : Inv ty rs w base g c l os ss) (G : Gr w W) (q : W.grownBy w' c.out.ownBlock) (hn : os'.length = n) (ho : w'.ownsRow base 38 1 v n (os'.map (Value.int .u32))) :
    w'.cell? ⟨g, 38, none⟩ = some c.out ∧ w'.frozen? ⟨g, 38, none⟩ = false ∧ Inv ty rs (w'.setCell ⟨g, 38, none⟩ v) base g { c with out := v } l os' ss ∧ Fr ty base w (w'.setCell ⟨g, 38, none⟩ v) := by
  subst hn
  have I1 := I.of G
  have st : ∀ t : Nat, t ≠ 38 → ∀ (k : Nat) (o : Array Value) (f : Nat × Nat), W.heap[k]? = some (.cells o t f) → w'.heap[k]? = W.heap[k]? := fun t ht k o f hk =>
    q.block k (Array.getElem?_eq_some_iff.1 hk).1 (fun e => by
      rcases I1.out.2 with ⟨h0, _⟩ | ⟨g', cap, cur, hv, _, hg, _⟩
      · rw [h0] at e; cases e
      · rw [hv] at e
        injection e with e
        exact ne_of_types hk hg ht e)
  have hb : ∀ k, c.out.ownBlock = some k → base ≤ k := fun k e => (I1.out.lt k e).1
  have hcore := (st _ I.t2 g _ _ I1.core).trans I1.core
  have ne : ∀ t : Nat, t ≠ ty → ∀ (k : Nat) (o : Array Value) (f : Nat × Nat), w'.heap[k]? = some (.cells o t f) → (w'.setCell ⟨g, 38, none⟩ v).heap[k]? = w'.heap[k]? := fun t ht k o f hk =>
    heap_setCell_other _ _ _ _ (by exact ne_of_types hk hcore ht)
  refine ⟨(cell_of_row _ _ _ _ _ _ hcore).trans (cB_fld (j := 1) I.ok (by omega)), frozen_of_row _ _ _ _ _ hcore, ⟨I.t1, I.t2, I.t3, I.ok, I.bg, ?_, ?_, ?_, ?_⟩, ?_⟩
  · rw [heap_setCell_same _ _ _ _ _ _ hcore, cB_setF (c' := { c with out := v }) (j := 1) I.ok (by omega) rfl rfl]
  · exact (I1.mem.to (st _ (by decide))).to (ne _ I.t1.symm)
  · exact owns_to ho (ne _ I.t2.symm)
  · exact owns_to (owns_to I1.sto (st _ (by decide))) (ne _ I.t3.symm)
  · refine ⟨Below.setCell ((Below.mono G I.base_le).grown q I1.base_le hb) (by exact I.bg) _, fun k o t f e n1 n2 n3 => ?_⟩
    have e1 := (Array.getElem?_eq_some_iff.1 e).1
    have e2 := (G.block k e1).trans e
    have e3 := (st _ n2 k _ _ e2).trans e2
    exact ((ne _ n1 k _ _ e3).trans e3).trans e.symm
/-- c.Memory = stored. -/
theorem Inv.stored {w w1 : World} {base g n : Nat} {c : Cv} {l k : List UInt8} {os : List Int} {ss : List (Int × Int)} (I : Inv ty rs w base g c l os ss) (G : Gr w w1) (R : Row w1 w.heap.size k) (hk : k.length = n) :
    Inv ty rs (w1.setCell ⟨g, 37, none⟩ (.slice (some ⟨w.heap.size, 0, none⟩) n n)) base g { c with m := .slice (some ⟨w.heap.size, 0, none⟩) n n } k os ss := by
  have I1 := I.of G
  obtain ⟨rest, hr⟩ := R
  refine I1.toM ((Ch.refl g w1).setCell _ _) (by rw [heap_setCell_same _ _ _ _ _ _ I1.core, cB_setF (c' := { c with m := .slice (some ⟨w.heap.size, 0, none⟩) n n }) (j := 0) I.ok (by omega) rfl rfl]) I.ok (.inr ⟨w.heap.size, n, by rw [hk], Nat.zero_le _, rest, ?_⟩) rfl rfl
  rw [heap_setCell_other _ _ _ _ (by exact ne_of_types hr I1.core I.t1.symm)]
  exact hr
end Go.Proofs.YtkcgcflpmggjkabDoor.Gc
