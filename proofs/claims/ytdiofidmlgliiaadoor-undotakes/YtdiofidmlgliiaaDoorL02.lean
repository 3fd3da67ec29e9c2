/-
  Hc, Hm1, Hk, Heq, Hw, Mb1, Hm2, Ref4a: texts of ours that lie in one file.
-/
import Derived.Test.YtdiofidmlgliiaaDoorL01
import Derived.Deep.RegionLaw
import Derived.Test.YtdiofidmlgliiaaDoorMemWalks
import Derived.Test.YtdiofidmlgliiaaDoorWordWalks
import Derived.Great.BuildSlice
import Derived.ChangeKeysEq
import Derived.Laws.StructEq
import Derived.Test.YtdiofidmlgliiaaDoorWord
import Derived.Test.YtdiofidmlgliiaaDoorRef1Alu
/-
  A core of package hart, as cells of memory, and what is true of it from method to method: its hart, its memory, what came out and where was stored, as plain data ('In').
-/
namespace Go.Proofs.YtdiofidmlgliiaaDoor.Hc
open Go.ChangeShapes Go.WideShapes Go.ChangeAt Go.RowKit Mm Hh
set_option linter.unusedVariables false

structure Cv where
  h : Hv
  m : Value
  out : Value
  sto : Value
def cA (c : Cv) : Array Value := (hL c.h ++ [c.m, c.out, c.sto]).toArray
theorem cA_size {c : Cv} (o : c.h.Ok) : (cA c).size = 40 := by simp [cA, hL_len o]
theorem cA_get {c : Cv} (o : c.h.Ok) {i : Nat} (hi : i < 37) : (cA c)[i]? = (hL c.h)[i]? := by
  have := hL_len o
  unfold cA
  rw [List.getElem?_toArray, List.getElem?_append_left (by omega)]
theorem cA_fld {c : Cv} (o : c.h.Ok) (j : Nat) : (cA c)[37 + j]? = [c.m, c.out, c.sto][j]? := by
  unfold cA
  rw [List.getElem?_toArray, List.getElem?_append_right (by simp [hL_len o])]
  simp [hL_len o]
theorem cA_set {c : Cv} (o : c.h.Ok) {i : Nat} (hi : i < 37) {v : Value} {h' : Hv} (e : (hL c.h).set i v = hL h') : (cA c).setIfInBounds i v = cA { c with h := h' } := by
  have := hL_len o
  unfold cA
  simp only [List.setIfInBounds_toArray]
  rw [List.set_append_left _ _ (by omega), e]
theorem cA_setM {c : Cv} (o : c.h.Ok) (v : Value) : (cA c).setIfInBounds 37 v = cA { c with m := v } := by
  have := hL_len o
  unfold cA
  simp only [List.setIfInBounds_toArray]
  rw [List.set_append_right _ _ (by omega), this]
  rfl
theorem cA_setO {c : Cv} (o : c.h.Ok) (v : Value) : (cA c).setIfInBounds 38 v = cA { c with out := v } := by
  have := hL_len o
  unfold cA
  simp only [List.setIfInBounds_toArray]
  rw [List.set_append_right _ _ (by omega), this]
  rfl
theorem cA_setS {c : Cv} (o : c.h.Ok) (v : Value) : (cA c).setIfInBounds 39 v = cA { c with sto := v } := by
  have := hL_len o
  unfold cA
  simp only [List.setIfInBounds_toArray]
  rw [List.set_append_right _ _ (by omega), this]
  rfl

/-- Bytes of the program's own: none, or a row of them. -/
def Own (w : World) (base : Nat) (v : Value) (l : List UInt8) : Prop :=
  (v = .slice none 0 0 ∧ l = []) ∨ ∃ k cap, v = .slice (some ⟨k, 0, none⟩) l.length cap ∧ (base ≤ k ∧ l.length ≤ cap) ∧ Row w k l
theorem Own.mem {w : World} {base : Nat} {v : Value} {l : List UInt8} (h : Own w base v l) : ∃ ao cap, v = .slice ao l.length cap ∧ Mem w ao l.length l := by
  rcases h with ⟨rfl, rfl⟩ | ⟨k, cap, rfl, _, R⟩
  · exact ⟨none, 0, rfl, Mem.none w⟩
  · exact ⟨some ⟨k, 0, none⟩, cap, rfl, R.mem⟩
/-- Ranges of bytes that were stored in, as cells. -/
def rgs (ss : List (Int × Int)) : List Value := ss.flatMap fun p => [.int .u32 p.1, .int .u32 (Wd.lo (p.1 + p.2))]
theorem rgs_len (ss : List (Int × Int)) : (rgs ss).length = ss.length * 2 := by
  induction ss with
  | nil => rfl
  | cons p r ih => simp only [rgs, List.flatMap_cons, List.length_append, List.length_cons, List.length_nil] at ih ⊢; omega
theorem rgs_snoc (ss : List (Int × Int)) (p : Int × Int) : rgs (ss ++ [p]) = rgs ss ++ [.int .u32 p.1, .int .u32 (Wd.lo (p.1 + p.2))] := by
  simp [rgs]

structure Inv (w : World) (base g : Nat) (c : Cv) (l : List UInt8) (os : List Int) (ss : List (Int × Int)) : Prop where
  ok : c.h.Ok
  bg : base ≤ g
  core : w.heap[g]? = some (.cells (cA c) 146 (0, 0))
  mem : Own w 0 c.m l
  out : w.ownsRow base 59 1 c.out os.length (os.map (Value.int .u32))
  sto : w.ownsRow base 143 2 c.sto ss.length (rgs ss)
/-- A core at block g: its hart, its bytes, what came out, where was stored. -/
def In (w : World) (base g : Nat) (h : Hv) (l : List UInt8) (os : List Int) (ss : List (Int × Int)) : Prop := ∃ c : Cv, c.h = h ∧ Inv w base g c l os ss

theorem Own.to {w w' : World} {base : Nat} {v : Value} {l : List UInt8} (h : Own w base v l) (e : ∀ (k : Nat) (o : Array Value) (f : Nat × Nat), w.heap[k]? = some (.cells o 5 f) → w'.heap[k]? = w.heap[k]?) : Own w' base v l := by
  rcases h with h | ⟨k, cap, hv, hb, rest, hr⟩
  · exact .inl h
  · exact .inr ⟨k, cap, hv, hb, rest, (e k _ _ hr).trans hr⟩
theorem owns_to {w w' : World} {base e n sz : Nat} {v : Value} {xs : List Value} (h : w.ownsRow base e sz v n xs) (q : ∀ (k : Nat) (o : Array Value) (f : Nat × Nat), w.heap[k]? = some (.cells o e f) → w'.heap[k]? = w.heap[k]?) : w'.ownsRow base e sz v n xs := by
  obtain ⟨h1, h2⟩ := h
  refine ⟨h1, ?_⟩
  rcases h2 with h2 | ⟨g, cap, cur, hv, hb, hg, r⟩
  · exact .inl h2
  · exact .inr ⟨g, cap, cur, hv, hb, (q g _ _ hg).trans hg, r⟩
theorem ne_of_types {w : World} {k g a b : Nat} {o p : Array Value} {f f' : Nat × Nat} (h : w.heap[k]? = some (.cells o a f)) (h' : w.heap[g]? = some (.cells p b f')) (hab : a ≠ b) : k ≠ g := by
  rintro rfl
  rw [h] at h'
  exact hab (by injection h' with h'; injection h')
/-- Only block g has turned, and new ones have come. -/
def Ch (g : Nat) (w w' : World) : Prop := w.grownBy w' (some g)
theorem Ch.refl (g : Nat) (w : World) : Ch g w w := ⟨rfl, rfl, rfl, Nat.le_refl _, fun _ _ _ => rfl⟩
theorem Ch.trans {g : Nat} {a b c : World} (h : Ch g a b) (k : Ch g b c) : Ch g a c :=
  ⟨k.os.trans h.os, k.tape.trans h.tape, k.output.trans h.output, Nat.le_trans h.size k.size, fun i hi hn => (k.block i (Nat.lt_of_lt_of_le hi h.size) hn).trans (h.block i hi hn)⟩
theorem Ch.setCell {g : Nat} {a w : World} (h : Ch g a w) (o : Nat) (v : Value) : Ch g a (w.setCell ⟨g, o, none⟩ v) :=
  h.trans ⟨rfl, rfl, rfl, by simp [World.setCell], fun k hk hn => Below.heap_setCell _ _ _ _ (fun e => hn (by rw [e]))⟩
theorem Ch.gr {g : Nat} {a b c : World} (h : Ch g a b) (k : Gr b c) : Ch g a c :=
  h.trans ⟨k.os, k.tape, k.output, k.size, fun i hi _ => k.block i hi⟩
theorem Ch.below {g base : Nat} {w w' : World} (h : Ch g w w') (hg : base ≤ g) (hb : base ≤ w.heap.size) : Below base w w' :=
  (Below.refl base w).grown h hb (fun k e => by injection e with e; omega)
theorem Inv.toM {w w' : World} {base g : Nat} {c c' : Cv} {l l' : List UInt8} {os : List Int} {ss : List (Int × Int)} (I : Inv w base g c l os ss) (q : Ch g w w') (hc : w'.heap[g]? = some (.cells (cA c') 146 (0, 0)))
    (ok : c'.h.Ok) (em : Own w' 0 c'.m l') (eo : c'.out = c.out) (es : c'.sto = c.sto) : Inv w' base g c' l' os ss := by
  have st : ∀ t : Nat, t ≠ 146 → ∀ (k : Nat) (o : Array Value) (f : Nat × Nat), w.heap[k]? = some (.cells o t f) → w'.heap[k]? = w.heap[k]? := fun t ht k o f hk =>
    q.block k (Array.getElem?_eq_some_iff.1 hk).1 (fun e => ne_of_types hk I.core ht (by injection e))
  refine ⟨ok, I.bg, hc, em, ?_, ?_⟩
  · rw [eo]; exact owns_to I.out (st _ (by decide))
  · rw [es]; exact owns_to I.sto (st _ (by decide))
theorem Inv.to {w w' : World} {base g : Nat} {c c' : Cv} {l : List UInt8} {os : List Int} {ss : List (Int × Int)} (I : Inv w base g c l os ss) (q : Ch g w w') (hc : w'.heap[g]? = some (.cells (cA c') 146 (0, 0)))
    (ok : c'.h.Ok) (em : c'.m = c.m) (eo : c'.out = c.out) (es : c'.sto = c.sto) : Inv w' base g c' l os ss := by
  have st : ∀ t : Nat, t ≠ 146 → ∀ (k : Nat) (o : Array Value) (f : Nat × Nat), w.heap[k]? = some (.cells o t f) → w'.heap[k]? = w.heap[k]? := fun t ht k o f hk =>
    q.block k (Array.getElem?_eq_some_iff.1 hk).1 (fun e => ne_of_types hk I.core ht (by injection e))
  exact I.toM q hc ok (by rw [em]; exact I.mem.to (st _ (by decide))) eo es
theorem Inv.of {w w' : World} {base g : Nat} {c : Cv} {l : List UInt8} {os : List Int} {ss : List (Int × Int)} (I : Inv w base g c l os ss) (q : Gr w w') : Inv w' base g c l os ss :=
  I.to ((Ch.refl g w).gr q) ((q.block g (Array.getElem?_eq_some_iff.1 I.core).1).trans I.core) I.ok rfl rfl rfl
theorem In.of {w w' : World} {base g : Nat} {h : Hv} {l : List UInt8} {os : List Int} {ss : List (Int × Int)} (I : In w base g h l os ss) (q : Gr w w') : In w' base g h l os ss := by
  obtain ⟨c, e, I⟩ := I
  exact ⟨c, e, I.of q⟩
theorem Inv.lt {w : World} {base g : Nat} {c : Cv} {l : List UInt8} {os : List Int} {ss : List (Int × Int)} (I : Inv w base g c l os ss) : g < w.heap.size := (Array.getElem?_eq_some_iff.1 I.core).1
theorem Inv.hcell {w : World} {base g : Nat} {c : Cv} {l : List UInt8} {os : List Int} {ss : List (Int × Int)} (I : Inv w base g c l os ss) {i : Nat} (hi : i < 37) : w.cell? ⟨g, i, none⟩ = (hL c.h)[i]? :=
  (cell_of_row _ _ _ _ _ _ I.core).trans (cA_get I.ok hi)
theorem Inv.fcell {w : World} {base g : Nat} {c : Cv} {l : List UInt8} {os : List Int} {ss : List (Int × Int)} (I : Inv w base g c l os ss) (j : Nat) : w.cell? ⟨g, 37 + j, none⟩ = [c.m, c.out, c.sto][j]? :=
  (cell_of_row _ _ _ _ _ _ I.core).trans (cA_fld I.ok j)
theorem Inv.reg {w : World} {base g : Nat} {c : Cv} {l : List UInt8} {os : List Int} {ss : List (Int × Int)} (I : Inv w base g c l os ss) {i : Nat} (hi : i < 32) : w.cell? ⟨g, i, none⟩ = some (.int .u32 (rg c.h i)) :=
  (I.hcell (by omega)).trans (hL_reg I.ok hi)
theorem Inv.fz {w : World} {base g : Nat} {c : Cv} {l : List UInt8} {os : List Int} {ss : List (Int × Int)} (I : Inv w base g c l os ss) (j : Nat) : w.frozen? ⟨g, j, none⟩ = false := frozen_of_row _ _ j _ _ I.core
/-- A cell of the hart set. -/
theorem Inv.set {w : World} {base g : Nat} {c : Cv} {l : List UInt8} {os : List Int} {ss : List (Int × Int)} (I : Inv w base g c l os ss) {i : Nat} (hi : i < 37) {v : Value} {h' : Hv} (e : (hL c.h).set i v = hL h') (ok : h'.Ok) :
    Inv (w.setCell ⟨g, i, none⟩ v) base g { c with h := h' } l os ss :=
  I.to ((Ch.refl g w).setCell i v) (by rw [heap_setCell_same _ _ _ _ _ _ I.core, cA_set I.ok hi e]) ok rfl rfl rfl
theorem Inv.inn {w : World} {base g : Nat} {c : Cv} {l : List UInt8} {os : List Int} {ss : List (Int × Int)} (I : Inv w base g c l os ss) : In w base g c.h l os ss := ⟨c, rfl, I⟩
theorem Inv.base_le {w : World} {base g : Nat} {c : Cv} {l : List UInt8} {os : List Int} {ss : List (Int × Int)} (I : Inv w base g c l os ss) : base ≤ w.heap.size := Nat.le_trans I.bg (Nat.le_of_lt I.lt)
/-- What a method of the core leaves: of what lay below 'base' nothing has turned, nor any block that is neither a core's nor of words nor of ranges. -/
structure Fr (base : Nat) (w w' : World) : Prop where
  below : Below base w w'
  keep : ∀ (k : Nat) (o : Array Value) (t : Nat) (f : Nat × Nat), w.heap[k]? = some (.cells o t f) → t ≠ 146 → t ≠ 59 → t ≠ 143 → w'.heap[k]? = w.heap[k]?
theorem Fr.refl (base : Nat) (w : World) : Fr base w w := ⟨Below.refl _ _, fun _ _ _ _ _ _ _ _ => rfl⟩
theorem Fr.trans {base : Nat} {a b c : World} (h : Fr base a b) (q : Fr base b c) : Fr base a c :=
  ⟨h.below.trans q.below, fun k o t f e n1 n2 n3 => by
    have e1 := h.keep k o t f e n1 n2 n3
    exact (q.keep k o t f (e1.trans e) n1 n2 n3).trans e1⟩
theorem Fr.ofGr {base : Nat} {w w' : World} (h : Gr w w') (hb : base ≤ w.heap.size) : Fr base w w' :=
  ⟨Below.mono h hb, fun k o t f e _ _ _ => h.block k (Array.getElem?_eq_some_iff.1 e).1⟩
theorem Fr.alloc {base : Nat} {w w' : World} (h : Fr base w w') (hb : base ≤ w.heap.size) (o : Obj) : Fr base w (w'.alloc o) :=
  h.trans (.ofGr ((Gr.refl _).alloc _) (Nat.le_trans hb h.below.size))
theorem In.below {w w' : World} {base g : Nat} {h : Hv} {l : List UInt8} {os : List Int} {ss : List (Int × Int)} (I : In w base g h l os ss) (q : Ch g w w') : Fr base w w' := by
  obtain ⟨c, _, I⟩ := I
  exact ⟨q.below I.bg I.base_le, fun k o t f e n1 _ _ => q.block k (Array.getElem?_eq_some_iff.1 e).1 (fun q => ne_of_types e I.core n1 (by injection q))⟩
/-- A slice of the core's own, appended to: the block that it lies in, and new ones, alone have turned. -/
theorem Inv.sto_grown {w W w' : World} {base g n : Nat} {c : Cv} {l : List UInt8} {os : List Int} {ss ss' : List (Int × Int)} {v : Value} (I : Inv w base g c l os ss) (G : Gr w W) (q : W.grownBy w' c.sto.ownBlock) (hn : ss'.length = n) (ho : w'.ownsRow base 143 2 v n (rgs ss')) :
    w'.cell? ⟨g, 39, none⟩ = some c.sto ∧ w'.frozen? ⟨g, 39, none⟩ = false ∧ Inv (w'.setCell ⟨g, 39, none⟩ v) base g { c with sto := v } l os ss' ∧ Fr base w (w'.setCell ⟨g, 39, none⟩ v) := by
  subst hn
  have I1 := I.of G
  have st : ∀ t : Nat, t ≠ 143 → ∀ (k : Nat) (o : Array Value) (f : Nat × Nat), W.heap[k]? = some (.cells o t f) → w'.heap[k]? = W.heap[k]? := fun t ht k o f hk =>
    q.block k (Array.getElem?_eq_some_iff.1 hk).1 (fun e => by
      rcases I1.sto.2 with ⟨h0, _⟩ | ⟨g', cap, cur, hv, _, hg, _⟩
      · rw [h0] at e; cases e
      · rw [hv] at e
        injection e with e
        exact ne_of_types hk hg ht e)
  have hb : ∀ k, c.sto.ownBlock = some k → base ≤ k := fun k e => (I1.sto.lt k e).1
  have hcore := (st _ (by decide) g _ _ I1.core).trans I1.core
  have ne : ∀ t : Nat, t ≠ 146 → ∀ (k : Nat) (o : Array Value) (f : Nat × Nat), w'.heap[k]? = some (.cells o t f) → (w'.setCell ⟨g, 39, none⟩ v).heap[k]? = w'.heap[k]? := fun t ht k o f hk =>
    heap_setCell_other _ _ _ _ (by exact ne_of_types hk hcore ht)
  refine ⟨(cell_of_row _ _ _ _ _ _ hcore).trans (cA_fld I.ok 2), frozen_of_row _ _ _ _ _ hcore, ⟨I.ok, I.bg, ?_, ?_, ?_, ?_⟩, ?_⟩
  · rw [heap_setCell_same _ _ _ _ _ _ hcore, cA_setS I.ok]
  · exact (I1.mem.to (st _ (by decide))).to (ne _ (by decide))
  · exact owns_to (owns_to I1.out (st _ (by decide))) (ne _ (by decide))
  · exact owns_to ho (ne _ (by decide))
  · refine ⟨Below.setCell ((Below.mono G I.base_le).grown q I1.base_le hb) (by exact I.bg) _, fun k o t f e n1 n2 n3 => ?_⟩
    have e1 := (Array.getElem?_eq_some_iff.1 e).1
    have e2 := (G.block k e1).trans e
    have e3 := (st _ n3 k _ _ e2).trans e2
    exact ((ne _ n1 k _ _ e3).trans e3).trans e.symm
theorem Inv.out_grown {w W w' : World} {base g n : Nat} {c : Cv} {l : List UInt8} {os os' : List Int} {ss : List (Int × Int)} {v : Value} (I : Inv w base g c l os ss) (G : Gr w W) (q : W.grownBy w' c.out.ownBlock) (hn : os'.length = n) (ho : w'.ownsRow base 59 1 v n (os'.map (Value.int .u32))) :
    w'.cell? ⟨g, 38, none⟩ = some c.out ∧ w'.frozen? ⟨g, 38, none⟩ = false ∧ Inv (w'.setCell ⟨g, 38, none⟩ v) base g { c with out := v } l os' ss ∧ Fr base w (w'.setCell ⟨g, 38, none⟩ v) := by
  subst hn
  have I1 := I.of G
  have st : ∀ t : Nat, t ≠ 59 → ∀ (k : Nat) (o : Array Value) (f : Nat × Nat), W.heap[k]? = some (.cells o t f) → w'.heap[k]? = W.heap[k]? := fun t ht k o f hk =>
    q.block k (Array.getElem?_eq_some_iff.1 hk).1 (fun e => by
      rcases I1.out.2 with ⟨h0, _⟩ | ⟨g', cap, cur, hv, _, hg, _⟩
      · rw [h0] at e; cases e
      · rw [hv] at e
        injection e with e
        exact ne_of_types hk hg ht e)
  have hb : ∀ k, c.out.ownBlock = some k → base ≤ k := fun k e => (I1.out.lt k e).1
  have hcore := (st _ (by decide) g _ _ I1.core).trans I1.core
  have ne : ∀ t : Nat, t ≠ 146 → ∀ (k : Nat) (o : Array Value) (f : Nat × Nat), w'.heap[k]? = some (.cells o t f) → (w'.setCell ⟨g, 38, none⟩ v).heap[k]? = w'.heap[k]? := fun t ht k o f hk =>
    heap_setCell_other _ _ _ _ (by exact ne_of_types hk hcore ht)
  refine ⟨(cell_of_row _ _ _ _ _ _ hcore).trans (cA_fld I.ok 1), frozen_of_row _ _ _ _ _ hcore, ⟨I.ok, I.bg, ?_, ?_, ?_, ?_⟩, ?_⟩
  · rw [heap_setCell_same _ _ _ _ _ _ hcore, cA_setO I.ok]
  · exact (I1.mem.to (st _ (by decide))).to (ne _ (by decide))
  · exact owns_to ho (ne _ (by decide))
  · exact owns_to (owns_to I1.sto (st _ (by decide))) (ne _ (by decide))
  · refine ⟨Below.setCell ((Below.mono G I.base_le).grown q I1.base_le hb) (by exact I.bg) _, fun k o t f e n1 n2 n3 => ?_⟩
    have e1 := (Array.getElem?_eq_some_iff.1 e).1
    have e2 := (G.block k e1).trans e
    have e3 := (st _ n2 k _ _ e2).trans e2
    exact ((ne _ n1 k _ _ e3).trans e3).trans e.symm
/-- c.Memory = stored. -/
theorem Inv.stored {w w1 : World} {base g n : Nat} {c : Cv} {l k : List UInt8} {os : List Int} {ss : List (Int × Int)} (I : Inv w base g c l os ss) (G : Gr w w1) (R : Row w1 w.heap.size k) (hk : k.length = n) :
    Inv (w1.setCell ⟨g, 37, none⟩ (.slice (some ⟨w.heap.size, 0, none⟩) n n)) base g { c with m := .slice (some ⟨w.heap.size, 0, none⟩) n n } k os ss := by
  have I1 := I.of G
  obtain ⟨rest, hr⟩ := R
  refine I1.toM ((Ch.refl g w1).setCell _ _) (by rw [heap_setCell_same _ _ _ _ _ _ I1.core, cA_setM I.ok]) I.ok (.inr ⟨w.heap.size, n, by rw [hk], ⟨Nat.zero_le _, by rw [hk]; exact Nat.le_refl _⟩, rest, ?_⟩) rfl rfl
  rw [heap_setCell_other _ _ _ _ (by exact ne_of_types hr I1.core (by decide))]
  exact hr
end Go.Proofs.YtdiofidmlgliiaaDoor.Hc
/-
  What the small functions and methods of package hart return, and what becomes of the core: within, May, Trap, Set, Load, next, of every hart; and ferrybridgeref4.May.
-/
namespace Go.Proofs.YtdiofidmlgliiaaDoor.Hc
open Go.ChangeShapes Go.WideShapes Go.ChangeAt Go.RowKit Mm Hh
set_option linter.unusedVariables false
set_option linter.unusedSimpArgs false

variable {h : Hv} {w : World} {base g : Nat} {l : List UInt8} {os : List Int} {ss : List (Int × Int)}
theorem within_any (n a b : Int) (w : World) : Calls Tryd.prog 101 #[.int .i64 n, .int .i64 a, .int .i64 b] w fun e w' => e = .returned (.bool (decide (a ≤ n) && decide (n ≤ b))) ∧ w' = w := by
  by_cases h1 : a ≤ n
  · by_cases h2 : n ≤ b
    · go_enter Tryd.func101, Tryd.ntmps101
      go_wp2
      go_ret
      exact ⟨ret_bool (by simp [h1, h2]), rfl⟩
    · go_enter Tryd.func101, Tryd.ntmps101
      go_wp2
      go_ret
      exact ⟨ret_bool (by simp [h1, h2]), rfl⟩
  · go_enter Tryd.func101, Tryd.ntmps101
    go_wp2
    go_ret
    exact ⟨ret_bool (by simp; omega), rfl⟩

theorem may_get (h : Hv) (o : h.Ok) : (hA h)[0]? = some (.int .u32 (rg h 0)) ∧ (hA h)[33]? = some (.bool h.held) ∧ (hA h)[34]? = some (.int .u32 h.heldAt) ∧ (hA h)[35]? = some (.int .i64 h.state) ∧ (hA h)[36]? = some (.int .i64 h.cause) := by
  unfold hA
  simp only [List.getElem?_toArray]
  exact ⟨hL_reg o (by omega), hL_fld o 1, hL_fld o 2, hL_fld o 3, hL_fld o 4⟩


set_option maxHeartbeats 1000000 in
theorem may_any {h : Hv} (o : h.Ok) (w : World) : Calls Tryd.prog 69 #[.agg (hA h)] w fun e w' => e = .returned (.bool (may h)) ∧ Gr w w' := by
  obtain ⟨c0, c1, c2, c3, c4⟩ := may_get h o
  have HM : Hid (may h = decide (rg h 0 = 0 ∧ (h.held = false → h.heldAt = 0) ∧ (((h.state = 0 ∨ h.state = 1) ∧ h.cause = 0) ∨ (h.state = 2 ∧ 1 ≤ h.cause ∧ h.cause ≤ 6)))) := rfl
  generalize may h = M at *
  generalize hA h = A at *
  generalize rg h 0 = x0 at *
  generalize h.held = x1 at *
  generalize h.heldAt = x2 at *
  generalize h.state = x3 at *
  generalize h.cause = x4 at *
  clear o
  cases x1
  all_goals
    go_enter Tryd.func69, Tryd.ntmps69
    go_wp2_with (go_at_call 101; refine (within_any _ _ _ _).mono ?_; rintro e w' ⟨rfl, rfl⟩)
    all_goals
      clear c0 c1 c2 c3 c4
      go_ret
      refine ⟨ret_bool ?_, (Gr.refl _).alloc _⟩
      rw [HM.out, Bool.eq_iff_iff]
      simp at *
      omega

set_option maxHeartbeats 1000000 in
theorem rmay_any {h : Hv} (o : h.Ok) (w : World) : Calls Tryd.prog 27 #[.agg (hA h)] w fun e w' => e = .returned (.bool (may h)) ∧ Gr w w' := by
  obtain ⟨c0, c1, c2, c3, c4⟩ := may_get h o
  have HM : Hid (may h = decide (rg h 0 = 0 ∧ (h.held = false → h.heldAt = 0) ∧ (((h.state = 0 ∨ h.state = 1) ∧ h.cause = 0) ∨ (h.state = 2 ∧ 1 ≤ h.cause ∧ h.cause ≤ 6)))) := rfl
  generalize may h = M at *
  generalize hA h = A at *
  generalize rg h 0 = x0 at *
  generalize h.held = x1 at *
  generalize h.heldAt = x2 at *
  generalize h.state = x3 at *
  generalize h.cause = x4 at *
  clear o
  cases x1
  all_goals
    go_enter Tryd.func27, Tryd.ntmps27
    go_wp2
    all_goals
      clear c0 c1 c2 c3 c4
      go_ret
      refine ⟨ret_bool ?_, (Gr.refl _).alloc _⟩
      rw [HM.out, Bool.eq_iff_iff]
      simp at *
      omega

theorem trap_any (I : In w base g h l os ss) (c : Int) :
    Calls Tryd.prog 104 #[.pointer (some ⟨g, 0, none⟩), .int .i64 c] w fun e w' => e = .returned (.tuple #[]) ∧ In w' base g (h.trap c) l os ss ∧ Ch g w w' := by
  obtain ⟨c0, rfl, I⟩ := I
  have k1 : w.cell? ⟨g, 35, none⟩ = some (.int .i64 c0.h.state) := (I.hcell (by omega)).trans (hL_fld I.ok 3)
  have k2 : w.cell? ⟨g, 36, none⟩ = some (.int .i64 c0.h.cause) := (I.hcell (by omega)).trans (hL_fld I.ok 4)
  have fz := I.fz
  have o1 : Hv.Ok { c0.h with state := 2 } := ⟨I.ok.len, I.ok.reg, I.ok.pc0, I.ok.pc1, I.ok.at0, I.ok.at1⟩
  have J : Hid (Inv ((w.setCell ⟨g, 35, none⟩ (.int .i64 2)).setCell ⟨g, 36, none⟩ (.int .i64 c)) base g { c0 with h := c0.h.trap c } l os ss) :=
    (I.set (by omega) (set_state I.ok 2) o1).set (c := { c0 with h := { c0.h with state := 2 } }) (by omega) (set_cause o1 c) (I.ok.trap c)
  generalize c0.h.state = x1 at k1
  generalize c0.h.cause = x2 at k2
  clear I o1
  go_enter Tryd.func104, Tryd.ntmps104
  go_wp2
  go_end0
  exact ⟨rfl, ⟨_, rfl, J.out⟩, ((Ch.refl g w).setCell _ _).setCell _ _⟩

theorem set_any (I : In w base g h l os ss) (r x : Int) (h0 : 0 ≤ r) (h1 : r < 32) (hx0 : 0 ≤ x) (hx1 : x < 4294967296) :
    Calls Tryd.prog 123 #[.pointer (some ⟨g, 0, none⟩), .int .i64 r, .int .u32 x] w fun e w' => e = .returned (.tuple #[]) ∧ In w' base g (h.set r.toNat x) l os ss ∧ Ch g w w' := by
  obtain ⟨c0, rfl, I⟩ := I
  obtain ⟨r, rfl⟩ := Int.eq_ofNat_of_zero_le h0
  simp only [Int.toNat_natCast]
  by_cases hr : r = 0
  · subst hr
    have J : Hid _ := I
    clear I
    go_enter Tryd.func123, Tryd.ntmps123
    go_wp2
    go_end0
    exact ⟨rfl, ⟨c0, rfl, J.out⟩, Ch.refl g w⟩
  · have hr2 : r < 32 := by omega
    have k1 := I.reg hr2
    have fz := I.fz
    have e : c0.h.set r x = { c0.h with regs := c0.h.regs.set r x } := if_neg hr
    have ok := I.ok.set r hx0 hx1
    rw [e] at ok ⊢
    have J : Hid (Inv (w.setCell ⟨g, r, none⟩ (.int .u32 x)) base g { c0 with h := { c0.h with regs := c0.h.regs.set r x } } l os ss) := I.set (by omega) (set_reg I.ok hr2 x) ok
    have hr' : ¬ (r : Int) = 0 := by omega
    generalize rg c0.h r = y at k1
    clear I e ok
    go_enter Tryd.func123, Tryd.ntmps123
    go_wp2
    go_end0
    exact ⟨rfl, ⟨_, rfl, J.out⟩, (Ch.refl g w).setCell _ _⟩

theorem Load_any (I : In w base g h l os ss) (hl : l.length ≤ 140737488351232) (op a : Int) (h0 : 0 ≤ a) (h1 : a < 4294967296) :
    Calls Tryd.prog 137 #[.pointer (some ⟨g, 0, none⟩), .int .i64 op, .int .u32 a] w fun e w' => e = .returned (.tuple #[.int .u32 (ldV l op a), .bool (ldOk l op a)]) ∧ In w' base g (if ldOk l op a = true then h else h.trap 3) l os ss ∧ Ch g w w' := by
  have T : Hid (∀ c, _) := fun c => trap_any I c
  have HI : Hid _ := I
  obtain ⟨c0, rfl, I⟩ := I
  obtain ⟨ao, cap, hm, M⟩ := I.mem.mem
  have k1 : w.cell? ⟨g, 37, none⟩ = some (.slice ao l.length cap) := (I.fcell 0).trans (by rw [hm]; rfl)
  have L : Hid (Calls Tryd.prog 120 #[.slice ao l.length cap, .int .i64 op, .int .u32 a] w fun e w' => e = .returned (.tuple #[.int .u32 (ldV l op a), .bool (ldOk l op a)]) ∧ w' = w) := Mm.Load_any cap op a M hl h0 h1
  generalize ldV l op a = X at *
  generalize ldOk l op a = B at *
  clear I M hm
  generalize l.length = n at *
  cases B
  · go_enter Tryd.func137, Tryd.ntmps137
    go_wp2_with fail
    refine L.out.mono ?_
    rintro e w' ⟨rfl, rfl⟩
    clear L
    go_wp2_with fail
    refine (T.out 3).mono ?_
    rintro e w2 ⟨rfl, I2, C2⟩
    have HI2 : Hid _ := I2
    clear T I2 k1
    go_wp2
    go_ret2
    exact ⟨rfl, HI2.out, C2⟩
  · go_enter Tryd.func137, Tryd.ntmps137
    go_wp2_with fail
    refine L.out.mono ?_
    rintro e w' ⟨rfl, rfl⟩
    clear L T k1
    go_wp2
    go_ret2
    exact ⟨rfl, HI.out, Ch.refl _ _⟩

theorem andNot1 (x : Int) (h0 : 0 ≤ x) (h1 : x < 4294967296) : bits .andNot .u32 x 1 = x - x % 2 := by
  obtain ⟨x, rfl⟩ := Int.eq_ofNat_of_zero_le h0
  show IntKind.u32.wrap ((BitVec.ofInt 32 (x : Int) &&& ~~~ BitVec.ofInt 32 1).toNat : Int) = _
  have e : (~~~ BitVec.ofInt 32 1).toNat = (2 ^ 31 - 1) * 2 ^ 1 := by decide
  rw [BitVec.toNat_and, ofInt32 x h1, e, Dc.nand_mask]
  show ((x / 2 ^ 1 % 2 ^ 31 * 2 ^ 1 : Nat) : Int) % 4294967296 = _
  omega
theorem next_any {w : World} {base g : Nat} {h : Hv} {l : List UInt8} {os : List Int} {ss : List (Int × Int)} (I : In w base g h l os ss) (op a b n : Int) (ha : 0 ≤ a) (ha' : a < 4294967296) (hb : 0 ≤ b) (hb' : b < 4294967296) (hn : 0 ≤ n) (hn' : n < 4294967296) :
    Calls Tryd.prog 121 #[.pointer (some ⟨g, 0, none⟩), .int .i64 op, .int .u32 a, .int .u32 b, .int .u32 n] w fun e w' => e = .returned (.int .u32 (nxt h op a b n)) ∧ w' = w := by
  obtain ⟨c0, rfl, I⟩ := I
  have k1 : w.cell? ⟨g, 32, none⟩ = some (.int .u32 c0.h.pc) := (I.hcell (by omega)).trans (hL_fld I.ok 0)
  have p0 := I.ok.pc0
  have p1 := I.ok.pc1
  have HN : Hid (nxt c0.h op a b n = if op = 4 then Wd.lo (a + n) - Wd.lo (a + n) % 2 else if op = 3 ∨ Wd.holds op a b = true then Wd.lo (c0.h.pc + n) else Wd.lo (c0.h.pc + 4)) := rfl
  generalize nxt c0.h op a b n = N at *
  generalize c0.h.pc = pc at *
  clear I
  have H : Hid (∀ w, Calls Tryd.prog 136 #[.int .i64 op, .int .u32 a, .int .u32 b] w fun e w' => e = .returned (.bool (Wd.holds op a b)) ∧ w' = w) := fun w => Ww.holds_any op a b w ha ha' hb hb'
  by_cases h4 : op = 4
  · have b4 : (op == 4) = true := by simp [h4]
    have HE : Hid (N = Wd.lo (a + n) - Wd.lo (a + n) % 2) := by unfold Hid; rw [HN.out, if_pos h4]
    clear h4 HN
    go_enter Tryd.func121, Tryd.ntmps121
    go_wp2_with fail
    go_ret
    refine ⟨ret_int ?_, rfl⟩
    rw [HE.out, andNot1 _ (by omega) (by omega)]
    rfl
  · have b4 : (op == 4) = false := by simp [h4]
    by_cases h3 : op = 3
    · have b3 : (op == 3) = true := by simp [h3]
      have HE : Hid (N = Wd.lo (pc + n)) := by unfold Hid; rw [HN.out, if_neg h4, if_pos (.inl h3)]
      clear h4 h3 HN
      go_enter Tryd.func121, Tryd.ntmps121
      go_wp2_with fail
      go_ret
      exact ⟨ret_int (by rw [HE.out]; rfl), rfl⟩
    · have b3 : (op == 3) = false := by simp [h3]
      have HE : Hid (N = if Wd.holds op a b = true then Wd.lo (pc + n) else Wd.lo (pc + 4)) := by unfold Hid; rw [HN.out, if_neg h4]; simp [h3]
      clear h4 h3 HN
      generalize Wd.holds op a b = B at *
      cases B
      · go_enter Tryd.func121, Tryd.ntmps121
        go_wp2_with fail
        refine (H.out _).mono ?_
        rintro e w' ⟨rfl, rfl⟩
        go_wp2_with fail
        go_ret
        exact ⟨ret_int (by rw [HE.out]; rfl), rfl⟩
      · go_enter Tryd.func121, Tryd.ntmps121
        go_wp2_with fail
        refine (H.out _).mono ?_
        rintro e w' ⟨rfl, rfl⟩
        go_wp2_with fail
        go_ret
        exact ⟨ret_int (by rw [HE.out]; rfl), rfl⟩
end Go.Proofs.YtdiofidmlgliiaaDoor.Hc
/-
  How a struct that begins with a hart and a slice is built; steps of a region that draws its order: a load, a build, a store of a whole struct.
-/
namespace Go.Proofs.YtdiofidmlgliiaaDoor.Hc
open Go.ChangeShapes Go.WideShapes Go.ChangeAt Go.RowKit Mm Hh
set_option linter.unusedVariables false
set_option linter.unusedSimpArgs false

variable {P : Program} {t : TypeId} {h : Hv} {ops : Array Oper} {o : Oper} {a : Act} {w : World} {K : Act → World → Prop} {Q : Exit → Act → World → Prop} {E : Prop}
theorem fold_set (off : Nat) (v cs : Array Value) : (v.zipIdx.foldl (fun cs (x : Value × Nat) => cs.setIfInBounds (off + x.2) x.1) cs).size = cs.size ∧
    ∀ k, (v.zipIdx.foldl (fun cs (x : Value × Nat) => cs.setIfInBounds (off + x.2) x.1) cs)[k]? = if off ≤ k ∧ k < off + v.size ∧ k < cs.size then v[k - off]? else cs[k]? := by
  have h := Great.foldl_set off v.toList 0 cs
  rw [← Array.foldl_toList, Array.toList_zipIdx]
  refine ⟨h.1, fun k => ?_⟩
  rw [h.2 k]
  simp
/-- A struct whose first field has n cells, and whose second field has one. -/
theorem built_two {it : TypeInfo} {z : Value} {fs : Array Field} {ps : List (Nat × Nat)} (hi : P.info? t = some it) (hu : P.underlying t = some (.struct fs)) (hz : it.zero = some z)
    (hp : fs.toList.mapM (fun f => (P.info? f.type).map fun i => (f.offset, i.size)) = some ps) {n : Nat} (p0 : ps.toArray[0]? = some (0, n)) (p1 : ps.toArray[1]? = some (n, 1)) (A : Array Value) (hA : A.size = n) (v : Value) (hv : v.cells = #[v]) (hs : n + 1 ≤ z.cells.size)
    (R : Array Value) (hR : R.size = z.cells.size) (h1 : ∀ k, k < n → R[k]? = A[k]?) (h2 : R[n]? = some v) (h3 : ∀ k, n < k → R[k]? = z.cells[k]?) : P.built t [(0, .agg A), (1, v)] = some R := by
  unfold Program.built
  simp only [hi, hu, hz, hp]
  have a1 := fold_set 0 A z.cells
  have a2 := fold_set n #[v] (A.zipIdx.foldl (fun cs (x : Value × Nat) => cs.setIfInBounds (0 + x.2) x.1) z.cells)
  unfold Instr.fill
  simp only [p0]
  have e : (Value.agg A).cells = A := rfl
  rw [e, if_neg (by simp [hA]; omega)]
  unfold Instr.fill
  simp only [p1]
  rw [hv, if_neg (by rw [a1.1]; simp; omega)]
  unfold Instr.fill
  congr 1
  apply Array.ext_getElem?
  intro k
  rw [a2.2 k, a1.2 k, a1.1]
  by_cases hk : k < n
  · rw [if_neg (by omega), if_pos (by omega), h1 k hk]; simp
  · by_cases hk2 : k = n
    · subst hk2
      rw [if_pos (by simp; omega), h2]; simp
    · rw [if_neg (by simp; omega), if_neg (by omega), h3 k (by omega)]
theorem info_zero {v : Value} (h : (P.info? t).bind (·.zero) = some v) : ∃ it, P.info? t = some it ∧ it.zero = some v := by
  cases hi : P.info? t with
  | none => simp [hi] at h
  | some it => exact ⟨it, rfl, by simpa [hi] using h⟩

/-- The empty hart. -/
def h0 : Hv := ⟨List.replicate 32 0, 0, false, 0, 0, 0⟩
theorem h0_ok : h0.Ok := ⟨rfl, fun i => by unfold rg h0; simp only [List.getD, List.getElem?_replicate]; split <;> simp, by decide, by decide, by decide, by decide⟩
def nilS : Value := .slice none 0 0
theorem one_cA (c : Cv) (h1 : c.m.oneCell' = true) (h2 : c.out.oneCell' = true) (h3 : c.sto.oneCell' = true) : (cA c).all (·.oneCell') = true := by
  refine all_oneCell_toArray ?_
  intro v hv
  simp only [hL, List.mem_append, List.mem_map, List.mem_cons, List.not_mem_nil, or_false] at hv
  rcases hv with (⟨n, _, rfl⟩ | rfl | rfl | rfl | rfl | rfl) | rfl | rfl | rfl <;> first | rfl | assumption
theorem zCore : (Tryd.prog.info? 146).bind (·.zero) = some (.agg (cA ⟨h0, nilS, nilS, nilS⟩)) := by kernel_rfl
theorem zDid : (Tryd.prog.info? 81).bind (·.zero) = some (.agg (dA ⟨h0, nilS, nilS, 0, 0⟩)) := by kernel_rfl
theorem zHart : (Tryd.prog.info? 70).bind (·.zero) = some (.agg (hA h0)) := by kernel_rfl
theorem built_core (o : h.Ok) (v : Value) (hv : v.cells = #[v]) : Tryd.prog.built 146 [(0, .agg (hA h)), (1, v)] = some (cA ⟨h, v, nilS, nilS⟩) := by
  obtain ⟨it, hi, hz⟩ := info_zero zCore
  have hl := hL_len o
  have z := hL_len h0_ok
  refine built_two (n := 37) hi Tryd.underlying146 hz (ps := [(0, 37), (37, 1), (38, 1), (39, 1)]) (by kernel_rfl) rfl rfl (hA h) (hA_size o) v hv (by show 38 ≤ (cA _).size; rw [cA_size h0_ok]; omega) _ ?_ ?_ ?_ ?_
  · show (cA _).size = (cA _).size; rw [cA_size (c := ⟨h, v, nilS, nilS⟩) o, cA_size h0_ok]
  · intro k hk; rw [cA_get (c := ⟨h, v, nilS, nilS⟩) o hk]; simp [hA]
  · exact cA_fld (c := ⟨h, v, nilS, nilS⟩) o 0
  · intro k hk
    obtain ⟨j, rfl⟩ : ∃ j, k = 37 + (j + 1) := ⟨k - 38, by omega⟩
    show (cA _)[_]? = (cA _)[_]?
    rw [cA_fld (c := ⟨h, v, nilS, nilS⟩) o, cA_fld (c := ⟨h0, nilS, nilS, nilS⟩) h0_ok]
    rfl
theorem built_did (o : h.Ok) (v : Value) (hv : v.cells = #[v]) : Tryd.prog.built 81 [(0, .agg (hA h)), (1, v)] = some (dA ⟨h, v, nilS, 0, 0⟩) := by
  obtain ⟨it, hi, hz⟩ := info_zero zDid
  have hl := hL_len o
  have z := hL_len h0_ok
  refine built_two (n := 37) hi Tryd.underlying81 hz (ps := [(0, 37), (37, 1), (38, 1), (39, 1), (40, 1)]) (by kernel_rfl) rfl rfl (hA h) (hA_size o) v hv (by show 38 ≤ (dA _).size; rw [dA_size h0_ok]; omega) _ ?_ ?_ ?_ ?_
  · show (dA _).size = (dA _).size; rw [dA_size (d := ⟨h, v, nilS, 0, 0⟩) o, dA_size h0_ok]
  · intro k hk; rw [dA_get (d := ⟨h, v, nilS, 0, 0⟩) o hk]; simp [hA]
  · exact dA_fld (d := ⟨h, v, nilS, 0, 0⟩) o 0
  · intro k hk
    obtain ⟨j, rfl⟩ : ∃ j, k = 37 + (j + 1) := ⟨k - 38, by omega⟩
    show (dA _)[_]? = (dA _)[_]?
    rw [dA_fld (d := ⟨h, v, nilS, 0, 0⟩) o, dA_fld (d := ⟨h0, nilS, nilS, 0, 0⟩) h0_ok]
    rfl
theorem built_h0 : Tryd.prog.built 70 [] = some (hA h0) := by kernel_rfl
theorem built_c0 : Tryd.prog.built 146 [] = some (cA ⟨h0, nilS, nilS, nilS⟩) := by kernel_rfl

/-! Steps of a region that draws its order -/
theorem step_load (hg : o.guard = none) (ty : TypeId) (x : Operand) (ho : o.op = .load ty x)
    (b : Nat) (hx : a.eval x = .pointer (some ⟨b, 0, none⟩)) (cs : List Value) (d : TypeDesc) (hc : w.rangeAt b 0 cs) (hu : P.underlying ty = some d) (hd : d.isRow = true) (hi : (P.info? ty).map (·.size) = some cs.length)
    (h : K (a.put o.dst (.agg cs.toArray)) w) : if Region.wanted o (yielded ops a.tmps) = true then Oper.wp P o a w K Q else E := by
  rw [if_pos (by simp [Region.wanted, hg])]
  exact wp_load_mid ty x ho b 0 hx cs d hc hu hd hi h
theorem step_load_row (hgd : o.guard = none) (ty : TypeId) (x : Operand) (ho : o.op = .load ty x)
    (g : Nat) (hx : a.eval x = .pointer (some ⟨g, 0, none⟩)) (t : TypeId) (cs : Array Value) (fr : Nat × Nat) (d : TypeDesc) (hg : w.heap[g]? = some (.cells cs t fr))
    (hu : P.underlying ty = some d) (hd : (match d with | .struct _ | .array _ _ => true | _ => false) = true) (hi : (P.info? ty).map (·.size) = some cs.size)
    (h : K (a.put o.dst (.agg cs)) w) : if Region.wanted o (yielded ops a.tmps) = true then Oper.wp P o a w K Q else E := by
  rw [if_pos (by simp [Region.wanted, hgd])]
  exact wp_load_row ty x ho g hx t cs fr d hg hu hd hi h
theorem step_build (hg : o.guard = none) (t : TypeId) (parts : Array (Nat × Operand)) (ho : o.op = .build t parts)
    (cells : Array Value) (hf : P.built t (parts.map fun (i, x) => (i, a.eval x)).toList = some cells) (h : K (a.put o.dst (.agg cells)) w) : if Region.wanted o (yielded ops a.tmps) = true then Oper.wp P o a w K Q else E := by
  rw [if_pos (by simp [Region.wanted, hg])]
  unfold Oper.wp execOp
  simp only [ho, Sem.run_bind, run_build w t _ _ hf, Result.andThen_ok]
  exact h
theorem step_store (hg : o.guard = none) (ty : TypeId) (x y : Operand) (ho : o.op = .store ty x y)
    (g : Nat) (cells : Array Value) (hx : a.eval x = .pointer (some ⟨g, 0, none⟩)) (hy : a.eval y = .agg cells) (t : TypeId) (old : Array Value) (hb : w.heap[g]? = some (.cells old t (0, 0))) (hi : (P.info? ty).map (·.size) = some cells.size)
    (hold : old.size = cells.size) (h1 : cells.all (·.oneCell') = true) (h : K (a.put o.dst undef) (w.setRow g cells)) : if Region.wanted o (yielded ops a.tmps) = true then Oper.wp P o a w K Q else E := by
  rw [if_pos (by simp [Region.wanted, hg])]
  unfold Oper.wp execOp
  simp only [ho, hx, hy, Instr.storeAt, Instr.sureAddr, Sem.run_bind, Sem.run_pure, Result.andThen_ok, run_storeVar_row w g t ty old cells hb hi hold h1]
  exact h
end Go.Proofs.YtdiofidmlgliiaaDoor.Hc
/-
  Two harts that are the same compare as equal.
-/
namespace Go.Proofs.YtdiofidmlgliiaaDoor.Hc
open Go.ChangeShapes Go.WideShapes Go.ChangeAt Go.RowKit Mm Hh
set_option linter.unusedVariables false
set_option linter.unusedSimpArgs false

theorem list32 {l : List Int} (h : l.length = 32) : ∃ a0 a1 a2 a3 a4 a5 a6 a7 a8 a9 b0 b1 b2 b3 b4 b5 b6 b7 b8 b9 c0 c1 c2 c3 c4 c5 c6 c7 c8 c9 d0 d1, l = [a0, a1, a2, a3, a4, a5, a6, a7, a8, a9, b0, b1, b2, b3, b4, b5, b6, b7, b8, b9, c0, c1, c2, c3, c4, c5, c6, c7, c8, c9, d0, d1] := by
  match l, h with
  | [a0, a1, a2, a3, a4, a5, a6, a7, a8, a9, b0, b1, b2, b3, b4, b5, b6, b7, b8, b9, c0, c1, c2, c3, c4, c5, c6, c7, c8, c9, d0, d1], _ => exact ⟨_, _, _, _, _, _, _, _, _, _, _, _, _, _, _, _, _, _, _, _, _, _, _, _, _, _, _, _, _, _, _, _, rfl⟩
theorem eq_items (d : Nat) (w : World) (xs : Array Value) : ∀ is : List Nat, (∀ i ∈ is, ∃ a, xs[i * 1]? = some (.int .u32 a)) → (Op.eqItems (d + 1) 59 1 xs xs is).run Tryd.prog w = .ok true w
  | [], _ => by simp [Op.eqItems]
  | i :: is, h => by
    obtain ⟨a, ha⟩ := h i (by simp)
    have hp : Tryd.prog.plainKey 59 = true := by kernel_rfl
    have ih := eq_items d w xs is (fun j hj => h j (by simp [hj]))
    simp only [Op.eqItems, Sem.run_bind, run_part_plain w hp ha, Result.andThen_ok, run_equalIn_int w d 59 .u32 .u32 a a Tryd.underlying59, beq_self_eq_true, Bool.not_true, Bool.false_eq_true, if_false]
    exact ih
theorem eq_row (w : World) (xs : Array Value) (h : ∀ i, i < 32 → ∃ a, xs[i]? = some (.int .u32 a)) : (Op.equalIn 9999 68 (.agg xs) (.agg xs)).run Tryd.prog w = .ok true w := by
  obtain ⟨i0, hi, _, _, _⟩ := info_parts (by kernel_rfl : (Tryd.prog.info? 59).map (fun i => (i.zero, i.size, i.bytes)) = some (some (Value.int .u32 0), 1, 4))
  rw [run_equalIn_array w 9998 xs xs Tryd.underlying68 hi]
  rw [show Tryd.prog.cellsOf 59 = 1 by kernel_rfl]
  exact eq_items 9997 w xs _ (fun i hm => by rw [Nat.mul_one]; exact h i (List.mem_range.1 hm))
set_option maxRecDepth 100000 in
set_option maxHeartbeats 4000000 in
theorem eql_hart {h : Hv} (o : h.Ok) (w : World) : (binOp .eql 70 (.agg (hA h)) (.agg (hA h))).run Tryd.prog w = .ok (.bool true) w := by
  obtain ⟨a0, a1, a2, a3, a4, a5, a6, a7, a8, a9, b0, b1, b2, b3, b4, b5, b6, b7, b8, b9, c0, c1, c2, c3, c4, c5, c6, c7, c8, c9, d0, d1, e⟩ := list32 o.len
  obtain ⟨rs, pc, held, hat, st, cs⟩ := h
  subst e
  show (binOp .eql 70 (.agg #[.int .u32 a0, .int .u32 a1, .int .u32 a2, .int .u32 a3, .int .u32 a4, .int .u32 a5, .int .u32 a6, .int .u32 a7, .int .u32 a8, .int .u32 a9, .int .u32 b0, .int .u32 b1, .int .u32 b2, .int .u32 b3, .int .u32 b4, .int .u32 b5, .int .u32 b6, .int .u32 b7, .int .u32 b8, .int .u32 b9, .int .u32 c0, .int .u32 c1, .int .u32 c2, .int .u32 c3, .int .u32 c4, .int .u32 c5, .int .u32 c6, .int .u32 c7, .int .u32 c8, .int .u32 c9, .int .u32 d0, .int .u32 d1, .int .u32 pc, .bool held, .int .u32 hat, .int .i64 st, .int .i64 cs]) (.agg #[.int .u32 a0, .int .u32 a1, .int .u32 a2, .int .u32 a3, .int .u32 a4, .int .u32 a5, .int .u32 a6, .int .u32 a7, .int .u32 a8, .int .u32 a9, .int .u32 b0, .int .u32 b1, .int .u32 b2, .int .u32 b3, .int .u32 b4, .int .u32 b5, .int .u32 b6, .int .u32 b7, .int .u32 b8, .int .u32 b9, .int .u32 c0, .int .u32 c1, .int .u32 c2, .int .u32 c3, .int .u32 c4, .int .u32 c5, .int .u32 c6, .int .u32 c7, .int .u32 c8, .int .u32 c9, .int .u32 d0, .int .u32 d1, .int .u32 pc, .bool held, .int .u32 hat, .int .i64 st, .int .i64 cs])).run Tryd.prog w = .ok (.bool true) w
  have hr := eq_row w #[.int .u32 a0, .int .u32 a1, .int .u32 a2, .int .u32 a3, .int .u32 a4, .int .u32 a5, .int .u32 a6, .int .u32 a7, .int .u32 a8, .int .u32 a9, .int .u32 b0, .int .u32 b1, .int .u32 b2, .int .u32 b3, .int .u32 b4, .int .u32 b5, .int .u32 b6, .int .u32 b7, .int .u32 b8, .int .u32 b9, .int .u32 c0, .int .u32 c1, .int .u32 c2, .int .u32 c3, .int .u32 c4, .int .u32 c5, .int .u32 c6, .int .u32 c7, .int .u32 c8, .int .u32 c9, .int .u32 d0, .int .u32 d1] (fun i hi => by
    match i, hi with
    | 0, _ => exact ⟨_, rfl⟩
    | 1, _ => exact ⟨_, rfl⟩
    | 2, _ => exact ⟨_, rfl⟩
    | 3, _ => exact ⟨_, rfl⟩
    | 4, _ => exact ⟨_, rfl⟩
    | 5, _ => exact ⟨_, rfl⟩
    | 6, _ => exact ⟨_, rfl⟩
    | 7, _ => exact ⟨_, rfl⟩
    | 8, _ => exact ⟨_, rfl⟩
    | 9, _ => exact ⟨_, rfl⟩
    | 10, _ => exact ⟨_, rfl⟩
    | 11, _ => exact ⟨_, rfl⟩
    | 12, _ => exact ⟨_, rfl⟩
    | 13, _ => exact ⟨_, rfl⟩
    | 14, _ => exact ⟨_, rfl⟩
    | 15, _ => exact ⟨_, rfl⟩
    | 16, _ => exact ⟨_, rfl⟩
    | 17, _ => exact ⟨_, rfl⟩
    | 18, _ => exact ⟨_, rfl⟩
    | 19, _ => exact ⟨_, rfl⟩
    | 20, _ => exact ⟨_, rfl⟩
    | 21, _ => exact ⟨_, rfl⟩
    | 22, _ => exact ⟨_, rfl⟩
    | 23, _ => exact ⟨_, rfl⟩
    | 24, _ => exact ⟨_, rfl⟩
    | 25, _ => exact ⟨_, rfl⟩
    | 26, _ => exact ⟨_, rfl⟩
    | 27, _ => exact ⟨_, rfl⟩
    | 28, _ => exact ⟨_, rfl⟩
    | 29, _ => exact ⟨_, rfl⟩
    | 30, _ => exact ⟨_, rfl⟩
    | 31, _ => exact ⟨_, rfl⟩
    | n + 32, h => omega)
  go_simp
end Go.Proofs.YtdiofidmlgliiaaDoor.Hc
/-
  Words as slices; what ferrybridgeref4.Words answers of two that are the same; loads of whole structs behind a guard.
-/
namespace Go.Proofs.YtdiofidmlgliiaaDoor.Hc
open Go.ChangeShapes Go.WideShapes Go.ChangeAt Go.RowKit Mm Hh
set_option linter.unusedVariables false
set_option linter.unusedSimpArgs false

/-- In world w, the slice at ao of n elements reads as the words os. -/
structure Wm (w : World) (ao : Option Addr) (n : Nat) (os : List Int) : Prop where
  len : os.length = n
  nil : ao = none → n = 0
  cell : ∀ ad, ao = some ad → ∀ t, t < n → w.cell? (ad.add t) = some (.int .u32 (os.getD t 0))
theorem Wm.of {w w' : World} {ao : Option Addr} {n : Nat} {os : List Int} (h : Wm w ao n os) (g : Gr w w') : Wm w' ao n os :=
  ⟨h.len, h.nil, fun ad e t ht => (g.cell _ (World.block_lt_of_cell? w _ (h.cell ad e t ht))).trans (h.cell ad e t ht)⟩
theorem Wm.spot {w : World} {ao : Option Addr} {n : Nat} {os : List Int} (h : Wm w ao n os) (hn : 0 < n) :
    ∃ b o, ao = some ⟨b, o, none⟩ ∧ b < w.heap.size ∧ ∀ t, t < n → w.cell? ⟨b, o + t, none⟩ = some (.int .u32 (os.getD t 0)) := by
  cases ao with
  | none => exact absurd (h.nil rfl) (by omega)
  | some ad =>
    obtain ⟨b, o, s⟩ := ad
    have hs : s = none := by simpa [Addr.add] using World.cell?_spot (h.cell _ rfl 0 hn)
    subst hs
    have hb : b < w.heap.size := by simpa [Addr.add] using World.block_lt_of_cell? w _ (h.cell _ rfl 0 hn)
    exact ⟨b, o, rfl, hb, fun t ht => by rw [← add_at]; exact h.cell _ rfl t ht⟩
theorem wm_own {w : World} {base n : Nat} {v : Value} {os : List Int} (hl : os.length = n) (h : w.ownsRow base 59 1 v n (os.map (Value.int .u32))) : ∃ ao cap, v = .slice ao n cap ∧ Wm w ao n os := by
  obtain ⟨_, h⟩ := h
  rcases h with ⟨rfl, h0⟩ | ⟨g, cap, cur, rfl, hb, hg, hn, hm, hs, ht⟩
  · subst h0
    exact ⟨none, 0, rfl, hl, fun _ => rfl, fun ad e => (by cases e)⟩
  · refine ⟨_, cap, rfl, hl, fun e => (by cases e), fun ad e t htn => ?_⟩
    obtain rfl := Option.some.inj e
    rw [add_at, Nat.zero_add, cr hg]
    have h1 : (cur.toList.take (n * 1))[t]? = some (.int .u32 (os.getD t 0)) := by
      rw [ht, List.getElem?_map]
      simp [List.getD, List.getElem?_eq_getElem (show t < os.length by omega)]
    rw [List.getElem?_take_of_lt (by omega)] at h1
    simpa using h1

set_option maxHeartbeats 1000000 in
theorem Words_zero (a b : Option Addr) (c d : Nat) (w : World) : Calls Tryd.prog 31 #[.slice a 0 c, .slice b 0 d] w fun e w' => e = .returned (.bool true) ∧ Gr w w' := by
  go_enter Tryd.func31, Tryd.ntmps31
  go_wp2
  go_loopw [5] (fun i wr => i = .int .i64 0 ∧ wr = w) (fun _ _ => 0)
  case atStart => exact ⟨rfl, rfl⟩
  case round =>
    obtain ⟨rfl, rfl⟩ := hrel
    go_wp2
    go_ret
    exact ⟨rfl, Gr.refl _⟩
set_option maxHeartbeats 1000000 in
theorem Words_pos {w : World} {b1 o1 b2 o2 n : Nat} {os : List Int} (c d : Nat) (hn : n ≤ 1000000) (h1 : ∀ t, t < n → w.cell? ⟨b1, o1 + t, none⟩ = some (.int .u32 (os.getD t 0))) (h2 : ∀ t, t < n → w.cell? ⟨b2, o2 + t, none⟩ = some (.int .u32 (os.getD t 0))) :
    Calls Tryd.prog 31 #[.slice (some ⟨b1, o1, none⟩) n c, .slice (some ⟨b2, o2, none⟩) n d] w fun e w' => e = .returned (.bool true) ∧ Gr w w' := by
  have H1 : Hid _ := h1
  have H2 : Hid _ := h2
  clear h1 h2
  go_enter Tryd.func31, Tryd.ntmps31
  go_wp2
  go_loopw [5] (fun i wr => ∃ k : Nat, k ≤ n ∧ i = .int .i64 k ∧ ∃ m, wr = w.drewN m) (fun i _ => n - (intOf i).toNat)
  case atStart => exact ⟨0, Nat.zero_le _, rfl, 0, rfl⟩
  case round =>
    obtain ⟨k, hk, rfl, m, rfl⟩ := hrel
    by_cases hlt : k < n
    · have q1 := H1.out k hlt
      have q2 := H2.out k hlt
      generalize os.getD k 0 = y at *
      go_wp2_with fail
      go_quiet (fail)
      go_wp2_with fail
      go_roundw
      case rel => exact ⟨k + 1, by omega, by go_num, _, rfl⟩
      case measure => simp [intOf]; omega
    · go_wp2
      go_ret
      exact ⟨rfl, (Gr.refl _).drewN _⟩
/-- Words, of two that are the same. -/
theorem Words_same {w : World} {a b : Option Addr} {n : Nat} {os : List Int} (c d : Nat) (hn : n ≤ 1000000) (A : Wm w a n os) (B : Wm w b n os) : Calls Tryd.prog 31 #[.slice a n c, .slice b n d] w fun e w' => e = .returned (.bool true) ∧ Gr w w' := by
  by_cases h0 : n = 0
  · subst h0; exact Words_zero a b c d w
  · obtain ⟨b1, o1, rfl, _, h1⟩ := A.spot (by omega)
    obtain ⟨b2, o2, rfl, _, h2⟩ := B.spot (by omega)
    exact Words_pos c d hn h1 h2

/-! Behind a guard that holds -/
section
variable {P : Program} {ops : Array Oper} {rest : List Oper} {op : Oper} {a : Act} {w : World} {Q : Exit → Act → World → Prop}
theorem wpList_want (hw : Region.wanted op (yielded ops a.tmps) = true) (h : ∀ K : Act → World → Prop, (∀ a w, wpList P ops Q rest a w → K a w) → op.wp P a w K Q) : wpList P ops Q (op :: rest) a w :=
  wpList_step fun K hK => by rw [if_pos hw]; exact h K hK
theorem wpList_gload_row (hw : Region.wanted op (yielded ops a.tmps) = true) (ty : TypeId) (x : Operand) (ho : op.op = .load ty x)
    (g : Nat) (hx : a.eval x = .pointer (some ⟨g, 0, none⟩)) (t : TypeId) (cs : Array Value) (fr : Nat × Nat) (d : TypeDesc) (hg : w.heap[g]? = some (.cells cs t fr))
    (hu : P.underlying ty = some d) (hd : (match d with | .struct _ | .array _ _ => true | _ => false) = true) (hi : (P.info? ty).map (·.size) = some cs.size)
    (h : wpList P ops Q rest (a.put op.dst (.agg cs)) w) : wpList P ops Q (op :: rest) a w :=
  wpList_want hw fun _ hK => wp_load_row ty x ho g hx t cs fr d hg hu hd hi (hK _ _ h)
theorem wpList_gload_mid (hw : Region.wanted op (yielded ops a.tmps) = true) (ty : TypeId) (x : Operand) (ho : op.op = .load ty x)
    (b o : Nat) (hx : a.eval x = .pointer (some ⟨b, o, none⟩)) (cs : List Value) (d : TypeDesc) (hc : w.rangeAt b o cs)
    (hu : P.underlying ty = some d) (hd : d.isRow = true) (hi : (P.info? ty).map (·.size) = some cs.length)
    (h : wpList P ops Q rest (a.put op.dst (.agg cs.toArray)) w) : wpList P ops Q (op :: rest) a w :=
  wpList_want hw fun _ hK => wp_load_mid ty x ho b o hx cs d hc hu hd hi (hK _ _ h)
end
end Go.Proofs.YtdiofidmlgliiaaDoor.Hc
/-
  What package machine's meets, May and wrong answer, of every machine and script.
-/
namespace Go.Proofs.YtdiofidmlgliiaaDoor.Mc
open Go.ChangeShapes Go.WideShapes Go.ChangeAt Go.RowKit Mm Hh Hc
set_option linter.unusedVariables false
set_option linter.unusedSimpArgs false

theorem ret_bool {a b : Bool} (h : a = b) : Ending.returned (.bool a) = .returned (.bool b) := by rw [h]
set_option maxHeartbeats 1000000 in
set_option maxRecDepth 100000 in
theorem meets_any {x f t : Int} (hx0 : 0 ≤ x) (hx : x < 4294967296) (hf0 : 0 ≤ f) (hf : f < 4294967296) (w : World) :
    Calls Tryd.prog 102 #[.int .u32 x, .agg #[.int .u32 f, .int .u32 t]] w fun e w' => e = .returned (.bool (decide (x < t) && decide (f < x + 4))) ∧ Gr w w' := by
  by_cases h1 : x < t
  · have HE : Hid ((decide (x < t) && decide (f < x + 4)) = decide (f < x + 4)) := by unfold Hid; simp [h1]
    rw [HE.out]
    go_enter Tryd.func102, Tryd.ntmps102
    go_wp2
    go_ret
    exact ⟨rfl, (Gr.refl _).alloc _⟩
  · have HE : Hid ((decide (x < t) && decide (f < x + 4)) = false) := by unfold Hid; simp [h1]
    rw [HE.out]
    go_enter Tryd.func102, Tryd.ntmps102
    go_wp2
    go_ret
    exact ⟨rfl, (Gr.refl _).alloc _⟩

/-- A machine of mn bytes and the harts hs may be. -/
def mayM (mn : Nat) (hs : List Hv) : Bool := decide (mn ≤ 4096 ∧ 1 ≤ hs.length ∧ hs.length ≤ 4) && hs.all may
theorem wrong_may (m : List UInt8) (hs : List Hv) (ps : List (Int × Int)) : wrong m hs ps = if mayM m.length hs = false then 2 else if 300 < ps.length then 1 else if ps.all (pickOk hs.length) = false then 3 else 0 := by
  unfold wrong mayM
  by_cases h : 4096 < m.length ∨ hs.length < 1 ∨ 4 < hs.length
  · rw [if_pos h, if_pos]; rw [decide_eq_false (by omega)]; rfl
  · rw [if_neg h, decide_eq_true (show m.length ≤ 4096 ∧ 1 ≤ hs.length ∧ hs.length ≤ 4 by omega)]; simp only [Bool.true_and]

set_option maxHeartbeats 1000000 in
set_option maxRecDepth 100000 in
theorem MMay_any {ma ha : Option Addr} {hn : Nat} (mc hc : Nat) {hs : List Hv} {w : World} (mn : Nat) (H : Hs w ha hn hs) (b1 : mn ≤ 140737488351232) (b2 : hn ≤ 140737488351232) :
    Calls Tryd.prog 34 #[.agg #[.slice ma mn mc, .slice ha hn hc]] w fun e w' => e = .returned (.bool (mayM mn hs)) ∧ Gr w w' := by
  have hl := H.len
  by_cases c1 : 4096 < mn ∨ hn < 1 ∨ 4 < hn
  · have HE : Hid (mayM mn hs = false) := by unfold Hid mayM; rw [decide_eq_false (by omega)]; rfl
    clear H
    have c2 : 4096 < mn ∨ (¬ 4096 < mn ∧ hn < 1) ∨ (¬ 4096 < mn ∧ ¬ hn < 1 ∧ 4 < hn) := by omega
    clear c1
    rcases c2 with c | ⟨c, d⟩ | ⟨c, d, e⟩
    all_goals
      go_enter Tryd.func34, Tryd.ntmps34
      go_wp2
      go_ret
      exact ⟨ret_bool HE.out.symm, (Gr.refl _).alloc _⟩
  · have n1 : ¬ 4096 < mn := by omega
    have n2 : ¬ hn < 1 := by omega
    have n3 : ¬ 4 < hn := by omega
    obtain ⟨b, o, rfl, hb, hcell⟩ := H.spot (by omega)
    have HW : Hid (mayM mn hs = hs.all may) := by unfold Hid mayM; rw [decide_eq_true (by omega)]; rfl
    have HK : Hid (∀ i h, hs[i]? = some h → w.rangeAt b (o + i * 37) (hL h)) := hcell
    have HO : Hid (∀ h ∈ hs, h.Ok) := H.ok
    have HL : Hid (hs.length = hn) := hl
    clear hcell H c1 hl
    go_enter Tryd.func34, Tryd.ntmps34
    go_wp2
    go_loopw [24] (fun i wr => ∃ k : Nat, k ≤ hn ∧ i = .int .i64 k ∧ (hs.take k).all may = true ∧ Gr w wr) (fun i _ => hn - (intOf i).toNat)
    case atStart => exact ⟨0, Nat.zero_le _, rfl, rfl, (Gr.refl _).alloc _⟩
    case round =>
      obtain ⟨k, hk, rfl, hall, G⟩ := hrel
      have HG : Hid (Gr w wr) := G
      have HA : Hid ((hs.take k).all may = true) := hall
      clear G hall
      by_cases hlt : k < hn
      · obtain ⟨h, hh⟩ : ∃ h, hs[k]? = some h := ⟨_, List.getElem?_eq_getElem (by rw [HL.out]; exact hlt)⟩
        have HH : Hid (hs[k]? = some h) := hh
        have okh := HO.out h (List.mem_of_getElem? hh)
        have RG : Hid (wr.rangeAt b (o + k * 37) (hL h)) := fun j v hv => (HG.out.cell _ (by exact hb)).trans (HK.out k h hh j v hv)
        have HLL : Hid ((hL h).length = 37) := hL_len okh
        have HSZ : Hid ((hL h).toArray.size = 37) := by unfold Hid; simp [HLL.out]
        have HONE : Hid ((hL h).toArray.all (·.oneCell') = true) := one_hA h
        have M1 : Hid (∀ W : World, Calls Tryd.prog 69 #[.agg (hL h).toArray] W fun e w' => e = .returned (.bool (may h)) ∧ Gr W w') := fun W => may_any okh W
        have HW4 : Hid (∀ Y : Array Value, Gr wr ((wr.alloc (.cells Y 70)).setRow wr.heap.size (hL h).toArray)) := fun Y => gr_setRow ((Gr.refl _).alloc _) (Nat.le_refl _) _
        have HX4 : Hid (∀ Y : Array Value, ((wr.alloc (.cells Y 70)).setRow wr.heap.size (hL h).toArray).heap[wr.heap.size]? = some (.cells (hL h).toArray 70 (0, 0))) := fun Y => setRow_heap _ _ _ _ _ (0, 0) (heap_alloc_new wr _)
        clear hh okh
        cases hmb : may h with
        | true =>
          have M2 : Hid (∀ W : World, Calls Tryd.prog 69 #[.agg (hL h).toArray] W fun e w' => e = .returned (.bool true) ∧ Gr W w') := fun W => by have := M1.out W; rwa [hmb] at this
          have HN : Hid ((hs.take (k + 1)).all may = true) := by unfold Hid; rw [all_take may hs k h HH.out, HA.out, hmb]; rfl
          clear M1 hmb
          go_wp2_with (first
            | (refine wpList_load_mid rfl 70 _ rfl b (o + k * 37) rfl (hL h) _ ?r1 Tryd.underlying70 rfl (by rw [HLL.out]; exact iH) ?_; (case r1 => exact RG.out))
            | (refine wpList_store_row rfl 70 _ _ rfl wr.heap.size (hL h).toArray rfl rfl 70 _ (heap_alloc_new wr _) (by rw [HSZ.out]; exact iH) (by rw [HSZ.out]; rfl) HONE.out ?_)
            | (refine wpList_load_row rfl 70 _ rfl wr.heap.size rfl 70 (hL h).toArray (0, 0) _ ?r2 Tryd.underlying70 rfl (by rw [HSZ.out]; exact iH) ?_; (case r2 => exact HX4.out _)))
          refine (M2.out _).mono ?_
          rintro e w1 ⟨rfl, G1⟩
          have HG1 : Hid (Gr w w1) := HG.out.trans ((HW4.out _).trans G1)
          clear G1 M2 HG RG HW4 HX4
          go_wp2_with fail
          go_roundw
          case rel => exact ⟨k + 1, by omega, by go_num, HN.out, HG1.out⟩
          case measure => simp [intOf]; omega
        | false =>
          have M2 : Hid (∀ W : World, Calls Tryd.prog 69 #[.agg (hL h).toArray] W fun e w' => e = .returned (.bool false) ∧ Gr W w') := fun W => by have := M1.out W; rwa [hmb] at this
          have HE : Hid (mayM mn hs = false) := by unfold Hid; rw [HW.out]; exact all_false HH.out hmb
          clear M1 hmb
          go_wp2_with (first
            | (refine wpList_load_mid rfl 70 _ rfl b (o + k * 37) rfl (hL h) _ ?r1 Tryd.underlying70 rfl (by rw [HLL.out]; exact iH) ?_; (case r1 => exact RG.out))
            | (refine wpList_store_row rfl 70 _ _ rfl wr.heap.size (hL h).toArray rfl rfl 70 _ (heap_alloc_new wr _) (by rw [HSZ.out]; exact iH) (by rw [HSZ.out]; rfl) HONE.out ?_)
            | (refine wpList_load_row rfl 70 _ rfl wr.heap.size rfl 70 (hL h).toArray (0, 0) _ ?r2 Tryd.underlying70 rfl (by rw [HSZ.out]; exact iH) ?_; (case r2 => exact HX4.out _)))
          refine (M2.out _).mono ?_
          rintro e w1 ⟨rfl, G1⟩
          have HG1 : Hid (Gr w w1) := HG.out.trans ((HW4.out _).trans G1)
          clear G1 M2 HG RG HW4 HX4
          go_wp2_with fail
          go_ret
          exact ⟨ret_bool HE.out.symm, HG1.out⟩
      · have HE : Hid (mayM mn hs = true) := by have := HA.out; rw [show k = hn by omega, ← HL.out, List.take_length] at this; unfold Hid; rw [HW.out]; exact this
        go_wp2_with fail
        go_ret
        exact ⟨ret_bool HE.out.symm, HG.out⟩
end Go.Proofs.YtdiofidmlgliiaaDoor.Mc
/-
  What the methods of package hart's core that store do: Store, Call.
-/
namespace Go.Proofs.YtdiofidmlgliiaaDoor.Hc
open Go.ChangeShapes Go.WideShapes Go.ChangeAt Go.RowKit Mm Hh
set_option linter.unusedVariables false
set_option linter.unusedSimpArgs false

variable {a op : Int} {w w' W : World} {base g n b : Nat} {h : Hv} {l : List UInt8} {os : List Int} {ss : List (Int × Int)} {x v : Value} {xs : List Value}
/-- append to a slice of the program's own, as one step of a region that draws its order. -/
theorem step_append_own {P : Program} {ops : Array Oper} {o : Oper} {a : Act} {K : Act → World → Prop} {Q : Exit → Act → World → Prop} {E : Prop}
    (hg : o.guard = none) (s x : Operand) (t : TypeId) (hop : o.op = Op.call { callee := Callee.builtin Builtin.append, args := #[s, x], argTypes := #[t, t] })
    (base : Nat) (e : TypeId) (i : TypeInfo) (z : Value) (size bytes : Nat) (h1 : P.underlying t = some (.slice e)) (h2 : P.info? e = some i) (h3 : i.zero = some z) (h4 : i.size = size) (h5 : i.bytes = bytes) (h6 : z.cells.size = size) (h7 : 0 < size)
    (v : Value) (n : Nat) (olds : List Value) (hs : a.eval s = v) (hown : w.ownsRow base e size v n olds)
    (ad : Addr) (m c : Nat) (news : List Value) (hx : a.eval x = .slice (some ad) m c) (hn : news.length = m * size) (hc : ∀ j u, news[j]? = some u → w.cell? (ad.add j) = some u) (h1c : ∀ u ∈ news, u.oneCell' = true)
    (b1 : n + m ≤ maxLen) (b2 : (n + m) * bytes ≤ 140737488355328) (hbase : base ≤ w.heap.size)
    (hK : ∀ v' w', w'.ownsRow base e size v' (n + m) (olds ++ news) → w.grownBy w' v.ownBlock → K (a.put o.dst v') w') :
    if Region.wanted o (yielded ops a.tmps) = true then Oper.wp P o a w K Q else E := by
  have hw : Region.wanted o (yielded ops a.tmps) = true := by simp [Region.wanted, hg]
  rw [if_pos hw]
  obtain ⟨v', w', hrun, r1, r2, _⟩ := run_append_own (P := P) w base t o.type e i z size bytes h1 h2 h3 h4 h5 h6 h7 v n olds hown ad m c news hn hc h1c b1 b2 hbase
  unfold Oper.wp
  simp [execOp, hop, resolve, invoke, builtin, hs, hx, hrun, Result.andThen]
  exact hK v' w' r1 r2

/-- The two tables of package hart hold what their initialisers lay. -/
structure Tb (w : World) (base : Nat) : Prop where
  sizes : ∀ i n, ([0, 0, 0, 0, 0, 0, 0, 0, 0, 0, 0, 0, 0, 0, 0, 0, 1, 2, 4] : List Int)[i]? = some n → w.cell? ⟨8, i, none⟩ = some (.int .u32 n)
  opers : ∀ i n, ([0, 0, 0, 0, 0, 0, 0, 0, 0, 0, 0, 0, 0, 0, 0, 0, 0, 0, 0, 28, 31, 32, 33, 36, 37, 30, 34, 35] : List Int)[i]? = some n → w.cell? ⟨5, i, none⟩ = some (.int .i64 n)
  b1 : 8 < base
  b2 : 5 < base
theorem Tb.of (T : Tb w base) (h : Fr base w w') : Tb w' base :=
  ⟨fun i n e => (Below.cell h.below (by exact T.b1)).trans (T.sizes i n e), fun i n e => (Below.cell h.below (by exact T.b2)).trans (T.opers i n e), T.b1, T.b2⟩

theorem infoR : (Tryd.prog.info? 143).map (fun i => (i.zero, i.size, i.bytes)) = some (some (.agg #[.int .u32 0, .int .u32 0]), 2, 8) := by kernel_rfl
theorem infoU : (Tryd.prog.info? 59).map (fun i => (i.zero, i.size, i.bytes)) = some (some (.int .u32 0), 1, 4) := by kernel_rfl

set_option maxHeartbeats 1000000 in
theorem Store_no {w : World} {base g : Nat} {h : Hv} {l : List UInt8} {os : List Int} {ss : List (Int × Int)} (I : In w base g h l os ss) (hl : l.length ≤ 140737488351232) (op a x : Int) (h0 : 0 ≤ a) (h1 : a < 4294967296) (hx0 : 0 ≤ x) (hx1 : x < 4294967296) (ok : stOk l op a = false) :
    Calls Tryd.prog 138 #[.pointer (some ⟨g, 0, none⟩), .int .i64 op, .int .u32 a, .int .u32 x] w fun e w' => e = .returned (.tuple #[]) ∧ In w' base g (h.trap 4) l os ss ∧ Ch g w w' := by
  have T : Hid (∀ W, In W base g h l os ss → ∀ c, Calls Tryd.prog 104 #[.pointer (some ⟨g, 0, none⟩), .int .i64 c] W fun e w' => e = .returned (.tuple #[]) ∧ In w' base g (h.trap c) l os ss ∧ Ch g W w') := fun W I c => trap_any I c
  have HI : Hid (In w base g h l os ss) := I
  obtain ⟨c0, rfl, I⟩ := I
  obtain ⟨ao, cap, hm, M⟩ := I.mem.mem
  have k1 : w.cell? ⟨g, 37, none⟩ = some (.slice ao l.length cap) := (I.fcell 0).trans (by rw [hm]; rfl)
  have L : Hid (Calls Tryd.prog 151 #[.slice ao l.length cap, .int .i64 op, .int .u32 a, .int .u32 x] w fun e w' => ∃ ao' n' cap', e = .returned (.tuple #[.slice ao' n' cap', .bool false]) ∧ Gr w w') := by
    have := Mm.Store_any cap op a x M hl h0 h1 hx0 hx1
    rw [ok] at this
    exact this.mono fun e w' ⟨a1, n1, c1, e1, _, e3⟩ => ⟨a1, n1, c1, e1, e3⟩
  clear I M hm ok
  generalize l.length = n at *
  go_enter Tryd.func138, Tryd.ntmps138
  go_wp2_with fail
  refine L.out.mono ?_
  rintro e w1 ⟨a1, n1, c1, rfl, G1⟩
  have HI1 : Hid (In w1 base g c0.h l os ss) := HI.out.of G1
  have HC1 : Hid (Ch g w w1) := (Ch.refl g w).gr G1
  clear L k1 G1
  go_wp2_with fail
  refine (T.out _ HI1.out 4).mono ?_
  rintro e w2 ⟨rfl, I2, C2⟩
  have HI2 : Hid (In w2 base g (c0.h.trap 4) l os ss) := I2
  have HC2 : Hid (Ch g w w2) := HC1.out.trans C2
  clear T I2 C2
  go_wp2
  refine bodyPost_ret (results_none Tryd.results138 _ _ _) rfl ?_
  exact ⟨rfl, HI2.out, HC2.out⟩

theorem mem_store {ao : Option Addr} (cap : Nat) (op a x : Int) (M : Mem w ao n l) (hn : n ≤ 140737488351232) (h0 : 0 ≤ a) (h1 : a < 4294967296) (hx0 : 0 ≤ x) (hx1 : x < 4294967296) (ok : stOk l op a = true) :
    Calls Tryd.prog 151 #[.slice ao n cap, .int .i64 op, .int .u32 a, .int .u32 x] w fun e w' => e = .returned (.tuple #[.slice (some ⟨w.heap.size, 0, none⟩) n n, .bool true]) ∧ Row w' w.heap.size (stL l op a x) ∧ Gr w w' := by
  have hl := M.len
  have hok : thr n (ssz op) a = true := by unfold stOk at ok; rw [hl] at ok; exact ok
  have e2 : stL l op a x = put l a.toNat x (ssz op) := by unfold stL; rw [ok]; rfl
  rw [e2]
  obtain ⟨b, o, rfl, hb, hc⟩ := M.spot (thr_pos hok h0)
  obtain ⟨a, rfl⟩ := Int.eq_ofNat_of_zero_le h0
  exact Mm.Store_yes b o n cap l op x a w hn hl (by omega) hb hx0 hx1 hc hok
theorem stL_len {x : Int} (ok : stOk l op a = true) : (stL l op a x).length = l.length := by unfold stL; rw [ok]; exact len_put _ _ _ _
theorem stOk_op (ok : stOk l op a = true) : op = 16 ∨ op = 17 ∨ op = 18 := by
  have h : ¬ ssz op = 0 := by
    intro h
    simp [stOk, thr, h] at ok
  unfold ssz at h
  repeat' split at h
  all_goals omega
theorem Gr.drew {a : World} (h : Gr a w) : Gr a w.drew := h.drewN 1

theorem owns_gr {e sz : Nat} (h : w.ownsRow base e sz v n xs) (q : Gr w w') : w'.ownsRow base e sz v n xs :=
  owns_to h fun k o f hk => q.block k (gs hk).1
theorem own_form {size : Nat} {e : TypeId} (h : w.ownsRow base e size v n xs) (hn : 0 < n) : ∃ g cap, v = .slice (some ⟨g, 0, none⟩) n cap := by
  rcases h.2 with ⟨_, h0⟩ | ⟨g, cap, _, hv, _⟩
  · omega
  · exact ⟨g, cap, hv⟩
theorem two_cells {y : Value} (h0 : W.cell? ⟨b, 0, none⟩ = some x) (h1 : W.cell? ⟨b, 1, none⟩ = some y) : ∀ j u, ([x, y] : List Value)[j]? = some u → W.cell? ((⟨b, 0, none⟩ : Addr).add j) = some u := by
  intro j u hj
  rw [add_at]
  match j, hj with
  | 0, hj => simp at hj; subst hj; exact h0
  | 1, hj => simp at hj; subst hj; exact h1
theorem two_one (a b : Int) : ∀ u ∈ [Value.int .u32 a, Value.int .u32 b], u.oneCell' = true := by
  intro u hu
  simp at hu
  rcases hu with rfl | rfl <;> rfl
set_option maxHeartbeats 1000000 in
theorem Store_yes (I : In w base g h l os ss) (T : Tb w base) (hl : l.length ≤ 140737488351232) (hss : ss.length ≤ 1000000) (op a x : Int) (h0 : 0 ≤ a) (h1 : a < 4294967296) (hx0 : 0 ≤ x) (hx1 : x < 4294967296) (ok : stOk l op a = true) :
    Calls Tryd.prog 138 #[.pointer (some ⟨g, 0, none⟩), .int .i64 op, .int .u32 a, .int .u32 x] w fun e w' => e = .returned (.tuple #[]) ∧ In w' base g h (stL l op a x) os (ss ++ [(a, ((ssz op : Nat) : Int))]) ∧ Fr base w w' := by
  obtain ⟨c0, rfl, I⟩ := I
  obtain ⟨ao, cap, hm, M⟩ := I.mem.mem
  have k1 : w.cell? ⟨g, 37, none⟩ = some (.slice ao l.length cap) := (I.fcell 0).trans (by rw [hm]; rfl)
  have L : Hid (Calls Tryd.prog 151 #[.slice ao l.length cap, .int .i64 op, .int .u32 a, .int .u32 x] w fun e w' => e = .returned (.tuple #[.slice (some ⟨w.heap.size, 0, none⟩) l.length l.length, .bool true]) ∧ Row w' w.heap.size (stL l op a x) ∧ Gr w w') := mem_store cap op a x M hl h0 h1 hx0 hx1 ok
  have hk := stL_len (x := x) ok
  have hop := stOk_op ok
  obtain ⟨i0, hi, hz0, hz1, hz2⟩ := info_parts infoR
  generalize stL l op a x = k at *
  have HI : Hid _ := I
  have HT : Hid _ := T
  clear I M hm ok T
  rcases hop with rfl | rfl | rfl
  · rw [show ((ssz 16 : Nat) : Int) = 1 from rfl]
    go_enter Tryd.func138, Tryd.ntmps138
    go_wp2_with fail
    refine L.out.mono ?_
    rintro e w1 ⟨rfl, R1, G1⟩
    have J := HI.out.stored G1 R1 hk
    have q1 : w1.cell? ⟨g, 37, none⟩ = some (.slice ao l.length cap) := (Gr.cell G1 _ (by exact HI.out.lt)).trans k1
    have q2 : w1.frozen? ⟨g, 37, none⟩ = false := (HI.out.of G1).fz 37
    have B : Fr base w (w1.setCell ⟨g, 37, none⟩ (.slice (some ⟨w.heap.size, 0, none⟩) l.length l.length)) := HI.out.inn.below (((Ch.refl g w).gr G1).setCell _ _)
    clear L k1 R1 G1
    go_wp2_with fail
    generalize w1.setCell ⟨g, 37, none⟩ (.slice (some ⟨w.heap.size, 0, none⟩) l.length l.length) = w2 at *
    have k39 : w2.cell? ⟨g, 39, none⟩ = some c0.sto := J.fcell 2
    have fz := J.fz
    have hg := J.lt
    have ks : w2.cell? ⟨8, 16, none⟩ = some (.int .u32 1) := (HT.out.of B).sizes 16 1 rfl
    have HJ : Hid _ := J
    have HB : Hid _ := B
    clear J B q1 q2
    go_region_law (refine step_append_own rfl (.tmp 33) (.tmp 41) 99 rfl base 143 i0 _ 2 8 Tryd.underlying99 hi hz0 hz1 hz2 rfl (by decide) c0.sto ss.length (rgs ss) (by simp [Act.eval, Act.put]) (owns_gr HJ.out.sto (by repeat (first | exact Gr.refl _ | refine Gr.drew ?_ | refine Gr.alloc ?_ _))) ⟨w2.heap.size, 0, none⟩ 1 1 [.int .u32 a, .int .u32 (IntKind.u32.wrap (a + 1))] (by simp [Act.eval, Act.put]) rfl (two_cells (by simp) (by simp)) (two_one _ _) (by unfold maxLen; omega) (by omega) (by have := HJ.out.base_le; simp; omega) ?_; intro v' w' hown hgrow; obtain ⟨g', cp, rfl⟩ := own_form hown (by omega); obtain ⟨c39, f39, F⟩ := HJ.out.sto_grown (n := ss.length + 1) (by repeat (first | exact Gr.refl _ | refine Gr.drew ?_ | refine Gr.alloc ?_ _)) hgrow (ss' := ss ++ [(a, 1)]) (by simp) (by rw [rgs_snoc]; exact hown); have HF : Hid _ := F; clear F hown hgrow)
    all_goals
      go_end0
      exact ⟨rfl, HF.out.1.inn, HB.out.trans HF.out.2⟩
  · rw [show ((ssz 17 : Nat) : Int) = 2 from rfl]
    go_enter Tryd.func138, Tryd.ntmps138
    go_wp2_with fail
    refine L.out.mono ?_
    rintro e w1 ⟨rfl, R1, G1⟩
    have J := HI.out.stored G1 R1 hk
    have q1 : w1.cell? ⟨g, 37, none⟩ = some (.slice ao l.length cap) := (Gr.cell G1 _ (by exact HI.out.lt)).trans k1
    have q2 : w1.frozen? ⟨g, 37, none⟩ = false := (HI.out.of G1).fz 37
    have B : Fr base w (w1.setCell ⟨g, 37, none⟩ (.slice (some ⟨w.heap.size, 0, none⟩) l.length l.length)) := HI.out.inn.below (((Ch.refl g w).gr G1).setCell _ _)
    clear L k1 R1 G1
    go_wp2_with fail
    generalize w1.setCell ⟨g, 37, none⟩ (.slice (some ⟨w.heap.size, 0, none⟩) l.length l.length) = w2 at *
    have k39 : w2.cell? ⟨g, 39, none⟩ = some c0.sto := J.fcell 2
    have fz := J.fz
    have hg := J.lt
    have ks : w2.cell? ⟨8, 17, none⟩ = some (.int .u32 2) := (HT.out.of B).sizes 17 2 rfl
    have HJ : Hid _ := J
    have HB : Hid _ := B
    clear J B q1 q2
    go_region_law (refine step_append_own rfl (.tmp 33) (.tmp 41) 99 rfl base 143 i0 _ 2 8 Tryd.underlying99 hi hz0 hz1 hz2 rfl (by decide) c0.sto ss.length (rgs ss) (by simp [Act.eval, Act.put]) (owns_gr HJ.out.sto (by repeat (first | exact Gr.refl _ | refine Gr.drew ?_ | refine Gr.alloc ?_ _))) ⟨w2.heap.size, 0, none⟩ 1 1 [.int .u32 a, .int .u32 (IntKind.u32.wrap (a + 2))] (by simp [Act.eval, Act.put]) rfl (two_cells (by simp) (by simp)) (two_one _ _) (by unfold maxLen; omega) (by omega) (by have := HJ.out.base_le; simp; omega) ?_; intro v' w' hown hgrow; obtain ⟨g', cp, rfl⟩ := own_form hown (by omega); obtain ⟨c39, f39, F⟩ := HJ.out.sto_grown (n := ss.length + 1) (by repeat (first | exact Gr.refl _ | refine Gr.drew ?_ | refine Gr.alloc ?_ _)) hgrow (ss' := ss ++ [(a, 2)]) (by simp) (by rw [rgs_snoc]; exact hown); have HF : Hid _ := F; clear F hown hgrow)
    all_goals
      go_end0
      exact ⟨rfl, HF.out.1.inn, HB.out.trans HF.out.2⟩
  · rw [show ((ssz 18 : Nat) : Int) = 4 from rfl]
    go_enter Tryd.func138, Tryd.ntmps138
    go_wp2_with fail
    refine L.out.mono ?_
    rintro e w1 ⟨rfl, R1, G1⟩
    have J := HI.out.stored G1 R1 hk
    have q1 : w1.cell? ⟨g, 37, none⟩ = some (.slice ao l.length cap) := (Gr.cell G1 _ (by exact HI.out.lt)).trans k1
    have q2 : w1.frozen? ⟨g, 37, none⟩ = false := (HI.out.of G1).fz 37
    have B : Fr base w (w1.setCell ⟨g, 37, none⟩ (.slice (some ⟨w.heap.size, 0, none⟩) l.length l.length)) := HI.out.inn.below (((Ch.refl g w).gr G1).setCell _ _)
    clear L k1 R1 G1
    go_wp2_with fail
    generalize w1.setCell ⟨g, 37, none⟩ (.slice (some ⟨w.heap.size, 0, none⟩) l.length l.length) = w2 at *
    have k39 : w2.cell? ⟨g, 39, none⟩ = some c0.sto := J.fcell 2
    have fz := J.fz
    have hg := J.lt
    have ks : w2.cell? ⟨8, 18, none⟩ = some (.int .u32 4) := (HT.out.of B).sizes 18 4 rfl
    have HJ : Hid _ := J
    have HB : Hid _ := B
    clear J B q1 q2
    go_region_law (refine step_append_own rfl (.tmp 33) (.tmp 41) 99 rfl base 143 i0 _ 2 8 Tryd.underlying99 hi hz0 hz1 hz2 rfl (by decide) c0.sto ss.length (rgs ss) (by simp [Act.eval, Act.put]) (owns_gr HJ.out.sto (by repeat (first | exact Gr.refl _ | refine Gr.drew ?_ | refine Gr.alloc ?_ _))) ⟨w2.heap.size, 0, none⟩ 1 1 [.int .u32 a, .int .u32 (IntKind.u32.wrap (a + 4))] (by simp [Act.eval, Act.put]) rfl (two_cells (by simp) (by simp)) (two_one _ _) (by unfold maxLen; omega) (by omega) (by have := HJ.out.base_le; simp; omega) ?_; intro v' w' hown hgrow; obtain ⟨g', cp, rfl⟩ := own_form hown (by omega); obtain ⟨c39, f39, F⟩ := HJ.out.sto_grown (n := ss.length + 1) (by repeat (first | exact Gr.refl _ | refine Gr.drew ?_ | refine Gr.alloc ?_ _)) hgrow (ss' := ss ++ [(a, 4)]) (by simp) (by rw [rgs_snoc]; exact hown); have HF : Hid _ := F; clear F hown hgrow)
    all_goals
      go_end0
      exact ⟨rfl, HF.out.1.inn, HB.out.trans HF.out.2⟩

/-- Store: what it stores, or a trap. -/
theorem Store_any (I : In w base g h l os ss) (T : Tb w base) (hl : l.length ≤ 140737488351232) (hss : ss.length ≤ 1000000) (op a x : Int) (h0 : 0 ≤ a) (h1 : a < 4294967296) (hx0 : 0 ≤ x) (hx1 : x < 4294967296) :
    Calls Tryd.prog 138 #[.pointer (some ⟨g, 0, none⟩), .int .i64 op, .int .u32 a, .int .u32 x] w fun e w' => e = .returned (.tuple #[]) ∧ In w' base g (efStore h l op a x).h (efStore h l op a x).m os (ss ++ (efStore h l op a x).sto) ∧ Fr base w w' := by
  unfold efStore
  cases ok : stOk l op a with
  | false =>
    refine (Store_no I hl op a x h0 h1 hx0 hx1 ok).mono ?_
    rintro e w' ⟨rfl, J, C⟩
    exact ⟨rfl, by simpa using J, I.below C⟩
  | true => exact Store_yes I T hl hss op a x h0 h1 hx0 hx1 ok

theorem one_cell (h0 : W.cell? ⟨b, 0, none⟩ = some x) : ∀ j u, ([x] : List Value)[j]? = some u → W.cell? ((⟨b, 0, none⟩ : Addr).add j) = some u := by
  intro j u hj
  rw [add_at]
  match j, hj with
  | 0, hj => simp at hj; subst hj; exact h0
theorem one_one (a : Int) : ∀ u ∈ [Value.int .u32 a], u.oneCell' = true := by
  intro u hu
  simp at hu
  subst hu
  rfl
set_option maxHeartbeats 1000000 in
theorem Call_out (I : In w base g h l os ss) (hos : os.length ≤ 1000000) (h17 : rg h 17 = 1) :
    Calls Tryd.prog 141 #[.pointer (some ⟨g, 0, none⟩)] w fun e w' => e = .returned (.tuple #[]) ∧ In w' base g h l (os ++ [rg h 10]) ss ∧ Fr base w w' := by
  obtain ⟨c0, rfl, I⟩ := I
  have k17 : w.cell? ⟨g, 17, none⟩ = some (.int .u32 1) := by rw [← h17]; exact I.reg (by omega)
  have k10 : w.cell? ⟨g, 10, none⟩ = some (.int .u32 (rg c0.h 10)) := I.reg (by omega)
  have k38 : w.cell? ⟨g, 38, none⟩ = some c0.out := I.fcell 1
  have fz := I.fz
  have hg := I.lt
  have HJ : Hid _ := I
  obtain ⟨i0, hi, hz0, hz1, hz2⟩ := info_parts infoU
  generalize rg c0.h 10 = x at *
  clear I h17
  go_enter Tryd.func141, Tryd.ntmps141
  go_wp2_with fail
  go_region_law (refine step_append_own rfl (.tmp 22) (.tmp 29) 38 rfl base 59 i0 _ 1 4 Tryd.underlying38 hi hz0 hz1 hz2 rfl (by decide) c0.out os.length (os.map (Value.int .u32)) (by simp [Act.eval, Act.put]) (owns_gr HJ.out.out (by repeat (first | exact Gr.refl _ | refine Gr.drew ?_ | refine Gr.alloc ?_ _))) ⟨w.heap.size, 0, none⟩ 1 1 [.int .u32 x] (by simp [Act.eval, Act.put]) rfl (one_cell (by simp)) (one_one _) (by unfold maxLen; omega) (by omega) (by have := HJ.out.base_le; simp; omega) ?_; intro v' w' hown hgrow; obtain ⟨g', cp, rfl⟩ := own_form hown (by omega); obtain ⟨c38, f38, F⟩ := HJ.out.out_grown (n := os.length + 1) (by repeat (first | exact Gr.refl _ | refine Gr.drew ?_ | refine Gr.alloc ?_ _)) hgrow (os' := os ++ [x]) (by simp) (by rw [List.map_append]; exact hown); have HF : Hid _ := F; clear F hown hgrow)
  all_goals
    go_end0
    exact ⟨rfl, HF.out.1.inn, HF.out.2⟩
set_option maxHeartbeats 1000000 in
theorem Call_not {w : World} {base g : Nat} {h : Hv} {l : List UInt8} {os : List Int} {ss : List (Int × Int)} (I : In w base g h l os ss) (h17 : ¬ rg h 17 = 1) :
    Calls Tryd.prog 141 #[.pointer (some ⟨g, 0, none⟩)] w fun e w' => e = .returned (.tuple #[]) ∧ In w' base g (if rg h 17 = 0 then h.halt else h.trap 5) l os ss ∧ Fr base w w' := by
  have T : Hid (∀ c, Calls Tryd.prog 104 #[.pointer (some ⟨g, 0, none⟩), .int .i64 c] w fun e w' => e = .returned (.tuple #[]) ∧ In w' base g (h.trap c) l os ss ∧ Ch g w w') := fun c => trap_any I c
  have HI : Hid (In w base g h l os ss) := I
  obtain ⟨c0, rfl, I⟩ := I
  have k17 : w.cell? ⟨g, 17, none⟩ = some (.int .u32 (rg c0.h 17)) := I.reg (by omega)
  have k35 : w.cell? ⟨g, 35, none⟩ = some (.int .i64 c0.h.state) := (I.hcell (by omega)).trans (hL_fld I.ok 3)
  have fz := I.fz
  have o1 : c0.h.halt.Ok := I.ok.halt
  have HJ : Hid (Inv (w.setCell ⟨g, 35, none⟩ (.int .i64 1)) base g { c0 with h := c0.h.halt } l os ss) := I.set (by omega) (set_state I.ok 1) o1
  clear I o1
  generalize c0.h.state = y at *
  generalize hx : rg c0.h 17 = x at *
  clear hx
  by_cases h0 : x = 0
  · subst h0
    rw [if_pos rfl]
    clear T
    go_enter Tryd.func141, Tryd.ntmps141
    go_wp2_with fail
    go_end0
    exact ⟨rfl, HJ.out.inn, HI.out.below ((Ch.refl g w).setCell _ _)⟩
  · rw [if_neg h0]
    have b0 : (x == 0) = false := by simp [h0]
    have b1 : (x == 1) = false := by simp [h17]
    clear h0 h17
    go_enter Tryd.func141, Tryd.ntmps141
    go_wp2_with fail
    refine (T.out 5).mono ?_
    rintro e w' ⟨rfl, I2, C2⟩
    have HI2 : Hid (In w' base g (c0.h.trap 5) l os ss) := I2
    have HC2 : Hid (Ch g w w') := C2
    clear I2 C2 T k17 k35 fz HJ
    go_wp2_with fail
    go_end0
    exact ⟨rfl, HI2.out, HI.out.below HC2.out⟩
theorem Call_any (I : In w base g h l os ss) (hos : os.length ≤ 1000000) :
    Calls Tryd.prog 141 #[.pointer (some ⟨g, 0, none⟩)] w fun e w' => e = .returned (.tuple #[]) ∧ In w' base g (efCall h l).h l (os ++ (efCall h l).out) ss ∧ Fr base w w' := by
  unfold efCall
  by_cases h1 : rg h 17 = 1
  · rw [if_neg (by omega), if_pos h1]
    exact Call_out I hos h1
  · refine (Call_not I h1).mono ?_
    rintro e w' ⟨rfl, J, B⟩
    refine ⟨rfl, ?_, B⟩
    by_cases h0 : rg h 17 = 0
    · rw [if_pos h0] at J ⊢; simpa using J
    · rw [if_neg h0] at J; rw [if_neg h0, if_neg h1]; simpa using J
end Go.Proofs.YtdiofidmlgliiaaDoor.Hc
/-
  What the small functions of package ferrybridgeref4 return: trap, set, each of every struct that a step did; and nothing old in memory turns.
-/
namespace Go.Proofs.YtdiofidmlgliiaaDoor.Hr
open Go.ChangeShapes Go.WideShapes Go.ChangeAt Go.RowKit Mm Hh
set_option linter.unusedVariables false
set_option linter.unusedSimpArgs false

variable {d : Dv}
theorem iD : (Tryd.prog.info? 81).map (·.size) = some 41 := by kernel_rfl
theorem iH : (Tryd.prog.info? 70).map (·.size) = some 37 := by kernel_rfl
theorem ret_int {k : IntKind} {a b : Int} (h : a = b) : Ending.returned (.int k a) = .returned (.int k b) := by rw [h]

theorem sum_any (a b : Int) (w : World) (ha : 0 ≤ a) (ha' : a < 4294967296) (hb : 0 ≤ b) (hb' : b < 4294967296) :
    Calls Tryd.prog 62 #[.int .u32 a, .int .u32 b] w fun e w' => e = .returned (.int .u32 (Wd.lo (a + b))) ∧ w' = w := by
  go_enter Tryd.func62, Tryd.ntmps62
  go_wp2_with (go_at_call 66; refine (Rw.alu_28 _ _ _ ha ha' hb hb').mono ?_; rintro e w' ⟨rfl, rfl⟩)
  go_ret
  exact ⟨ret_int rfl, rfl⟩
theorem operation_any (op : Int) (w : World) : Calls Tryd.prog 67 #[.int .i64 op] w fun e w' => e = .returned (.int .i64 (opn op)) ∧ w' = w := by
  go_enter Tryd.func67, Tryd.ntmps67
  go_wp2
  all_goals
    go_ret
    refine ⟨ret_int ?_, rfl⟩
    simp only [beq_iff_eq, beq_eq_false_iff_ne, ne_eq] at *
    unfold opn
    repeat' split
    all_goals omega

theorem trap_any (o : d.Ok) (c : Int) (w : World) :
    Calls Tryd.prog 59 #[.agg (dA d), .int .i64 c] w fun e w' => e = .returned (.agg (dA (d.setH (d.h.trap c)))) ∧ Gr w w' := by
  have o1 : Hv.Ok { d.h with state := 2 } := ⟨o.h.len, o.h.reg, o.h.pc0, o.h.pc1, o.h.at0, o.h.at1⟩
  have e1 : (dA d).setIfInBounds 35 (.int .i64 2) = dA { d with h := { d.h with state := 2 } } := dA_set o.h (by omega) (set_state o.h 2)
  have e2 : (dA { d with h := { d.h with state := 2 } }).setIfInBounds 36 (.int .i64 c) = dA (d.setH (d.h.trap c)) := dA_set (d := { d with h := { d.h with state := 2 } }) o1 (by omega) (set_cause o1 c)
  have hs := dA_size o.h
  have s1 : (dA { d with h := { d.h with state := 2 } }).size = 41 := dA_size (d := { d with h := { d.h with state := 2 } }) o1
  have S2 : Hid ((dA (d.setH (d.h.trap c))).size = 41) := dA_size (d := d.setH (d.h.trap c)) (o.h.trap c)
  have H1 : Hid ((dA (d.setH (d.h.trap c))).all (·.oneCell') = true) := one_dA (o.setH (o.h.trap c))
  generalize dA { d with h := { d.h with state := 2 } } = D1 at *
  generalize dA (d.setH (d.h.trap c)) = D2 at *
  generalize dA d = D0 at *
  clear o1 o
  go_enter Tryd.func59, Tryd.ntmps59
  go_wp2_with (first
    | (refine wpList_load_row rfl 81 _ rfl _ rfl _ _ _ _ (heap_alloc2_old w _ _) Tryd.underlying81 rfl (by rw [S2.out]; exact iD) ?_)
    | (refine wpList_store_row rfl 81 _ _ rfl _ _ rfl rfl _ _ (heap_alloc2_new w _ _) (by rw [S2.out]; exact iD) (by rw [S2.out]; rfl) H1.out ?_))
  refine bodyPost_ret (v := .agg D2) (results_cell_row rfl _ _ _ _ _ (0, 0) _ rfl (heap_setRow2 w _ _ _ _) Tryd.underlying81 rfl (by rw [S2.out]; exact iD)) rfl ⟨rfl, ?_⟩
  exact gr_setRow (((Gr.refl _).alloc _).alloc _) (Nat.le_succ _) _

set_option maxHeartbeats 400000 in
theorem set_any (o : d.Ok) (r x : Int) (w : World) (h0 : 0 ≤ r) (h1 : r < 32) (hx0 : 0 ≤ x) (hx1 : x < 4294967296) :
    Calls Tryd.prog 63 #[.agg (dA d), .int .i64 r, .int .u32 x] w fun e w' => e = .returned (.agg (dA (d.setH (d.h.set r.toNat x)))) ∧ Gr w w' := by
  have hs := dA_size o.h
  have S2 : Hid ((dA (d.setH (d.h.set r.toNat x))).size = 41) := dA_size (d := d.setH (d.h.set r.toNat x)) (o.h.set _ hx0 hx1)
  have H1 : Hid ((dA (d.setH (d.h.set r.toNat x))).all (·.oneCell') = true) := one_dA (o.setH (o.h.set _ hx0 hx1))
  obtain ⟨r, rfl⟩ := Int.eq_ofNat_of_zero_le h0
  simp only [Int.toNat_natCast] at *
  by_cases hr : r = 0
  · subst hr
    have e : d.setH (d.h.set 0 x) = d := rfl
    rw [e] at S2 H1 ⊢
    generalize dA d = D2 at *
    clear o e
    go_enter Tryd.func63, Tryd.ntmps63
    go_wp2_with (first
      | (refine wpList_load_row rfl 81 _ rfl _ rfl _ _ _ _ (heap_alloc2_old w _ _) Tryd.underlying81 rfl (by rw [S2.out]; exact iD) ?_)
      | (refine wpList_store_row rfl 81 _ _ rfl _ _ rfl rfl _ _ (heap_alloc2_new w _ _) (by rw [S2.out]; exact iD) (by rw [S2.out]; rfl) H1.out ?_))
    refine bodyPost_ret (v := .agg D2) (results_cell_row rfl _ _ _ _ _ (0, 0) _ rfl (heap_setRow2 w _ _ _ _) Tryd.underlying81 rfl (by rw [S2.out]; exact iD)) rfl ⟨rfl, ?_⟩
    exact gr_setRow (((Gr.refl _).alloc _).alloc _) (Nat.le_succ _) _
  · have e1 : (dA d).setIfInBounds r (.int .u32 x) = dA (d.setH (d.h.set r x)) := by
      have : d.h.set r x = { d.h with regs := d.h.regs.set r x } := if_neg hr
      rw [this]
      exact dA_set o.h (by omega) (set_reg o.h (by omega) x)
    have hr' : ¬ (r : Int) = 0 := by omega
    have hr2 : r < 32 := by omega
    have hget : (dA d)[r]? = some (.int .u32 (rg d.h r)) := by rw [dA_get o.h (by omega)]; exact hL_reg o.h hr2
    generalize rg d.h r = y at *
    generalize dA (d.setH (d.h.set r x)) = D2 at *
    generalize dA d = D0 at *
    clear o
    clear hs
    go_enter Tryd.func63, Tryd.ntmps63
    go_wp2_with (first
      | (refine wpList_load_row rfl 81 _ rfl _ rfl _ _ _ _ (heap_alloc2_old w _ _) Tryd.underlying81 rfl (by rw [S2.out]; exact iD) ?_)
      | (refine wpList_store_row rfl 81 _ _ rfl _ _ rfl rfl _ _ (heap_alloc2_new w _ _) (by rw [S2.out]; exact iD) (by rw [S2.out]; rfl) H1.out ?_))
    refine bodyPost_ret (v := .agg D2) (results_cell_row rfl _ _ _ _ _ (0, 0) _ rfl (heap_setRow2 w _ _ _ _) Tryd.underlying81 rfl (by rw [S2.out]; exact iD)) rfl ⟨rfl, ?_⟩
    exact gr_setRow (((Gr.refl _).alloc _).alloc _) (Nat.le_succ _) _
end Go.Proofs.YtdiofidmlgliiaaDoor.Hr
