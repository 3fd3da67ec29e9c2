/-
  A core of package hart, as cells of memory, and what is true of it from method to method: its hart, its memory, what came out and where was stored, as plain data ('In').
-/
import Derived.Test.YtdiofidmlgliiaaDoorHs
import Derived.Deep.RegionLaw
namespace Go.Proofs.YtdiofidmlgliiaaDoor.Hc
open Go.ChangeShapes Go.WideShapes Go.ChangeAt Go.RowKit Mm Hh
set_option linter.unusedVariables false

structure Cv where
  h : Hv
  m : Value
  out : Value
  sto : Value
def cA (c : Cv) : Array Value := (hL c.h ++ [c.m, c.out, c.sto]).toArray
theorem cA_size {c : Cv} (o : c.h.Ok) : (cA c).size = 40 := by simp [cA, hL_len o]
theorem cA_get {c : Cv} (o : c.h.Ok) {i : Nat} (hi : i < 37) : (cA c)[i]? = (hL c.h)[i]? := by
  have := hL_len o
  unfold cA
  rw [List.getElem?_toArray, List.getElem?_append_left (by omega)]
theorem cA_fld {c : Cv} (o : c.h.Ok) (j : Nat) : (cA c)[37 + j]? = [c.m, c.out, c.sto][j]? := by
  unfold cA
  rw [List.getElem?_toArray, List.getElem?_append_right (by simp [hL_len o])]
  simp [hL_len o]
theorem cA_set {c : Cv} (o : c.h.Ok) {i : Nat} (hi : i < 37) {v : Value} {h' : Hv} (e : (hL c.h).set i v = hL h') : (cA c).setIfInBounds i v = cA { c with h := h' } := by
  have := hL_len o
  unfold cA
  simp only [List.setIfInBounds_toArray]
  rw [List.set_append_left _ _ (by omega), e]
theorem cA_setM {c : Cv} (o : c.h.Ok) (v : Value) : (cA c).setIfInBounds 37 v = cA { c with m := v } := by
  have := hL_len o
  unfold cA
  simp only [List.setIfInBounds_toArray]
  rw [List.set_append_right _ _ (by omega), this]
  rfl
theorem cA_setO {c : Cv} (o : c.h.Ok) (v : Value) : (cA c).setIfInBounds 38 v = cA { c with out := v } := by
  have := hL_len o
  unfold cA
  simp only [List.setIfInBounds_toArray]
  rw [List.set_append_right _ _ (by omega), this]
  rfl
theorem cA_setS {c : Cv} (o : c.h.Ok) (v : Value) : (cA c).setIfInBounds 39 v = cA { c with sto := v } := by
  have := hL_len o
  unfold cA
  simp only [List.setIfInBounds_toArray]
  rw [List.set_append_right _ _ (by omega), this]
  rfl

/-- Bytes of the program's own: none, or a row of them. -/
def Own (w : World) (base : Nat) (v : Value) (l : List UInt8) : Prop :=
  (v = .slice none 0 0 ∧ l = []) ∨ ∃ k cap, v = .slice (some ⟨k, 0, none⟩) l.length cap ∧ (base ≤ k ∧ l.length ≤ cap) ∧ Row w k l
theorem Own.mem {w : World} {base : Nat} {v : Value} {l : List UInt8} (h : Own w base v l) : ∃ ao cap, v = .slice ao l.length cap ∧ Mem w ao l.length l := by
  rcases h with ⟨rfl, rfl⟩ | ⟨k, cap, rfl, _, R⟩
  · exact ⟨none, 0, rfl, Mem.none w⟩
  · exact ⟨some ⟨k, 0, none⟩, cap, rfl, R.mem⟩
/-- Ranges of bytes that were stored in, as cells. -/
def rgs (ss : List (Int × Int)) : List Value := ss.flatMap fun p => [.int .u32 p.1, .int .u32 (Wd.lo (p.1 + p.2))]
theorem rgs_len (ss : List (Int × Int)) : (rgs ss).length = ss.length * 2 := by
  induction ss with
  | nil => rfl
  | cons p r ih => simp only [rgs, List.flatMap_cons, List.length_append, List.length_cons, List.length_nil] at ih ⊢; omega
theorem rgs_snoc (ss : List (Int × Int)) (p : Int × Int) : rgs (ss ++ [p]) = rgs ss ++ [.int .u32 p.1, .int .u32 (Wd.lo (p.1 + p.2))] := by
  simp [rgs]

structure Inv (w : World) (base g : Nat) (c : Cv) (l : List UInt8) (os : List Int) (ss : List (Int × Int)) : Prop where
  ok : c.h.Ok
  bg : base ≤ g
  core : w.heap[g]? = some (.cells (cA c) 146 (0, 0))
  mem : Own w 0 c.m l
  out : w.ownsRow base 59 1 c.out os.length (os.map (Value.int .u32))
  sto : w.ownsRow base 143 2 c.sto ss.length (rgs ss)
/-- A core at block g: its hart, its bytes, what came out, where was stored. -/
def In (w : World) (base g : Nat) (h : Hv) (l : List UInt8) (os : List Int) (ss : List (Int × Int)) : Prop := ∃ c : Cv, c.h = h ∧ Inv w base g c l os ss

theorem Own.to {w w' : World} {base : Nat} {v : Value} {l : List UInt8} (h : Own w base v l) (e : ∀ (k : Nat) (o : Array Value) (f : Nat × Nat), w.heap[k]? = some (.cells o 5 f) → w'.heap[k]? = w.heap[k]?) : Own w' base v l := by
  rcases h with h | ⟨k, cap, hv, hb, rest, hr⟩
  · exact .inl h
  · exact .inr ⟨k, cap, hv, hb, rest, (e k _ _ hr).trans hr⟩
theorem owns_to {w w' : World} {base e n sz : Nat} {v : Value} {xs : List Value} (h : w.ownsRow base e sz v n xs) (q : ∀ (k : Nat) (o : Array Value) (f : Nat × Nat), w.heap[k]? = some (.cells o e f) → w'.heap[k]? = w.heap[k]?) : w'.ownsRow base e sz v n xs := by
  obtain ⟨h1, h2⟩ := h
  refine ⟨h1, ?_⟩
  rcases h2 with h2 | ⟨g, cap, cur, hv, hb, hg, r⟩
  · exact .inl h2
  · exact .inr ⟨g, cap, cur, hv, hb, (q g _ _ hg).trans hg, r⟩
theorem ne_of_types {w : World} {k g a b : Nat} {o p : Array Value} {f f' : Nat × Nat} (h : w.heap[k]? = some (.cells o a f)) (h' : w.heap[g]? = some (.cells p b f')) (hab : a ≠ b) : k ≠ g := by
  rintro rfl
  rw [h] at h'
  exact hab (by injection h' with h'; injection h')
/-- Only block g has turned, and new ones have come. -/
def Ch (g : Nat) (w w' : World) : Prop := w.grownBy w' (some g)
theorem Ch.refl (g : Nat) (w : World) : Ch g w w := ⟨rfl, rfl, rfl, Nat.le_refl _, fun _ _ _ => rfl⟩
theorem Ch.trans {g : Nat} {a b c : World} (h : Ch g a b) (k : Ch g b c) : Ch g a c :=
  ⟨k.os.trans h.os, k.tape.trans h.tape, k.output.trans h.output, Nat.le_trans h.size k.size, fun i hi hn => (k.block i (Nat.lt_of_lt_of_le hi h.size) hn).trans (h.block i hi hn)⟩
theorem Ch.setCell {g : Nat} {a w : World} (h : Ch g a w) (o : Nat) (v : Value) : Ch g a (w.setCell ⟨g, o, none⟩ v) :=
  h.trans ⟨rfl, rfl, rfl, by simp [World.setCell], fun k hk hn => Below.heap_setCell _ _ _ _ (fun e => hn (by rw [e]))⟩
theorem Ch.gr {g : Nat} {a b c : World} (h : Ch g a b) (k : Gr b c) : Ch g a c :=
  h.trans ⟨k.os, k.tape, k.output, k.size, fun i hi _ => k.block i hi⟩
theorem Ch.below {g base : Nat} {w w' : World} (h : Ch g w w') (hg : base ≤ g) (hb : base ≤ w.heap.size) : Below base w w' :=
  (Below.refl base w).grown h hb (fun k e => by injection e with e; omega)
theorem Inv.toM {w w' : World} {base g : Nat} {c c' : Cv} {l l' : List UInt8} {os : List Int} {ss : List (Int × Int)} (I : Inv w base g c l os ss) (q : Ch g w w') (hc : w'.heap[g]? = some (.cells (cA c') 146 (0, 0)))
    (ok : c'.h.Ok) (em : Own w' 0 c'.m l') (eo : c'.out = c.out) (es : c'.sto = c.sto) : Inv w' base g c' l' os ss := by
  have st : ∀ t : Nat, t ≠ 146 → ∀ (k : Nat) (o : Array Value) (f : Nat × Nat), w.heap[k]? = some (.cells o t f) → w'.heap[k]? = w.heap[k]? := fun t ht k o f hk =>
    q.block k (Array.getElem?_eq_some_iff.1 hk).1 (fun e => ne_of_types hk I.core ht (by injection e))
  refine ⟨ok, I.bg, hc, em, ?_, ?_⟩
  · rw [eo]; exact owns_to I.out (st _ (by decide))
  · rw [es]; exact owns_to I.sto (st _ (by decide))
theorem Inv.to {w w' : World} {base g : Nat} {c c' : Cv} {l : List UInt8} {os : List Int} {ss : List (Int × Int)} (I : Inv w base g c l os ss) (q : Ch g w w') (hc : w'.heap[g]? = some (.cells (cA c') 146 (0, 0)))
    (ok : c'.h.Ok) (em : c'.m = c.m) (eo : c'.out = c.out) (es : c'.sto = c.sto) : Inv w' base g c' l os ss := by
  have st : ∀ t : Nat, t ≠ 146 → ∀ (k : Nat) (o : Array Value) (f : Nat × Nat), w.heap[k]? = some (.cells o t f) → w'.heap[k]? = w.heap[k]? := fun t ht k o f hk =>
    q.block k (Array.getElem?_eq_some_iff.1 hk).1 (fun e => ne_of_types hk I.core ht (by injection e))
  exact I.toM q hc ok (by rw [em]; exact I.mem.to (st _ (by decide))) eo es
theorem Inv.of {w w' : World} {base g : Nat} {c : Cv} {l : List UInt8} {os : List Int} {ss : List (Int × Int)} (I : Inv w base g c l os ss) (q : Gr w w') : Inv w' base g c l os ss :=
  I.to ((Ch.refl g w).gr q) ((q.block g (Array.getElem?_eq_some_iff.1 I.core).1).trans I.core) I.ok rfl rfl rfl
theorem In.of {w w' : World} {base g : Nat} {h : Hv} {l : List UInt8} {os : List Int} {ss : List (Int × Int)} (I : In w base g h l os ss) (q : Gr w w') : In w' base g h l os ss := by
  obtain ⟨c, e, I⟩ := I
  exact ⟨c, e, I.of q⟩
theorem Inv.lt {w : World} {base g : Nat} {c : Cv} {l : List UInt8} {os : List Int} {ss : List (Int × Int)} (I : Inv w base g c l os ss) : g < w.heap.size := (Array.getElem?_eq_some_iff.1 I.core).1
theorem Inv.hcell {w : World} {base g : Nat} {c : Cv} {l : List UInt8} {os : List Int} {ss : List (Int × Int)} (I : Inv w base g c l os ss) {i : Nat} (hi : i < 37) : w.cell? ⟨g, i, none⟩ = (hL c.h)[i]? :=
  (cell_of_row _ _ _ _ _ _ I.core).trans (cA_get I.ok hi)
theorem Inv.fcell {w : World} {base g : Nat} {c : Cv} {l : List UInt8} {os : List Int} {ss : List (Int × Int)} (I : Inv w base g c l os ss) (j : Nat) : w.cell? ⟨g, 37 + j, none⟩ = [c.m, c.out, c.sto][j]? :=
  (cell_of_row _ _ _ _ _ _ I.core).trans (cA_fld I.ok j)
theorem Inv.reg {w : World} {base g : Nat} {c : Cv} {l : List UInt8} {os : List Int} {ss : List (Int × Int)} (I : Inv w base g c l os ss) {i : Nat} (hi : i < 32) : w.cell? ⟨g, i, none⟩ = some (.int .u32 (rg c.h i)) :=
  (I.hcell (by omega)).trans (hL_reg I.ok hi)
theorem Inv.fz {w : World} {base g : Nat} {c : Cv} {l : List UInt8} {os : List Int} {ss : List (Int × Int)} (I : Inv w base g c l os ss) (j : Nat) : w.frozen? ⟨g, j, none⟩ = false := frozen_of_row _ _ j _ _ I.core
/-- A cell of the hart set. -/
theorem Inv.set {w : World} {base g : Nat} {c : Cv} {l : List UInt8} {os : List Int} {ss : List (Int × Int)} (I : Inv w base g c l os ss) {i : Nat} (hi : i < 37) {v : Value} {h' : Hv} (e : (hL c.h).set i v = hL h') (ok : h'.Ok) :
    Inv (w.setCell ⟨g, i, none⟩ v) base g { c with h := h' } l os ss :=
  I.to ((Ch.refl g w).setCell i v) (by rw [heap_setCell_same _ _ _ _ _ _ I.core, cA_set I.ok hi e]) ok rfl rfl rfl
theorem Inv.inn {w : World} {base g : Nat} {c : Cv} {l : List UInt8} {os : List Int} {ss : List (Int × Int)} (I : Inv w base g c l os ss) : In w base g c.h l os ss := ⟨c, rfl, I⟩
theorem Inv.base_le {w : World} {base g : Nat} {c : Cv} {l : List UInt8} {os : List Int} {ss : List (Int × Int)} (I : Inv w base g c l os ss) : base ≤ w.heap.size := Nat.le_trans I.bg (Nat.le_of_lt I.lt)
/-- What a method of the core leaves: of what lay below 'base' nothing has turned, nor any block that is neither a core's nor of words nor of ranges. -/
structure Fr (base : Nat) (w w' : World) : Prop where
  below : Below base w w'
  keep : ∀ (k : Nat) (o : Array Value) (t : Nat) (f : Nat × Nat), w.heap[k]? = some (.cells o t f) → t ≠ 146 → t ≠ 59 → t ≠ 143 → w'.heap[k]? = w.heap[k]?
theorem Fr.refl (base : Nat) (w : World) : Fr base w w := ⟨Below.refl _ _, fun _ _ _ _ _ _ _ _ => rfl⟩
theorem Fr.trans {base : Nat} {a b c : World} (h : Fr base a b) (q : Fr base b c) : Fr base a c :=
  ⟨h.below.trans q.below, fun k o t f e n1 n2 n3 => by
    have e1 := h.keep k o t f e n1 n2 n3
    exact (q.keep k o t f (e1.trans e) n1 n2 n3).trans e1⟩
theorem Fr.ofGr {base : Nat} {w w' : World} (h : Gr w w') (hb : base ≤ w.heap.size) : Fr base w w' :=
  ⟨Below.mono h hb, fun k o t f e _ _ _ => h.block k (Array.getElem?_eq_some_iff.1 e).1⟩
theorem Fr.alloc {base : Nat} {w w' : World} (h : Fr base w w') (hb : base ≤ w.heap.size) (o : Obj) : Fr base w (w'.alloc o) :=
  h.trans (.ofGr ((Gr.refl _).alloc _) (Nat.le_trans hb h.below.size))
theorem In.below {w w' : World} {base g : Nat} {h : Hv} {l : List UInt8} {os : List Int} {ss : List (Int × Int)} (I : In w base g h l os ss) (q : Ch g w w') : Fr base w w' := by
  obtain ⟨c, _, I⟩ := I
  exact ⟨q.below I.bg I.base_le, fun k o t f e n1 _ _ => q.block k (Array.getElem?_eq_some_iff.1 e).1 (fun q => ne_of_types e I.core n1 (by injection q))⟩
/-- A slice of the core's own, appended to: the block that it lies in, and new ones, alone have turned. -/
theorem Inv.sto_grown {w W w' : World} {base g n : Nat} {c : Cv} {l : List UInt8} {os : List Int} {ss ss' : List (Int × Int)} {v : Value} (I : Inv w base g c l os ss) (G : Gr w W) (q : W.grownBy w' c.sto.ownBlock) (hn : ss'.length = n) (ho : w'.ownsRow base 143 2 v n (rgs ss')) :
    w'.cell? ⟨g, 39, none⟩ = some c.sto ∧ w'.frozen? ⟨g, 39, none⟩ = false ∧ Inv (w'.setCell ⟨g, 39, none⟩ v) base g { c with sto := v } l os ss' ∧ Fr base w (w'.setCell ⟨g, 39, none⟩ v) := by
  subst hn
  have I1 := I.of G
  have st : ∀ t : Nat, t ≠ 143 → ∀ (k : Nat) (o : Array Value) (f : Nat × Nat), W.heap[k]? = some (.cells o t f) → w'.heap[k]? = W.heap[k]? := fun t ht k o f hk =>
    q.block k (Array.getElem?_eq_some_iff.1 hk).1 (fun e => by
      rcases I1.sto.2 with ⟨h0, _⟩ | ⟨g', cap, cur, hv, _, hg, _⟩
      · rw [h0] at e; cases e
      · rw [hv] at e
        injection e with e
        exact ne_of_types hk hg ht e)
  have hb : ∀ k, c.sto.ownBlock = some k → base ≤ k := fun k e => (I1.sto.lt k e).1
  have hcore := (st _ (by decide) g _ _ I1.core).trans I1.core
  have ne : ∀ t : Nat, t ≠ 146 → ∀ (k : Nat) (o : Array Value) (f : Nat × Nat), w'.heap[k]? = some (.cells o t f) → (w'.setCell ⟨g, 39, none⟩ v).heap[k]? = w'.heap[k]? := fun t ht k o f hk =>
    heap_setCell_other _ _ _ _ (by exact ne_of_types hk hcore ht)
  refine ⟨(cell_of_row _ _ _ _ _ _ hcore).trans (cA_fld I.ok 2), frozen_of_row _ _ _ _ _ hcore, ⟨I.ok, I.bg, ?_, ?_, ?_, ?_⟩, ?_⟩
  · rw [heap_setCell_same _ _ _ _ _ _ hcore, cA_setS I.ok]
  · exact (I1.mem.to (st _ (by decide))).to (ne _ (by decide))
  · exact owns_to (owns_to I1.out (st _ (by decide))) (ne _ (by decide))
  · exact owns_to ho (ne _ (by decide))
  · refine ⟨Below.setCell ((Below.mono G I.base_le).grown q I1.base_le hb) (by exact I.bg) _, fun k o t f e n1 n2 n3 => ?_⟩
    have e1 := (Array.getElem?_eq_some_iff.1 e).1
    have e2 := (G.block k e1).trans e
    have e3 := (st _ n3 k _ _ e2).trans e2
    exact ((ne _ n1 k _ _ e3).trans e3).trans e.symm
theorem Inv.out_grown {w W w' : World} {base g n : Nat} {c : Cv} {l : List UInt8} {os os' : List Int} {ss : List (Int × Int)} {v : Value} (I : Inv w base g c l os ss) (G : Gr w W) (q : W.grownBy w' c.out.ownBlock) (hn : os'.length = n) (ho : w'.ownsRow base 59 1 v n (os'.map (Value.int .u32))) :
    w'.cell? ⟨g, 38, none⟩ = some c.out ∧ w'.frozen? ⟨g, 38, none⟩ = false ∧ Inv (w'.setCell ⟨g, 38, none⟩ v) base g { c with out := v } l os' ss ∧ Fr base w (w'.setCell ⟨g, 38, none⟩ v) := by
  subst hn
  have I1 := I.of G
  have st : ∀ t : Nat, t ≠ 59 → ∀ (k : Nat) (o : Array Value) (f : Nat × Nat), W.heap[k]? = some (.cells o t f) → w'.heap[k]? = W.heap[k]? := fun t ht k o f hk =>
    q.block k (Array.getElem?_eq_some_iff.1 hk).1 (fun e => by
      rcases I1.out.2 with ⟨h0, _⟩ | ⟨g', cap, cur, hv, _, hg, _⟩
      · rw [h0] at e; cases e
      · rw [hv] at e
        injection e with e
        exact ne_of_types hk hg ht e)
  have hb : ∀ k, c.out.ownBlock = some k → base ≤ k := fun k e => (I1.out.lt k e).1
  have hcore := (st _ (by decide) g _ _ I1.core).trans I1.core
  have ne : ∀ t : Nat, t ≠ 146 → ∀ (k : Nat) (o : Array Value) (f : Nat × Nat), w'.heap[k]? = some (.cells o t f) → (w'.setCell ⟨g, 38, none⟩ v).heap[k]? = w'.heap[k]? := fun t ht k o f hk =>
    heap_setCell_other _ _ _ _ (by exact ne_of_types hk hcore ht)
  refine ⟨(cell_of_row _ _ _ _ _ _ hcore).trans (cA_fld I.ok 1), frozen_of_row _ _ _ _ _ hcore, ⟨I.ok, I.bg, ?_, ?_, ?_, ?_⟩, ?_⟩
  · rw [heap_setCell_same _ _ _ _ _ _ hcore, cA_setO I.ok]
  · exact (I1.mem.to (st _ (by decide))).to (ne _ (by decide))
  · exact owns_to ho (ne _ (by decide))
  · exact owns_to (owns_to I1.sto (st _ (by decide))) (ne _ (by decide))
  · refine ⟨Below.setCell ((Below.mono G I.base_le).grown q I1.base_le hb) (by exact I.bg) _, fun k o t f e n1 n2 n3 => ?_⟩
    have e1 := (Array.getElem?_eq_some_iff.1 e).1
    have e2 := (G.block k e1).trans e
    have e3 := (st _ n2 k _ _ e2).trans e2
    exact ((ne _ n1 k _ _ e3).trans e3).trans e.symm
/-- c.Memory = stored. -/
theorem Inv.stored {w w1 : World} {base g n : Nat} {c : Cv} {l k : List UInt8} {os : List Int} {ss : List (Int × Int)} (I : Inv w base g c l os ss) (G : Gr w w1) (R : Row w1 w.heap.size k) (hk : k.length = n) :
    Inv (w1.setCell ⟨g, 37, none⟩ (.slice (some ⟨w.heap.size, 0, none⟩) n n)) base g { c with m := .slice (some ⟨w.heap.size, 0, none⟩) n n } k os ss := by
  have I1 := I.of G
  obtain ⟨rest, hr⟩ := R
  refine I1.toM ((Ch.refl g w1).setCell _ _) (by rw [heap_setCell_same _ _ _ _ _ _ I1.core, cA_setM I.ok]) I.ok (.inr ⟨w.heap.size, n, by rw [hk], ⟨Nat.zero_le _, by rw [hk]; exact Nat.le_refl _⟩, rest, ?_⟩) rfl rfl
  rw [heap_setCell_other _ _ _ _ (by exact ne_of_types hr I1.core (by decide))]
  exact hr
end Go.Proofs.YtdiofidmlgliiaaDoor.Hc
