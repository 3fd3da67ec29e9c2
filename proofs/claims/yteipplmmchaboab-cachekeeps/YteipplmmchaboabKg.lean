/-
  Rows of blocks in the program's own memory; a slice cleared, appended, written in its midst.
-/
import Derived.Test.YteipplmmchaboabKd
import Derived.OwnWalk
import Derived.Lib.SliceRun
namespace Go.Proofs.Yteipplmmchaboab.Kc
open Go.ChangeShapes Go.WideShapes Go.ChangeAt Go.RowKit Mm Ts Hc
set_option linter.unusedVariables false
set_option linter.unusedSimpArgs false

/-- Instructions as cells. -/
def isC (is : List Iv) : List Value := is.flatMap ivL
theorem isC_len (is : List Iv) : (isC is).length = is.length * 5 := by
  induction is with
  | nil => rfl
  | cons p r ih => simp only [isC, List.flatMap_cons, List.length_append, List.length_cons] at ih ⊢; rw [ih]; simp [ivL]; omega
theorem isC_get : ∀ (is : List Iv) (i j : Nat) (x : Iv), is[i]? = some x → j < 5 → (isC is)[i * 5 + j]? = (ivL x)[j]?
  | [], i, j, x, h, _ => by simp at h
  | p :: r, 0, j, x, h, hj => by
    simp at h; subst h
    show (ivL p ++ isC r)[0 * 5 + j]? = _
    rw [Nat.zero_mul, Nat.zero_add, List.getElem?_append_left (by simpa [ivL] using hj)]
  | p :: r, i + 1, j, x, h, hj => by
    have ih := isC_get r i j x (by simpa using h) hj
    show (ivL p ++ isC r)[(i + 1) * 5 + j]? = _
    rw [List.getElem?_append_right (by simp [ivL]; omega)]
    rw [show (i + 1) * 5 + j - (ivL p).length = i * 5 + j by simp [ivL]; omega]
    exact ih
theorem isC_one (is : List Iv) : ∀ u ∈ isC is, u.oneCell' = true := by
  intro u hu
  simp only [isC, List.mem_flatMap] at hu
  obtain ⟨i, _, hu⟩ := hu
  simp only [ivL, List.mem_cons, List.not_mem_nil, or_false] at hu
  rcases hu with rfl | rfl | rfl | rfl | rfl <;> rfl
/-- A block that may be: its place is a word, its instructions are numbers, and not too many for any memory. -/
structure Bv.Ok (b : Bv) : Prop where
  pc : 0 ≤ b.pc ∧ b.pc < 4294967296
  is : ∀ i ∈ b.is, i.Ok
  sz : b.is.length * 40 ≤ 140737488351232
theorem Bc.ok {w : World} {b : Bv} {x y : Value} (h : Bc w b x y) : b.Ok := by
  obtain ⟨_, p, sa, sn, sc, _, I, hs⟩ := h
  exact ⟨p, I.ok, by rw [I.len]; exact hs⟩
theorem Bs.ok {w : World} {ao : Option Addr} {n : Nat} {bs : List Bv} (h : Bs w ao n bs) : ∀ b ∈ bs, b.Ok := fun b hb => by
  obtain ⟨j, hj⟩ := List.mem_iff_getElem?.1 hb
  obtain ⟨g, o, _, _, hc⟩ := h.spot (by rw [← h.len]; exact Nat.lt_of_le_of_lt (Nat.zero_le _) (List.getElem?_eq_some_iff.1 hj).1)
  obtain ⟨u, v, _, _, B⟩ := hc j b hj
  exact B.ok
/-- Instructions in a row of the program's own. -/
def Io (w : World) (base : Nat) (v : Value) (is : List Iv) : Prop := w.ownsRow base 45 5 v is.length (isC is)
theorem Io.to {w w' : World} {base : Nat} {v : Value} {is : List Iv} (h : Io w base v is) (q : ∀ (k : Nat) (o : Array Value) (f : Nat × Nat), w.heap[k]? = some (.cells o 45 f) → w'.heap[k]? = w.heap[k]?) : Io w' base v is := owns_to h q
theorem Io.of {w w' : World} {base : Nat} {v : Value} {is : List Iv} (h : Io w base v is) (q : Gr w w') : Io w' base v is := owns_gr h q
theorem Io.low {w : World} {base b0 : Nat} {v : Value} {is : List Iv} (h : Io w base v is) (hb : b0 ≤ base) : Io w b0 v is := by
  obtain ⟨h1, h2⟩ := h
  refine ⟨h1, ?_⟩
  rcases h2 with h2 | ⟨g, cp, cur, e1, e2, e3⟩
  · exact .inl h2
  · exact .inr ⟨g, cp, cur, e1, by omega, e3⟩
theorem Io.shape {w : World} {base : Nat} {v : Value} {is : List Iv} (h : Io w base v is) : ∃ a c, v = .slice a is.length c := by
  rcases h.2 with ⟨rfl, e⟩ | ⟨g, cp, cur, rfl, _⟩
  · exact ⟨none, 0, by rw [e]⟩
  · exact ⟨_, _, rfl⟩
theorem Io.bc {w : World} {base : Nat} {v : Value} {b : Bv} (h : Io w base v b.is) (o : b.Ok) : Bc w b (.int .u32 b.pc) v := by
  obtain ⟨a, c, rfl⟩ := h.shape
  refine ⟨rfl, o.pc, a, _, c, rfl, ⟨rfl, o.is, fun hn => ?_⟩, o.sz⟩
  obtain ⟨g, cp, e⟩ := own_form h hn
  injection e with e1 _ _
  subst e1
  have hl := (h.lt g rfl).2
  refine ⟨g, 0, rfl, hl, fun j i hj => ?_⟩
  have q : ∀ t u, (ivL i)[t]? = some u → w.cell? ⟨g, j * 5 + t, none⟩ = some u := fun t u hu => by
    have ht : t < 5 := (List.getElem?_eq_some_iff.1 hu).1
    have := h.cells (g := g) rfl (j * 5 + t) u (by rw [isC_get _ _ _ _ hj ht]; exact hu)
    rwa [add_at, Nat.zero_add] at this
  rw [Nat.zero_add]
  have q0 := q 0 _ rfl
  rw [Nat.add_zero] at q0
  exact ⟨q0, q 1 _ rfl, q 2 _ rfl, q 3 _ rfl, q 4 _ rfl⟩
/-- Cells that are blocks, with instructions in rows of the program's own. -/
structure Bx (w : World) (base : Nat) (bs : List Bv) (xs : List Value) : Prop where
  len : xs.length = bs.length * 2
  at_ : ∀ (j : Nat) (b : Bv), bs[j]? = some b → ∃ v, xs[j * 2]? = some (.int .u32 b.pc) ∧ xs[j * 2 + 1]? = some v ∧ Io w base v b.is
theorem Bx.nil (w : World) (base : Nat) : Bx w base [] [] := ⟨rfl, fun j b h => by simp at h⟩
theorem Bx.to {w w' : World} {base : Nat} {bs : List Bv} {xs : List Value} (h : Bx w base bs xs) (q : ∀ (k : Nat) (o : Array Value) (f : Nat × Nat), w.heap[k]? = some (.cells o 45 f) → w'.heap[k]? = w.heap[k]?) : Bx w' base bs xs :=
  ⟨h.len, fun j b hb => by
    obtain ⟨v, h1, h2, h3⟩ := h.at_ j b hb
    exact ⟨v, h1, h2, h3.to q⟩⟩
theorem Bx.of {w w' : World} {base : Nat} {bs : List Bv} {xs : List Value} (h : Bx w base bs xs) (q : Gr w w') : Bx w' base bs xs := h.to fun k o f hk => q.block k (Array.getElem?_eq_some_iff.1 hk).1
theorem Bx.low {w : World} {base b0 : Nat} {bs : List Bv} {xs : List Value} (h : Bx w base bs xs) (hb : b0 ≤ base) : Bx w b0 bs xs :=
  ⟨h.len, fun j b hj => by
    obtain ⟨v, h1, h2, h3⟩ := h.at_ j b hj
    exact ⟨v, h1, h2, h3.low hb⟩⟩
theorem Bx.snoc {w : World} {base : Nat} {bs : List Bv} {xs : List Value} (h : Bx w base bs xs) {b : Bv} {v : Value} (hb : Io w base v b.is) : Bx w base (bs ++ [b]) (xs ++ [.int .u32 b.pc, v]) := by
  have hl := h.len
  refine ⟨by simp [hl]; omega, fun j c hc => ?_⟩
  by_cases hj : j < bs.length
  · rw [List.getElem?_append_left hj] at hc
    obtain ⟨y, h1, h2, h3⟩ := h.at_ j c hc
    exact ⟨y, by rw [List.getElem?_append_left (by omega)]; exact h1, by rw [List.getElem?_append_left (by omega)]; exact h2, h3⟩
  · rw [List.getElem?_append_right (by omega)] at hc
    have hj2 : j = bs.length := by
      have := (List.getElem?_eq_some_iff.1 hc).1
      simp at this
      omega
    subst hj2
    simp at hc
    subst hc
    refine ⟨v, ?_, ?_, hb⟩
    · rw [List.getElem?_append_right (by omega), hl, Nat.sub_self]; rfl
    · rw [List.getElem?_append_right (by omega), hl, show bs.length * 2 + 1 - bs.length * 2 = 1 by omega]; rfl
theorem Bx.one {w : World} {base : Nat} {bs : List Bv} {xs : List Value} (h : Bx w base bs xs) : ∀ u ∈ xs, u.oneCell' = true := fun u hu => by
  obtain ⟨i, hi⟩ := List.mem_iff_getElem?.1 hu
  have hlt := (List.getElem?_eq_some_iff.1 hi).1
  have hl := h.len
  obtain ⟨b, hb⟩ : ∃ b, bs[i / 2]? = some b := ⟨_, List.getElem?_eq_getElem (by omega)⟩
  obtain ⟨v, h1, h2, h3⟩ := h.at_ _ b hb
  rcases Nat.mod_two_eq_zero_or_one i with e | e
  · rw [show i / 2 * 2 = i by omega, hi] at h1
    injection h1 with h1; subst h1; rfl
  · rw [show i / 2 * 2 + 1 = i by omega, hi] at h2
    injection h2 with h2; subst h2
    obtain ⟨a, c, rfl⟩ := h3.shape
    rfl
/-- A part of a row that is blocks. -/
theorem Bx.take {w : World} {base : Nat} {bs : List Bv} {xs : List Value} (h : Bx w base bs xs) (k : Nat) : Bx w base (bs.take k) (xs.take (k * 2)) := by
  have hl := h.len
  refine ⟨by rw [List.length_take, List.length_take, hl]; omega, fun j b hj => ?_⟩
  rw [List.getElem?_take] at hj
  split at hj
  · obtain ⟨v, h1, h2, h3⟩ := h.at_ j b hj
    refine ⟨v, ?_, ?_, h3⟩
    · rw [List.getElem?_take, if_pos (by omega)]; exact h1
    · rw [List.getElem?_take, if_pos (by omega)]; exact h2
  · cases hj
theorem Bx.drop {w : World} {base : Nat} {bs : List Bv} {xs : List Value} (h : Bx w base bs xs) (k : Nat) : Bx w base (bs.drop k) (xs.drop (k * 2)) := by
  have hl := h.len
  refine ⟨by rw [List.length_drop, List.length_drop, hl]; omega, fun j b hj => ?_⟩
  rw [List.getElem?_drop] at hj
  obtain ⟨v, h1, h2, h3⟩ := h.at_ _ b hj
  refine ⟨v, ?_, ?_, h3⟩
  · rw [List.getElem?_drop, show k * 2 + j * 2 = (k + j) * 2 by omega]; exact h1
  · rw [List.getElem?_drop, show k * 2 + (j * 2 + 1) = (k + j) * 2 + 1 by omega]; exact h2
theorem Bx.app {w : World} {base : Nat} {ds bs : List Bv} {xs ys : List Value} (h : Bx w base ds xs) (k : Bx w base bs ys) : Bx w base (ds ++ bs) (xs ++ ys) := by
  have hl := h.len
  have kl := k.len
  refine ⟨by rw [List.length_append, List.length_append, hl, kl]; omega, fun j b hj => ?_⟩
  by_cases hlt : j < ds.length
  · rw [List.getElem?_append_left hlt] at hj
    obtain ⟨v, h1, h2, h3⟩ := h.at_ j b hj
    exact ⟨v, by rw [List.getElem?_append_left (by omega)]; exact h1, by rw [List.getElem?_append_left (by omega)]; exact h2, h3⟩
  · rw [List.getElem?_append_right (by omega)] at hj
    obtain ⟨v, h1, h2, h3⟩ := k.at_ _ b hj
    refine ⟨v, ?_, ?_, h3⟩
    · rw [List.getElem?_append_right (by omega), show j * 2 - xs.length = (j - ds.length) * 2 by omega]; exact h1
    · rw [List.getElem?_append_right (by omega), show j * 2 + 1 - xs.length = (j - ds.length) * 2 + 1 by omega]; exact h2
theorem Bx.bw {w : World} {base : Nat} {bs : List Bv} {xs : List Value} (h : Bx w base bs xs) (o : ∀ b ∈ bs, b.Ok) : Bw w bs xs :=
  ⟨h.len, fun j b hj => by
    obtain ⟨v, h1, h2, h3⟩ := h.at_ j b hj
    exact ⟨_, v, h1, h2, h3.bc (o b (List.mem_of_getElem? hj))⟩⟩
/-- Blocks that are read: their places, and how many instructions each has. -/
structure Bq (w : World) (ao : Option Addr) (n : Nat) (bs : List Bv) : Prop where
  len : bs.length = n
  spot : 0 < n → ∃ b o, ao = some ⟨b, o, none⟩ ∧ b < w.heap.size ∧ ∀ j x, bs[j]? = some x → w.cell? ⟨b, o + j * 2, none⟩ = some (.int .u32 x.pc) ∧ ∃ sa sc, w.cell? ⟨b, o + j * 2 + 1, none⟩ = some (.slice sa x.is.length sc)
theorem Bq.of {w w' : World} {ao : Option Addr} {n : Nat} {bs : List Bv} (h : Bq w ao n bs) (g : Gr w w') : Bq w' ao n bs :=
  ⟨h.len, fun hn => by
    obtain ⟨b, o, e, hb, hc⟩ := h.spot hn
    refine ⟨b, o, e, Nat.lt_of_lt_of_le hb g.size, fun j i hj => ?_⟩
    obtain ⟨h0, sa, sc, h1⟩ := hc j i hj
    exact ⟨(g.cell _ (by exact hb)).trans h0, sa, sc, (g.cell _ (by exact hb)).trans h1⟩⟩
theorem Bs.bq {w : World} {ao : Option Addr} {n : Nat} {bs : List Bv} (h : Bs w ao n bs) : Bq w ao n bs :=
  ⟨h.len, fun hn => by
    obtain ⟨b, o, e, hb, hc⟩ := h.spot hn
    refine ⟨b, o, e, hb, fun j x hj => ?_⟩
    obtain ⟨u, v, h0, h1, rfl, _, sa, sn, sc, rfl, I, _⟩ := hc j x hj
    exact ⟨h0, sa, sc, by rw [I.len]; exact h1⟩⟩
/-- The cells of a row of the program's own, with what lies behind its length. -/
structure Rw (w : World) (base g cap : Nat) (cs : List Value) : Prop where
  low : base ≤ g
  row : w.heap[g]? = some (.cells cs.toArray 28 (0, 0))
  len : cs.length = cap * 2
  cap : cap ≤ maxLen
theorem Rw.open {w : World} {base g n cap : Nat} {xs : List Value} (h : w.ownsRow base 28 2 (.slice (some ⟨g, 0, none⟩) n cap) n xs) : n ≤ cap ∧ ∃ cs, Rw w base g cap cs ∧ cs.take (n * 2) = xs := by
  obtain ⟨h1, h2⟩ := h
  rcases h2 with ⟨e, _⟩ | ⟨g', cp, cur, e, hb, hg, hn, hm, hs, ht⟩
  · cases e
  · injection e with e1 _ e3
    injection e1 with e1
    injection e1 with e1
    subst e1
    subst e3
    obtain ⟨cs⟩ := cur
    exact ⟨hn, cs, ⟨hb, hg, by simpa using hs, hm⟩, ht⟩
theorem Rw.own {w : World} {base g m cap : Nat} {cs : List Value} (h : Rw w base g cap cs) (hm : m ≤ cap) : w.ownsRow base 28 2 (.slice (some ⟨g, 0, none⟩) m cap) m (cs.take (m * 2)) :=
  ⟨by rw [List.length_take, h.len]; omega, .inr ⟨g, cap, _, rfl, h.low, h.row, hm, h.cap, by simpa using h.len, rfl⟩⟩
theorem Rw.cell {w : World} {base g cap : Nat} {cs : List Value} (h : Rw w base g cap cs) {j : Nat} {u : Value} (hu : cs[j]? = some u) : w.cell? ⟨g, j, none⟩ = some u := by
  rw [cell_of_row _ _ _ _ _ _ h.row]
  simpa using hu
theorem Rw.isS {w : World} {base g cap : Nat} {cs : List Value} (h : Rw w base g cap cs) {j : Nat} (hj : j < cap * 2) : (w.cell? ⟨g, j, none⟩).isSome = true := by
  rw [h.cell (List.getElem?_eq_getElem (by rw [h.len]; exact hj))]
  rfl
theorem Rw.fz {w : World} {base g cap : Nat} {cs : List Value} (h : Rw w base g cap cs) (j : Nat) : w.frozen? ⟨g, j, none⟩ = false := frozen_of_row _ _ _ _ _ h.row
theorem Rw.lt {w : World} {base g cap : Nat} {cs : List Value} (h : Rw w base g cap cs) : g < w.heap.size := (Array.getElem?_eq_some_iff.1 h.row).1
theorem Rw.of {w w' : World} {base g cap : Nat} {cs : List Value} (h : Rw w base g cap cs) (q : Gr w w') : Rw w' base g cap cs := ⟨h.low, up_h q h.row, h.len, h.cap⟩
/-- Many cells set, one behind the other: what the block holds. -/
theorem hsC {t : Nat} (g : Nat) : ∀ (vs : List Value) (o : Nat) (w : World) (cs : List Value), w.heap[g]? = some (.cells cs.toArray t (0, 0)) → o + vs.length ≤ cs.length → (w.setCells g o vs).heap[g]? = some (.cells (cs.take o ++ vs ++ cs.drop (o + vs.length)).toArray t (0, 0))
  | [], o, w, cs, h, _ => by simp [World.setCells, h]
  | v :: r, o, w, cs, h, hl => by
    rw [World.setCells]
    have h1 := heap_setCell_same w g o _ _ v h
    simp only [List.setIfInBounds_toArray] at h1
    simp only [List.length_cons] at hl
    rw [hsC g r (o + 1) _ (cs.set o v) h1 (by simp; omega)]
    have e1 : (cs.set o v).take (o + 1) = cs.take o ++ [v] := by
      rw [List.take_add_one, List.take_set, List.set_eq_of_length_le (by simp; omega)]
      simp [show o < cs.length by omega]
    have e2 : (cs.set o v).drop (o + 1 + r.length) = cs.drop (o + (r.length + 1)) := by
      rw [List.drop_set_of_lt (by omega)]
      congr 1
      omega
    rw [e1, e2]
    simp only [List.length_cons, List.append_assoc, List.cons_append, List.nil_append]
theorem chC {g : Nat} {a w : World} (h : Ch g a w) : ∀ (vs : List Value) (o : Nat), Ch g a (w.setCells g o vs)
  | [], o => h
  | v :: r, o => by rw [World.setCells]; exact chC (h.setCell o v) r (o + 1)
theorem Rw.set {w : World} {base g cap : Nat} {cs : List Value} (h : Rw w base g cap cs) {o : Nat} {vs : List Value} (ho : o + vs.length ≤ cap * 2) : Rw (w.setCells g o vs) base g cap (cs.take o ++ vs ++ cs.drop (o + vs.length)) :=
  ⟨h.low, hsC g vs o w cs h.row (by rw [h.len]; exact ho), by simp only [List.length_append, List.length_take, List.length_drop, h.len]; omega, h.cap⟩
/-- Only a row of blocks has turned: instructions are as they were. -/
theorem Rw.keep {w w' : World} {base g cap : Nat} {cs : List Value} (h : Rw w base g cap cs) (q : Ch g w w') (k : Nat) (o : Array Value) (t : Nat) (f : Nat × Nat) (ht : t ≠ 28) (hk : w.heap[k]? = some (.cells o t f)) : w'.heap[k]? = w.heap[k]? :=
  q.block k (Array.getElem?_eq_some_iff.1 hk).1 (fun e => ne_of_types hk h.row ht (by injection e))
theorem Bx.ch {w w' : World} {base b1 g cap : Nat} {cs : List Value} {bs : List Bv} {xs : List Value} (B : Bx w b1 bs xs) (h : Rw w base g cap cs) (q : Ch g w w') : Bx w' b1 bs xs :=
  B.to fun k o f hk => h.keep q k o _ f (by decide) hk
theorem ch_gr {a w w' : World} {g : Nat} (h : Gr a w) (hg : a.heap.size ≤ g) (q : Ch g w w') : Gr a w' := Gr.grown h q (fun k e => by injection e with e; omega)
theorem Rw.bq {w : World} {base b1 g n cap : Nat} {cs : List Value} {bs : List Bv} (h : Rw w base g cap cs) (B : Bx w b1 bs (cs.take (n * 2))) (hl : bs.length = n) : Bq w (some ⟨g, 0, none⟩) n bs :=
  ⟨hl, fun hn => ⟨g, 0, rfl, h.lt, fun j x hj => by
    obtain ⟨v, h1, h2, h3⟩ := B.at_ j x hj
    obtain ⟨a, c, rfl⟩ := h3.shape
    rw [List.getElem?_take] at h1 h2
    split at h1
    · split at h2
      · rw [Nat.zero_add]
        exact ⟨h.cell h1, a, c, h.cell h2⟩
      · cases h2
    · cases h1⟩⟩
/-- clear of so many blocks. -/
def zrs (m : Nat) : List Value := (Builtin.zeroCells #[.int .u32 0, .slice none 0 0] m).toList
theorem zrs_len (m : Nat) : (zrs m).length = m * 2 := by simp [zrs, size_zeroCells]
theorem zrs_one (m : Nat) : ∀ u ∈ zrs m, u.oneCell' = true := fun u hu => by
  simp only [zrs, Builtin.zeroCells] at hu
  simp at hu
  obtain ⟨i, _, rfl⟩ := hu
  rcases Nat.mod_two_eq_zero_or_one i with e | e <;> simp [e] <;> rfl
theorem run_clear2 {P : Program} (w : World) (t e ty : TypeId) (ht : P.underlying t = some (.slice e)) (hv : ∀ w, (zeroValue e).run P w = .ok (.agg #[.int .u32 0, .slice none 0 0]) w) (b o n c : Nat) (hn : 0 < n)
    (hc : ∀ j, j < n * 2 → (w.cell? ⟨b, o + j, none⟩).isSome = true) (hf : ∀ j, j < n * 2 → w.frozen? ⟨b, o + j, none⟩ = false) :
    (Builtin.clear_ #[t] ty #[.slice (some ⟨b, o, none⟩) n c]).run P w = .ok (.tuple #[]) (w.setCells b o (zrs n)) := by
  have hst := run_storeCells_cells (P := P) b o (zrs n) 0 w (by rw [zrs_len]; simpa using hc) (by rw [zrs_len]; simpa using hf) (zrs_one n)
  simp only [Nat.add_zero] at hst
  obtain ⟨m, rfl⟩ : ∃ m, n = m + 1 := ⟨n - 1, by omega⟩
  have hzc : (Value.agg #[.int .u32 0, .slice none 0 0]).cells = #[.int .u32 0, .slice none 0 0] := rfl
  unfold zrs at hst ⊢
  simp [Builtin.clear_, run_underlying ht, hv, hzc, hst]
end Go.Proofs.Yteipplmmchaboab.Kc
