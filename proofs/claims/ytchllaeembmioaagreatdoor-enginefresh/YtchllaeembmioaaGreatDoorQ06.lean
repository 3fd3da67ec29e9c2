/-
  Kg, Kh, Em: texts of ours that lie in one file.
-/
import Derived.Test.YtchllaeembmioaaGreatDoorQ05
import Derived.OwnWalk
import Derived.Lib.SliceRun
import Derived.Deep.RegionHeld3
import Derived.Deep.RegionWith
import Derived.Maps.OwnSet
import Derived.Maps.RangeWalk
import Derived.Lib.SlMapFilter
set_option linter.unusedVariables false
set_option linter.unusedSimpArgs false
set_option maxHeartbeats 8000000
set_option maxRecDepth 100000
namespace Go.Proofs.YtchllaeembmioaaGreatDoor.Kc
open Go.ChangeShapes Go.WideShapes Go.ChangeAt Go.RowKit Mm Ts Hc

def isC (is : List Iv) : List Value := is.flatMap ivL
theorem isC_len (is : List Iv) : (isC is).length = is.length * 5 := by
 induction is with
 | nil => rfl
 | cons p r ih => simp only [isC, List.flatMap_cons, List.length_append, List.length_cons] at ih ⊢; rw [ih]; simp [ivL]; omega
theorem isC_get : ∀ (is : List Iv) (i j : Nat) (x : Iv), is[i]? = some x → j < 5 → (isC is)[i * 5 + j]? = (ivL x)[j]?
 | [], i, j, x, h, _ => by simp at h
 | p :: r, 0, j, x, h, hj => by
  simp at h; subst h
  show (ivL p ++ isC r)[0 * 5 + j]? = _
  rw [Nat.zero_mul, Nat.zero_add, List.getElem?_append_left (by simpa [ivL] using hj)]
 | p :: r, i + 1, j, x, h, hj => by
  have ih := isC_get r i j x (by simpa using h) hj
  show (ivL p ++ isC r)[(i + 1) * 5 + j]? = _
  rw [List.getElem?_append_right (by simp [ivL]; omega)]
  rw [show (i + 1) * 5 + j - (ivL p).length = i * 5 + j by simp [ivL]; omega]
  exact ih
theorem isC_one (is : List Iv) : ∀ u ∈ isC is, u.oneCell' = true := by
 intro u hu
 simp only [isC, List.mem_flatMap] at hu
 obtain ⟨i, _, hu⟩ := hu
 simp only [ivL, List.mem_cons, List.not_mem_nil, or_false] at hu
 rcases hu with rfl | rfl | rfl | rfl | rfl <;> rfl
structure Bv.Ok (b : Bv) : Prop where
 pc : 0 ≤ b.pc ∧ b.pc < 4294967296
 is : ∀ i ∈ b.is, i.Ok
 sz : b.is.length * 40 ≤ 140737488351232
theorem Bc.ok {w : World} {b : Bv} {x y : Value} (h : Bc w b x y) : b.Ok := by
 obtain ⟨_, p, sa, sn, sc, _, I, hs⟩ := h
 exact ⟨p, I.ok, by rw [I.len]; exact hs⟩
theorem Bs.ok {w : World} {ao : Option Addr} {n : Nat} {bs : List Bv} (h : Bs w ao n bs) : ∀ b ∈ bs, b.Ok := fun b hb => by
 obtain ⟨j, hj⟩ := List.mem_iff_getElem?.1 hb
 obtain ⟨g, o, _, _, hc⟩ := h.spot (by rw [← h.len]; exact Nat.lt_of_le_of_lt (Nat.zero_le _) (List.getElem?_eq_some_iff.1 hj).1)
 obtain ⟨u, v, _, _, B⟩ := hc j b hj
 exact B.ok
def Io (w : World) (base : Nat) (v : Value) (is : List Iv) : Prop := w.ownsRow base 77 5 v is.length (isC is)
theorem Io.to {w w' : World} {base : Nat} {v : Value} {is : List Iv} (h : Io w base v is) (q : ∀ (k : Nat) (o : Array Value) (f : Nat × Nat), w.heap[k]? = some (.cells o 77 f) → w'.heap[k]? = w.heap[k]?) : Io w' base v is := owns_to h q
theorem Io.of {w w' : World} {base : Nat} {v : Value} {is : List Iv} (h : Io w base v is) (q : Gr w w') : Io w' base v is := owns_gr h q
theorem Io.low {w : World} {base b0 : Nat} {v : Value} {is : List Iv} (h : Io w base v is) (hb : b0 ≤ base) : Io w b0 v is := by
 obtain ⟨h1, h2⟩ := h
 refine ⟨h1, ?_⟩
 rcases h2 with h2 | ⟨g, cp, cur, e1, e2, e3⟩
 ·exact .inl h2
 ·exact .inr ⟨g, cp, cur, e1, by omega, e3⟩
theorem Io.shape {w : World} {base : Nat} {v : Value} {is : List Iv} (h : Io w base v is) : ∃ a c, v = .slice a is.length c := by
 rcases h.2 with ⟨rfl, e⟩ | ⟨g, cp, cur, rfl, _⟩
 ·exact ⟨none, 0, by rw [e]⟩
 ·exact ⟨_, _, rfl⟩
theorem Io.bc {w : World} {base : Nat} {v : Value} {b : Bv} (h : Io w base v b.is) (o : b.Ok) : Bc w b (.int .u32 b.pc) v := by
 obtain ⟨a, c, rfl⟩ := h.shape
 refine ⟨rfl, o.pc, a, _, c, rfl, ⟨rfl, o.is, fun hn => ?_⟩, o.sz⟩
 obtain ⟨g, cp, e⟩ := own_form h hn
 injection e with e1 _ _
 subst e1
 have hl := (h.lt g rfl).2
 refine ⟨g, 0, rfl, hl, fun j i hj => ?_⟩
 have q : ∀ t u, (ivL i)[t]? = some u → w.cell? ⟨g, j * 5 + t, none⟩ = some u := fun t u hu => by
  have ht : t < 5 := (List.getElem?_eq_some_iff.1 hu).1
  have := h.cells (g := g) rfl (j * 5 + t) u (by rw [isC_get _ _ _ _ hj ht]; exact hu)
  rwa [add_at, Nat.zero_add] at this
 rw [Nat.zero_add]
 have q0 := q 0 _ rfl
 rw [Nat.add_zero] at q0
 exact ⟨q0, q 1 _ rfl, q 2 _ rfl, q 3 _ rfl, q 4 _ rfl⟩
structure Bx (w : World) (base : Nat) (bs : List Bv) (xs : List Value) : Prop where
 len : xs.length = bs.length * 2
 at_ : ∀ (j : Nat) (b : Bv), bs[j]? = some b → ∃ v, xs[j * 2]? = some (.int .u32 b.pc) ∧ xs[j * 2 + 1]? = some v ∧ Io w base v b.is
theorem Bx.nil (w : World) (base : Nat) : Bx w base [] [] := ⟨rfl, fun j b h => by simp at h⟩
theorem Bx.to {w w' : World} {base : Nat} {bs : List Bv} {xs : List Value} (h : Bx w base bs xs) (q : ∀ (k : Nat) (o : Array Value) (f : Nat × Nat), w.heap[k]? = some (.cells o 77 f) → w'.heap[k]? = w.heap[k]?) : Bx w' base bs xs :=
 ⟨h.len, fun j b hb => by
  obtain ⟨v, h1, h2, h3⟩ := h.at_ j b hb
  exact ⟨v, h1, h2, h3.to q⟩⟩
theorem Bx.of {w w' : World} {base : Nat} {bs : List Bv} {xs : List Value} (h : Bx w base bs xs) (q : Gr w w') : Bx w' base bs xs := h.to fun k o f hk => q.block k (Array.getElem?_eq_some_iff.1 hk).1
theorem Bx.low {w : World} {base b0 : Nat} {bs : List Bv} {xs : List Value} (h : Bx w base bs xs) (hb : b0 ≤ base) : Bx w b0 bs xs :=
 ⟨h.len, fun j b hj => by
  obtain ⟨v, h1, h2, h3⟩ := h.at_ j b hj
  exact ⟨v, h1, h2, h3.low hb⟩⟩
theorem Bx.snoc {w : World} {base : Nat} {bs : List Bv} {xs : List Value} (h : Bx w base bs xs) {b : Bv} {v : Value} (hb : Io w base v b.is) : Bx w base (bs ++ [b]) (xs ++ [.int .u32 b.pc, v]) := by
 have hl := h.len
 refine ⟨by simp [hl]; omega, fun j c hc => ?_⟩
 by_cases hj : j < bs.length
 ·rw [List.getElem?_append_left hj] at hc
  obtain ⟨y, h1, h2, h3⟩ := h.at_ j c hc
  exact ⟨y, by rw [List.getElem?_append_left (by omega)]; exact h1, by rw [List.getElem?_append_left (by omega)]; exact h2, h3⟩
 ·rw [List.getElem?_append_right (by omega)] at hc
  have hj2 : j = bs.length := by
   have := (List.getElem?_eq_some_iff.1 hc).1
   simp at this
   omega
  subst hj2
  simp at hc
  subst hc
  refine ⟨v, ?_, ?_, hb⟩
  ·rw [List.getElem?_append_right (by omega), hl, Nat.sub_self]; rfl
  ·rw [List.getElem?_append_right (by omega), hl, show bs.length * 2 + 1 - bs.length * 2 = 1 by omega]; rfl
theorem Bx.one {w : World} {base : Nat} {bs : List Bv} {xs : List Value} (h : Bx w base bs xs) : ∀ u ∈ xs, u.oneCell' = true := fun u hu => by
 obtain ⟨i, hi⟩ := List.mem_iff_getElem?.1 hu
 have hlt := (List.getElem?_eq_some_iff.1 hi).1
 have hl := h.len
 obtain ⟨b, hb⟩ : ∃ b, bs[i / 2]? = some b := ⟨_, List.getElem?_eq_getElem (by omega)⟩
 obtain ⟨v, h1, h2, h3⟩ := h.at_ _ b hb
 rcases Nat.mod_two_eq_zero_or_one i with e | e
 ·rw [show i / 2 * 2 = i by omega, hi] at h1
  injection h1 with h1; subst h1; rfl
 ·rw [show i / 2 * 2 + 1 = i by omega, hi] at h2
  injection h2 with h2; subst h2
  obtain ⟨a, c, rfl⟩ := h3.shape
  rfl
theorem Bx.take {w : World} {base : Nat} {bs : List Bv} {xs : List Value} (h : Bx w base bs xs) (k : Nat) : Bx w base (bs.take k) (xs.take (k * 2)) := by
 have hl := h.len
 refine ⟨by rw [List.length_take, List.length_take, hl]; omega, fun j b hj => ?_⟩
 rw [List.getElem?_take] at hj
 split at hj
 ·obtain ⟨v, h1, h2, h3⟩ := h.at_ j b hj
  refine ⟨v, ?_, ?_, h3⟩
  ·rw [List.getElem?_take, if_pos (by omega)]; exact h1
  ·rw [List.getElem?_take, if_pos (by omega)]; exact h2
 ·cases hj
theorem Bx.drop {w : World} {base : Nat} {bs : List Bv} {xs : List Value} (h : Bx w base bs xs) (k : Nat) : Bx w base (bs.drop k) (xs.drop (k * 2)) := by
 have hl := h.len
 refine ⟨by rw [List.length_drop, List.length_drop, hl]; omega, fun j b hj => ?_⟩
 rw [List.getElem?_drop] at hj
 obtain ⟨v, h1, h2, h3⟩ := h.at_ _ b hj
 refine ⟨v, ?_, ?_, h3⟩
 ·rw [List.getElem?_drop, show k * 2 + j * 2 = (k + j) * 2 by omega]; exact h1
 ·rw [List.getElem?_drop, show k * 2 + (j * 2 + 1) = (k + j) * 2 + 1 by omega]; exact h2
theorem Bx.app {w : World} {base : Nat} {ds bs : List Bv} {xs ys : List Value} (h : Bx w base ds xs) (k : Bx w base bs ys) : Bx w base (ds ++ bs) (xs ++ ys) := by
 have hl := h.len
 have kl := k.len
 refine ⟨by rw [List.length_append, List.length_append, hl, kl]; omega, fun j b hj => ?_⟩
 by_cases hlt : j < ds.length
 ·rw [List.getElem?_append_left hlt] at hj
  obtain ⟨v, h1, h2, h3⟩ := h.at_ j b hj
  exact ⟨v, by rw [List.getElem?_append_left (by omega)]; exact h1, by rw [List.getElem?_append_left (by omega)]; exact h2, h3⟩
 ·rw [List.getElem?_append_right (by omega)] at hj
  obtain ⟨v, h1, h2, h3⟩ := k.at_ _ b hj
  refine ⟨v, ?_, ?_, h3⟩
  ·rw [List.getElem?_append_right (by omega), show j * 2 - xs.length = (j - ds.length) * 2 by omega]; exact h1
  ·rw [List.getElem?_append_right (by omega), show j * 2 + 1 - xs.length = (j - ds.length) * 2 + 1 by omega]; exact h2
theorem Bx.bw {w : World} {base : Nat} {bs : List Bv} {xs : List Value} (h : Bx w base bs xs) (o : ∀ b ∈ bs, b.Ok) : Bw w bs xs :=
 ⟨h.len, fun j b hj => by
  obtain ⟨v, h1, h2, h3⟩ := h.at_ j b hj
  exact ⟨_, v, h1, h2, h3.bc (o b (List.mem_of_getElem? hj))⟩⟩
structure Bq (w : World) (ao : Option Addr) (n : Nat) (bs : List Bv) : Prop where
 len : bs.length = n
 spot : 0 < n → ∃ b o, ao = some ⟨b, o, none⟩ ∧ b < w.heap.size ∧ ∀ j x, bs[j]? = some x → w.cell? ⟨b, o + j * 2, none⟩ = some (.int .u32 x.pc) ∧ ∃ sa sc, w.cell? ⟨b, o + j * 2 + 1, none⟩ = some (.slice sa x.is.length sc)
theorem Bq.of {w w' : World} {ao : Option Addr} {n : Nat} {bs : List Bv} (h : Bq w ao n bs) (g : Gr w w') : Bq w' ao n bs :=
 ⟨h.len, fun hn => by
  obtain ⟨b, o, e, hb, hc⟩ := h.spot hn
  refine ⟨b, o, e, Nat.lt_of_lt_of_le hb g.size, fun j i hj => ?_⟩
  obtain ⟨h0, sa, sc, h1⟩ := hc j i hj
  exact ⟨(g.cell _ (by exact hb)).trans h0, sa, sc, (g.cell _ (by exact hb)).trans h1⟩⟩
theorem Bs.bq {w : World} {ao : Option Addr} {n : Nat} {bs : List Bv} (h : Bs w ao n bs) : Bq w ao n bs :=
 ⟨h.len, fun hn => by
  obtain ⟨b, o, e, hb, hc⟩ := h.spot hn
  refine ⟨b, o, e, hb, fun j x hj => ?_⟩
  obtain ⟨u, v, h0, h1, rfl, _, sa, sn, sc, rfl, I, _⟩ := hc j x hj
  exact ⟨h0, sa, sc, by rw [I.len]; exact h1⟩⟩
structure Rw (w : World) (base g cap : Nat) (cs : List Value) : Prop where
 low : base ≤ g
 row : w.heap[g]? = some (.cells cs.toArray 45 (0, 0))
 len : cs.length = cap * 2
 cap : cap ≤ maxLen
theorem Rw.open {w : World} {base g n cap : Nat} {xs : List Value} (h : w.ownsRow base 45 2 (.slice (some ⟨g, 0, none⟩) n cap) n xs) : n ≤ cap ∧ ∃ cs, Rw w base g cap cs ∧ cs.take (n * 2) = xs := by
 obtain ⟨h1, h2⟩ := h
 rcases h2 with ⟨e, _⟩ | ⟨g', cp, cur, e, hb, hg, hn, hm, hs, ht⟩
 ·cases e
 ·injection e with e1 _ e3
  injection e1 with e1
  injection e1 with e1
  subst e1
  subst e3
  obtain ⟨cs⟩ := cur
  exact ⟨hn, cs, ⟨hb, hg, by simpa using hs, hm⟩, ht⟩
theorem Rw.own {w : World} {base g m cap : Nat} {cs : List Value} (h : Rw w base g cap cs) (hm : m ≤ cap) : w.ownsRow base 45 2 (.slice (some ⟨g, 0, none⟩) m cap) m (cs.take (m * 2)) :=
 ⟨by rw [List.length_take, h.len]; omega, .inr ⟨g, cap, _, rfl, h.low, h.row, hm, h.cap, by simpa using h.len, rfl⟩⟩
theorem Rw.cell {w : World} {base g cap : Nat} {cs : List Value} (h : Rw w base g cap cs) {j : Nat} {u : Value} (hu : cs[j]? = some u) : w.cell? ⟨g, j, none⟩ = some u := by
 rw [cell_of_row _ _ _ _ _ _ h.row]
 simpa using hu
theorem Rw.isS {w : World} {base g cap : Nat} {cs : List Value} (h : Rw w base g cap cs) {j : Nat} (hj : j < cap * 2) : (w.cell? ⟨g, j, none⟩).isSome = true := by
 rw [h.cell (List.getElem?_eq_getElem (by rw [h.len]; exact hj))]
 rfl
theorem Rw.fz {w : World} {base g cap : Nat} {cs : List Value} (h : Rw w base g cap cs) (j : Nat) : w.frozen? ⟨g, j, none⟩ = false := frozen_of_row _ _ _ _ _ h.row
theorem Rw.lt {w : World} {base g cap : Nat} {cs : List Value} (h : Rw w base g cap cs) : g < w.heap.size := (Array.getElem?_eq_some_iff.1 h.row).1
theorem Rw.of {w w' : World} {base g cap : Nat} {cs : List Value} (h : Rw w base g cap cs) (q : Gr w w') : Rw w' base g cap cs := ⟨h.low, up_h q h.row, h.len, h.cap⟩
theorem hsC {t : Nat} (g : Nat) : ∀ (vs : List Value) (o : Nat) (w : World) (cs : List Value), w.heap[g]? = some (.cells cs.toArray t (0, 0)) → o + vs.length ≤ cs.length → (w.setCells g o vs).heap[g]? = some (.cells (cs.take o ++ vs ++ cs.drop (o + vs.length)).toArray t (0, 0))
 | [], o, w, cs, h, _ => by simp [World.setCells, h]
 | v :: r, o, w, cs, h, hl => by
  rw [World.setCells]
  have h1 := heap_setCell_same w g o _ _ v h
  simp only [List.setIfInBounds_toArray] at h1
  simp only [List.length_cons] at hl
  rw [hsC g r (o + 1) _ (cs.set o v) h1 (by simp; omega)]
  have e1 : (cs.set o v).take (o + 1) = cs.take o ++ [v] := by
   rw [List.take_add_one, List.take_set, List.set_eq_of_length_le (by simp; omega)]
   simp [show o < cs.length by omega]
  have e2 : (cs.set o v).drop (o + 1 + r.length) = cs.drop (o + (r.length + 1)) := by
   rw [List.drop_set_of_lt (by omega)]
   congr 1
   omega
  rw [e1, e2]
  simp only [List.length_cons, List.append_assoc, List.cons_append, List.nil_append]
theorem chC {g : Nat} {a w : World} (h : Ch g a w) : ∀ (vs : List Value) (o : Nat), Ch g a (w.setCells g o vs)
 | [], o => h
 | v :: r, o => by rw [World.setCells]; exact chC (h.setCell o v) r (o + 1)
theorem Rw.set {w : World} {base g cap : Nat} {cs : List Value} (h : Rw w base g cap cs) {o : Nat} {vs : List Value} (ho : o + vs.length ≤ cap * 2) : Rw (w.setCells g o vs) base g cap (cs.take o ++ vs ++ cs.drop (o + vs.length)) :=
 ⟨h.low, hsC g vs o w cs h.row (by rw [h.len]; exact ho), by simp only [List.length_append, List.length_take, List.length_drop, h.len]; omega, h.cap⟩
theorem Rw.keep {w w' : World} {base g cap : Nat} {cs : List Value} (h : Rw w base g cap cs) (q : Ch g w w') (k : Nat) (o : Array Value) (t : Nat) (f : Nat × Nat) (ht : t ≠ 45) (hk : w.heap[k]? = some (.cells o t f)) : w'.heap[k]? = w.heap[k]? :=
 q.block k (Array.getElem?_eq_some_iff.1 hk).1 (fun e => ne_of_types hk h.row ht (by injection e))
theorem Bx.ch {w w' : World} {base b1 g cap : Nat} {cs : List Value} {bs : List Bv} {xs : List Value} (B : Bx w b1 bs xs) (h : Rw w base g cap cs) (q : Ch g w w') : Bx w' b1 bs xs :=
 B.to fun k o f hk => h.keep q k o _ f (by decide) hk
theorem ch_gr {a w w' : World} {g : Nat} (h : Gr a w) (hg : a.heap.size ≤ g) (q : Ch g w w') : Gr a w' := Gr.grown h q (fun k e => by injection e with e; omega)
theorem Rw.bq {w : World} {base b1 g n cap : Nat} {cs : List Value} {bs : List Bv} (h : Rw w base g cap cs) (B : Bx w b1 bs (cs.take (n * 2))) (hl : bs.length = n) : Bq w (some ⟨g, 0, none⟩) n bs :=
 ⟨hl, fun hn => ⟨g, 0, rfl, h.lt, fun j x hj => by
  obtain ⟨v, h1, h2, h3⟩ := B.at_ j x hj
  obtain ⟨a, c, rfl⟩ := h3.shape
  rw [List.getElem?_take] at h1 h2
  split at h1
  ·split at h2
   ·rw [Nat.zero_add]
    exact ⟨h.cell h1, a, c, h.cell h2⟩
   ·cases h2
  ·cases h1⟩⟩
def zrs (m : Nat) : List Value := (Builtin.zeroCells #[.int .u32 0, .slice none 0 0] m).toList
theorem zrs_len (m : Nat) : (zrs m).length = m * 2 := by simp [zrs, size_zeroCells]
theorem zrs_one (m : Nat) : ∀ u ∈ zrs m, u.oneCell' = true := fun u hu => by
 simp only [zrs, Builtin.zeroCells] at hu
 simp at hu
 obtain ⟨i, _, rfl⟩ := hu
 rcases Nat.mod_two_eq_zero_or_one i with e | e <;> simp [e] <;> rfl
theorem run_clear2 {P : Program} (w : World) (t e ty : TypeId) (ht : P.underlying t = some (.slice e)) (hv : ∀ w, (zeroValue e).run P w = .ok (.agg #[.int .u32 0, .slice none 0 0]) w) (b o n c : Nat) (hn : 0 < n)
  (hc : ∀ j, j < n * 2 → (w.cell? ⟨b, o + j, none⟩).isSome = true) (hf : ∀ j, j < n * 2 → w.frozen? ⟨b, o + j, none⟩ = false) :
  (Builtin.clear_ #[t] ty #[.slice (some ⟨b, o, none⟩) n c]).run P w = .ok (.tuple #[]) (w.setCells b o (zrs n)) := by
 have hst := run_storeCells_cells (P := P) b o (zrs n) 0 w (by rw [zrs_len]; simpa using hc) (by rw [zrs_len]; simpa using hf) (zrs_one n)
 simp only [Nat.add_zero] at hst
 obtain ⟨m, rfl⟩ : ∃ m, n = m + 1 := ⟨n - 1, by omega⟩
 have hzc : (Value.agg #[.int .u32 0, .slice none 0 0]).cells = #[.int .u32 0, .slice none 0 0] := rfl
 unfold zrs at hst ⊢
 simp [Builtin.clear_, run_underlying ht, hv, hzc, hst]
end Go.Proofs.YtchllaeembmioaaGreatDoor.Kc
namespace Go.Proofs.YtchllaeembmioaaGreatDoor.Kc
open Go.ChangeShapes Go.WideShapes Go.ChangeAt Go.RowKit Mm Ts Hc

theorem ret_bool {a b : Bool} (h : a = b) : Ending.returned (.bool a) = Ending.returned (.bool b) := by rw [h]
def fidx (p : Bv → Bool) : List Bv → Nat → Int
 | [], _ => -1
 | b :: bs, k => if p b = true then (k : Int) else fidx p bs (k + 1)
theorem fidx_place (pc : Int) : ∀ (bs : List Bv) (k : Nat), fidx (fun b => decide (b.pc = pc)) bs k = place pc bs k
 | [], k => rfl
 | b :: r, k => by
  unfold fidx place
  rw [fidx_place pc r (k + 1)]
  by_cases h : b.pc = pc <;> simp [h]
theorem fidx_none {p : Bv → Bool} : ∀ {bs : List Bv} {k : Nat}, (∀ (i : Nat) (x : Bv), bs[i]? = some x → p x = false) → fidx p bs k = -1
 | [], k, _ => rfl
 | b :: r, k, h => by
  unfold fidx
  rw [if_neg (by rw [h 0 b rfl]; simp)]
  exact fidx_none fun i x hx => h (i + 1) x (by simpa using hx)
theorem fidx_at {p : Bv → Bool} : ∀ {bs : List Bv} {j k : Nat} {x : Bv}, bs[j]? = some x → p x = true → (∀ (i : Nat) (y : Bv), i < j → bs[i]? = some y → p y = false) → fidx p bs k = ((k + j : Nat) : Int)
 | [], j, k, x, h, _, _ => by simp at h
 | b :: r, 0, k, x, h, e, _ => by
  simp at h
  subst h
  unfold fidx
  rw [if_pos e, Nat.add_zero]
 | b :: r, j + 1, k, x, h, e, hn => by
  unfold fidx
  rw [if_neg (by rw [hn 0 b (by omega) rfl]; simp)]
  have := fidx_at (k := k + 1) (bs := r) (j := j) (by simpa using h) e fun i y hi hy => hn (i + 1) y (by omega) (by simpa using hy)
  rw [this]
  congr 1
  omega
theorem fidx_bd (p : Bv → Bool) : ∀ (bs : List Bv), (fidx p bs 0 = -1 ∧ ∀ (i : Nat) (x : Bv), bs[i]? = some x → p x = false) ∨ ∃ (j : Nat) (x : Bv), fidx p bs 0 = (j : Int) ∧ bs[j]? = some x ∧ p x = true ∧ ∀ (i : Nat) (y : Bv), i < j → bs[i]? = some y → p y = false := fun bs => by
 by_cases h : ∃ (j : Nat) (x : Bv), bs[j]? = some x ∧ p x = true
 ·obtain ⟨j, hj⟩ := h
  induction j using Nat.strongRecOn with
  | ind j ih =>
   by_cases h2 : ∃ i : Nat, i < j ∧ ∃ x : Bv, bs[i]? = some x ∧ p x = true
   ·obtain ⟨i, hi, hx⟩ := h2
    exact ih i hi hx
   ·obtain ⟨x, hx, hp⟩ := hj
    have ha : ∀ (i : Nat) (y : Bv), i < j → bs[i]? = some y → p y = false := fun i y hi hy => by
     cases e : p y with
     | false => rfl
     | true => exact absurd ⟨i, hi, y, hy, e⟩ h2
    have := fidx_at (k := 0) hx hp ha
    rw [Nat.zero_add] at this
    exact .inr ⟨j, x, this, hx, hp, ha⟩
 ·have ha : ∀ (i : Nat) (x : Bv), bs[i]? = some x → p x = false := fun i x hx => by
   cases e : p x with
   | false => rfl
   | true => exact absurd ⟨i, x, hx, e⟩ h
  exact .inl ⟨fidx_none ha, ha⟩
theorem at1_any {w : World} {B : Nat} {pc : Int} (kb : w.cell? ⟨B, 0, none⟩ = some (.int .u32 pc)) (x : Int) (sa : Option Addr) (n c : Nat) :
  Calls Tryz.prog 115 #[.agg #[.int .u32 x, .slice sa n c], .pointer (some ⟨B, 0, none⟩)] w fun e w' => e = .returned (.bool (decide (x = pc))) ∧ Gr w w' := by
 have q1 : ∀ o, (w.alloc o).cell? ⟨B, 0, none⟩ = some (.int .u32 pc) := fun o => (((Gr.refl w).alloc o).cell _ (by exact World.block_lt_of_cell? w _ kb)).trans kb
 clear kb
 go_enter Tryz.func115, Tryz.ntmps115
 go_wp2
 go_ret
 refine ⟨ret_bool ?_, (Gr.refl _).alloc _⟩
 first | rfl | simp
theorem at_any (w : World) (pc : Int) :
  Calls Tryz.prog 92 #[.int .u32 pc] w fun e w' => ∃ B, e = .returned (.func (.func 115) #[] #[.pointer (some ⟨B, 0, none⟩)]) ∧ w'.cell? ⟨B, 0, none⟩ = some (.int .u32 pc) ∧ Gr w w' := by
 go_enter Tryz.func92, Tryz.ntmps92
 go_wp2
 go_ret
 exact ⟨w.heap.size, rfl, cell_of_row _ _ _ _ _ _ (heap_alloc_new w _), (Gr.refl _).alloc _⟩
theorem touched_any (w : World) (f t : Int) :
  Calls Tryz.prog 80 #[.agg #[.int .u32 f, .int .u32 t]] w fun e w' => ∃ B, e = .returned (.func (.func 101) #[] #[.pointer (some ⟨B, 0, none⟩)]) ∧ w'.heap[B]? = some (.cells #[.int .u32 f, .int .u32 t] 109 (0, 0)) ∧ Gr w w' := by
 go_enter Tryz.func80, Tryz.ntmps80
 go_wp2
 go_ret
 exact ⟨w.heap.size, rfl, heap_alloc_new w _, (Gr.refl _).alloc _⟩
theorem iRg : (Tryz.prog.info? 109).map (·.size) = some 2 := by kernel_rfl
theorem new2 (w : World) (a b : Obj) : ((w.alloc a).alloc b).heap[w.heap.size + 1]? = some b := by
 have := heap_alloc_new (w.alloc a) b
 simpa using this
theorem Bytes_blk (w : World) {x : Int} (hx : 0 ≤ x ∧ x < 4294967296) (sa : Option Addr) {n : Nat} (hn : n * 40 ≤ 140737488351232) (c : Nat) :
  Calls Tryz.prog 54 #[.agg #[.int .u32 x, .slice sa n c]] w fun e w' => e = .returned (.agg #[.int .u32 x, .int .u32 (min (x + 4 * (n : Int)) 4294967295)]) ∧ Gr w w' := by
 obtain ⟨hx0, hx1⟩ := hx
 have HX0 : Hid (0 ≤ x) := hx0
 have HX1 : Hid (x < 4294967296) := hx1
 have hw1 : IntKind.u64.wrap x = x := by simp [IntKind.wrap, IntKind.signed, IntKind.bits]; omega
 have hw2 : IntKind.u64.wrap (n : Int) = (n : Int) := by simp [IntKind.wrap, IntKind.signed, IntKind.bits]; omega
 have hw3 : IntKind.u64.wrap (4 * (n : Int)) = 4 * (n : Int) := by simp [IntKind.wrap, IntKind.signed, IntKind.bits]; omega
 have hw4 : IntKind.u64.wrap (x + 4 * (n : Int)) = x + 4 * (n : Int) := by simp [IntKind.wrap, IntKind.signed, IntKind.bits]; omega
 by_cases hm : x + 4 * (n : Int) ≤ 4294967295
 ·have hw5 : IntKind.u32.wrap (x + 4 * (n : Int)) = x + 4 * (n : Int) := by simp [IntKind.wrap, IntKind.signed, IntKind.bits]; omega
  go_enter Tryz.func54, Tryz.ntmps54
  go_wp2
  rw [show min (x + 4 * (n : Int)) 4294967295 = x + 4 * (n : Int) by rw [Int.min_def]; split <;> omega]
  exact bodyPost_ret (v := .agg #[.int .u32 x, .int .u32 (x + 4 * (n : Int))]) (results_cell_row Tryz.results54 _ _ _ _ _ (0, 0) _ rfl (new2 w _ _) Tryz.underlying109 rfl iRg) rfl ⟨rfl, ((Gr.refl _).alloc _).alloc _⟩
 ·go_enter Tryz.func54, Tryz.ntmps54
  go_wp2
  rw [show min (x + 4 * (n : Int)) 4294967295 = 4294967295 by rw [Int.min_def]; split <;> omega]
  exact bodyPost_ret (v := .agg #[.int .u32 x, .int .u32 (4294967295)]) (results_cell_row Tryz.results54 _ _ _ _ _ (0, 0) _ rfl (new2 w _ _) Tryz.underlying109 rfl iRg) rfl ⟨rfl, ((Gr.refl _).alloc _).alloc _⟩
theorem touched1_any {w : World} {B : Nat} {f t : Int} (k0 : w.cell? ⟨B, 0, none⟩ = some (.int .u32 f)) (k1 : w.cell? ⟨B, 1, none⟩ = some (.int .u32 t)) (ht : t < 4294967296) {b : Bv} (ok : b.Ok) (sa : Option Addr) (sc : Nat) :
  Calls Tryz.prog 101 #[.agg #[.int .u32 b.pc, .slice sa b.is.length sc], .pointer (some ⟨B, 0, none⟩)] w fun e w' => e = .returned (.bool (hasB b f t)) ∧ Gr w w' := by
 have hB := World.block_lt_of_cell? w _ k0
 have BY : Hid (∀ W : World, Calls Tryz.prog 54 #[.agg #[.int .u32 b.pc, .slice sa b.is.length sc]] W fun e w' => e = .returned (.agg #[.int .u32 b.pc, .int .u32 (min (b.pc + 4 * (b.is.length : Int)) 4294967295)]) ∧ Gr W w') := fun W => Bytes_blk W ok.pc sa ok.sz sc
 have HH : Hid (hasB b f t = decide (max b.pc f < min (min (b.pc + 4 * (b.is.length : Int)) 4294967295) t)) := by
  unfold Hid hasB
  rw [decide_eq_decide]
  simp only [Int.max_def, Int.min_def]
  (repeat' split) <;> omega
 have Q0 : Hid (∀ W : World, Gr w W → W.cell? ⟨B, 0, none⟩ = some (.int .u32 f) ∧ W.cell? ⟨B, 1, none⟩ = some (.int .u32 t)) := fun W G => ⟨(G.cell _ (by exact hB)).trans k0, (G.cell _ (by exact hB)).trans k1⟩
 clear k0 k1 ok
 generalize min (b.pc + 4 * (b.is.length : Int)) 4294967295 = y at *
 generalize hasB b f t = hb at *
 generalize b.pc = x at *
 generalize b.is.length = n at *
 go_enter Tryz.func101, Tryz.ntmps101
 go_wp2_with fail
 refine (BY.out _).mono ?_
 rintro e w1 ⟨rfl, G1⟩
 have HG1 : Hid (Gr w w1) := ((Gr.refl _).alloc _).trans G1
 have q0 : ∀ o, (w1.alloc o).cell? ⟨B, 0, none⟩ = some (.int .u32 f) := fun o => (Q0.out _ (HG1.out.alloc o)).1
 have q1 : ∀ o, (w1.alloc o).cell? ⟨B, 1, none⟩ = some (.int .u32 t) := fun o => (Q0.out _ (HG1.out.alloc o)).2
 clear Q0 BY G1
 go_wp2
 all_goals
  go_ret
  refine ⟨ret_bool ?_, HG1.out.alloc _⟩
  rw [HH.out, decide_eq_decide, Int.max_def, Int.min_def]
  (repeat' split) <;> omega
theorem idx_at {w : World} {ao : Option Addr} {n : Nat} (cap : Nat) {bs : List Bv} (R : Bq w ao n bs) (hs : n ≤ 140737488351232) (B : Nat) (p : Bv → Bool) (Cl0 : ∀ (W : World) (b : Bv) (sa : Option Addr) (sc : Nat), Gr w W → b ∈ bs → Calls Tryz.prog 115 #[.agg #[.int .u32 b.pc, .slice sa b.is.length sc], .pointer (some ⟨B, 0, none⟩)] W fun e w' => e = .returned (.bool (p b)) ∧ Gr W w') :
  Calls Tryz.prog 91 #[.slice ao n cap, .func (.func 115) #[] #[.pointer (some ⟨B, 0, none⟩)]] w fun e w' => e = .returned (.int .i64 (fidx p bs 0)) ∧ Gr w w' := by
 have Cl : Hid (∀ (W : World) (b : Bv) (sa : Option Addr) (sc : Nat), Gr w W → b ∈ bs → Calls Tryz.prog 115 #[.agg #[.int .u32 b.pc, .slice sa b.is.length sc], .pointer (some ⟨B, 0, none⟩)] W fun e w' => e = .returned (.bool (p b)) ∧ Gr W w') := Cl0
 have HR : Hid (Bq w ao n bs) := R
 have HN : Hid (bs.length = n) := R.len
 clear R Cl0
 go_enter Tryz.func91, Tryz.ntmps91
 go_wp2_with fail
 go_loopw [8] (fun i wr => ∃ j : Nat, j ≤ n ∧ i = .int .i64 j ∧ (∀ (i : Nat) (y : Bv), i < j → bs[i]? = some y → p y = false) ∧ Gr w wr) (fun i _ => n - (intOf i).toNat)
 case atStart => exact ⟨0, Nat.zero_le _, rfl, fun i y h => absurd h (by omega), Gr.refl _⟩
 case round =>
  obtain ⟨j, hj, rfl, hno, G⟩ := hrel
  have HNo : Hid (∀ (i : Nat) (y : Bv), i < j → bs[i]? = some y → p y = false) := hno
  have HG : Hid (Gr w wr) := G
  clear hno G
  by_cases hlt : j < n
  ·obtain ⟨b, hb⟩ : ∃ b, bs[j]? = some b := ⟨_, List.getElem?_eq_getElem (by rw [HN.out]; exact hlt)⟩
   obtain ⟨g1, o1, rfl, l1, hc⟩ := (HR.out.of HG.out).spot (by omega)
   obtain ⟨c0, sa, sc, c1⟩ := hc j b hb
   have HY : Hid (p b = true → fidx p bs 0 = (j : Int)) := fun h => by have := fidx_at (k := 0) hb h HNo.out; rwa [Nat.zero_add] at this
   have HZ : Hid (p b = false → ∀ (i : Nat) (y : Bv), i < j + 1 → bs[i]? = some y → p y = false) := fun h i y hi hy => by
    by_cases e : i < j
    ·exact HNo.out i y e hy
    ·have e2 : i = j := by omega
     subst e2
     rw [hb] at hy
     injection hy with hy
     rw [← hy]; exact h
   have Cl2 : Hid (∀ W : World, Gr w W → Calls Tryz.prog 115 #[.agg #[.int .u32 b.pc, .slice sa b.is.length sc], .pointer (some ⟨B, 0, none⟩)] W fun e w' => e = .returned (.bool (p b)) ∧ Gr W w') := fun W G => Cl.out W b sa sc G (List.mem_of_getElem? hb)
   generalize p b = m at *
   clear hb Cl HNo HR HN hc
   generalize b.pc = x at *
   generalize b.is.length = q at *
   cases m with
   | true =>
    have HY2 : Hid (fidx p bs 0 = (j : Int)) := HY.out rfl
    clear HY HZ
    go_wp2_with fail
    refine (Cl2.out _ HG.out).mono ?_
    rintro e w1 ⟨rfl, G1⟩
    have HG1 : Hid (Gr w w1) := HG.out.trans G1
    clear Cl2 G1 c0 c1
    go_wp2_with fail
    go_ret
    exact ⟨by rw [HY2.out]; rfl, HG1.out⟩
   | false =>
    have HZ2 : Hid (∀ (i : Nat) (y : Bv), i < j + 1 → bs[i]? = some y → p y = false) := HZ.out rfl
    clear HY HZ
    go_wp2_with fail
    refine (Cl2.out _ HG.out).mono ?_
    rintro e w1 ⟨rfl, G1⟩
    have HG1 : Hid (Gr w w1) := HG.out.trans G1
    clear Cl2 G1 c0 c1
    go_wp2_with fail
    go_roundw
    case rel => exact ⟨j + 1, by omega, by go_num, HZ2.out, HG1.out⟩
    case measure => simp [intOf]; omega
  ·have ej : j = n := by omega
   have HE : Hid (fidx p bs 0 = -1) := fidx_none fun i x hx => HNo.out i x (by rw [ej, ← HN.out]; exact (List.getElem?_eq_some_iff.1 hx).1) hx
   clear ej
   go_wp2_with fail
   go_ret
   exact ⟨by rw [HE.out]; rfl, HG.out⟩
theorem idx_touched {w : World} {ao : Option Addr} {n : Nat} (cap : Nat) {bs : List Bv} (R : Bq w ao n bs) (hs : n ≤ 140737488351232) (B : Nat) (p : Bv → Bool) (Cl0 : ∀ (W : World) (b : Bv) (sa : Option Addr) (sc : Nat), Gr w W → b ∈ bs → Calls Tryz.prog 101 #[.agg #[.int .u32 b.pc, .slice sa b.is.length sc], .pointer (some ⟨B, 0, none⟩)] W fun e w' => e = .returned (.bool (p b)) ∧ Gr W w') :
  Calls Tryz.prog 91 #[.slice ao n cap, .func (.func 101) #[] #[.pointer (some ⟨B, 0, none⟩)]] w fun e w' => e = .returned (.int .i64 (fidx p bs 0)) ∧ Gr w w' := by
 have Cl : Hid (∀ (W : World) (b : Bv) (sa : Option Addr) (sc : Nat), Gr w W → b ∈ bs → Calls Tryz.prog 101 #[.agg #[.int .u32 b.pc, .slice sa b.is.length sc], .pointer (some ⟨B, 0, none⟩)] W fun e w' => e = .returned (.bool (p b)) ∧ Gr W w') := Cl0
 have HR : Hid (Bq w ao n bs) := R
 have HN : Hid (bs.length = n) := R.len
 clear R Cl0
 go_enter Tryz.func91, Tryz.ntmps91
 go_wp2_with fail
 go_loopw [8] (fun i wr => ∃ j : Nat, j ≤ n ∧ i = .int .i64 j ∧ (∀ (i : Nat) (y : Bv), i < j → bs[i]? = some y → p y = false) ∧ Gr w wr) (fun i _ => n - (intOf i).toNat)
 case atStart => exact ⟨0, Nat.zero_le _, rfl, fun i y h => absurd h (by omega), Gr.refl _⟩
 case round =>
  obtain ⟨j, hj, rfl, hno, G⟩ := hrel
  have HNo : Hid (∀ (i : Nat) (y : Bv), i < j → bs[i]? = some y → p y = false) := hno
  have HG : Hid (Gr w wr) := G
  clear hno G
  by_cases hlt : j < n
  ·obtain ⟨b, hb⟩ : ∃ b, bs[j]? = some b := ⟨_, List.getElem?_eq_getElem (by rw [HN.out]; exact hlt)⟩
   obtain ⟨g1, o1, rfl, l1, hc⟩ := (HR.out.of HG.out).spot (by omega)
   obtain ⟨c0, sa, sc, c1⟩ := hc j b hb
   have HY : Hid (p b = true → fidx p bs 0 = (j : Int)) := fun h => by have := fidx_at (k := 0) hb h HNo.out; rwa [Nat.zero_add] at this
   have HZ : Hid (p b = false → ∀ (i : Nat) (y : Bv), i < j + 1 → bs[i]? = some y → p y = false) := fun h i y hi hy => by
    by_cases e : i < j
    ·exact HNo.out i y e hy
    ·have e2 : i = j := by omega
     subst e2
     rw [hb] at hy
     injection hy with hy
     rw [← hy]; exact h
   have Cl2 : Hid (∀ W : World, Gr w W → Calls Tryz.prog 101 #[.agg #[.int .u32 b.pc, .slice sa b.is.length sc], .pointer (some ⟨B, 0, none⟩)] W fun e w' => e = .returned (.bool (p b)) ∧ Gr W w') := fun W G => Cl.out W b sa sc G (List.mem_of_getElem? hb)
   generalize p b = m at *
   clear hb Cl HNo HR HN hc
   generalize b.pc = x at *
   generalize b.is.length = q at *
   cases m with
   | true =>
    have HY2 : Hid (fidx p bs 0 = (j : Int)) := HY.out rfl
    clear HY HZ
    go_wp2_with fail
    refine (Cl2.out _ HG.out).mono ?_
    rintro e w1 ⟨rfl, G1⟩
    have HG1 : Hid (Gr w w1) := HG.out.trans G1
    clear Cl2 G1 c0 c1
    go_wp2_with fail
    go_ret
    exact ⟨by rw [HY2.out]; rfl, HG1.out⟩
   | false =>
    have HZ2 : Hid (∀ (i : Nat) (y : Bv), i < j + 1 → bs[i]? = some y → p y = false) := HZ.out rfl
    clear HY HZ
    go_wp2_with fail
    refine (Cl2.out _ HG.out).mono ?_
    rintro e w1 ⟨rfl, G1⟩
    have HG1 : Hid (Gr w w1) := HG.out.trans G1
    clear Cl2 G1 c0 c1
    go_wp2_with fail
    go_roundw
    case rel => exact ⟨j + 1, by omega, by go_num, HZ2.out, HG1.out⟩
    case measure => simp [intOf]; omega
  ·have ej : j = n := by omega
   have HE : Hid (fidx p bs 0 = -1) := fidx_none fun i x hx => HNo.out i x (by rw [ej, ← HN.out]; exact (List.getElem?_eq_some_iff.1 hx).1) hx
   clear ej
   go_wp2_with fail
   go_ret
   exact ⟨by rw [HE.out]; rfl, HG.out⟩
end Go.Proofs.YtchllaeembmioaaGreatDoor.Kc
namespace Go.Proofs.YtchllaeembmioaaGreatDoor.En
open Go.ChangeShapes Go.WideShapes Go.ChangeAt Go.RowKit Mm Hh Hc

def Rh (v : Value) : Option (DataW Value × List MemPlace) := some (.held v, [])
theorem kU : Maps.Keyed Tryz.prog 42 := Maps.int_keyed Tryz.underlying42
theorem wfU {x : Int} (h0 : 0 ≤ x) (h1 : x < 4294967296) : (Lit.int .u32 x).wf = true := by
 simp only [Lit.wf, Bool.and_eq_true, decide_eq_true_eq]
 exact ⟨by show (0 : Int) ≤ x; exact h0, by show x ≤ 4294967295; omega⟩
theorem unwfU {x : Int} (h : (Lit.int .u32 x).wf = true) : 0 ≤ x ∧ x < 4294967296 := by
 simp only [Lit.wf, Bool.and_eq_true, decide_eq_true_eq] at h
 have h1 : (0 : Int) ≤ x := h.1
 have h2 : x ≤ 4294967295 := h.2
 omega
theorem keyU {x : Int} (h0 : 0 ≤ x) (h1 : x < 4294967296) : keyOf Tryz.prog 42 (.int .u32 x) = some (.int .u32 x) := Maps.keyOf_int_mk Tryz.underlying42 (wfU h0 h1)
theorem gr_grown {w w' : World} (G : Gr w w') : w.grownBy w' none := ⟨G.os, G.tape, G.output, G.size, fun k hk _ => G.block k hk⟩
theorem mdel_any {w : World} {b n : Nat} {D : DataW Value} (pd : Lit → DataW Value → Bool) (C : Nat) (hown : w.ownsMap Tryz.prog 42 Rh b n D)
  (hdel : ∀ (W : World) (x : Int) (v : Value), w.grownBy W (some b) → 0 ≤ x → x < 4294967296 → Calls Tryz.prog 82 #[.int .u32 x, v, .pointer (some ⟨C, 0, none⟩)] W fun e w' => e = .returned (.bool (pd (.int .u32 x) (.held v))) ∧ Gr W w') :
  Calls Tryz.prog 81 #[.map (some b), .func (.func 82) #[] #[.pointer (some ⟨C, 0, none⟩)]] w fun e w' => e = .returned (.tuple #[]) ∧ w'.ownsMap Tryz.prog 42 Rh b n (Lib.deleteFuncD pd D) ∧ w.grownBy w' (some b) := by
 obtain ⟨es0, rfl, hap, hkeys⟩ := hown.entries kU
 have HD : Hid (∀ (W : World) (x : Int) (v : Value), w.grownBy W (some b) → 0 ≤ x → x < 4294967296 → Calls Tryz.prog 82 #[.int .u32 x, v, .pointer (some ⟨C, 0, none⟩)] W fun e w' => e = .returned (.bool (pd (.int .u32 x) (.held v))) ∧ Gr W w') := hdel
 clear hdel
 go_enter Tryz.func81, Tryz.ntmps81
 go_wp2_with (first
  | (at_range; refine wpList_range_own _ rfl _ 64 rfl 42 117 kU Tryz.underlying64 Rh b n _ rfl hown ?_; intro w0 hrg0 hg0 hs0)
  | go_in)
 go_frame
 go_loopw [8] (fun _ wr => ∃ (left : Lit → Bool) (cnt : Nat), wr.ranges Tryz.prog 42 Rh b w.heap.size n (Maps.Fk pd es0 left) left cnt ∧ w.grownBy wr (some b))
  (fun _ wr => wr.rangeLeft b w.heap.size)
 case atStart => exact ⟨_, _, by rw [Maps.Fk_start hkeys]; exact hrg0, hg0.but _⟩
 case round =>
  obtain ⟨left, cnt, hrg, hgw⟩ := hrel
  go_wp2_with (first
   | (at_next; refine wpList_next_ranges _ rfl _ rfl 42 kU Rh (Value.int .u32) id (fun key kl hk => by obtain ⟨x, rfl, _⟩ := Maps.keyOf_int_inv Tryz.underlying42 hk; exact ⟨x, rfl⟩) (fun v _ _ => ⟨v, rfl⟩) b w.heap.size n _ _ _ rfl hrg ?_ ?_)
   | go_in)
  ·intro _ hl0
   go_wp2
   go_end0
   exact ⟨rfl, by rw [← Maps.Fk_end hl0]; exact hrg.owns, hgw⟩
  ·intro x c kl yd yp w1 cnt1 hkey hlx hv hat hrg1 hlt hg1 hs1 hen
   obtain ⟨x', ex, rfl, hwx⟩ := Maps.keyOf_int_inv Tryz.underlying42 hkey
   injection ex with _ ex
   subst ex
   have hv2 : yd = .held c := by
    have : some (DataW.held c, ([] : List MemPlace)) = some (yd, yp) := hv
    injection this with this
    injection this with this
    exact this.symm
   rw [hv2] at hat
   have hgw1 := hgw.andThen hg1 (fun j hj => by cases hj; exact Or.inl (Nat.le_refl _))
   have hx := unwfU hwx
   have hc := HD.out w1 x c hgw1 hx.1 hx.2
   have HC : Hid (Calls Tryz.prog 82 #[.int .u32 x, c, .pointer (some ⟨C, 0, none⟩)] w1 fun e w' => e = .returned (.bool (pd (.int .u32 x) (.held c))) ∧ Gr w1 w') := hc
   have hbl := hrg1.owns.lt
   have hrl := hrg1.lt
   clear hc hv hv2 HD
   cases hp : pd (.int .u32 x) (.held c) with
   | false =>
    have HC2 : Hid (Calls Tryz.prog 82 #[.int .u32 x, c, .pointer (some ⟨C, 0, none⟩)] w1 fun e w' => e = .returned (.bool false) ∧ Gr w1 w') := by have := HC.out; rwa [hp] at this
    clear HC
    go_wp2_with fail
    refine Calls.mono HC2.out ?_
    rintro e w2 ⟨rfl, G2⟩
    have hg2 := gr_grown G2
    have hrg2 := hrg1.kept hg2 (by simp) (by simp)
    clear HC2 G2 hen
    go_wp2_with fail
    go_roundw
    case rel => exact ⟨_, cnt1, by rw [← Maps.Fk_stays hap (kU.key hkey) hlx hp hat]; exact hrg2, hgw1.andThen hg2 (fun j hj => by cases hj)⟩
    case measure => rw [hrg2.left_eq, hrg.left_eq]; exact hlt
   | true =>
    have HC2 : Hid (Calls Tryz.prog 82 #[.int .u32 x, c, .pointer (some ⟨C, 0, none⟩)] w1 fun e w' => e = .returned (.bool true) ∧ Gr w1 w') := by have := HC.out; rwa [hp] at this
    clear HC
    go_wp2_with fail
    refine Calls.mono HC2.out ?_
    rintro e w2 ⟨rfl, G2⟩
    have hg2 := gr_grown G2
    have hrg2 := hrg1.kept hg2 (by simp) (by simp)
    clear HC2 G2 hen
    go_wp2_with (first
     | (at_delete; refine wpList_delete_ranges _ rfl _ _ 64 42 rfl 117 kU Tryz.underlying64 Rh b w.heap.size n _ _ _ rfl hrg2 _ _ rfl hkey ?_; intro w3 cnt3 hrg3 hle hturn; go_frame)
     | go_in)
    rw [Maps.strike_twice] at hrg3
    go_roundw
    case rel => exact ⟨_, cnt3, by rw [← Maps.Fk_struck hap (kU.key hkey) hlx hp hat]; exact hrg3, (hgw1.andThen hg2 (fun j hj => by cases hj)).andThen hturn.grown (fun j hj => by cases hj; exact Or.inr rfl)⟩
    case measure => rw [hrg3.left_eq, hrg.left_eq]; omega
theorem eat1_any {w : World} {B : Nat} {pc : Int} (kb : w.cell? ⟨B, 0, none⟩ = some (.int .u32 pc)) (x : Int) (sa : Option Addr) (n c : Nat) :
  Calls Tryz.prog 102 #[.agg #[.int .u32 x, .slice sa n c], .pointer (some ⟨B, 0, none⟩)] w fun e w' => e = .returned (.bool (decide (x = pc))) ∧ Gr w w' := by
 have q1 : ∀ o, (w.alloc o).cell? ⟨B, 0, none⟩ = some (.int .u32 pc) := fun o => (((Gr.refl w).alloc o).cell _ (by exact World.block_lt_of_cell? w _ kb)).trans kb
 clear kb
 go_enter Tryz.func102, Tryz.ntmps102
 go_wp2
 go_ret
 refine ⟨Kc.ret_bool ?_, (Gr.refl _).alloc _⟩
 first | rfl | simp
theorem eat_any (w : World) (pc : Int) :
  Calls Tryz.prog 84 #[.int .u32 pc] w fun e w' => ∃ B, e = .returned (.func (.func 102) #[] #[.pointer (some ⟨B, 0, none⟩)]) ∧ w'.cell? ⟨B, 0, none⟩ = some (.int .u32 pc) ∧ Gr w w' := by
 go_enter Tryz.func84, Tryz.ntmps84
 go_wp2
 go_ret
 exact ⟨w.heap.size, rfl, cell_of_row _ _ _ _ _ _ (heap_alloc_new w _), (Gr.refl _).alloc _⟩
theorem eidx_at {w : World} {ao : Option Addr} {n : Nat} (cap : Nat) {bs : List Kc.Bv} (R : Kc.Bq w ao n bs) (hs : n ≤ 140737488351232) (B : Nat) (p : Kc.Bv → Bool) (Cl0 : ∀ (W : World) (b : Kc.Bv) (sa : Option Addr) (sc : Nat), Gr w W → b ∈ bs → Calls Tryz.prog 102 #[.agg #[.int .u32 b.pc, .slice sa b.is.length sc], .pointer (some ⟨B, 0, none⟩)] W fun e w' => e = .returned (.bool (p b)) ∧ Gr W w') :
  Calls Tryz.prog 91 #[.slice ao n cap, .func (.func 102) #[] #[.pointer (some ⟨B, 0, none⟩)]] w fun e w' => e = .returned (.int .i64 (Kc.fidx p bs 0)) ∧ Gr w w' := by
 have Cl : Hid (∀ (W : World) (b : Kc.Bv) (sa : Option Addr) (sc : Nat), Gr w W → b ∈ bs → Calls Tryz.prog 102 #[.agg #[.int .u32 b.pc, .slice sa b.is.length sc], .pointer (some ⟨B, 0, none⟩)] W fun e w' => e = .returned (.bool (p b)) ∧ Gr W w') := Cl0
 have HR : Hid (Kc.Bq w ao n bs) := R
 have HN : Hid (bs.length = n) := R.len
 clear R Cl0
 go_enter Tryz.func91, Tryz.ntmps91
 go_wp2_with fail
 go_loopw [8] (fun i wr => ∃ j : Nat, j ≤ n ∧ i = .int .i64 j ∧ (∀ (i : Nat) (y : Kc.Bv), i < j → bs[i]? = some y → p y = false) ∧ Gr w wr) (fun i _ => n - (intOf i).toNat)
 case atStart => exact ⟨0, Nat.zero_le _, rfl, fun i y h => absurd h (by omega), Gr.refl _⟩
 case round =>
  obtain ⟨j, hj, rfl, hno, G⟩ := hrel
  have HNo : Hid (∀ (i : Nat) (y : Kc.Bv), i < j → bs[i]? = some y → p y = false) := hno
  have HG : Hid (Gr w wr) := G
  clear hno G
  by_cases hlt : j < n
  ·obtain ⟨b, hb⟩ : ∃ b, bs[j]? = some b := ⟨_, List.getElem?_eq_getElem (by rw [HN.out]; exact hlt)⟩
   obtain ⟨g1, o1, rfl, l1, hc⟩ := (HR.out.of HG.out).spot (by omega)
   obtain ⟨c0, sa, sc, c1⟩ := hc j b hb
   have HY : Hid (p b = true → Kc.fidx p bs 0 = (j : Int)) := fun h => by have := Kc.fidx_at (k := 0) hb h HNo.out; rwa [Nat.zero_add] at this
   have HZ : Hid (p b = false → ∀ (i : Nat) (y : Kc.Bv), i < j + 1 → bs[i]? = some y → p y = false) := fun h i y hi hy => by
    by_cases e : i < j
    ·exact HNo.out i y e hy
    ·have e2 : i = j := by omega
     subst e2
     rw [hb] at hy
     injection hy with hy
     rw [← hy]; exact h
   have Cl2 : Hid (∀ W : World, Gr w W → Calls Tryz.prog 102 #[.agg #[.int .u32 b.pc, .slice sa b.is.length sc], .pointer (some ⟨B, 0, none⟩)] W fun e w' => e = .returned (.bool (p b)) ∧ Gr W w') := fun W G => Cl.out W b sa sc G (List.mem_of_getElem? hb)
   generalize p b = m at *
   clear hb Cl HNo HR HN hc
   generalize b.pc = x at *
   generalize b.is.length = q at *
   cases m with
   | true =>
    have HY2 : Hid (Kc.fidx p bs 0 = (j : Int)) := HY.out rfl
    clear HY HZ
    go_wp2_with fail
    refine (Cl2.out _ HG.out).mono ?_
    rintro e w1 ⟨rfl, G1⟩
    have HG1 : Hid (Gr w w1) := HG.out.trans G1
    clear Cl2 G1 c0 c1
    go_wp2_with fail
    go_ret
    exact ⟨by rw [HY2.out]; rfl, HG1.out⟩
   | false =>
    have HZ2 : Hid (∀ (i : Nat) (y : Kc.Bv), i < j + 1 → bs[i]? = some y → p y = false) := HZ.out rfl
    clear HY HZ
    go_wp2_with fail
    refine (Cl2.out _ HG.out).mono ?_
    rintro e w1 ⟨rfl, G1⟩
    have HG1 : Hid (Gr w w1) := HG.out.trans G1
    clear Cl2 G1 c0 c1
    go_wp2_with fail
    go_roundw
    case rel => exact ⟨j + 1, by omega, by go_num, HZ2.out, HG1.out⟩
    case measure => simp [intOf]; omega
  ·have ej : j = n := by omega
   have HE : Hid (Kc.fidx p bs 0 = -1) := Kc.fidx_none fun i x hx => HNo.out i x (by rw [ej, ← HN.out]; exact (List.getElem?_eq_some_iff.1 hx).1) hx
   clear ej
   go_wp2_with fail
   go_ret
   exact ⟨by rw [HE.out]; rfl, HG.out⟩
theorem econt_any {w : World} {ao : Option Addr} {n : Nat} (cap : Nat) {bs : List Kc.Bv} (B : Kc.Bs w ao n bs) (hs : n ≤ 140737488351232) {K : Nat} {pc : Int} (hk : w.cell? ⟨K, 0, none⟩ = some (.int .u32 pc)) :
  Calls Tryz.prog 83 #[.slice ao n cap, .func (.func 102) #[] #[.pointer (some ⟨K, 0, none⟩)]] w fun e w' => e = .returned (.bool (decide (0 ≤ Kc.place pc bs 0))) ∧ Gr w w' := by
 have X : Hid (Calls Tryz.prog 91 #[.slice ao n cap, .func (.func 102) #[] #[.pointer (some ⟨K, 0, none⟩)]] w fun e w' => e = .returned (.int .i64 (Kc.place pc bs 0)) ∧ Gr w w') := by
  unfold Hid
  rw [← Kc.fidx_place]
  exact eidx_at cap B.bq hs K (fun b => decide (b.pc = pc)) fun W b sa sc G _ => eat1_any ((G.cell _ (by exact World.block_lt_of_cell? w _ hk)).trans hk) b.pc sa b.is.length sc
 clear B hs hk
 generalize Kc.place pc bs 0 = z at *
 go_enter Tryz.func83, Tryz.ntmps83
 go_wp2_with fail
 refine Calls.mono X.out ?_
 rintro e w1 ⟨rfl, G1⟩
 have HG : Hid (Gr w w1) := G1
 clear X G1
 go_wp2_with fail
 go_ret
 refine ⟨Kc.ret_bool ?_, HG.out⟩
 first | rfl | simp
theorem fgt1_any {w : World} {C g : Nat} {ao : Option Addr} {n cap : Nat} {bs : List Kc.Bv} (kc : w.cell? ⟨C, 0, none⟩ = some (.pointer (some ⟨g, 0, none⟩))) (k5 : w.cell? ⟨g, 5, none⟩ = some (.slice ao n cap)) (B : Kc.Bs w ao n bs) (hs : n ≤ 140737488351232) (x : Int) (v : Value) :
  Calls Tryz.prog 82 #[.int .u32 x, v, .pointer (some ⟨C, 0, none⟩)] w fun e w' => e = .returned (.bool (!decide (0 ≤ Kc.place x bs 0))) ∧ Gr w w' := by
 have AT : Hid (∀ W : World, Calls Tryz.prog 84 #[.int .u32 x] W fun e w' => ∃ B, e = .returned (.func (.func 102) #[] #[.pointer (some ⟨B, 0, none⟩)]) ∧ w'.cell? ⟨B, 0, none⟩ = some (.int .u32 x) ∧ Gr W w') := fun W => eat_any W x
 have CF : Hid (∀ (W : World) (K : Nat), Gr w W → W.cell? ⟨K, 0, none⟩ = some (.int .u32 x) → Calls Tryz.prog 83 #[.slice ao n cap, .func (.func 102) #[] #[.pointer (some ⟨K, 0, none⟩)]] W fun e w' => e = .returned (.bool (decide (0 ≤ Kc.place x bs 0))) ∧ Gr W w') := fun W K G hk => econt_any cap (B.of G) hs hk
 have HK5 : Hid (∀ W : World, Gr w W → W.cell? ⟨g, 5, none⟩ = some (.slice ao n cap) ∧ W.cell? ⟨C, 0, none⟩ = some (.pointer (some ⟨g, 0, none⟩))) := fun W G => ⟨(G.cell _ (by exact World.block_lt_of_cell? w _ k5)).trans k5, (G.cell _ (by exact World.block_lt_of_cell? w _ kc)).trans kc⟩
 clear B hs
 generalize decide (0 ≤ Kc.place x bs 0) = q at *
 go_enter Tryz.func82, Tryz.ntmps82
 go_wp2_with fail
 go_region_with (first
  | (go_at_call 84; refine (AT.out _).mono ?_; rintro e w2 ⟨K, rfl, hk, G2⟩; have HG2 : Hid (Gr w w2) := Gr.trans (by repeat (first | exact Gr.refl _ | refine Gr.drewN ?_ _ | refine Gr.drew ?_)) G2; have x5 := (HK5.out _ HG2.out).1; have xc := (HK5.out _ HG2.out).2; clear G2 k5 kc)
  | (go_at_call 83; refine (CF.out _ K HG2.out hk).mono ?_; rintro e w3 ⟨rfl, G3⟩; have HG3 : Hid (Gr w w3) := HG2.out.trans G3; clear G3))
 all_goals
  first
   | (go_wp2_with fail; go_ret; exact ⟨rfl, HG3.out⟩)
   | (go_ret; exact ⟨rfl, HG3.out⟩)
end Go.Proofs.YtchllaeembmioaaGreatDoor.En
