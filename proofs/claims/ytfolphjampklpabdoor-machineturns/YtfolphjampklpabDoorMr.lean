/-
  Harts in a row of the program's own: read, and written over, hart by hart and field by field.
-/
import Derived.Test.YtfolphjampklpabDoorMh
namespace Go.Proofs.YtfolphjampklpabDoor.Mc
open Go.ChangeShapes Go.WideShapes Go.ChangeAt Go.RowKit Mm Hh
set_option linter.unusedVariables false
set_option linter.unusedSimpArgs false

/-- The cells of harts. -/
def hC (hs : List Hv) : List Value := hs.flatMap hL
theorem hC_len : ∀ {hs : List Hv}, (∀ h ∈ hs, h.Ok) → (hC hs).length = hs.length * 37
  | [], _ => rfl
  | h :: r, o => by
    have ih := hC_len (hs := r) (fun q hq => o q (by simp [hq]))
    unfold hC at ih ⊢
    simp only [List.flatMap_cons, List.length_append, List.length_cons, hL_len (o h (by simp)), ih]
    omega
theorem hC_get : ∀ {hs : List Hv}, (∀ h ∈ hs, h.Ok) → ∀ {i j : Nat} {h : Hv}, hs[i]? = some h → j < 37 → (hC hs)[i * 37 + j]? = (hL h)[j]?
  | [], _, i, j, h, hi, _ => by simp at hi
  | q :: r, o, 0, j, h, hi, hj => by
    simp at hi
    subst hi
    unfold hC
    rw [List.flatMap_cons, Nat.zero_mul, Nat.zero_add, List.getElem?_append_left (by rw [hL_len (o q (by simp))]; exact hj)]
  | q :: r, o, i + 1, j, h, hi, hj => by
    have ih := hC_get (hs := r) (fun q hq => o q (by simp [hq])) (i := i) (j := j) (h := h) (by simpa using hi) hj
    have lq := hL_len (o q (by simp))
    unfold hC at ih ⊢
    rw [List.flatMap_cons, List.getElem?_append_right (by omega), lq, ← ih]
    congr 1
    omega
theorem hC_set : ∀ {hs : List Hv}, (∀ h ∈ hs, h.Ok) → ∀ {i j : Nat} {h h' : Hv} {v : Value}, hs[i]? = some h → j < 37 → (hL h).set j v = hL h' → (hC hs).set (i * 37 + j) v = hC (hs.set i h')
  | [], _, i, j, h, h', v, hi, _, _ => by simp at hi
  | q :: r, o, 0, j, h, h', v, hi, hj, e => by
    simp at hi
    subst hi
    unfold hC
    rw [List.flatMap_cons, Nat.zero_mul, Nat.zero_add, List.set_append_left _ _ (by rw [hL_len (o q (by simp))]; exact hj), e]
    rfl
  | q :: r, o, i + 1, j, h, h', v, hi, hj, e => by
    have ih := hC_set (hs := r) (fun q hq => o q (by simp [hq])) (i := i) (j := j) (h := h) (h' := h') (v := v) (by simpa using hi) hj e
    have lq := hL_len (o q (by simp))
    unfold hC at ih ⊢
    rw [List.flatMap_cons, List.set_append_right _ _ (by omega), lq, show (i + 1) * 37 + j - 37 = i * 37 + j by omega, ih]
    rfl
/-- Block g is a row of the program's own that begins with the harts hs. -/
structure HRow (w : World) (g : Nat) (hs : List Hv) : Prop where
  ok : ∀ h ∈ hs, h.Ok
  row : ∃ rest : List Value, w.heap[g]? = some (.cells (hC hs ++ rest).toArray 52 (0, 0))
theorem HRow.cell {w : World} {g : Nat} {hs : List Hv} (r : HRow w g hs) {i j : Nat} {h : Hv} (hi : hs[i]? = some h) (hj : j < 37) : w.cell? ⟨g, i * 37 + j, none⟩ = (hL h)[j]? := by
  obtain ⟨rest, e⟩ := r.row
  have li : i < hs.length := (List.getElem?_eq_some_iff.1 hi).1
  rw [cell_of_row _ _ _ _ _ _ e, List.getElem?_toArray, List.getElem?_append_left (by rw [hC_len r.ok]; omega), hC_get r.ok hi hj]
theorem HRow.range {w : World} {g : Nat} {hs : List Hv} (r : HRow w g hs) {i : Nat} {h : Hv} (hi : hs[i]? = some h) : w.rangeAt g (i * 37) (hL h) := fun j v hv => by
  have hj : j < 37 := by have := (List.getElem?_eq_some_iff.1 hv).1; rwa [hL_len (r.ok h (List.mem_of_getElem? hi))] at this
  rw [r.cell hi hj]
  exact hv
theorem HRow.fz {w : World} {g : Nat} {hs : List Hv} (r : HRow w g hs) (j : Nat) : w.frozen? ⟨g, j, none⟩ = false := by
  obtain ⟨rest, e⟩ := r.row
  exact frozen_of_row _ _ j _ _ e
theorem HRow.there {w : World} {g : Nat} {hs : List Hv} (r : HRow w g hs) {i : Nat} {h : Hv} (hi : hs[i]? = some h) : w.there g (i * 37) 37 := fun j hj => by
  refine ⟨?_, r.fz _⟩
  rw [r.cell hi hj, List.getElem?_eq_getElem (by rw [hL_len (r.ok h (List.mem_of_getElem? hi))]; exact hj)]
  rfl
theorem ok_set {hs : List Hv} (o : ∀ h ∈ hs, h.Ok) (i : Nat) {h' : Hv} (o' : h'.Ok) : ∀ h ∈ hs.set i h', h.Ok := fun h hm => by
  rcases List.mem_or_eq_of_mem_set hm with h1 | rfl
  · exact o h h1
  · exact o'
/-- A field of hart i set. -/
theorem HRow.set {w : World} {g : Nat} {hs : List Hv} (r : HRow w g hs) {i j : Nat} {h h' : Hv} {v : Value} (hi : hs[i]? = some h) (hj : j < 37) (e : (hL h).set j v = hL h') (o' : h'.Ok) : HRow (w.setCell ⟨g, i * 37 + j, none⟩ v) g (hs.set i h') := by
  obtain ⟨rest, q⟩ := r.row
  have li : i < hs.length := (List.getElem?_eq_some_iff.1 hi).1
  refine ⟨ok_set r.ok i o', rest, ?_⟩
  rw [heap_setCell_same _ _ _ _ _ _ q]
  simp only [List.setIfInBounds_toArray]
  rw [List.set_append_left _ _ (by rw [hC_len r.ok]; omega), hC_set r.ok hi hj e]
/-- Many cells set, one behind the other: what the block holds. -/
theorem heap_setCells {t : Nat} (g : Nat) : ∀ (vs : List Value) (o : Nat) (w : World) (cs : List Value), w.heap[g]? = some (.cells cs.toArray t (0, 0)) → o + vs.length ≤ cs.length → (w.setCells g o vs).heap[g]? = some (.cells (cs.take o ++ vs ++ cs.drop (o + vs.length)).toArray t (0, 0))
  | [], o, w, cs, h, _ => by simp [World.setCells, h]
  | v :: r, o, w, cs, h, hl => by
    rw [World.setCells]
    have h1 := heap_setCell_same w g o _ _ v h
    simp only [List.setIfInBounds_toArray] at h1
    simp only [List.length_cons] at hl
    rw [heap_setCells g r (o + 1) _ (cs.set o v) h1 (by simp; omega)]
    have e1 : (cs.set o v).take (o + 1) = cs.take o ++ [v] := by
      rw [List.take_add_one, List.take_set, List.set_eq_of_length_le (by simp; omega)]
      simp [show o < cs.length by omega]
    have e2 : (cs.set o v).drop (o + 1 + r.length) = cs.drop (o + (r.length + 1)) := by
      rw [List.drop_set_of_lt (by omega)]
      congr 1
      omega
    rw [e1, e2]
    simp only [List.length_cons, List.append_assoc, List.cons_append, List.nil_append]
theorem hC_put : ∀ {hs : List Hv}, (∀ h ∈ hs, h.Ok) → ∀ {i : Nat} {h' : Hv}, i < hs.length → h'.Ok → (hC hs).take (i * 37) ++ hL h' ++ (hC hs).drop (i * 37 + 37) = hC (hs.set i h')
  | [], _, i, h', hi, _ => by simp at hi
  | q :: r, o, 0, h', hi, o' => by
    have lq := hL_len (o q (by simp))
    unfold hC
    rw [List.flatMap_cons, Nat.zero_mul, List.take_zero, List.nil_append, Nat.zero_add, List.drop_append, lq, List.drop_eq_nil_of_le (by omega)]
    simp [List.set_cons_zero]
  | q :: r, o, i + 1, h', hi, o' => by
    have ih := hC_put (hs := r) (fun q hq => o q (by simp [hq])) (i := i) (h' := h') (by simpa using hi) o'
    have lq := hL_len (o q (by simp))
    unfold hC at ih ⊢
    rw [List.flatMap_cons, List.take_append, List.drop_append, lq, List.take_of_length_le (by omega), List.drop_eq_nil_of_le (by omega), List.nil_append, show (i + 1) * 37 - 37 = i * 37 by omega, show (i + 1) * 37 + 37 - 37 = i * 37 + 37 by omega, List.set_cons_succ, List.flatMap_cons, ← ih]
    simp only [List.append_assoc]
/-- Hart i written over. -/
theorem HRow.put {w : World} {g : Nat} {hs : List Hv} (r : HRow w g hs) {i : Nat} (hi : i < hs.length) {h' : Hv} (o' : h'.Ok) : HRow (w.setCells g (i * 37) (hL h')) g (hs.set i h') := by
  obtain ⟨rest, q⟩ := r.row
  have lc := hC_len r.ok
  have l' := hL_len o'
  refine ⟨ok_set r.ok i o', rest, ?_⟩
  rw [heap_setCells g (hL h') (i * 37) w _ q (by rw [List.length_append, lc, l']; omega), l', List.take_append_of_le_length (by rw [lc]; omega), List.drop_append_of_le_length (by rw [lc]; omega), ← hC_put r.ok hi o']
  simp only [List.append_assoc]
/-- Behind append. -/
theorem HRow.own {w : World} {base g n cap : Nat} {hs : List Hv} (o : ∀ h ∈ hs, h.Ok) (h : w.ownsRow base 52 37 (.slice (some ⟨g, 0, none⟩) n cap) n (hC hs)) : HRow w g hs := by
  obtain ⟨_, hc⟩ := h
  rcases hc with ⟨h0, _⟩ | ⟨g', cap', cur, hv, hb, hg, hn, hm, hs', htake⟩
  · cases h0
  · simp only [Value.slice.injEq, Option.some.injEq, Addr.mk.injEq, true_and, and_true] at hv
    obtain ⟨rfl, rfl⟩ := hv
    refine ⟨o, cur.toList.drop (n * 37), ?_⟩
    rw [← htake, List.take_append_drop]
    exact hg
theorem hC_one (hs : List Hv) : ∀ u ∈ hC hs, u.oneCell' = true := by
  intro u hu
  obtain ⟨h, _, hm⟩ := List.mem_flatMap.1 hu
  have := Array.all_eq_true_iff_forall_mem.1 (one_hA h) u (by simpa [hA] using hm)
  exact this
/-- Harts that are appended: where they lie. -/
theorem Hs.src {w : World} {ad : Addr} {n : Nat} {hs : List Hv} (h : Hs w (some ad) n hs) : ∀ j u, (hC hs)[j]? = some u → w.cell? (ad.add j) = some u := by
  intro j u hj
  have hl := hC_len h.ok
  have hjl : j < hs.length * 37 := by rw [← hl]; exact (List.getElem?_eq_some_iff.1 hj).1
  have hlen := h.len
  obtain ⟨b, o, e, _, hc⟩ := h.spot (by omega)
  obtain rfl := Option.some.inj e
  have hi : j / 37 < hs.length := by omega
  have e1 : hs[j / 37]? = some hs[j / 37] := List.getElem?_eq_getElem hi
  have g := hC_get h.ok (j := j % 37) e1 (by omega)
  rw [show j / 37 * 37 + j % 37 = j by omega, hj] at g
  have := hc _ _ e1 (j % 37) u g.symm
  rw [add_at]
  rwa [show o + j / 37 * 37 + j % 37 = o + j by omega] at this
end Go.Proofs.YtfolphjampklpabDoor.Mc
