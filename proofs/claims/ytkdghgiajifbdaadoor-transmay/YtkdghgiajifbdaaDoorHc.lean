/-
  A core of package hart, as cells of memory, and what is true of it from method to method: its hart, its memory, what came out and where was stored, as plain data ('In').
-/
import Derived.Test.YtkdghgiajifbdaaDoorHs
import Derived.Deep.RegionLaw
namespace Go.Proofs.YtkdghgiajifbdaaDoor.Hc
open Go.ChangeShapes Go.WideShapes Go.ChangeAt Go.RowKit Mm Hh
set_option linter.unusedVariables false

structure Cv where
  h : Hv
  m : Value
  out : Value
  sto : Value
def cA (c : Cv) : Array Value := (hL c.h ++ [c.m, c.out, c.sto]).toArray
theorem cA_size {c : Cv} (o : c.h.Ok) : (cA c).size = 40 := by simp [cA, hL_len o]
theorem cA_get {c : Cv} (o : c.h.Ok) {i : Nat} (hi : i < 37) : (cA c)[i]? = (hL c.h)[i]? := by
  have := hL_len o
  unfold cA
  rw [List.getElem?_toArray, List.getElem?_append_left (by omega)]
theorem cA_fld {c : Cv} (o : c.h.Ok) (j : Nat) : (cA c)[37 + j]? = [c.m, c.out, c.sto][j]? := by
  unfold cA
  rw [List.getElem?_toArray, List.getElem?_append_right (by simp [hL_len o])]
  simp [hL_len o]
theorem cA_set {c : Cv} (o : c.h.Ok) {i : Nat} (hi : i < 37) {v : Value} {h' : Hv} (e : (hL c.h).set i v = hL h') : (cA c).setIfInBounds i v = cA { c with h := h' } := by
  have := hL_len o
  unfold cA
  simp only [List.setIfInBounds_toArray]
  rw [List.set_append_left _ _ (by omega), e]
theorem cA_setM {c : Cv} (o : c.h.Ok) (v : Value) : (cA c).setIfInBounds 37 v = cA { c with m := v } := by
  have := hL_len o
  unfold cA
  simp only [List.setIfInBounds_toArray]
  rw [List.set_append_right _ _ (by omega), this]
  rfl
theorem cA_setO {c : Cv} (o : c.h.Ok) (v : Value) : (cA c).setIfInBounds 38 v = cA { c with out := v } := by
  have := hL_len o
  unfold cA
  simp only [List.setIfInBounds_toArray]
  rw [List.set_append_right _ _ (by omega), this]
  rfl
theorem cA_setS {c : Cv} (o : c.h.Ok) (v : Value) : (cA c).setIfInBounds 39 v = cA { c with sto := v } := by
  have := hL_len o
  unfold cA
  simp only [List.setIfInBounds_toArray]
  rw [List.set_append_right _ _ (by omega), this]
  rfl

/-- Bytes of the program's own: none, or a row of them. -/
def Own (w : World) (base : Nat) (v : Value) (l : List UInt8) : Prop :=
  (v = .slice none 0 0 ∧ l = []) ∨ ∃ k cap, v = .slice (some ⟨k, 0, none⟩) l.length cap ∧ (base ≤ k ∧ l.length ≤ cap) ∧ Row w k l
theorem Own.mem {w : World} {base : Nat} {v : Value} {l : List UInt8} (h : Own w base v l) : ∃ ao cap, v = .slice ao l.length cap ∧ Mem w ao l.length l := by
  rcases h with ⟨rfl, rfl⟩ | ⟨k, cap, rfl, _, R⟩
  · exact ⟨none, 0, rfl, Mem.none w⟩
  · exact ⟨some ⟨k, 0, none⟩, cap, rfl, R.mem⟩
/-- Ranges of bytes that were stored in, as cells. -/
def rgs (ss : List (Int × Int)) : List Value := ss.flatMap fun p => [.int .u32 p.1, .int .u32 (Wd.lo (p.1 + p.2))]
theorem rgs_len (ss : List (Int × Int)) : (rgs ss).length = ss.length * 2 := by
  induction ss with
  | nil => rfl
  | cons p r ih => simp only [rgs, List.flatMap_cons, List.length_append, List.length_cons, List.length_nil] at ih ⊢; omega
theorem rgs_snoc (ss : List (Int × Int)) (p : Int × Int) : rgs (ss ++ [p]) = rgs ss ++ [.int .u32 p.1, .int .u32 (Wd.lo (p.1 + p.2))] := by
  simp [rgs]

theorem Own.to {w w' : World} {base : Nat} {v : Value} {l : List UInt8} (h : Own w base v l) (e : ∀ (k : Nat) (o : Array Value) (f : Nat × Nat), w.heap[k]? = some (.cells o 5 f) → w'.heap[k]? = w.heap[k]?) : Own w' base v l := by
  rcases h with h | ⟨k, cap, hv, hb, rest, hr⟩
  · exact .inl h
  · exact .inr ⟨k, cap, hv, hb, rest, (e k _ _ hr).trans hr⟩
theorem owns_to {w w' : World} {base e n sz : Nat} {v : Value} {xs : List Value} (h : w.ownsRow base e sz v n xs) (q : ∀ (k : Nat) (o : Array Value) (f : Nat × Nat), w.heap[k]? = some (.cells o e f) → w'.heap[k]? = w.heap[k]?) : w'.ownsRow base e sz v n xs := by
  obtain ⟨h1, h2⟩ := h
  refine ⟨h1, ?_⟩
  rcases h2 with h2 | ⟨g, cap, cur, hv, hb, hg, r⟩
  · exact .inl h2
  · exact .inr ⟨g, cap, cur, hv, hb, (q g _ _ hg).trans hg, r⟩
theorem ne_of_types {w : World} {k g a b : Nat} {o p : Array Value} {f f' : Nat × Nat} (h : w.heap[k]? = some (.cells o a f)) (h' : w.heap[g]? = some (.cells p b f')) (hab : a ≠ b) : k ≠ g := by
  rintro rfl
  rw [h] at h'
  exact hab (by injection h' with h'; injection h')
/-- Only block g has turned, and new ones have come. -/
def Ch (g : Nat) (w w' : World) : Prop := w.grownBy w' (some g)
theorem Ch.refl (g : Nat) (w : World) : Ch g w w := ⟨rfl, rfl, rfl, Nat.le_refl _, fun _ _ _ => rfl⟩
theorem Ch.trans {g : Nat} {a b c : World} (h : Ch g a b) (k : Ch g b c) : Ch g a c :=
  ⟨k.os.trans h.os, k.tape.trans h.tape, k.output.trans h.output, Nat.le_trans h.size k.size, fun i hi hn => (k.block i (Nat.lt_of_lt_of_le hi h.size) hn).trans (h.block i hi hn)⟩
theorem Ch.setCell {g : Nat} {a w : World} (h : Ch g a w) (o : Nat) (v : Value) : Ch g a (w.setCell ⟨g, o, none⟩ v) :=
  h.trans ⟨rfl, rfl, rfl, by simp [World.setCell], fun k hk hn => Below.heap_setCell _ _ _ _ (fun e => hn (by rw [e]))⟩
theorem Ch.gr {g : Nat} {a b c : World} (h : Ch g a b) (k : Gr b c) : Ch g a c :=
  h.trans ⟨k.os, k.tape, k.output, k.size, fun i hi _ => k.block i hi⟩
theorem Ch.below {g base : Nat} {w w' : World} (h : Ch g w w') (hg : base ≤ g) (hb : base ≤ w.heap.size) : Below base w w' :=
  (Below.refl base w).grown h hb (fun k e => by injection e with e; omega)
end Go.Proofs.YtkdghgiajifbdaaDoor.Hc
