/-
  What package block's Make answers: the block at a place ('bkX'). Conditions: the place is from 0 to 2^32 - 1; the memory is one that a machine can hold; the tables of package decode hold what their initialisers lay.
-/
import Derived.Test.YtkdghgiajifbdaaDoorHf
import Derived.Test.YtkdghgiajifbdaaDoorHm2
namespace Go.Proofs.YtkdghgiajifbdaaDoor.Bk
open Go.ChangeShapes Go.WideShapes Go.ChangeAt Go.RowKit Mm Hh Hc
set_option linter.unusedVariables false
set_option linter.unusedSimpArgs false

variable {w W w' : World} {base e sz n b t k g : Nat} {v z0 z1 : Value} {xs : List Value}
/-- The place that a block bears, and the words of its instructions, of a memory of n bytes. -/
def bkP (n : Nat) (pc : Int) : Int := if 4096 < n then 0 else pc
def bkX (n : Nat) (l : List UInt8) (pc : Int) : List Int := if 4096 < n then [] else blk l pc 16 0
theorem iB : (Tryd.prog.info? 34).map (·.size) = some 2 := by kernel_rfl
theorem iI : (Tryd.prog.info? 23).map (·.size) = some 5 := by kernel_rfl
theorem infoI : (Tryd.prog.info? 23).map (fun i => (i.zero, i.size, i.bytes)) = some (some (.agg #[.int .i64 0, .int .i64 0, .int .i64 0, .int .i64 0, .int .i32 0]), 5, 40) := by kernel_rfl
theorem owns_form (h : w.ownsRow base e sz v n xs) : ∃ a c, v = .slice a n c := by
  rcases h.2 with ⟨rfl, rfl⟩ | ⟨g, cap, _, rfl, _⟩
  · exact ⟨none, 0, rfl⟩
  · exact ⟨_, cap, rfl⟩
theorem owns_base {b' : Nat} (h : w.ownsRow b e sz v n xs) (hb : b' ≤ b) : w.ownsRow b' e sz v n xs := by
  refine ⟨h.1, ?_⟩
  rcases h.2 with h | ⟨g', cap, cur, hv, hb1, r⟩
  · exact .inl h
  · exact .inr ⟨g', cap, cur, hv, by omega, r⟩
theorem five_cells {x0 x1 x2 x3 x4 : Value} (h0 : W.cell? ⟨b, 0, none⟩ = some x0) (h1 : W.cell? ⟨b, 1, none⟩ = some x1) (h2 : W.cell? ⟨b, 2, none⟩ = some x2) (h3 : W.cell? ⟨b, 3, none⟩ = some x3) (h4 : W.cell? ⟨b, 4, none⟩ = some x4) : ∀ j u, ([x0, x1, x2, x3, x4] : List Value)[j]? = some u → W.cell? ((⟨b, 0, none⟩ : Addr).add j) = some u := by
  intro j u hj
  rw [add_at]
  match j, hj with
  | 0, hj => simp at hj; subst hj; exact h0
  | 1, hj => simp at hj; subst hj; exact h1
  | 2, hj => simp at hj; subst hj; exact h2
  | 3, hj => simp at hj; subst hj; exact h3
  | 4, hj => simp at hj; subst hj; exact h4
/-- Behind 'b.Ins = append(b.Ins, i)': what lies where. b: the block at g + 1; the result: at g; i: the block that was made first in w1. -/
structure Aft (w w3 : World) (g gi : Nat) (pc : Int) (v : Value) (k : Nat) (xs : List Value) (y : Value) : Prop where
  b1 : w3.heap[g + 1]? = some (.cells #[.int .u32 pc, v] 34 (0, 0))
  b0 : w3.heap[g]? = some (.cells #[.int .u32 0, .slice none 0 0] 34 (0, 0))
  own : w3.ownsRow (g + 2) 23 5 v k xs
  gr : Gr w w3
  op : w3.cell? ⟨gi, 0, none⟩ = some y
theorem grown_hold {O : Value} (hO : w.ownsRow base e sz O n xs) (q : w.grownBy w' O.ownBlock) (ht : t ≠ e) {o : Array Value} {f : Nat × Nat} (hk : w.heap[k]? = some (.cells o t f)) : w'.heap[k]? = some (.cells o t f) :=
  (q.block k (gs hk).1 (fun h => by
    rcases hO.2 with ⟨h0, _⟩ | ⟨g', cap, cur, hv, _, hg, _⟩
    · rw [h0] at h; cases h
    · rw [hv] at h
      injection h with h
      exact ne_of_types hk hg ht h)).trans hk
theorem heap_held (g : Gr w w') {x : Obj} (h : w.heap[k]? = some x) : w'.heap[k]? = some x := by
  rw [Below.block g k (gs h).1]; exact h
theorem aft {wr w1 w2 : World} {pc : Int} {S v' : Value} {xs' : List Value} {Y Z : Array Value} {y : Value} (hg : w.heap.size = g) (B1 : wr.heap[g + 1]? = some (.cells #[.int .u32 pc, S] 34 (0, 0))) (B0 : wr.heap[g]? = some (.cells #[.int .u32 0, .slice none 0 0] 34 (0, 0)))
    (O : wr.ownsRow (g + 2) 23 5 S k xs) (G : Gr w wr) (G1 : Gr wr w1) (q : ((w1.alloc (.cells Y 23)).alloc (.cells Z 23)).grownBy w2 S.ownBlock) (O2 : w2.ownsRow (g + 2) 23 5 v' (k + 1) xs') (hy : Y[0]? = some y) :
    w2.cell? ⟨g + 1, 1, none⟩ = some S ∧ w2.frozen? ⟨g + 1, 1, none⟩ = false ∧ Aft w (w2.setCell ⟨g + 1, 1, none⟩ v') g w1.heap.size pc v' (k + 1) xs' y := by
  have G2 : Gr wr ((w1.alloc (.cells Y 23)).alloc (.cells Z 23)) := (G1.alloc _).alloc _
  have O1 := owns_gr O G2
  have b1 := grown_hold O1 q (by decide) (heap_held G2 B1)
  have b0 := grown_hold O1 q (by decide) (heap_held G2 B0)
  have hY : w2.heap[w1.heap.size]? = some (.cells Y 23 (0, 0)) := by
    have e : ((w1.alloc (.cells Y 23)).alloc (.cells Z 23)).heap[w1.heap.size]? = some (.cells Y 23 (0, 0)) := heap_alloc2_old w1 _ _
    refine (q.block _ (gs e).1 (fun h => ?_)).trans e
    have := (O.lt _ h.symm).2
    have := G1.size
    omega
  have ne : ∀ {t : Nat}, t ≠ 34 → ∀ {k : Nat} {o : Array Value} {f : Nat × Nat}, w2.heap[k]? = some (.cells o t f) → (w2.setCell ⟨g + 1, 1, none⟩ v').heap[k]? = w2.heap[k]? := fun ht _ _ _ hk => hso (by exact ne_of_types hk b1 ht)
  refine ⟨cr b1, fzr b1, ?_, ?_, ?_, ?_, ?_⟩
  · rw [hss b1]; rfl
  · exact (hso (by show g ≠ g + 1; omega)).trans b0
  · exact owns_to O2 fun k o f hk => ne (by decide) hk
  · refine Gr.setCell ?_ (by show w.heap.size ≤ g + 1; omega) _
    exact (G.trans G2).grown q (fun b e => by have := (O.lt b e).1; omega)
  · exact (cr ((ne (by decide) hY).trans hY)).trans hy
theorem two_set (h : W.heap[g]? = some (.cells #[z0, z1] t (0, 0))) (a b : Value) : ((W.setCell ⟨g, 0, none⟩ a).setCell ⟨g, 1, none⟩ b).heap[g]? = some (.cells #[a, b] t (0, 0)) := by
  have h0 := heap_setCell_same W g 0 _ _ a h
  exact heap_setCell_same _ g 1 _ _ b h0
theorem two_owns (h : W.ownsRow base 23 5 v n xs) (hb : W.heap[g]? = some (.cells #[z0, z1] 34 (0, 0))) (hg : g ≤ base) (a b : Value) : ((W.setCell ⟨g, 0, none⟩ a).setCell ⟨g, 1, none⟩ b).ownsRow g 23 5 v n xs :=
  owns_base (owns_to h fun k o f hk => by
    have e := ne_of_types hk hb (by decide)
    rw [hso (by exact e), hso (by exact e)]) hg
theorem ins_oneL (x0 x1 x2 x3 x4 : Int) : ∀ u ∈ ([.int .i64 x0, .int .i64 x1, .int .i64 x2, .int .i64 x3, .int .i32 x4] : List Value), u.oneCell' = true := by
  intro u hu
  simp only [List.mem_cons, List.not_mem_nil, or_false] at hu
  rcases hu with rfl | rfl | rfl | rfl | rfl <;> rfl
end Go.Proofs.YtkdghgiajifbdaaDoor.Bk
