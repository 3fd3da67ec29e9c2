/-
  A block, a range, and ranges in a slice, that are handed in: opened.
-/
import Derived.Test.YteipplmmchaboabKa
import Derived.Test.YteipplmmchaboabKf
namespace Go.Proofs.Yteipplmmchaboab.Kc
open Go.ChangeShapes Go.WideShapes Go.ChangeAt Go.RowKit Mm Ts Hc
set_option linter.unusedVariables false
set_option linter.unusedSimpArgs false

theorem cRng : Try.prog.cellsOf 30 = 2 := by kernel_rfl
theorem byRng : Try.prog.bytesOf 30 = 8 := by kernel_rfl
theorem open_blk {H : Type} {enc : TypeId × Value → H} {W : World} {base k : Nat} {v : Value} {d : DataW H} {p : List MemPlace} {ts : List TypeId} {ds : List (DataW H)} (hv : Value.okWide Try.prog W .any base 28 v) (h : DataW.Trod enc Try.prog W 0 (fun _ => true) true 28 v d p)
    (hsz : (DataW.weightsEach Try.prog ts ds).all (· ≤ reachBytes) = true) (ht : ts[k]? = some 28) (hd : ds[k]? = some d) : ∃ (b : Bv) (va : Option Addr) (vn vc : Nat), v = .agg #[.int .u32 b.pc, .slice va vn vc] ∧ Bc W b (.int .u32 b.pc) (.slice va vn vc) := by
  obtain ⟨cs, rfl, hcs⟩ := okWide_struct Try.underlying28 hv
  obtain ⟨l⟩ := cs
  obtain ⟨fuel, hf⟩ := h
  have hw := DataW.weights_mem_each (P := Try.prog) ht hd
  have hf2 : DataW.trod enc Try.prog W 0 (fun _ => true) true fuel 28 l = some (d, p) := hf
  obtain ⟨b, u, v, e, B⟩ := block_cells hf2 (fun z hz => by simpa using List.all_eq_true.1 hsz z (hw z hz))
  subst e
  have B2 := B
  obtain ⟨rfl, _, va, vn, vc, rfl, _⟩ := B
  exact ⟨b, va, vn, vc, rfl, B2⟩
set_option maxRecDepth 100000 in
theorem rng_cells {H : Type} {enc : TypeId × Value → H} {W : World} {b0 fuel : Nat} {sp : Nat → Bool} {held : Bool} {l : List Value} {x : DataW H × List MemPlace}
    (hf : DataW.trod enc Try.prog W b0 sp held fuel 30 l = some x) : ∃ f t : Int, l = [.int .u32 f, .int .u32 t] ∧ (0 ≤ f ∧ f < 4294967296) ∧ (0 ≤ t ∧ t < 4294967296) := by
  obtain ⟨xs, m, rfl, hx, hcl, hlen, hel⟩ := DataW.trod_struct Try.underlying30 hf
  obtain ⟨y0, y1, rfl⟩ := li2 (l := xs) hlen
  have k0 : DataW.trod enc Try.prog W b0 sp held m 25 ((l.drop 0).take (Try.prog.cellsOf 25)) = some y0 := hel 0 _ rfl
  have k1 : DataW.trod enc Try.prog W b0 sp held m 25 ((l.drop 1).take (Try.prog.cellsOf 25)) = some y1 := hel 1 _ rfl
  rw [cRng] at hcl
  obtain ⟨a, b, rfl⟩ := li2 hcl
  obtain ⟨p0, e0, _, w0⟩ := DataW.trod_int Try.underlying25 k0
  obtain ⟨p1, e1, _, w1⟩ := DataW.trod_int Try.underlying25 k1
  rw [cU3] at e0 e1
  simp at e0 e1
  subst e0 e1
  exact ⟨p0, p1, rfl, bdU w0, bdU w1⟩
theorem open_rng {H : Type} {enc : TypeId × Value → H} {W : World} {base b0 : Nat} {sp : Nat → Bool} {held : Bool} {v : Value} {d : DataW H} {p : List MemPlace}
    (hv : Value.okWide Try.prog W .any base 30 v) (h : DataW.Trod enc Try.prog W b0 sp held 30 v d p) : ∃ f t : Int, v = .agg #[.int .u32 f, .int .u32 t] ∧ (0 ≤ f ∧ f < 4294967296) ∧ (0 ≤ t ∧ t < 4294967296) := by
  obtain ⟨cs, rfl, hcs⟩ := okWide_struct Try.underlying30 hv
  obtain ⟨l⟩ := cs
  obtain ⟨fuel, hf⟩ := h
  have hf2 : DataW.trod enc Try.prog W b0 sp held fuel 30 l = some (d, p) := hf
  obtain ⟨f, t, e, h1, h2⟩ := rng_cells hf2
  subst e
  exact ⟨f, t, rfl, h1, h2⟩
/-- Cells of type []api.Range, opened. -/
theorem open_rngs {H : Type} {enc : TypeId × Value → H} {W : World} {fuel : Nat} {ao : Option Addr} {len cap : Nat} {d : DataW H} {p : List MemPlace}
    (hf : DataW.trod enc Try.prog W 0 (fun _ => true) true fuel 43 (Value.slice ao len cap).cells.toList = some (d, p)) :
    ∃ rs : List (Int × Int), Rs W ao len rs ∧ (d = .nil ∧ len = 0 ∨ ∃ el sp, d = .slice el sp ∧ el.length = len) := by
  rcases Deep.open_slice Try.underlying43 hf with ⟨hcs, hx⟩ | ⟨a, len', cap', m, n, D, Pl, hcs, hb, hl, hm, em, hx, hel⟩
  · simp [Value.cells] at hcs
    obtain ⟨rfl, rfl, rfl⟩ := hcs
    exact ⟨[], ⟨rfl, fun h hm => (by cases hm), fun h => absurd h (by omega)⟩, .inl ⟨by injection hx, rfl⟩⟩
  · simp [Value.cells] at hcs
    obtain ⟨rfl, rfl, rfl⟩ := hcs
    have em2 : m = cap := by simpa using em
    have hex : ∀ i, i < len → ∃ q : Int × Int, ((0 ≤ q.1 ∧ q.1 < 4294967296) ∧ (0 ≤ q.2 ∧ q.2 < 4294967296)) ∧ W.cell? (a.add (i * 2)) = some (.int .u32 q.1) ∧ W.cell? (a.add (i * 2 + 1)) = some (.int .u32 q.2) := fun i hi => by
      obtain ⟨cs', hc, ht⟩ := hel i (by omega)
      obtain ⟨f, t, rfl, b1, b2⟩ := rng_cells ht
      rw [cRng] at hc
      obtain ⟨h0, h1⟩ := cells_two hc
      rw [Deep.add_add] at h0 h1
      exact ⟨(f, t), ⟨b1, b2⟩, by simpa using h0, h1⟩
    obtain ⟨f, hf2⟩ := @Deep.choose_lt (Int × Int) ⟨(0, 0)⟩ len _ hex
    refine ⟨(List.range len).map f, ⟨by simp, fun h hm => ?_, fun hn => ?_⟩, .inr ⟨_, _, by injection hx, by simp⟩⟩
    · obtain ⟨i, hi, rfl⟩ := List.mem_map.1 hm
      exact (hf2 i (List.mem_range.1 hi)).1
    · obtain ⟨b, o, s⟩ := a
      have c0 := (hf2 0 hn).2.1
      have hs : s = none := spot_none (by simpa using c0)
      subst hs
      have hb : b < W.heap.size := by simpa [Addr.add] using World.block_lt_of_cell? W _ c0
      refine ⟨b, o, rfl, hb, fun i h hi => ?_⟩
      rw [List.getElem?_map] at hi
      by_cases hl2 : i < len
      · rw [List.getElem?_eq_getElem (by simpa using hl2)] at hi
        simp at hi
        subst hi
        obtain ⟨_, h0, h1⟩ := hf2 i hl2
        rw [add_at] at h0 h1
        exact ⟨h0, by rw [Nat.add_assoc]; exact h1⟩
      · rw [List.getElem?_eq_none (by simp; omega)] at hi
        cases hi
end Go.Proofs.Yteipplmmchaboab.Kc
