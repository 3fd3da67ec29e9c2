/-
  Blocks in a slice, and a cache, that are handed in: opened.
-/
import Derived.Test.YteipplmmchaboabKp
namespace Go.Proofs.Yteipplmmchaboab.Kc
open Go.ChangeShapes Go.WideShapes Go.ChangeAt Go.RowKit Mm Ts
set_option linter.unusedVariables false
set_option linter.unusedSimpArgs false

theorem byBk : Try.prog.bytesOf 28 = 32 := by kernel_rfl
theorem cCa : Try.prog.cellsOf 24 = 4 := by kernel_rfl
theorem cSB : Try.prog.cellsOf 22 = 1 := by kernel_rfl
theorem li4 {α : Type} {l : List α} (h : l.length = 4) : ∃ a b c d, l = [a, b, c, d] := by
  match l, h with
  | [a, b, c, d], _ => exact ⟨a, b, c, d, rfl⟩
theorem mem_all {H : Type} {P : Program} {e : TypeId} : ∀ {ds : List (DataW H)} {d : DataW H}, d ∈ ds → ∀ n ∈ d.weights P e, n ∈ DataW.weightsAll P e ds
  | [], d, h, n, hn => by cases h
  | c :: r, d, h, n, hn => by
    unfold DataW.weightsAll
    rw [List.mem_append]
    rcases List.mem_cons.1 h with rfl | h
    · exact .inl hn
    · exact .inr (mem_all h n hn)
set_option maxRecDepth 100000 in
/-- The cells of a block. -/
theorem block_cells {H : Type} {enc : TypeId × Value → H} {W : World} {fuel : Nat} {l : List Value} {d : DataW H} {p : List MemPlace}
    (hf : DataW.trod enc Try.prog W 0 (fun _ => true) true fuel 28 l = some (d, p)) (hw : ∀ n ∈ d.weights Try.prog 28, n ≤ reachBytes) : ∃ (b : Bv) (u v : Value), l = [u, v] ∧ Bc W b u v := by
  obtain ⟨xs, n, rfl, hx, hcl, hlen, hel⟩ := DataW.trod_struct Try.underlying28 hf
  obtain ⟨y0, y1, rfl⟩ := li2 (l := xs) hlen
  have k0 : DataW.trod enc Try.prog W 0 (fun _ => true) true n 25 ((l.drop 0).take (Try.prog.cellsOf 25)) = some y0 := hel 0 _ rfl
  have k1 : DataW.trod enc Try.prog W 0 (fun _ => true) true n 26 ((l.drop 1).take (Try.prog.cellsOf 26)) = some y1 := hel 1 _ rfl
  clear hf hel
  rw [cSI] at k1
  obtain ⟨pc, e0, _, w0⟩ := DataW.trod_int Try.underlying25 k0
  rw [cU3] at e0
  have e0 := cut1 e0
  obtain ⟨sa, sn, sc, e1, q1⟩ := slice1 Try.underlying26 k1
  rw [q1] at k1
  obtain ⟨d0, p0⟩ := y0
  obtain ⟨d1, p1⟩ := y1
  obtain ⟨is, I, hc, hh⟩ := open_ins k1
  have ed : d = .agg [d0, d1] := by injection hx
  subst ed
  have hin : (DataW.weightsEach Try.prog [25, 26] [d0, d1]).all (· ≤ reachBytes) = true := by
    rw [List.all_eq_true]
    intro z hz
    have := hw z (by unfold DataW.weights; rw [Try.underlying28]; exact hz)
    simpa using this
  rw [cBk] at hcl
  have ll : l = [.int .u32 pc, .slice sa sn sc] := by
    obtain ⟨a, b, rfl⟩ := li2 (l := l) hcl
    simp at e0 e1
    rw [e0, e1]
  refine ⟨⟨pc, is⟩, .int .u32 pc, .slice sa sn sc, ll, rfl, bdU w0, sa, sn, sc, rfl, I, ?_⟩
  rcases hh with ⟨_, h⟩ | ⟨el, sp, h, hz⟩
  · rw [h]; decide
  · have := sized_slice hin (j := 1) (t := 26) (e := 45) rfl (by rw [h]; rfl) Try.underlying26
    rw [bIn] at this
    simp only [hz, reachBytes] at this
    omega
theorem cells_two {w : World} {a : Addr} {u v : Value} (h : w.cells? 0 a 2 = some [u, v]) : w.cell? (a.add 0) = some u ∧ w.cell? (a.add 1) = some v := by
  obtain ⟨_, _, hc⟩ := World.cells?_some h
  exact ⟨hc 0 (by omega), hc 1 (by omega)⟩
/-- Cells of type []api.Block, opened. -/
theorem open_blocks {H : Type} {enc : TypeId × Value → H} {W : World} {fuel : Nat} {ao : Option Addr} {len cap : Nat} {d : DataW H} {p : List MemPlace}
    (hf : DataW.trod enc Try.prog W 0 (fun _ => true) true fuel 22 (Value.slice ao len cap).cells.toList = some (d, p)) (hw : ∀ n ∈ d.weights Try.prog 22, n ≤ reachBytes) :
    ∃ bs : List Bv, Bs W ao len bs ∧ (ao = none → cap = 0) ∧ len * 32 ≤ 140737488351232 := by
  rcases Deep.open_slice Try.underlying22 hf with ⟨hcs, hx⟩ | ⟨a, len', cap', m, n, D, Pl, hcs, hb, hl, hm, em, hx, hel⟩
  · simp [Value.cells] at hcs
    obtain ⟨rfl, rfl, rfl⟩ := hcs
    exact ⟨[], ⟨rfl, fun h => absurd h (by omega)⟩, fun _ => rfl, by omega⟩
  · simp [Value.cells] at hcs
    obtain ⟨rfl, rfl, rfl⟩ := hcs
    have em2 : m = cap := by simpa using em
    have ed : d = .slice ((List.range len).map D) ((List.range (m - len)).map fun j => D (len + j)) := by injection hx
    have hwd : d.weights Try.prog 22 = (((List.range len).map D).length + ((List.range (m - len)).map fun j => D (len + j)).length) * Try.prog.bytesOf 28 :: (DataW.weightsAll Try.prog 28 ((List.range len).map D) ++ DataW.weightsAll Try.prog 28 ((List.range (m - len)).map fun j => D (len + j))) := by
      rw [ed]
      unfold DataW.weights
      rw [Try.underlying22]
    have hex : ∀ i, i < len → ∃ q : Bv, ∃ u v, W.cell? (a.add (i * 2)) = some u ∧ W.cell? (a.add (i * 2 + 1)) = some v ∧ Bc W q u v := fun i hi => by
      obtain ⟨cs', hc, ht⟩ := hel i (by omega)
      obtain ⟨q, u, v, rfl, bc⟩ := block_cells ht (fun z hz => hw z (by rw [hwd]; exact List.mem_cons_of_mem _ (List.mem_append.2 (.inl (mem_all (List.mem_map.2 ⟨i, List.mem_range.2 hi, rfl⟩) z hz)))))
      rw [cBk] at hc
      obtain ⟨h0, h1⟩ := cells_two hc
      rw [Deep.add_add] at h0 h1
      exact ⟨q, u, v, by simpa using h0, h1, bc⟩
    obtain ⟨f, hf2⟩ := @Deep.choose_lt Bv ⟨⟨0, []⟩⟩ len _ hex
    refine ⟨(List.range len).map f, ⟨by simp, fun hn => ?_⟩, fun e => (by cases e), ?_⟩
    · obtain ⟨b, o, s⟩ := a
      obtain ⟨u0, v0, c0, _⟩ := hf2 0 hn
      have hs : s = none := spot_none (by simpa using c0)
      subst hs
      have hb : b < W.heap.size := by simpa [Addr.add] using World.block_lt_of_cell? W _ c0
      refine ⟨b, o, rfl, hb, fun i h hi => ?_⟩
      rw [List.getElem?_map] at hi
      by_cases hl2 : i < len
      · rw [List.getElem?_eq_getElem (by simpa using hl2)] at hi
        simp at hi
        subst hi
        obtain ⟨u, v, h0, h1, h2⟩ := hf2 i hl2
        rw [add_at] at h0 h1
        exact ⟨u, v, h0, by rw [Nat.add_assoc]; exact h1, h2⟩
      · rw [List.getElem?_eq_none (by simp; omega)] at hi
        cases hi
    · have := hw _ (by rw [hwd]; exact List.mem_cons_self)
      rw [byBk] at this
      simp only [List.length_map, List.length_range, reachBytes] at this
      omega
/-- A cache that is handed in. -/
structure Cg (W : World) (v : Value) (room : Int) (ao : Option Addr) (n cap : Nat) (pu sl : Int) (bs : List Bv) : Prop where
  eq : v = .agg #[.int .i64 room, .slice ao n cap, .int .i64 pu, .int .i64 sl]
  br : I64 room
  bp : I64 pu
  bl : I64 sl
  blocks : Bs W ao n bs
  cap : ao = none → cap = 0
  b : n * 32 ≤ 140737488351232
set_option maxRecDepth 100000 in
theorem open_cache {H : Type} {enc : TypeId × Value → H} {W : World} {base k : Nat} {v : Value} {d : DataW H} {p : List MemPlace} {ts : List TypeId} {ds : List (DataW H)} (hv : Value.okWide Try.prog W .any base 24 v) (h : DataW.Trod enc Try.prog W 0 (fun _ => true) true 24 v d p)
    (hsz : (DataW.weightsEach Try.prog ts ds).all (· ≤ reachBytes) = true) (ht : ts[k]? = some 24) (hd : ds[k]? = some d) : ∃ room ao n cap pu sl bs, Cg W v room ao n cap pu sl bs := by
  obtain ⟨cs, rfl, hcs⟩ := okWide_struct Try.underlying24 hv
  rw [cCa] at hcs
  obtain ⟨l⟩ := cs
  obtain ⟨fuel, hf⟩ := h
  obtain ⟨xs, n, rfl, hx, _, hlen, hel⟩ := DataW.trod_struct Try.underlying24 hf
  obtain ⟨y0, y1, y2, y3, rfl⟩ := li4 (l := xs) hlen
  have k0 : DataW.trod enc Try.prog W 0 (fun _ => true) true n 3 ((l.drop 0).take (Try.prog.cellsOf 3)) = some y0 := hel 0 _ rfl
  have k1 : DataW.trod enc Try.prog W 0 (fun _ => true) true n 22 ((l.drop 1).take (Try.prog.cellsOf 22)) = some y1 := hel 1 _ rfl
  have k2 : DataW.trod enc Try.prog W 0 (fun _ => true) true n 3 ((l.drop 2).take (Try.prog.cellsOf 3)) = some y2 := hel 2 _ rfl
  have k3 : DataW.trod enc Try.prog W 0 (fun _ => true) true n 3 ((l.drop 3).take (Try.prog.cellsOf 3)) = some y3 := hel 3 _ rfl
  clear hf hel hv
  rw [cSB] at k1
  obtain ⟨room, e0, _, w0⟩ := DataW.trod_int Try.underlying3 k0
  obtain ⟨pu, e2, _, w2⟩ := DataW.trod_int Try.underlying3 k2
  obtain ⟨sl, e3, _, w3⟩ := DataW.trod_int Try.underlying3 k3
  rw [cIt] at e0 e2 e3
  have e0 := cut1 e0
  have e2 := cut1 e2
  have e3 := cut1 e3
  obtain ⟨ao, bn, bc, e1, q1⟩ := slice1 Try.underlying22 k1
  rw [q1] at k1
  obtain ⟨d0, p0⟩ := y0
  obtain ⟨d1, p1⟩ := y1
  obtain ⟨d2, p2⟩ := y2
  obtain ⟨d3, p3⟩ := y3
  have ed : d = .agg [d0, d1, d2, d3] := by injection hx
  subst ed
  have hwm := DataW.weights_mem_each (P := Try.prog) ht hd
  have hw1 : ∀ z ∈ d1.weights Try.prog 22, z ≤ reachBytes := fun z hz => by
    have hz2 : z ∈ DataW.weightsEach Try.prog [3, 22, 3, 3] [d0, d1, d2, d3] := DataW.weights_mem_each (j := 1) rfl rfl z hz
    have := List.all_eq_true.1 hsz z (hwm z (by unfold DataW.weights; rw [Try.underlying24]; exact hz2))
    simpa using this
  obtain ⟨bs, B, hc, hb⟩ := open_blocks k1 hw1
  have ll : l = [.int .i64 room, .slice ao bn bc, .int .i64 pu, .int .i64 sl] := by
    obtain ⟨a, b, c, e, rfl⟩ := li4 (l := l) (by simpa using hcs)
    simp at e0 e1 e2 e3
    rw [e0, e1, e2, e3]
  exact ⟨room, ao, bn, bc, pu, sl, bs, by rw [ll], bd64 w0, bd64 w2, bd64 w3, B, hc, hb⟩
end Go.Proofs.Yteipplmmchaboab.Kc
