/-
  A block that is handed in: opened.
-/
import Derived.Test.YteipplmmchaboabMem
import Derived.ProofKit
import Derived.SizedLaws
import Derived.Deep.Slices
namespace Go.Proofs.Yteipplmmchaboab.Ts
open Go.ChangeShapes Go.WideShapes Go.ChangeAt Go.RowKit Mm
set_option linter.unusedVariables false
set_option linter.unusedSimpArgs false

/-- An instruction, whatever it is. -/
structure Iv where
  op : Int
  rd : Int
  r1 : Int
  r2 : Int
  im : Int
def ivL (i : Iv) : List Value := [.int .i64 i.op, .int .i64 i.rd, .int .i64 i.r1, .int .i64 i.r2, .int .i32 i.im]
def I64 (n : Int) : Prop := -9223372036854775808 ≤ n ∧ n ≤ 9223372036854775807
structure Iv.Ok (i : Iv) : Prop where
  op : I64 i.op
  rd : I64 i.rd
  r1 : I64 i.r1
  r2 : I64 i.r2
  im : -2147483648 ≤ i.im ∧ i.im ≤ 2147483647
/-- In world w, the slice at ao of n elements reads as the instructions 'is'. -/
structure Is (w : World) (ao : Option Addr) (n : Nat) (is : List Iv) : Prop where
  len : is.length = n
  ok : ∀ i ∈ is, i.Ok
  spot : 0 < n → ∃ b o, ao = some ⟨b, o, none⟩ ∧ b < w.heap.size ∧ ∀ j i, is[j]? = some i → w.cell? ⟨b, o + j * 5, none⟩ = some (.int .i64 i.op) ∧ w.cell? ⟨b, o + j * 5 + 1, none⟩ = some (.int .i64 i.rd) ∧ w.cell? ⟨b, o + j * 5 + 2, none⟩ = some (.int .i64 i.r1) ∧ w.cell? ⟨b, o + j * 5 + 3, none⟩ = some (.int .i64 i.r2) ∧ w.cell? ⟨b, o + j * 5 + 4, none⟩ = some (.int .i32 i.im)
theorem Is.of {w w' : World} {ao : Option Addr} {n : Nat} {is : List Iv} (h : Is w ao n is) (g : Gr w w') : Is w' ao n is :=
  ⟨h.len, h.ok, fun hn => by
    obtain ⟨b, o, e, hb, hc⟩ := h.spot hn
    refine ⟨b, o, e, Nat.lt_of_lt_of_le hb g.size, fun j i hj => ?_⟩
    obtain ⟨h0, h1, h2, h3, h4⟩ := hc j i hj
    exact ⟨(g.cell _ (by exact hb)).trans h0, (g.cell _ (by exact hb)).trans h1, (g.cell _ (by exact hb)).trans h2, (g.cell _ (by exact hb)).trans h3, (g.cell _ (by exact hb)).trans h4⟩⟩
theorem cIn : Try.prog.cellsOf 45 = 5 := by kernel_rfl
theorem bIn : Try.prog.bytesOf 45 = 40 := by kernel_rfl
theorem cIt : Try.prog.cellsOf 3 = 1 := by kernel_rfl
theorem cI3 : Try.prog.cellsOf 21 = 1 := by kernel_rfl
theorem li5 {α : Type} {l : List α} (h : l.length = 5) : ∃ a b c d e, l = [a, b, c, d, e] := by
  match l, h with
  | [a, b, c, d, e], _ => exact ⟨a, b, c, d, e, rfl⟩
theorem bd64 {n : Int} (h : (Lit.int .i64 n).wf = true) : I64 n := by
  have : -9223372036854775808 ≤ n ∧ n ≤ 9223372036854775807 := by simpa [Lit.wf, IntKind.min, IntKind.max, IntKind.signed, IntKind.bits] using h
  exact this
theorem bd32 {n : Int} (h : (Lit.int .i32 n).wf = true) : -2147483648 ≤ n ∧ n ≤ 2147483647 := by
  simpa [Lit.wf, IntKind.min, IntKind.max, IntKind.signed, IntKind.bits] using h
set_option maxRecDepth 100000 in
theorem ins_cells {H : Type} {enc : TypeId × Value → H} {W : World} {b0 fuel : Nat} {sp : Nat → Bool} {held : Bool} {l : List Value} {x : DataW H × List MemPlace}
    (hf : DataW.trod enc Try.prog W b0 sp held fuel 45 l = some x) : ∃ i : Iv, l = ivL i ∧ i.Ok := by
  obtain ⟨xs, m, rfl, hx, hcl, hlen, hel⟩ := DataW.trod_struct Try.underlying45 hf
  obtain ⟨y0, y1, y2, y3, y4, rfl⟩ := li5 (l := xs) hlen
  have k0 : DataW.trod enc Try.prog W b0 sp held m 3 ((l.drop 0).take (Try.prog.cellsOf 3)) = some y0 := hel 0 _ rfl
  have k1 : DataW.trod enc Try.prog W b0 sp held m 3 ((l.drop 1).take (Try.prog.cellsOf 3)) = some y1 := hel 1 _ rfl
  have k2 : DataW.trod enc Try.prog W b0 sp held m 3 ((l.drop 2).take (Try.prog.cellsOf 3)) = some y2 := hel 2 _ rfl
  have k3 : DataW.trod enc Try.prog W b0 sp held m 3 ((l.drop 3).take (Try.prog.cellsOf 3)) = some y3 := hel 3 _ rfl
  have k4 : DataW.trod enc Try.prog W b0 sp held m 21 ((l.drop 4).take (Try.prog.cellsOf 21)) = some y4 := hel 4 _ rfl
  rw [cIn] at hcl
  obtain ⟨a, b, c, d, e, rfl⟩ := li5 hcl
  obtain ⟨p0, e0, _, w0⟩ := DataW.trod_int Try.underlying3 k0
  obtain ⟨p1, e1, _, w1⟩ := DataW.trod_int Try.underlying3 k1
  obtain ⟨p2, e2, _, w2⟩ := DataW.trod_int Try.underlying3 k2
  obtain ⟨p3, e3, _, w3⟩ := DataW.trod_int Try.underlying3 k3
  obtain ⟨p4, e4, _, w4⟩ := DataW.trod_int Try.underlying21 k4
  rw [cIt] at e0 e1 e2 e3
  rw [cI3] at e4
  simp at e0 e1 e2 e3 e4
  subst e0 e1 e2 e3 e4
  exact ⟨⟨p0, p1, p2, p3, p4⟩, rfl, bd64 w0, bd64 w1, bd64 w2, bd64 w3, bd32 w4⟩
theorem cells_each {w : World} {a : Addr} {n : Nat} {cs : List Value} (h : w.cells? 0 a n = some cs) : cs.length = n ∧ ∀ j, j < n → w.cell? (a.add j) = cs[j]? := by
  obtain ⟨_, hl, hc⟩ := World.cells?_some h
  exact ⟨hl, hc⟩
theorem spot_none {w : World} {a : Addr} {v : Value} (h : w.cell? (a.add 0) = some v) : a.spot = none := by simpa [Addr.add] using World.cell?_spot h
/-- Cells of type []api.Ins, opened. -/
theorem open_ins {H : Type} {enc : TypeId × Value → H} {W : World} {fuel : Nat} {ao : Option Addr} {len cap : Nat} {d : DataW H} {p : List MemPlace}
    (hf : DataW.trod enc Try.prog W 0 (fun _ => true) true fuel 26 (Value.slice ao len cap).cells.toList = some (d, p)) :
    ∃ is : List Iv, Is W ao len is ∧ (ao = none → cap = 0) ∧ (d = .nil ∧ len = 0 ∨ ∃ el sp, d = .slice el sp ∧ el.length = len) := by
  rcases Deep.open_slice Try.underlying26 hf with ⟨hcs, hx⟩ | ⟨a, len', cap', m, n, D, Pl, hcs, hb, hl, hm, em, hx, hel⟩
  · simp [Value.cells] at hcs
    obtain ⟨rfl, rfl, rfl⟩ := hcs
    exact ⟨[], ⟨rfl, fun h hm => (by cases hm), fun h => absurd h (by omega)⟩, fun _ => rfl, .inl ⟨by injection hx, rfl⟩⟩
  · simp [Value.cells] at hcs
    obtain ⟨rfl, rfl, rfl⟩ := hcs
    have em2 : m = cap := by simpa using em
    have hex : ∀ i, i < len → ∃ q : Iv, q.Ok ∧ ∀ j v, (ivL q)[j]? = some v → W.cell? (a.add (i * 5 + j)) = some v := fun i hi => by
      obtain ⟨cs', hc, ht⟩ := hel i (by omega)
      obtain ⟨q, rfl, bd⟩ := ins_cells ht
      rw [cIn] at hc
      obtain ⟨_, hc⟩ := cells_each hc
      refine ⟨q, bd, fun j v hv => ?_⟩
      have hj : j < 5 := (List.getElem?_eq_some_iff.1 hv).1
      have := hc j hj
      rw [Deep.add_add] at this
      rw [this]
      exact hv
    obtain ⟨f, hf2⟩ := @Deep.choose_lt Iv ⟨⟨0, 0, 0, 0, 0⟩⟩ len _ hex
    refine ⟨(List.range len).map f, ⟨by simp, fun h hm => ?_, fun hn => ?_⟩, fun e => (by cases e), .inr ⟨_, _, by injection hx, by simp⟩⟩
    · obtain ⟨i, hi, rfl⟩ := List.mem_map.1 hm
      exact (hf2 i (List.mem_range.1 hi)).1
    · obtain ⟨b, o, s⟩ := a
      have c0 := (hf2 0 hn).2 0 _ rfl
      have hs : s = none := spot_none (by simpa using c0)
      subst hs
      have hb : b < W.heap.size := by simpa [Addr.add] using World.block_lt_of_cell? W _ c0
      refine ⟨b, o, rfl, hb, fun i h hi => ?_⟩
      rw [List.getElem?_map] at hi
      by_cases hl2 : i < len
      · rw [List.getElem?_eq_getElem (by simpa using hl2)] at hi
        simp at hi
        subst hi
        have q := fun j v hv => (hf2 i hl2).2 j v hv
        simp only [add_at] at q
        have q0 := q 0 _ rfl
        have q1 := q 1 _ rfl
        have q2 := q 2 _ rfl
        have q3 := q 3 _ rfl
        have q4 := q 4 _ rfl
        simp only [Nat.add_zero, ← Nat.add_assoc] at q0 q1 q2 q3 q4
        exact ⟨q0, q1, q2, q3, q4⟩
      · rw [List.getElem?_eq_none (by simp; omega)] at hi
        cases hi
theorem cBk : Try.prog.cellsOf 28 = 2 := by kernel_rfl
theorem cU3 : Try.prog.cellsOf 25 = 1 := by kernel_rfl
theorem cSI : Try.prog.cellsOf 26 = 1 := by kernel_rfl
theorem li2 {α : Type} {l : List α} (h : l.length = 2) : ∃ a b, l = [a, b] := by
  match l, h with
  | [a, b], _ => exact ⟨a, b, rfl⟩
theorem cut1 {l : List Value} {k : Nat} {v : Value} (h : (l.drop k).take 1 = [v]) : l[k]? = some v := by
  have := congrArg (fun x => x[0]?) h
  simpa using this
theorem bdU {n : Int} (h : (Lit.int .u32 n).wf = true) : 0 ≤ n ∧ n < 4294967296 := by
  have : 0 ≤ n ∧ n ≤ 4294967295 := by simpa [Lit.wf, IntKind.min, IntKind.max, IntKind.signed, IntKind.bits] using h
  omega
theorem slice1 {H : Type} {enc : TypeId × Value → H} {W : World} {fuel : Nat} {t e : TypeId} {l : List Value} {k : Nat} {x : DataW H × List MemPlace} (hu : Try.prog.underlying t = some (.slice e)) (h : DataW.trod enc Try.prog W 0 (fun _ => true) true fuel t ((l.drop k).take 1) = some x) : ∃ ao n c, l[k]? = some (.slice ao n c) ∧ (l.drop k).take 1 = (Value.slice ao n c).cells.toList := by
  rcases Deep.open_slice hu h with ⟨hcs, _⟩ | ⟨a, len, cap, _, _, _, _, hcs, _⟩
  · exact ⟨none, 0, 0, cut1 hcs, hcs⟩
  · exact ⟨some a, len, cap, cut1 hcs, hcs⟩
/-- A block that is handed in. -/
structure Bg (W : World) (v : Value) (pc : Int) (sa : Option Addr) (sn sc : Nat) (is : List Iv) : Prop where
  eq : v = .agg #[.int .u32 pc, .slice sa sn sc]
  pc0 : 0 ≤ pc
  pc1 : pc < 4294967296
  ins : Is W sa sn is
  cap : sa = none → sc = 0
  b : sn ≤ 140737488351232
set_option maxRecDepth 100000 in
theorem open_block {H : Type} {enc : TypeId × Value → H} {W : World} {base k : Nat} {v : Value} {d : DataW H} {p : List MemPlace} {ts : List TypeId} {ds : List (DataW H)} (hv : Value.okWide Try.prog W .any base 28 v) (h : DataW.Trod enc Try.prog W 0 (fun _ => true) true 28 v d p)
    (hsz : (DataW.weightsEach Try.prog ts ds).all (· ≤ reachBytes) = true) (ht : ts[k]? = some 28) (hd : ds[k]? = some d) : ∃ pc sa sn sc is, Bg W v pc sa sn sc is := by
  obtain ⟨cs, rfl, hcs⟩ := okWide_struct Try.underlying28 hv
  rw [cBk] at hcs
  obtain ⟨l⟩ := cs
  obtain ⟨fuel, hf⟩ := h
  obtain ⟨xs, n, rfl, hx, _, hlen, hel⟩ := DataW.trod_struct Try.underlying28 hf
  obtain ⟨y0, y1, rfl⟩ := li2 (l := xs) hlen
  have k0 : DataW.trod enc Try.prog W 0 (fun _ => true) true n 25 ((l.drop 0).take (Try.prog.cellsOf 25)) = some y0 := hel 0 _ rfl
  have k1 : DataW.trod enc Try.prog W 0 (fun _ => true) true n 26 ((l.drop 1).take (Try.prog.cellsOf 26)) = some y1 := hel 1 _ rfl
  clear hf hel hv
  rw [cSI] at k1
  obtain ⟨pc, e0, _, w0⟩ := DataW.trod_int Try.underlying25 k0
  rw [cU3] at e0
  have e0 := cut1 e0
  obtain ⟨sa, sn, sc, e1, q1⟩ := slice1 Try.underlying26 k1
  rw [q1] at k1
  obtain ⟨d0, p0⟩ := y0
  obtain ⟨d1, p1⟩ := y1
  obtain ⟨is, I, hc, hh⟩ := open_ins k1
  have ed : d = .agg [d0, d1] := by injection hx
  subst ed
  have hw := DataW.weights_mem_each (P := Try.prog) ht hd
  have hin : (DataW.weightsEach Try.prog [25, 26] [d0, d1]).all (· ≤ reachBytes) = true := by
    rw [List.all_eq_true]
    intro z hz
    refine List.all_eq_true.1 hsz z (hw z ?_)
    unfold DataW.weights
    rw [Try.underlying28]
    exact hz
  have ll : l = [.int .u32 pc, .slice sa sn sc] := by
    obtain ⟨a, b, rfl⟩ := li2 (l := l) (by simpa using hcs)
    simp at e0 e1
    rw [e0, e1]
  refine ⟨pc, sa, sn, sc, is, by rw [ll], (bdU w0).1, (bdU w0).2, I, hc, ?_⟩
  rcases hh with ⟨_, h⟩ | ⟨el, sp, h, hz⟩
  · rw [h]; decide
  · have := sized_slice hin (j := 1) (t := 26) (e := 45) rfl (by rw [h]; rfl) Try.underlying26
    rw [bIn] at this
    simp only [hz, reachBytes] at this
    omega
end Go.Proofs.Yteipplmmchaboab.Ts
