/-
  Ma, Mo, El: texts of ours that lie in one file.
-/
import Derived.Test.YtchllaeembmioaaGreatDoorR13
import Derived.ProofKit
import Derived.SizedLaws
import Derived.Deep.Slices
import Derived.Test.YtchllaeembmioaaGreatDoorR17
import Derived.Test.YtchllaeembmioaaGreatDoorR37
set_option linter.unusedVariables false
set_option linter.unusedSimpArgs false
set_option maxHeartbeats 8000000
set_option maxRecDepth 100000
namespace Go.Proofs.YtchllaeembmioaaGreatDoor.Mc
open Go.ChangeShapes Go.WideShapes Go.ChangeAt Go.RowKit Mm Hh

theorem c34 : Tryz.prog.cellsOf 51 = 37 := by kernel_rfl
theorem c32 : Tryz.prog.cellsOf 49 = 32 := by kernel_rfl
theorem c22 : Tryz.prog.cellsOf 42 = 1 := by kernel_rfl
theorem c4 : Tryz.prog.cellsOf 4 = 1 := by kernel_rfl
theorem c3 : Tryz.prog.cellsOf 3 = 1 := by kernel_rfl
theorem list6 {α : Type} {l : List α} (h : l.length = 6) : ∃ a b c d e f, l = [a, b, c, d, e, f] := by
  match l, h with
  | [a, b, c, d, e, f], _ => exact ⟨a, b, c, d, e, f, rfl⟩
theorem cut_one {l : List Value} {k : Nat} {v : Value} (h : (l.drop k).take 1 = [v]) : l[k]? = some v := by
  have := congrArg (fun x => x[0]?) h
  simpa using this
theorem u32_bd {n : Int} (h : (Lit.int .u32 n).wf = true) : 0 ≤ n ∧ n < 4294967296 := by
  have : 0 ≤ n ∧ n ≤ 4294967295 := by simpa [Lit.wf, IntKind.min, IntKind.max, IntKind.signed, IntKind.bits] using h
  omega
theorem hart_cells {H : Type} {enc : TypeId × Value → H} {W : World} {b0 fuel : Nat} {sp : Nat → Bool} {held : Bool} {l : List Value} {x : DataW H × List MemPlace}
    (hf : DataW.trod enc Tryz.prog W b0 sp held fuel 51 l = some x) : ∃ hh : Hv, l = hL hh ∧ hh.Ok := by
  obtain ⟨xs, m, rfl, hx, hcl, hlen, hel⟩ := DataW.trod_struct Tryz.underlying51 hf
  obtain ⟨y0, y1, y2, y3, y4, y5, rfl⟩ := list6 (l := xs) hlen
  clear hf hlen hx
  have k0 : DataW.trod enc Tryz.prog W b0 sp held m 49 ((l.drop 0).take (Tryz.prog.cellsOf 49)) = some y0 := hel 0 _ rfl
  have k1 : DataW.trod enc Tryz.prog W b0 sp held m 42 ((l.drop 32).take (Tryz.prog.cellsOf 42)) = some y1 := hel 1 _ rfl
  have k2 : DataW.trod enc Tryz.prog W b0 sp held m 4 ((l.drop 33).take (Tryz.prog.cellsOf 4)) = some y2 := hel 2 _ rfl
  have k3 : DataW.trod enc Tryz.prog W b0 sp held m 42 ((l.drop 34).take (Tryz.prog.cellsOf 42)) = some y3 := hel 3 _ rfl
  have k4 : DataW.trod enc Tryz.prog W b0 sp held m 3 ((l.drop 35).take (Tryz.prog.cellsOf 3)) = some y4 := hel 4 _ rfl
  have k5 : DataW.trod enc Tryz.prog W b0 sp held m 3 ((l.drop 36).take (Tryz.prog.cellsOf 3)) = some y5 := hel 5 _ rfl
  clear hel
  have hl : l.length = 37 := by rw [hcl, c34]
  obtain ⟨pc, e1, _, w1⟩ := DataW.trod_int Tryz.underlying42 k1
  obtain ⟨hd, e2, _⟩ := DataW.trod_bool Tryz.underlying4 k2
  obtain ⟨ha, e3, _, w3⟩ := DataW.trod_int Tryz.underlying42 k3
  obtain ⟨st, e4, _, _⟩ := DataW.trod_int Tryz.underlying3 k4
  obtain ⟨ca, e5, _, _⟩ := DataW.trod_int Tryz.underlying3 k5
  obtain ⟨zs, m2, rfl, _, _, hzl, hze⟩ := DataW.trod_array Tryz.underlying49 k0
  clear k0 k1 k2 k3 k4 k5
  rw [c22] at e1 e3
  rw [c4] at e2
  rw [c3] at e4 e5
  have q1 := cut_one e1
  have q2 := cut_one e2
  have q3 := cut_one e3
  have q4 := cut_one e4
  have q5 := cut_one e5
  have qr : ∀ i, i < 32 → ∃ n, l[i]? = some (.int .u32 n) ∧ 0 ≤ n ∧ n < 4294967296 := fun i hi => by
    have ki := hze i hi
    rw [List.getElem?_eq_getElem (by omega)] at ki
    obtain ⟨n, en, _, wn⟩ := DataW.trod_int Tryz.underlying42 ki
    rw [c22, c32] at en
    refine ⟨n, ?_, u32_bd wn⟩
    have := congrArg (fun x => x[0]?) en
    simp only [List.getElem?_take, List.getElem?_drop] at this
    rw [if_pos (by omega), if_pos (by omega)] at this
    simpa using this
  clear hze e1 e2 e3 e4 e5
  have qn : ∀ i, i < 32 → l[i]? = some (.int .u32 (intOf (l.getD i undef))) ∧ 0 ≤ intOf (l.getD i undef) ∧ intOf (l.getD i undef) < 4294967296 := fun i hi => by
    obtain ⟨n, en, b⟩ := qr i hi
    simp only [List.getD, en, Option.getD_some, intOf]
    exact ⟨trivial, b⟩
  refine ⟨⟨(List.range 32).map fun i => intOf (l.getD i undef), pc, hd, ha, st, ca⟩, ?_, ?_⟩
  · have : l = hL ⟨(List.range 32).map fun i => intOf (l.getD i undef), pc, hd, ha, st, ca⟩ := by
      apply List.ext_getElem?
      intro i
      unfold hL
      by_cases hi : i < 32
      · rw [List.getElem?_append_left (by simpa using hi), (qn i hi).1]
        simp [hi]
      · rw [List.getElem?_append_right (by simp; omega)]
        simp only [List.length_map, List.length_range]
        by_cases h37 : i < 37
        · have : i = 32 ∨ i = 33 ∨ i = 34 ∨ i = 35 ∨ i = 36 := by omega
          rcases this with rfl | rfl | rfl | rfl | rfl
          · exact q1
          · exact q2
          · exact q3
          · exact q4
          · exact q5
        · rw [List.getElem?_eq_none (by omega), List.getElem?_eq_none (by simp; omega)]
    exact this
  · refine ⟨by simp, fun i => ?_, (u32_bd w1).1, (u32_bd w1).2, (u32_bd w3).1, (u32_bd w3).2⟩
    unfold rg
    simp only [List.getD, List.getElem?_map]
    by_cases hi : i < 32
    · rw [List.getElem?_eq_getElem (by simpa using hi)]
      simp only [List.getElem_range, Option.map_some, Option.getD_some]
      exact (qn i hi).2
    · rw [List.getElem?_eq_none (by simp; omega)]
      simp


theorem c62 : Tryz.prog.cellsOf 53 = 2 := by kernel_rfl
theorem list2 {α : Type} {l : List α} (h : l.length = 2) : ∃ a b, l = [a, b] := by
  match l, h with
  | [a, b], _ => exact ⟨a, b, rfl⟩
theorem i64_bd {n : Int} (h : (Lit.int .i64 n).wf = true) : -9223372036854775808 ≤ n ∧ n ≤ 9223372036854775807 := by
  simpa [Lit.wf, IntKind.min, IntKind.max, IntKind.signed, IntKind.bits] using h
theorem pick_cells {H : Type} {enc : TypeId × Value → H} {W : World} {b0 fuel : Nat} {sp : Nat → Bool} {held : Bool} {l : List Value} {x : DataW H × List MemPlace}
    (hf : DataW.trod enc Tryz.prog W b0 sp held fuel 53 l = some x) : ∃ p : Int × Int, l = [.int .i64 p.1, .int .i64 p.2] ∧ -9223372036854775808 ≤ p.1 ∧ p.1 ≤ 9223372036854775807 ∧ -9223372036854775808 ≤ p.2 ∧ p.2 ≤ 9223372036854775807 := by
  obtain ⟨xs, m, rfl, hx, hcl, hlen, hel⟩ := DataW.trod_struct Tryz.underlying53 hf
  obtain ⟨y0, y1, rfl⟩ := list2 (l := xs) hlen
  have k0 : DataW.trod enc Tryz.prog W b0 sp held m 3 ((l.drop 0).take (Tryz.prog.cellsOf 3)) = some y0 := hel 0 _ rfl
  have k1 : DataW.trod enc Tryz.prog W b0 sp held m 3 ((l.drop 1).take (Tryz.prog.cellsOf 3)) = some y1 := hel 1 _ rfl
  rw [c62] at hcl
  obtain ⟨a, b, rfl⟩ := list2 hcl
  obtain ⟨p, e0, _, w0⟩ := DataW.trod_int Tryz.underlying3 k0
  obtain ⟨q, e1, _, w1⟩ := DataW.trod_int Tryz.underlying3 k1
  rw [c3] at e0 e1
  simp at e0 e1
  subst e0 e1
  exact ⟨(p, q), rfl, (i64_bd w0).1, (i64_bd w0).2, (i64_bd w1).1, (i64_bd w1).2⟩

theorem cells_each {w : World} {a : Addr} {n : Nat} {cs : List Value} (h : w.cells? 0 a n = some cs) : cs.length = n ∧ ∀ j, j < n → w.cell? (a.add j) = cs[j]? := by
  obtain ⟨_, hl, hc⟩ := World.cells?_some h
  exact ⟨hl, hc⟩
theorem spot_none {w : World} {a : Addr} {v : Value} (h : w.cell? (a.add 0) = some v) : a.spot = none := by simpa [Addr.add] using World.cell?_spot h
theorem open_harts {H : Type} {enc : TypeId × Value → H} {W : World} {fuel : Nat} {ao : Option Addr} {len cap : Nat} {d : DataW H} {p : List MemPlace}
    (hf : DataW.trod enc Tryz.prog W 0 (fun _ => true) true fuel 23 (Value.slice ao len cap).cells.toList = some (d, p)) : ∃ hs : List Hv, Hs W ao len hs ∧ (ao = none → cap = 0) ∧ (d = .nil ∧ len = 0 ∨ ∃ el sp, d = .slice el sp ∧ el.length = len) := by
  rcases Deep.open_slice Tryz.underlying23 hf with ⟨hcs, hx⟩ | ⟨a, len', cap', m, n, D, Pl, hcs, hb, hl, hm, em, hx, hel⟩
  · simp [Value.cells] at hcs
    obtain ⟨rfl, rfl, rfl⟩ := hcs
    exact ⟨[], ⟨rfl, fun h hm => (by cases hm), fun h => absurd h (by omega)⟩, fun _ => rfl, .inl ⟨by injection hx, rfl⟩⟩
  · simp [Value.cells] at hcs
    obtain ⟨rfl, rfl, rfl⟩ := hcs
    have em2 : m = cap := by simpa using em
    have hex : ∀ i, i < len → ∃ h : Hv, h.Ok ∧ ∀ j v, (hL h)[j]? = some v → W.cell? (a.add (i * 37 + j)) = some v := fun i hi => by
      obtain ⟨cs', hc, ht⟩ := hel i (by omega)
      obtain ⟨hh, rfl, ok⟩ := hart_cells ht
      rw [c34] at hc
      obtain ⟨_, hc⟩ := cells_each hc
      refine ⟨hh, ok, fun j v hv => ?_⟩
      have hj : j < 37 := by have := (List.getElem?_eq_some_iff.1 hv).1; rwa [hL_len ok] at this
      have := hc j hj
      rw [Deep.add_add] at this
      rw [this]
      exact hv
    obtain ⟨f, hf2⟩ := @Deep.choose_lt Hv ⟨hN⟩ len _ hex
    refine ⟨(List.range len).map f, ⟨by simp, fun h hm => ?_, fun hn => ?_⟩, fun e => (by cases e), .inr ⟨_, _, by injection hx, by simp⟩⟩
    · obtain ⟨i, hi, rfl⟩ := List.mem_map.1 hm
      exact (hf2 i (List.mem_range.1 hi)).1
    · obtain ⟨b, o, s⟩ := a
      have c0 := (hf2 0 hn).2 0 _ (hL_reg (hf2 0 hn).1 (by omega))
      have hs : s = none := spot_none (by simpa using c0)
      subst hs
      have hb : b < W.heap.size := by simpa [Addr.add] using World.block_lt_of_cell? W _ c0
      refine ⟨b, o, rfl, hb, fun i h hi j v hv => ?_⟩
      rw [List.getElem?_map] at hi
      by_cases hl2 : i < len
      · rw [List.getElem?_eq_getElem (by simpa using hl2)] at hi
        simp at hi
        subst hi
        have := (hf2 i hl2).2 j v hv
        rw [add_at] at this
        rw [Nat.add_assoc]
        exact this
      · rw [List.getElem?_eq_none (by simp; omega)] at hi
        cases hi
theorem open_picks {H : Type} {enc : TypeId × Value → H} {W : World} {fuel : Nat} {ao : Option Addr} {len cap : Nat} {d : DataW H} {p : List MemPlace}
    (hf : DataW.trod enc Tryz.prog W 0 (fun _ => true) true fuel 26 (Value.slice ao len cap).cells.toList = some (d, p)) :
    ∃ ps : List (Int × Int), Ps W ao len ps ∧ (ao = none → cap = 0) ∧ (len ≤ cap ∧ cap ≤ maxLen) ∧ (d = .nil ∧ len = 0 ∨ ∃ el sp, d = .slice el sp ∧ el.length = len) ∧ ∀ p ∈ ps, -9223372036854775808 ≤ p.1 ∧ p.1 ≤ 9223372036854775807 ∧ -9223372036854775808 ≤ p.2 ∧ p.2 ≤ 9223372036854775807 := by
  rcases Deep.open_slice Tryz.underlying26 hf with ⟨hcs, hx⟩ | ⟨a, len', cap', m, n, D, Pl, hcs, hb, hl, hm, em, hx, hel⟩
  · simp [Value.cells] at hcs
    obtain ⟨rfl, rfl, rfl⟩ := hcs
    exact ⟨[], ⟨rfl, fun h => absurd h (by omega)⟩, fun _ => rfl, ⟨Nat.le_refl _, Nat.zero_le _⟩, .inl ⟨by injection hx, rfl⟩, fun h hm => (by cases hm)⟩
  · simp [Value.cells] at hcs
    obtain ⟨rfl, rfl, rfl⟩ := hcs
    have em2 : m = cap := by simpa using em
    have hex : ∀ i, i < len → ∃ q : Int × Int, (-9223372036854775808 ≤ q.1 ∧ q.1 ≤ 9223372036854775807 ∧ -9223372036854775808 ≤ q.2 ∧ q.2 ≤ 9223372036854775807) ∧ W.cell? (a.add (i * 2)) = some (.int .i64 q.1) ∧ W.cell? (a.add (i * 2 + 1)) = some (.int .i64 q.2) := fun i hi => by
      obtain ⟨cs', hc, ht⟩ := hel i (by omega)
      obtain ⟨q, rfl, bd⟩ := pick_cells ht
      rw [c62] at hc
      obtain ⟨_, hc⟩ := cells_each hc
      have h0 := hc 0 (by omega)
      have h1 := hc 1 (by omega)
      rw [Deep.add_add] at h0 h1
      exact ⟨q, bd, h0, h1⟩
    obtain ⟨f, hf2⟩ := @Deep.choose_lt (Int × Int) ⟨(0, 0)⟩ len _ hex
    refine ⟨(List.range len).map f, ⟨by simp, fun hn => ?_⟩, fun e => (by cases e), ⟨hl, hm⟩, .inr ⟨_, _, by injection hx, by simp⟩, fun h hm => ?_⟩
    · obtain ⟨b, o, s⟩ := a
      have c0 := (hf2 0 hn).2.1
      have hs : s = none := spot_none (by simpa using c0)
      subst hs
      have hb : b < W.heap.size := by simpa [Addr.add] using World.block_lt_of_cell? W _ c0
      refine ⟨b, o, rfl, hb, fun i h hi => ?_⟩
      rw [List.getElem?_map] at hi
      by_cases hl2 : i < len
      · rw [List.getElem?_eq_getElem (by simpa using hl2)] at hi
        simp at hi
        subst hi
        obtain ⟨_, q0, q1⟩ := hf2 i hl2
        rw [add_at] at q0 q1
        exact ⟨q0, by rw [Nat.add_assoc]; exact q1⟩
      · rw [List.getElem?_eq_none (by simp; omega)] at hi
        cases hi
    · obtain ⟨i, hi, rfl⟩ := List.mem_map.1 hm
      exact (hf2 i (List.mem_range.1 hi)).1
end Go.Proofs.YtchllaeembmioaaGreatDoor.Mc
namespace Go.Proofs.YtchllaeembmioaaGreatDoor.Mc
open Go.ChangeShapes Go.WideShapes Go.ChangeAt Go.RowKit Mm Hh

theorem cM : Tryz.prog.cellsOf 25 = 2 := by kernel_rfl
theorem cB : Tryz.prog.cellsOf 22 = 1 := by kernel_rfl
theorem cH : Tryz.prog.cellsOf 23 = 1 := by kernel_rfl
theorem byH : Tryz.prog.bytesOf 51 = 160 := by kernel_rfl
theorem byP : Tryz.prog.bytesOf 53 = 16 := by kernel_rfl
structure Mg (W : World) (v : Value) (ma : Option Addr) (mn mc : Nat) (ha : Option Addr) (hn hc : Nat) (m : List UInt8) (hs : List Hv) : Prop where
  eq : v = .agg #[.slice ma mn mc, .slice ha hn hc]
  mem : Mem W ma mn m
  cap : ma = none → mc = 0
  harts : Hs W ha hn hs
  b1 : mn ≤ 140737488351232
  b2 : hn ≤ 140737488351232
theorem one_slice {H : Type} {enc : TypeId × Value → H} {W : World} {fuel : Nat} {t e : TypeId} {l : List Value} {k : Nat} {x : DataW H × List MemPlace} (hu : Tryz.prog.underlying t = some (.slice e)) (h : DataW.trod enc Tryz.prog W 0 (fun _ => true) true fuel t ((l.drop k).take 1) = some x) : ∃ ao n c, l[k]? = some (.slice ao n c) ∧ (l.drop k).take 1 = (Value.slice ao n c).cells.toList := by
  rcases Deep.open_slice hu h with ⟨hcs, _⟩ | ⟨a, len, cap, _, _, _, _, hcs, _⟩
  · exact ⟨none, 0, 0, cut_one hcs, hcs⟩
  · exact ⟨some a, len, cap, cut_one hcs, hcs⟩
theorem mem_cap {H : Type} {enc : TypeId × Value → H} {W : World} {fuel : Nat} {ao : Option Addr} {len cap : Nat} {d : DataW H} {p : List MemPlace}
    (hf : DataW.trod enc Tryz.prog W 0 (fun _ => true) true fuel 22 (Value.slice ao len cap).cells.toList = some (d, p)) : ao = none → cap = 0 := by
  rcases open_ints Tryz.underlying22 Tryz.underlying5 cells5 hf with ⟨hcs, _⟩ | ⟨a, len', cap', zs, hcs, _⟩
  · simp [Value.cells] at hcs
    exact fun _ => hcs.2.2
  · simp [Value.cells] at hcs
    intro h
    rw [h] at hcs
    cases hcs.1
theorem open_machine {H : Type} {enc : TypeId × Value → H} {W : World} {base : Nat} {v : Value} {d : DataW H} {p : List MemPlace} {ts : List TypeId} {ds : List (DataW H)} (hv : Value.okWide Tryz.prog W .any base 25 v) (h : DataW.Trod enc Tryz.prog W 0 (fun _ => true) true 25 v d p)
    (hsz : (DataW.weightsEach Tryz.prog ts ds).all (· ≤ reachBytes) = true) (ht : ts[0]? = some 25) (hd : ds[0]? = some d) : ∃ ma mn mc ha hn hc m hs, Mg W v ma mn mc ha hn hc m hs := by
  obtain ⟨cs, rfl, hcs⟩ := okWide_struct Tryz.underlying25 hv
  rw [cM] at hcs
  obtain ⟨l⟩ := cs
  obtain ⟨fuel, hf⟩ := h
  obtain ⟨xs, n, rfl, hx, _, hlen, hel⟩ := DataW.trod_struct Tryz.underlying25 hf
  obtain ⟨y0, y1, rfl⟩ := list2 (l := xs) hlen
  have k0 : DataW.trod enc Tryz.prog W 0 (fun _ => true) true n 22 ((l.drop 0).take (Tryz.prog.cellsOf 22)) = some y0 := hel 0 _ rfl
  have k1 : DataW.trod enc Tryz.prog W 0 (fun _ => true) true n 23 ((l.drop 1).take (Tryz.prog.cellsOf 23)) = some y1 := hel 1 _ rfl
  clear hf hel hv
  rw [cB] at k0
  rw [cH] at k1
  obtain ⟨ma, mn, mc, e0, q0⟩ := one_slice Tryz.underlying22 k0
  obtain ⟨ha, hn, hc, e1, q1⟩ := one_slice Tryz.underlying23 k1
  rw [q0] at k0
  rw [q1] at k1
  obtain ⟨d0, p0⟩ := y0
  obtain ⟨d1, p1⟩ := y1
  obtain ⟨m, M, hm⟩ := open_mem k0
  obtain ⟨hs, H2, _, hh⟩ := open_harts k1
  have ed : d = .agg [d0, d1] := by injection hx
  subst ed
  have hw := DataW.weights_mem_each (P := Tryz.prog) ht hd
  have hin : (DataW.weightsEach Tryz.prog [22, 23] [d0, d1]).all (· ≤ reachBytes) = true := by
    rw [List.all_eq_true]
    intro z hz
    refine List.all_eq_true.1 hsz z (hw z ?_)
    unfold DataW.weights
    rw [Tryz.underlying25]
    exact hz
  have ll : l = [.slice ma mn mc, .slice ha hn hc] := by
    obtain ⟨a, b, rfl⟩ := list2 (l := l) (by simpa using hcs)
    simp at e0 e1
    rw [e0, e1]
  refine ⟨ma, mn, mc, ha, hn, hc, m, hs, by rw [ll], M, mem_cap k0, H2, ?_, ?_⟩
  · rcases hm with ⟨_, h⟩ | ⟨zs, sp, h, hz⟩
    · rw [h]; decide
    · have := sized_slice hin (j := 0) (t := 22) (e := 5) rfl (by rw [h]; rfl) Tryz.underlying22
      rw [bytes5] at this
      simp only [lits, List.length_map, hz, reachBytes] at this
      omega
  · rcases hh with ⟨_, h⟩ | ⟨zs, sp, h, hz⟩
    · rw [h]; decide
    · have := sized_slice hin (j := 1) (t := 23) (e := 51) rfl (by rw [h]; rfl) Tryz.underlying23
      rw [byH] at this
      simp only [hz, reachBytes] at this
      omega
theorem open_script {H : Type} {enc : TypeId × Value → H} {W : World} {base : Nat} {v : Value} {d : DataW H} {p : List MemPlace} {ts : List TypeId} {ds : List (DataW H)} (hv : Value.okWide Tryz.prog W .any base 26 v) (h : DataW.Trod enc Tryz.prog W 0 (fun _ => true) true 26 v d p)
    (hsz : (DataW.weightsEach Tryz.prog ts ds).all (· ≤ reachBytes) = true) (j : Nat) (ht : ts[j]? = some 26) (hd : ds[j]? = some d) : ∃ pa pn pc ps, v = .slice pa pn pc ∧ Ps W pa pn ps ∧ (pa = none → pc = 0) ∧ pn ≤ pc ∧ pc ≤ maxLen ∧ pn ≤ 8796093022208 ∧ (d = .nil ∧ pn = 0 ∨ ∃ el sp, d = .slice el sp ∧ el.length = pn) := by
  obtain ⟨pa, pn, pc, rfl⟩ := okWide_slice Tryz.underlying26 hv
  obtain ⟨fa, hfa⟩ := h
  obtain ⟨ps, P, c0, ⟨c1, c2⟩, hd2, _⟩ := open_picks hfa
  refine ⟨pa, pn, pc, ps, rfl, P, c0, c1, c2, ?_, hd2⟩
  rcases hd2 with ⟨_, h⟩ | ⟨zs, sp, h, hz⟩
  · omega
  · have := sized_slice hsz (j := j) (t := 26) (e := 53) ht (by rw [hd, h]) Tryz.underlying26
    rw [byP] at this
    simp only [hz, reachBytes] at this
    omega
end Go.Proofs.YtchllaeembmioaaGreatDoor.Mc
namespace Go.Proofs.YtchllaeembmioaaGreatDoor.En
open Go.ChangeShapes Go.WideShapes Go.ChangeAt Go.RowKit Mm Hh Hc Mc

theorem gRows : Tryz.prog.globalNamed "ferrybridge/micro.rows" = some 3 := by kernel_rfl
theorem tRows : (Tryz.prog.globals[3]?).map (·.type) = some 198 := by kernel_rfl
theorem lookRows : (List.range 33).map (Dw.look Tryz.prog 5 198 (Rows.laid_ferrybridge_micro_rows (H := Unit))) = Mp.rowsL.map fun n => some (.int .i64 n) := by kernel_rfl
def laidE {H : Type} : List (String × DataW H) := [("ferrybridge/decode.shapes", Rows.laid_ferrybridge_decode_shapes), ("ferrybridge/decode.uppers", Rows.laid_ferrybridge_decode_uppers), ("ferrybridge/trans.operations", Rows.laid_ferrybridge_trans_operations), ("ferrybridge/hart.sizes", Rows.laid_ferrybridge_hart_sizes), ("ferrybridge/hart.operations", Rows.laid_ferrybridge_hart_operations), ("ferrybridge/micro.rows", Rows.laid_ferrybridge_micro_rows)]
theorem tall_of_laid {W : World} (h : laidMetH Tryz.prog [("ferrybridge/decode.shapes", Rows.laid_ferrybridge_decode_shapes), ("ferrybridge/decode.uppers", Rows.laid_ferrybridge_decode_uppers), ("ferrybridge/trans.operations", Rows.laid_ferrybridge_trans_operations), ("ferrybridge/hart.sizes", Rows.laid_ferrybridge_hart_sizes), ("ferrybridge/hart.operations", Rows.laid_ferrybridge_hart_operations), ("ferrybridge/micro.rows", Rows.laid_ferrybridge_micro_rows)] W) : Tall W.heap.size W := by
  rw [MakeChecks.laidMetH_plain _ _ _ (by kernel_rfl)] at h
  obtain ⟨ps, ⟨g0, t0, cs0, f0, p0, q0, hg0, ht0, hv0, hd0, ⟨g1, t1, cs1, f1, p1, q1, hg1, ht1, hv1, hd1, ⟨g2, t2, cs2, f2, p2, q2, hg2, ht2, hv2, hd2, ⟨g3, t3, cs3, f3, p3, q3, hg3, ht3, hv3, hd3, ⟨g4, t4, cs4, f4, p4, q4, hg4, ht4, hv4, hd4, ⟨g5, t5, cs5, f5, p5, q5, hg5, ht5, hv5, hd5, _, _⟩, _⟩, _⟩, _⟩, _⟩, _⟩, _, _⟩ := h
  obtain rfl := Option.some.inj (Dw.gShapes.symm.trans hg0)
  obtain rfl := Option.some.inj (Dw.gUppers.symm.trans hg1)
  obtain rfl := Option.some.inj (Ts.gOpers.symm.trans hg2)
  obtain rfl := Option.some.inj (Hc.gSizes.symm.trans hg3)
  obtain rfl := Option.some.inj (Hc.gOpers.symm.trans hg4)
  obtain rfl := Option.some.inj (gRows.symm.trans hg5)
  obtain rfl := Option.some.inj (Dw.tShapes.symm.trans ht0)
  obtain rfl := Option.some.inj (Dw.tUppers.symm.trans ht1)
  obtain rfl := Option.some.inj (Ts.tOpers.symm.trans ht2)
  obtain rfl := Option.some.inj (Hc.tSizes.symm.trans ht3)
  obtain rfl := Option.some.inj (Hc.tOpers.symm.trans ht4)
  obtain rfl := Option.some.inj (tRows.symm.trans ht5)
  have T : Dw.Tab W := by
    refine ⟨fun i v hi => ?_, fun i n hi => ?_⟩
    · have := Dw.look_cell 5 hd0 (Dw.look_of Dw.lookShapes hi)
      rw [World.var?_cell hg0 hv0 i]; simpa using this
    · have := Dw.look_cell 3 hd1 (Dw.look_of (l := Dc.uppers.map fun n => .int .u32 n) (i := i) (v := .int .u32 n) (by rw [Dw.lookUppers]; simp [Function.comp_def]) (by simp [hi]))
      rw [World.var?_cell hg1 hv1 i]; simpa using this
  have Q : ∀ i n, Ts.opersL[i]? = some n → W.cell? ⟨2, i, none⟩ = some (.int .i64 n) := fun i n hi => by
    have := Dw.look_cell 3 hd2 (Dw.look_of (l := Ts.opersL.map fun n => .int .i64 n) (i := i) (v := .int .i64 n) (by rw [Ts.lookOpersT]; simp [Function.comp_def]) (by simp [hi]))
    rw [World.var?_cell hg2 hv2 i]; simpa using this
  have S : ∀ i n, Hc.sizesL[i]? = some n → W.cell? ⟨4, i, none⟩ = some (.int .u32 n) := fun i n hi => by
    have := Dw.look_cell 3 hd3 (Dw.look_of (l := Hc.sizesL.map fun n => .int .u32 n) (i := i) (v := .int .u32 n) (by rw [Hc.lookSizes]; simp [Function.comp_def]) (by simp [hi]))
    rw [World.var?_cell hg3 hv3 i]; simpa using this
  have O : ∀ i n, Hc.opersL[i]? = some n → W.cell? ⟨1, i, none⟩ = some (.int .i64 n) := fun i n hi => by
    have := Dw.look_cell 3 hd4 (Dw.look_of (l := Hc.opersL.map fun n => .int .i64 n) (i := i) (v := .int .i64 n) (by rw [Hc.lookOpers]; simp [Function.comp_def]) (by simp [hi]))
    rw [World.var?_cell hg4 hv4 i]; simpa using this
  have R : ∀ i n, Mp.rowsL[i]? = some n → W.cell? ⟨3, i, none⟩ = some (.int .i64 n) := fun i n hi => by
    have := Dw.look_cell 5 hd5 (Dw.look_of (l := Mp.rowsL.map fun n => .int .i64 n) (i := i) (v := .int .i64 n) (by rw [lookRows]; simp [Function.comp_def]) (by simp [hi]))
    rw [World.var?_cell hg5 hv5 i]; simpa using this
  have hs := Dw.lt_of_cell (S 0 _ rfl)
  have hr := Dw.lt_of_cell (R 0 _ rfl)
  exact ⟨⟨T, ⟨S, O, hs, Dw.lt_of_cell (O 0 _ rfl)⟩, Dw.lt_of_cell (T.shapes 0 _ rfl), Dw.lt_of_cell (T.uppers 0 _ rfl)⟩, ⟨R, hr⟩, hr, ⟨S, hs⟩, Q, Dw.lt_of_cell (Q 0 _ rfl)⟩
theorem doorE (os : Os) (args : Array Value) : laidMetH Tryz.prog laidE ((World.doorLaid Tryz.prog 400 os).forCall (fun _ _ => 0) ⟨#[], args, []⟩).memory :=
  laidMetH_of_parts3 (fuel := 8) (laidMet_of_run' 8 (by kernel_rfl) (by kernel_rfl)) (by kernel_rfl) (by kernel_rfl)
theorem room_of {room : Int} (h : ¬ (0 ≤ room ∧ room ≤ 64)) : room < 0 ∨ ¬ room < 0 ∧ 64 < room := by omega
end Go.Proofs.YtchllaeembmioaaGreatDoor.En
