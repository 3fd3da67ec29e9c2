/-
  Mo: texts of ours that lie in one file.
-/
import Derived.Test.YtdiofidmlgliiaaDoorK09
import Derived.Test.YtdiofidmlgliiaaDoorMemArgs
/-
  A machine and a script that are handed in, opened; how many harts, bytes and picks there can be.
-/
namespace Go.Proofs.YtdiofidmlgliiaaDoor.Mc
open Go.ChangeShapes Go.WideShapes Go.ChangeAt Go.RowKit Mm Hh
set_option linter.unusedVariables false
set_option linter.unusedSimpArgs false

variable {H : Type} {enc : TypeId × Value → H} {W : World} {fuel base : Nat} {d : DataW H} {p : List MemPlace} {v : Value} {ts : List TypeId} {ds : List (DataW H)}
theorem cM : Tryd.prog.cellsOf 34 = 2 := by kernel_rfl
theorem cB : Tryd.prog.cellsOf 31 = 1 := by kernel_rfl
theorem cH : Tryd.prog.cellsOf 32 = 1 := by kernel_rfl
theorem byH : Tryd.prog.bytesOf 70 = 160 := by kernel_rfl
theorem byP : Tryd.prog.bytesOf 56 = 16 := by kernel_rfl
/-- A machine that is handed in. -/
structure Mg (W : World) (v : Value) (ma : Option Addr) (mn mc : Nat) (ha : Option Addr) (hn hc : Nat) (m : List UInt8) (hs : List Hv) : Prop where
  eq : v = .agg #[.slice ma mn mc, .slice ha hn hc]
  mem : Mem W ma mn m
  cap : ma = none → mc = 0
  harts : Hs W ha hn hs
  b1 : mn ≤ 140737488351232
  b2 : hn ≤ 140737488351232
theorem one_slice {t e : TypeId} {l : List Value} {k : Nat} {x : DataW H × List MemPlace} (hu : Tryd.prog.underlying t = some (.slice e)) (h : DataW.trod enc Tryd.prog W 0 (fun _ => true) true fuel t ((l.drop k).take 1) = some x) : ∃ ao n c, l[k]? = some (.slice ao n c) ∧ (l.drop k).take 1 = (Value.slice ao n c).cells.toList := by
  rcases Deep.open_slice hu h with ⟨hcs, _⟩ | ⟨a, len, cap, _, _, _, _, hcs, _⟩
  · exact ⟨none, 0, 0, cut_one hcs, hcs⟩
  · exact ⟨some a, len, cap, cut_one hcs, hcs⟩
theorem mem_cap {ao : Option Addr} {len cap : Nat}
    (hf : DataW.trod enc Tryd.prog W 0 (fun _ => true) true fuel 31 (Value.slice ao len cap).cells.toList = some (d, p)) : ao = none → cap = 0 := by
  rcases open_ints Tryd.underlying31 Tryd.underlying5 cells5 hf with ⟨hcs, _⟩ | ⟨a, len', cap', zs, hcs, _⟩
  · simp [Value.cells] at hcs
    exact fun _ => hcs.2.2
  · simp [Value.cells] at hcs
    intro h
    rw [h] at hcs
    cases hcs.1
set_option maxRecDepth 100000 in
theorem open_machine (hv : Value.okWide Tryd.prog W .any base 34 v) (h : DataW.Trod enc Tryd.prog W 0 (fun _ => true) true 34 v d p)
    (hsz : (DataW.weightsEach Tryd.prog ts ds).all (· ≤ reachBytes) = true) (ht : ts[0]? = some 34) (hd : ds[0]? = some d) : ∃ ma mn mc ha hn hc m hs, Mg W v ma mn mc ha hn hc m hs := by
  obtain ⟨cs, rfl, hcs⟩ := okWide_struct Tryd.underlying34 hv
  rw [cM] at hcs
  obtain ⟨l⟩ := cs
  obtain ⟨fuel, hf⟩ := h
  obtain ⟨xs, n, rfl, hx, _, hlen, hel⟩ := DataW.trod_struct Tryd.underlying34 hf
  obtain ⟨y0, y1, rfl⟩ := list2 (l := xs) hlen
  have k0 : DataW.trod enc Tryd.prog W 0 (fun _ => true) true n 31 ((l.drop 0).take (Tryd.prog.cellsOf 31)) = some y0 := hel 0 _ rfl
  have k1 : DataW.trod enc Tryd.prog W 0 (fun _ => true) true n 32 ((l.drop 1).take (Tryd.prog.cellsOf 32)) = some y1 := hel 1 _ rfl
  clear hf hel hv
  rw [cB] at k0
  rw [cH] at k1
  obtain ⟨ma, mn, mc, e0, q0⟩ := one_slice Tryd.underlying31 k0
  obtain ⟨ha, hn, hc, e1, q1⟩ := one_slice Tryd.underlying32 k1
  rw [q0] at k0
  rw [q1] at k1
  obtain ⟨d0, p0⟩ := y0
  obtain ⟨d1, p1⟩ := y1
  obtain ⟨m, M, hm⟩ := open_mem k0
  obtain ⟨hs, H2, _, hh⟩ := open_harts k1
  have ed : d = .agg [d0, d1] := by injection hx
  subst ed
  have hw := DataW.weights_mem_each (P := Tryd.prog) ht hd
  have hin : (DataW.weightsEach Tryd.prog [31, 32] [d0, d1]).all (· ≤ reachBytes) = true := by
    rw [List.all_eq_true]
    intro z hz
    refine List.all_eq_true.1 hsz z (hw z ?_)
    unfold DataW.weights
    rw [Tryd.underlying34]
    exact hz
  have ll : l = [.slice ma mn mc, .slice ha hn hc] := by
    obtain ⟨a, b, rfl⟩ := list2 (l := l) (by simpa using hcs)
    simp at e0 e1
    rw [e0, e1]
  refine ⟨ma, mn, mc, ha, hn, hc, m, hs, by rw [ll], M, mem_cap k0, H2, ?_, ?_⟩
  · rcases hm with ⟨_, h⟩ | ⟨zs, sp, h, hz⟩
    · rw [h]; decide
    · have := sized_slice hin (j := 0) (t := 31) (e := 5) rfl (by rw [h]; rfl) Tryd.underlying31
      rw [bytes5] at this
      simp only [lits, List.length_map, hz, reachBytes] at this
      omega
  · rcases hh with ⟨_, h⟩ | ⟨zs, sp, h, hz⟩
    · rw [h]; decide
    · have := sized_slice hin (j := 1) (t := 32) (e := 70) rfl (by rw [h]; rfl) Tryd.underlying32
      rw [byH] at this
      simp only [hz, reachBytes] at this
      omega
set_option maxRecDepth 100000 in
/-- A script that is handed in. -/
theorem open_script (hv : Value.okWide Tryd.prog W .any base 35 v) (h : DataW.Trod enc Tryd.prog W 0 (fun _ => true) true 35 v d p)
    (hsz : (DataW.weightsEach Tryd.prog ts ds).all (· ≤ reachBytes) = true) (j : Nat) (ht : ts[j]? = some 35) (hd : ds[j]? = some d) : ∃ pa pn pc ps, v = .slice pa pn pc ∧ Ps W pa pn ps ∧ (pa = none → pc = 0) ∧ pn ≤ pc ∧ pc ≤ maxLen ∧ pn ≤ 8796093022208 ∧ (d = .nil ∧ pn = 0 ∨ ∃ el sp, d = .slice el sp ∧ el.length = pn) := by
  obtain ⟨pa, pn, pc, rfl⟩ := okWide_slice Tryd.underlying35 hv
  obtain ⟨fa, hfa⟩ := h
  obtain ⟨ps, P, c0, ⟨c1, c2⟩, hd2, _⟩ := open_picks hfa
  refine ⟨pa, pn, pc, ps, rfl, P, c0, c1, c2, ?_, hd2⟩
  rcases hd2 with ⟨_, h⟩ | ⟨zs, sp, h, hz⟩
  · omega
  · have := sized_slice hsz (j := j) (t := 35) (e := 56) ht (by rw [hd, h]) Tryd.underlying35
    rw [byP] at this
    simp only [hz, reachBytes] at this
    omega
end Go.Proofs.YtdiofidmlgliiaaDoor.Mc
