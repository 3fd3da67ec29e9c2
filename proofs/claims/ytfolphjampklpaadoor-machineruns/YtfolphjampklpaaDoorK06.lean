/-
  MachineRunsW, Ma, Mo: texts of ours that lie in one file.
-/
import Derived.Test.YtfolphjampklpaaDoorK05
import Derived.Test.YtfolphjampklpaaDoorK01
import Derived.Test.YtfolphjampklpaaDoorHw
import Derived.ProofKit
import Derived.SizedLaws
import Derived.Deep.Slices
import Derived.Test.YtfolphjampklpaaDoorMemArgs
/-
  The walk of the law MachineRuns: of every machine and script it answers true.
-/
namespace Go.Proofs.YtfolphjampklpaaDoor.machineRuns
open Go.ChangeShapes Go.WideShapes Go.ChangeAt Go.RowKit Mm Hh Hc Mc
set_option linter.unusedVariables false
set_option linter.unusedSimpArgs false

theorem zeros (w : World) : Shw w (.agg #[.slice none 0 0, .slice none 0 0, .slice none 0 0, .int .i64 0]) 0 0 ⟨[], [], [], 0⟩ :=
  ⟨none, 0, none, 0, none, 0, rfl, ⟨rfl, fun _ => rfl, fun ad e => by cases e⟩, ⟨rfl, fun h hm => (by cases hm), fun h => absurd h (by omega)⟩, ⟨rfl, fun _ => rfl, fun ad e => by cases e⟩⟩

set_option maxHeartbeats 2000000 in
set_option maxRecDepth 100000 in
theorem walk_no {ma ha pa : Option Addr} {hn pn : Nat} (mc hc pc : Nat) {m : List UInt8} {hs : List Hv} {ps : List (Int × Int)} {w : World} (mn : Nat) (hmn : m.length = mn) (H : Hs w ha hn hs) (P : Ps w pa pn ps) (b1 : mn ≤ 140737488351232) (b2 : hn ≤ 140737488351232) (b3 : pn ≤ 140737488351232) (hno : ¬ wrong m hs ps = 0) :
    Calls Tryd.prog 8 #[.agg #[.slice ma mn mc, .slice ha hn hc], .slice pa pn pc] w fun e w' => e = .returned (.bool true) ∧ Gr w w' := by
  have HWr : Hid (∀ W : World, Gr w W → Calls Tryd.prog 20 #[.agg #[.slice ma mn mc, .slice ha hn hc], .slice pa pn pc] W fun e w' => e = .returned (.int .i64 (wrong m hs ps)) ∧ Gr W w') := fun W G => Wrong_any (fun h o W => rmay_any o W) mc hc pc mn hmn (H.of G) (P.of G) b1 b2 b3
  have HR : Hid (∀ W : World, Gr w W → Calls Tryd.prog 22 #[.agg #[.slice ma mn mc, .slice ha hn hc], .slice pa pn pc] W fun e w' => e = .returned (.tuple #[.agg #[.slice none 0 0, .slice none 0 0, .slice none 0 0, .int .i64 0], .int .i64 (wrong m hs ps)]) ∧ Gr W w') := fun W G => Run_no mc hc pc mn hmn (H.of G) (P.of G) b1 b2 b3 hno
  clear H P hmn
  generalize wrong m hs ps = E at *
  have hE : (E != 0) = true := by simpa using hno
  have hE2 : (E == 0) = false := by simpa using hno
  have hE3 : (E == E) = true := by simp
  clear hno
  go_enter Tryd.func8, Tryd.ntmps8
  go_wp2_with fail
  refine (HWr.out _ ((Gr.refl _).alloc _)).mono ?_
  rintro e w1 ⟨rfl, G1⟩
  have HG1 : Hid (Gr w w1) := ((Gr.refl _).alloc _).trans G1
  have HB : Hid (w1.heap[w.heap.size]? = some (.cells #[.slice ma mn mc, .slice ha hn hc] 48 (0, 0))) := Hr.heap_of_gr G1 (heap_alloc_new w _)
  have x0 : w1.cell? ⟨w.heap.size, 0, none⟩ = some (.slice ma mn mc) := cell_of_row _ _ _ _ _ _ HB.out
  have x1 : w1.cell? ⟨w.heap.size, 1, none⟩ = some (.slice ha hn hc) := cell_of_row _ _ _ _ _ _ HB.out
  have hlt : w.heap.size < w1.heap.size := (Array.getElem?_eq_some_iff.1 HB.out).1
  clear G1 HWr
  go_wp2_with fail
  refine (HR.out _ HG1.out).mono ?_
  rintro e w2 ⟨rfl, G2⟩
  have HG2 : Hid (Gr w w2) := HG1.out.trans G2
  clear G2 HR
  go_wp2_with fail
  refine (Same_w (zeros _) (zeros _) (by decide) (by omega)).mono ?_
  rintro e w3 ⟨rfl, G3⟩
  have HG3 : Hid (Gr w w3) := HG2.out.trans (((Gr.refl _).alloc _).trans G3)
  clear G3
  go_wp2_with fail
  go_ret
  exact ⟨rfl, HG3.out⟩

set_option maxHeartbeats 2000000 in
set_option maxRecDepth 100000 in
theorem walk_yes {ma ha pa : Option Addr} {hn pn : Nat} (mc hc pc : Nat) {m : List UInt8} {hs : List Hv} {ps : List (Int × Int)} {w : World} (mn : Nat) (T : TT w w.heap.size) (M : Mem w ma mn m) (hcap : ma = none → mc = 0) (H : Hs w ha hn hs) (P : Ps w pa pn ps) (hy : wrong m hs ps = 0) :
    Calls Tryd.prog 8 #[.agg #[.slice ma mn mc, .slice ha hn hc], .slice pa pn pc] w fun e w' => e = .returned (.bool true) ∧ Gr w w' := by
  obtain ⟨b1, b2, b4, _, b3, hpk⟩ := wrong_ok hy
  have hml := M.len
  have hl := H.len
  have hpl := P.len
  have HWr : Hid (∀ W : World, Gr w W → Calls Tryd.prog 20 #[.agg #[.slice ma mn mc, .slice ha hn hc], .slice pa pn pc] W fun e w' => e = .returned (.int .i64 0) ∧ Gr W w') := fun W G => (Wrong_any (fun h o W => rmay_any o W) mc hc pc mn hml (H.of G) (P.of G) (by omega) (by omega) (by omega)).mono fun e w' h => ⟨by rw [h.1, hy], h.2⟩
  have HWk : Hid (∀ W : World, Gr w W → Calls Tryd.prog 21 #[.slice pa pn pc] W fun e w' => ∃ z, e = .returned (.int .i64 z) ∧ Gr W w') := fun W G => work_any pc (P.of G) (by omega) (fun p hp => ⟨(hpk p hp).2.2.1, (hpk p hp).2.2.2⟩)
  have HR : Hid (∀ W : World, Gr w W → Calls Tryd.prog 22 #[.agg #[.slice ma mn mc, .slice ha hn hc], .slice pa pn pc] W fun e w' => ∃ v, e = .returned (.tuple #[v, .int .i64 0]) ∧ Shn w' v hn mn (play ⟨hs, m, [], 0⟩ (nums ps)) ∧ Gr W w') := fun W G => Run_yes mc hc pc mn (T.grow G) (M.of G) hcap (H.of G) (P.of G) hy
  have HPl : Hid (∀ W : World, Gr w W → Calls Tryd.prog 24 #[.agg #[.slice ma mn mc, .slice ha hn hc], .slice pa pn pc] W fun e w' => ∃ v, e = .returned v ∧ Shw w' v hn mn (play ⟨hs, m, [], 0⟩ (nums ps)) ∧ Gr W w') := fun W G => Play_any mc hc pc mn (M.of G) hcap (H.of G) (P.of G) hy
  have HFew := (few_nums hy H.ok).1
  have HFO : Hid ((play ⟨hs, m, [], 0⟩ (nums ps)).out.length ≤ 1000000) := by have := HFew.1; have := HFew.2; unfold Hid; omega
  have c4 : hn ≤ 4 := by omega
  clear H P M T hy hcap hl hpl hml b1 b2 b4 b3 hpk HFew
  generalize play ⟨hs, m, [], 0⟩ (nums ps) = S at *
  go_enter Tryd.func8, Tryd.ntmps8
  go_wp2_with fail
  refine (HWr.out _ ((Gr.refl _).alloc _)).mono ?_
  rintro e w1 ⟨rfl, G1⟩
  have HG1 : Hid (Gr w w1) := ((Gr.refl _).alloc _).trans G1
  have HB1 : Hid (w1.heap[w.heap.size]? = some (.cells #[.slice ma mn mc, .slice ha hn hc] 48 (0, 0))) := Hr.heap_of_gr G1 (heap_alloc_new w _)
  clear G1 HWr
  go_wp2_with fail
  refine (HWk.out _ HG1.out).mono ?_
  rintro e w2 ⟨z, rfl, G2⟩
  have HG2 : Hid (Gr w w2) := HG1.out.trans G2
  have HB2 : Hid (w2.heap[w.heap.size]? = some (.cells #[.slice ma mn mc, .slice ha hn hc] 48 (0, 0))) := Hr.heap_of_gr G2 HB1.out
  have x0 : w2.cell? ⟨w.heap.size, 0, none⟩ = some (.slice ma mn mc) := cell_of_row _ _ _ _ _ _ HB2.out
  have x1 : w2.cell? ⟨w.heap.size, 1, none⟩ = some (.slice ha hn hc) := cell_of_row _ _ _ _ _ _ HB2.out
  clear G2 HWk HG1 HB1
  by_cases hz : 3000 < z
  · go_wp2_with fail
    go_ret
    exact ⟨rfl, HG2.out⟩
  · go_wp2_with fail
    refine (HR.out _ HG2.out).mono ?_
    rintro e w3 ⟨v, rfl, S3, G3⟩
    have HS3 : Hid (Shw w3 v hn mn S) := S3.w
    obtain ⟨s1, d1, s2, d2, s3, d3, rfl, _⟩ := S3
    have HG3 : Hid (Gr w w3) := HG2.out.trans G3
    have HB3 : Hid (w3.heap[w.heap.size]? = some (.cells #[.slice ma mn mc, .slice ha hn hc] 48 (0, 0))) := Hr.heap_of_gr G3 HB2.out
    have hlt : w.heap.size < w3.heap.size := (Array.getElem?_eq_some_iff.1 HB3.out).1
    clear x0 x1
    have x0 : w3.cell? ⟨w.heap.size, 0, none⟩ = some (.slice ma mn mc) := cell_of_row _ _ _ _ _ _ HB3.out
    have x1 : w3.cell? ⟨w.heap.size, 1, none⟩ = some (.slice ha hn hc) := cell_of_row _ _ _ _ _ _ HB3.out
    clear G3 HR HG2 HB2
    go_wp2_with fail
    refine (HPl.out _ (HG3.out.alloc _)).mono ?_
    rintro e w4 ⟨v, rfl, S4, G4⟩
    have HS4 : Hid (Shw w4 v hn mn S) := S4
    obtain ⟨t1, f1, t2, f2, t3, f3, rfl, _⟩ := S4
    have HSw : Hid (w4.heap[w3.heap.size]? = some (.cells #[.slice s1 mn d1, .slice s2 hn d2, .slice s3 S.out.length d3, .int .i64 S.steps] 53 (0, 0))) := Hr.heap_of_gr G4 (heap_alloc_new w3 _)
    have HG34 : Hid (Gr w3 w4) := ((Gr.refl _).alloc _).trans G4
    have z0 : w4.cell? ⟨w3.heap.size, 0, none⟩ = some (.slice s1 mn d1) := cell_of_row _ _ _ _ _ _ HSw.out
    have z1 : w4.cell? ⟨w3.heap.size, 1, none⟩ = some (.slice s2 hn d2) := cell_of_row _ _ _ _ _ _ HSw.out
    have z2 : w4.cell? ⟨w3.heap.size, 2, none⟩ = some (.slice s3 S.out.length d3) := cell_of_row _ _ _ _ _ _ HSw.out
    have z3 : w4.cell? ⟨w3.heap.size, 3, none⟩ = some (.int .i64 S.steps) := cell_of_row _ _ _ _ _ _ HSw.out
    have hlt4 : w3.heap.size < w4.heap.size := (Array.getElem?_eq_some_iff.1 HSw.out).1
    clear G4 HPl x0 x1 HB3
    go_wp2_with fail
    refine (Same_w ((HS3.out.of HG34.out).of ((Gr.refl _).alloc _)) (HS4.out.of ((Gr.refl _).alloc _)) HFO.out c4).mono ?_
    rintro e w5 ⟨rfl, G5⟩
    have HG5 : Hid (Gr w w5) := HG3.out.trans (HG34.out.trans (((Gr.refl _).alloc _).trans G5))
    clear G5 z0 z1 z2 z3
    go_wp2_with fail
    go_ret
    exact ⟨rfl, HG5.out⟩
end Go.Proofs.YtfolphjampklpaaDoor.machineRuns
/-
  The cells of a hart, and of harts and picks in slices, that are handed in: opened.
-/
namespace Go.Proofs.YtfolphjampklpaaDoor.Mc
open Go.ChangeShapes Go.WideShapes Go.ChangeAt Go.RowKit Mm Hh
set_option linter.unusedVariables false
set_option linter.unusedSimpArgs false

theorem c34 : Tryd.prog.cellsOf 34 = 37 := by kernel_rfl
theorem c32 : Tryd.prog.cellsOf 32 = 32 := by kernel_rfl
theorem c22 : Tryd.prog.cellsOf 22 = 1 := by kernel_rfl
theorem c4 : Tryd.prog.cellsOf 4 = 1 := by kernel_rfl
theorem c3 : Tryd.prog.cellsOf 3 = 1 := by kernel_rfl
theorem list6 {α : Type} {l : List α} (h : l.length = 6) : ∃ a b c d e f, l = [a, b, c, d, e, f] := by
  match l, h with
  | [a, b, c, d, e, f], _ => exact ⟨a, b, c, d, e, f, rfl⟩
theorem cut_one {l : List Value} {k : Nat} {v : Value} (h : (l.drop k).take 1 = [v]) : l[k]? = some v := by
  have := congrArg (fun x => x[0]?) h
  simpa using this
theorem u32_bd {n : Int} (h : (Lit.int .u32 n).wf = true) : 0 ≤ n ∧ n < 4294967296 := by
  have : 0 ≤ n ∧ n ≤ 4294967295 := by simpa [Lit.wf, IntKind.min, IntKind.max, IntKind.signed, IntKind.bits] using h
  omega
set_option maxRecDepth 100000 in
theorem hart_cells {H : Type} {enc : TypeId × Value → H} {W : World} {b0 fuel : Nat} {sp : Nat → Bool} {held : Bool} {l : List Value} {x : DataW H × List MemPlace}
    (hf : DataW.trod enc Tryd.prog W b0 sp held fuel 34 l = some x) : ∃ hh : Hv, l = hL hh ∧ hh.Ok := by
  obtain ⟨xs, m, rfl, hx, hcl, hlen, hel⟩ := DataW.trod_struct Tryd.underlying34 hf
  obtain ⟨y0, y1, y2, y3, y4, y5, rfl⟩ := list6 (l := xs) hlen
  clear hf hlen hx
  have k0 : DataW.trod enc Tryd.prog W b0 sp held m 32 ((l.drop 0).take (Tryd.prog.cellsOf 32)) = some y0 := hel 0 _ rfl
  have k1 : DataW.trod enc Tryd.prog W b0 sp held m 22 ((l.drop 32).take (Tryd.prog.cellsOf 22)) = some y1 := hel 1 _ rfl
  have k2 : DataW.trod enc Tryd.prog W b0 sp held m 4 ((l.drop 33).take (Tryd.prog.cellsOf 4)) = some y2 := hel 2 _ rfl
  have k3 : DataW.trod enc Tryd.prog W b0 sp held m 22 ((l.drop 34).take (Tryd.prog.cellsOf 22)) = some y3 := hel 3 _ rfl
  have k4 : DataW.trod enc Tryd.prog W b0 sp held m 3 ((l.drop 35).take (Tryd.prog.cellsOf 3)) = some y4 := hel 4 _ rfl
  have k5 : DataW.trod enc Tryd.prog W b0 sp held m 3 ((l.drop 36).take (Tryd.prog.cellsOf 3)) = some y5 := hel 5 _ rfl
  clear hel
  have hl : l.length = 37 := by rw [hcl, c34]
  obtain ⟨pc, e1, _, w1⟩ := DataW.trod_int Tryd.underlying22 k1
  obtain ⟨hd, e2, _⟩ := DataW.trod_bool Tryd.underlying4 k2
  obtain ⟨ha, e3, _, w3⟩ := DataW.trod_int Tryd.underlying22 k3
  obtain ⟨st, e4, _, _⟩ := DataW.trod_int Tryd.underlying3 k4
  obtain ⟨ca, e5, _, _⟩ := DataW.trod_int Tryd.underlying3 k5
  obtain ⟨zs, m2, rfl, _, _, hzl, hze⟩ := DataW.trod_array Tryd.underlying32 k0
  clear k0 k1 k2 k3 k4 k5
  rw [c22] at e1 e3
  rw [c4] at e2
  rw [c3] at e4 e5
  have q1 := cut_one e1
  have q2 := cut_one e2
  have q3 := cut_one e3
  have q4 := cut_one e4
  have q5 := cut_one e5
  have qr : ∀ i, i < 32 → ∃ n, l[i]? = some (.int .u32 n) ∧ 0 ≤ n ∧ n < 4294967296 := fun i hi => by
    have ki := hze i hi
    rw [List.getElem?_eq_getElem (by omega)] at ki
    obtain ⟨n, en, _, wn⟩ := DataW.trod_int Tryd.underlying22 ki
    rw [c22, c32] at en
    refine ⟨n, ?_, u32_bd wn⟩
    have := congrArg (fun x => x[0]?) en
    simp only [List.getElem?_take, List.getElem?_drop] at this
    rw [if_pos (by omega), if_pos (by omega)] at this
    simpa using this
  clear hze e1 e2 e3 e4 e5
  have qn : ∀ i, i < 32 → l[i]? = some (.int .u32 (intOf (l.getD i undef))) ∧ 0 ≤ intOf (l.getD i undef) ∧ intOf (l.getD i undef) < 4294967296 := fun i hi => by
    obtain ⟨n, en, b⟩ := qr i hi
    simp only [List.getD, en, Option.getD_some, intOf]
    exact ⟨trivial, b⟩
  refine ⟨⟨(List.range 32).map fun i => intOf (l.getD i undef), pc, hd, ha, st, ca⟩, ?_, ?_⟩
  · have : l = hL ⟨(List.range 32).map fun i => intOf (l.getD i undef), pc, hd, ha, st, ca⟩ := by
      apply List.ext_getElem?
      intro i
      unfold hL
      by_cases hi : i < 32
      · rw [List.getElem?_append_left (by simpa using hi), (qn i hi).1]
        simp [hi]
      · rw [List.getElem?_append_right (by simp; omega)]
        simp only [List.length_map, List.length_range]
        by_cases h37 : i < 37
        · have : i = 32 ∨ i = 33 ∨ i = 34 ∨ i = 35 ∨ i = 36 := by omega
          rcases this with rfl | rfl | rfl | rfl | rfl
          · exact q1
          · exact q2
          · exact q3
          · exact q4
          · exact q5
        · rw [List.getElem?_eq_none (by omega), List.getElem?_eq_none (by simp; omega)]
    exact this
  · refine ⟨by simp, fun i => ?_, (u32_bd w1).1, (u32_bd w1).2, (u32_bd w3).1, (u32_bd w3).2⟩
    unfold rg
    simp only [List.getD, List.getElem?_map]
    by_cases hi : i < 32
    · rw [List.getElem?_eq_getElem (by simpa using hi)]
      simp only [List.getElem_range, Option.map_some, Option.getD_some]
      exact (qn i hi).2
    · rw [List.getElem?_eq_none (by simp; omega)]
      simp


theorem c62 : Tryd.prog.cellsOf 97 = 2 := by kernel_rfl
theorem list2 {α : Type} {l : List α} (h : l.length = 2) : ∃ a b, l = [a, b] := by
  match l, h with
  | [a, b], _ => exact ⟨a, b, rfl⟩
theorem i64_bd {n : Int} (h : (Lit.int .i64 n).wf = true) : -9223372036854775808 ≤ n ∧ n ≤ 9223372036854775807 := by
  simpa [Lit.wf, IntKind.min, IntKind.max, IntKind.signed, IntKind.bits] using h
set_option maxRecDepth 100000 in
theorem pick_cells {H : Type} {enc : TypeId × Value → H} {W : World} {b0 fuel : Nat} {sp : Nat → Bool} {held : Bool} {l : List Value} {x : DataW H × List MemPlace}
    (hf : DataW.trod enc Tryd.prog W b0 sp held fuel 97 l = some x) : ∃ p : Int × Int, l = [.int .i64 p.1, .int .i64 p.2] ∧ -9223372036854775808 ≤ p.1 ∧ p.1 ≤ 9223372036854775807 ∧ -9223372036854775808 ≤ p.2 ∧ p.2 ≤ 9223372036854775807 := by
  obtain ⟨xs, m, rfl, hx, hcl, hlen, hel⟩ := DataW.trod_struct Tryd.underlying97 hf
  obtain ⟨y0, y1, rfl⟩ := list2 (l := xs) hlen
  have k0 : DataW.trod enc Tryd.prog W b0 sp held m 3 ((l.drop 0).take (Tryd.prog.cellsOf 3)) = some y0 := hel 0 _ rfl
  have k1 : DataW.trod enc Tryd.prog W b0 sp held m 3 ((l.drop 1).take (Tryd.prog.cellsOf 3)) = some y1 := hel 1 _ rfl
  rw [c62] at hcl
  obtain ⟨a, b, rfl⟩ := list2 hcl
  obtain ⟨p, e0, _, w0⟩ := DataW.trod_int Tryd.underlying3 k0
  obtain ⟨q, e1, _, w1⟩ := DataW.trod_int Tryd.underlying3 k1
  rw [c3] at e0 e1
  simp at e0 e1
  subst e0 e1
  exact ⟨(p, q), rfl, (i64_bd w0).1, (i64_bd w0).2, (i64_bd w1).1, (i64_bd w1).2⟩

/-- Cells from an address on, one by one. -/
theorem cells_each {w : World} {a : Addr} {n : Nat} {cs : List Value} (h : w.cells? 0 a n = some cs) : cs.length = n ∧ ∀ j, j < n → w.cell? (a.add j) = cs[j]? := by
  obtain ⟨_, hl, hc⟩ := World.cells?_some h
  exact ⟨hl, hc⟩
theorem spot_none {w : World} {a : Addr} {v : Value} (h : w.cell? (a.add 0) = some v) : a.spot = none := by simpa [Addr.add] using World.cell?_spot h
/-- An argument of type []api.Hart, opened. -/
theorem open_harts {H : Type} {enc : TypeId × Value → H} {W : World} {fuel : Nat} {ao : Option Addr} {len cap : Nat} {d : DataW H} {p : List MemPlace}
    (hf : DataW.trod enc Tryd.prog W 0 (fun _ => true) true fuel 46 (Value.slice ao len cap).cells.toList = some (d, p)) : ∃ hs : List Hv, Hs W ao len hs ∧ (ao = none → cap = 0) ∧ (d = .nil ∧ len = 0 ∨ ∃ el sp, d = .slice el sp ∧ el.length = len) := by
  rcases Deep.open_slice Tryd.underlying46 hf with ⟨hcs, hx⟩ | ⟨a, len', cap', m, n, D, Pl, hcs, hb, hl, hm, em, hx, hel⟩
  · simp [Value.cells] at hcs
    obtain ⟨rfl, rfl, rfl⟩ := hcs
    exact ⟨[], ⟨rfl, fun h hm => (by cases hm), fun h => absurd h (by omega)⟩, fun _ => rfl, .inl ⟨by injection hx, rfl⟩⟩
  · simp [Value.cells] at hcs
    obtain ⟨rfl, rfl, rfl⟩ := hcs
    have em2 : m = cap := by simpa using em
    have hex : ∀ i, i < len → ∃ h : Hv, h.Ok ∧ ∀ j v, (hL h)[j]? = some v → W.cell? (a.add (i * 37 + j)) = some v := fun i hi => by
      obtain ⟨cs', hc, ht⟩ := hel i (by omega)
      obtain ⟨hh, rfl, ok⟩ := hart_cells ht
      rw [c34] at hc
      obtain ⟨_, hc⟩ := cells_each hc
      refine ⟨hh, ok, fun j v hv => ?_⟩
      have hj : j < 37 := by have := (List.getElem?_eq_some_iff.1 hv).1; rwa [hL_len ok] at this
      have := hc j hj
      rw [Deep.add_add] at this
      rw [this]
      exact hv
    obtain ⟨f, hf2⟩ := @Deep.choose_lt Hv ⟨hN⟩ len _ hex
    refine ⟨(List.range len).map f, ⟨by simp, fun h hm => ?_, fun hn => ?_⟩, fun e => (by cases e), .inr ⟨_, _, by injection hx, by simp⟩⟩
    · obtain ⟨i, hi, rfl⟩ := List.mem_map.1 hm
      exact (hf2 i (List.mem_range.1 hi)).1
    · obtain ⟨b, o, s⟩ := a
      have c0 := (hf2 0 hn).2 0 _ (hL_reg (hf2 0 hn).1 (by omega))
      have hs : s = none := spot_none (by simpa using c0)
      subst hs
      have hb : b < W.heap.size := by simpa [Addr.add] using World.block_lt_of_cell? W _ c0
      refine ⟨b, o, rfl, hb, fun i h hi j v hv => ?_⟩
      rw [List.getElem?_map] at hi
      by_cases hl2 : i < len
      · rw [List.getElem?_eq_getElem (by simpa using hl2)] at hi
        simp at hi
        subst hi
        have := (hf2 i hl2).2 j v hv
        rw [add_at] at this
        rw [Nat.add_assoc]
        exact this
      · rw [List.getElem?_eq_none (by simp; omega)] at hi
        cases hi
/-- An argument of type []api.Pick, opened. -/
theorem open_picks {H : Type} {enc : TypeId × Value → H} {W : World} {fuel : Nat} {ao : Option Addr} {len cap : Nat} {d : DataW H} {p : List MemPlace}
    (hf : DataW.trod enc Tryd.prog W 0 (fun _ => true) true fuel 49 (Value.slice ao len cap).cells.toList = some (d, p)) :
    ∃ ps : List (Int × Int), Ps W ao len ps ∧ (ao = none → cap = 0) ∧ (len ≤ cap ∧ cap ≤ maxLen) ∧ (d = .nil ∧ len = 0 ∨ ∃ el sp, d = .slice el sp ∧ el.length = len) ∧ ∀ p ∈ ps, -9223372036854775808 ≤ p.1 ∧ p.1 ≤ 9223372036854775807 ∧ -9223372036854775808 ≤ p.2 ∧ p.2 ≤ 9223372036854775807 := by
  rcases Deep.open_slice Tryd.underlying49 hf with ⟨hcs, hx⟩ | ⟨a, len', cap', m, n, D, Pl, hcs, hb, hl, hm, em, hx, hel⟩
  · simp [Value.cells] at hcs
    obtain ⟨rfl, rfl, rfl⟩ := hcs
    exact ⟨[], ⟨rfl, fun h => absurd h (by omega)⟩, fun _ => rfl, ⟨Nat.le_refl _, Nat.zero_le _⟩, .inl ⟨by injection hx, rfl⟩, fun h hm => (by cases hm)⟩
  · simp [Value.cells] at hcs
    obtain ⟨rfl, rfl, rfl⟩ := hcs
    have em2 : m = cap := by simpa using em
    have hex : ∀ i, i < len → ∃ q : Int × Int, (-9223372036854775808 ≤ q.1 ∧ q.1 ≤ 9223372036854775807 ∧ -9223372036854775808 ≤ q.2 ∧ q.2 ≤ 9223372036854775807) ∧ W.cell? (a.add (i * 2)) = some (.int .i64 q.1) ∧ W.cell? (a.add (i * 2 + 1)) = some (.int .i64 q.2) := fun i hi => by
      obtain ⟨cs', hc, ht⟩ := hel i (by omega)
      obtain ⟨q, rfl, bd⟩ := pick_cells ht
      rw [c62] at hc
      obtain ⟨_, hc⟩ := cells_each hc
      have h0 := hc 0 (by omega)
      have h1 := hc 1 (by omega)
      rw [Deep.add_add] at h0 h1
      exact ⟨q, bd, h0, h1⟩
    obtain ⟨f, hf2⟩ := @Deep.choose_lt (Int × Int) ⟨(0, 0)⟩ len _ hex
    refine ⟨(List.range len).map f, ⟨by simp, fun hn => ?_⟩, fun e => (by cases e), ⟨hl, hm⟩, .inr ⟨_, _, by injection hx, by simp⟩, fun h hm => ?_⟩
    · obtain ⟨b, o, s⟩ := a
      have c0 := (hf2 0 hn).2.1
      have hs : s = none := spot_none (by simpa using c0)
      subst hs
      have hb : b < W.heap.size := by simpa [Addr.add] using World.block_lt_of_cell? W _ c0
      refine ⟨b, o, rfl, hb, fun i h hi => ?_⟩
      rw [List.getElem?_map] at hi
      by_cases hl2 : i < len
      · rw [List.getElem?_eq_getElem (by simpa using hl2)] at hi
        simp at hi
        subst hi
        obtain ⟨_, q0, q1⟩ := hf2 i hl2
        rw [add_at] at q0 q1
        exact ⟨q0, by rw [Nat.add_assoc]; exact q1⟩
      · rw [List.getElem?_eq_none (by simp; omega)] at hi
        cases hi
    · obtain ⟨i, hi, rfl⟩ := List.mem_map.1 hm
      exact (hf2 i (List.mem_range.1 hi)).1
end Go.Proofs.YtfolphjampklpaaDoor.Mc
/-
  A machine and a script that are handed in, opened; how many harts, bytes and picks there can be.
-/
namespace Go.Proofs.YtfolphjampklpaaDoor.Mc
open Go.ChangeShapes Go.WideShapes Go.ChangeAt Go.RowKit Mm Hh
set_option linter.unusedVariables false
set_option linter.unusedSimpArgs false

theorem cM : Tryd.prog.cellsOf 48 = 2 := by kernel_rfl
theorem cB : Tryd.prog.cellsOf 35 = 1 := by kernel_rfl
theorem cH : Tryd.prog.cellsOf 46 = 1 := by kernel_rfl
theorem byH : Tryd.prog.bytesOf 34 = 160 := by kernel_rfl
theorem byP : Tryd.prog.bytesOf 97 = 16 := by kernel_rfl
/-- A machine that is handed in. -/
structure Mg (W : World) (v : Value) (ma : Option Addr) (mn mc : Nat) (ha : Option Addr) (hn hc : Nat) (m : List UInt8) (hs : List Hv) : Prop where
  eq : v = .agg #[.slice ma mn mc, .slice ha hn hc]
  mem : Mem W ma mn m
  cap : ma = none → mc = 0
  harts : Hs W ha hn hs
  b1 : mn ≤ 140737488351232
  b2 : hn ≤ 140737488351232
theorem one_slice {H : Type} {enc : TypeId × Value → H} {W : World} {fuel : Nat} {t e : TypeId} {l : List Value} {k : Nat} {x : DataW H × List MemPlace} (hu : Tryd.prog.underlying t = some (.slice e)) (h : DataW.trod enc Tryd.prog W 0 (fun _ => true) true fuel t ((l.drop k).take 1) = some x) : ∃ ao n c, l[k]? = some (.slice ao n c) ∧ (l.drop k).take 1 = (Value.slice ao n c).cells.toList := by
  rcases Deep.open_slice hu h with ⟨hcs, _⟩ | ⟨a, len, cap, _, _, _, _, hcs, _⟩
  · exact ⟨none, 0, 0, cut_one hcs, hcs⟩
  · exact ⟨some a, len, cap, cut_one hcs, hcs⟩
theorem mem_cap {H : Type} {enc : TypeId × Value → H} {W : World} {fuel : Nat} {ao : Option Addr} {len cap : Nat} {d : DataW H} {p : List MemPlace}
    (hf : DataW.trod enc Tryd.prog W 0 (fun _ => true) true fuel 35 (Value.slice ao len cap).cells.toList = some (d, p)) : ao = none → cap = 0 := by
  rcases open_ints Tryd.underlying35 Tryd.underlying5 cells5 hf with ⟨hcs, _⟩ | ⟨a, len', cap', zs, hcs, _⟩
  · simp [Value.cells] at hcs
    exact fun _ => hcs.2.2
  · simp [Value.cells] at hcs
    intro h
    rw [h] at hcs
    cases hcs.1
set_option maxRecDepth 100000 in
theorem open_machine {H : Type} {enc : TypeId × Value → H} {W : World} {base : Nat} {v : Value} {d : DataW H} {p : List MemPlace} {ts : List TypeId} {ds : List (DataW H)} (hv : Value.okWide Tryd.prog W .any base 48 v) (h : DataW.Trod enc Tryd.prog W 0 (fun _ => true) true 48 v d p)
    (hsz : (DataW.weightsEach Tryd.prog ts ds).all (· ≤ reachBytes) = true) (ht : ts[0]? = some 48) (hd : ds[0]? = some d) : ∃ ma mn mc ha hn hc m hs, Mg W v ma mn mc ha hn hc m hs := by
  obtain ⟨cs, rfl, hcs⟩ := okWide_struct Tryd.underlying48 hv
  rw [cM] at hcs
  obtain ⟨l⟩ := cs
  obtain ⟨fuel, hf⟩ := h
  obtain ⟨xs, n, rfl, hx, _, hlen, hel⟩ := DataW.trod_struct Tryd.underlying48 hf
  obtain ⟨y0, y1, rfl⟩ := list2 (l := xs) hlen
  have k0 : DataW.trod enc Tryd.prog W 0 (fun _ => true) true n 35 ((l.drop 0).take (Tryd.prog.cellsOf 35)) = some y0 := hel 0 _ rfl
  have k1 : DataW.trod enc Tryd.prog W 0 (fun _ => true) true n 46 ((l.drop 1).take (Tryd.prog.cellsOf 46)) = some y1 := hel 1 _ rfl
  clear hf hel hv
  rw [cB] at k0
  rw [cH] at k1
  obtain ⟨ma, mn, mc, e0, q0⟩ := one_slice Tryd.underlying35 k0
  obtain ⟨ha, hn, hc, e1, q1⟩ := one_slice Tryd.underlying46 k1
  rw [q0] at k0
  rw [q1] at k1
  obtain ⟨d0, p0⟩ := y0
  obtain ⟨d1, p1⟩ := y1
  obtain ⟨m, M, hm⟩ := open_mem k0
  obtain ⟨hs, H2, _, hh⟩ := open_harts k1
  have ed : d = .agg [d0, d1] := by injection hx
  subst ed
  have hw := DataW.weights_mem_each (P := Tryd.prog) ht hd
  have hin : (DataW.weightsEach Tryd.prog [35, 46] [d0, d1]).all (· ≤ reachBytes) = true := by
    rw [List.all_eq_true]
    intro z hz
    refine List.all_eq_true.1 hsz z (hw z ?_)
    unfold DataW.weights
    rw [Tryd.underlying48]
    exact hz
  have ll : l = [.slice ma mn mc, .slice ha hn hc] := by
    obtain ⟨a, b, rfl⟩ := list2 (l := l) (by simpa using hcs)
    simp at e0 e1
    rw [e0, e1]
  refine ⟨ma, mn, mc, ha, hn, hc, m, hs, by rw [ll], M, mem_cap k0, H2, ?_, ?_⟩
  · rcases hm with ⟨_, h⟩ | ⟨zs, sp, h, hz⟩
    · rw [h]; decide
    · have := sized_slice hin (j := 0) (t := 35) (e := 5) rfl (by rw [h]; rfl) Tryd.underlying35
      rw [bytes5] at this
      simp only [lits, List.length_map, hz, reachBytes] at this
      omega
  · rcases hh with ⟨_, h⟩ | ⟨zs, sp, h, hz⟩
    · rw [h]; decide
    · have := sized_slice hin (j := 1) (t := 46) (e := 34) rfl (by rw [h]; rfl) Tryd.underlying46
      rw [byH] at this
      simp only [hz, reachBytes] at this
      omega
set_option maxRecDepth 100000 in
/-- A script that is handed in. -/
theorem open_script {H : Type} {enc : TypeId × Value → H} {W : World} {base : Nat} {v : Value} {d : DataW H} {p : List MemPlace} {ts : List TypeId} {ds : List (DataW H)} (hv : Value.okWide Tryd.prog W .any base 49 v) (h : DataW.Trod enc Tryd.prog W 0 (fun _ => true) true 49 v d p)
    (hsz : (DataW.weightsEach Tryd.prog ts ds).all (· ≤ reachBytes) = true) (j : Nat) (ht : ts[j]? = some 49) (hd : ds[j]? = some d) : ∃ pa pn pc ps, v = .slice pa pn pc ∧ Ps W pa pn ps ∧ (pa = none → pc = 0) ∧ pn ≤ pc ∧ pc ≤ maxLen ∧ pn ≤ 8796093022208 ∧ (d = .nil ∧ pn = 0 ∨ ∃ el sp, d = .slice el sp ∧ el.length = pn) := by
  obtain ⟨pa, pn, pc, rfl⟩ := okWide_slice Tryd.underlying49 hv
  obtain ⟨fa, hfa⟩ := h
  obtain ⟨ps, P, c0, ⟨c1, c2⟩, hd2, _⟩ := open_picks hfa
  refine ⟨pa, pn, pc, ps, rfl, P, c0, c1, c2, ?_, hd2⟩
  rcases hd2 with ⟨_, h⟩ | ⟨zs, sp, h, hz⟩
  · omega
  · have := sized_slice hsz (j := j) (t := 49) (e := 97) ht (by rw [hd, h]) Tryd.underlying49
    rw [byP] at this
    simp only [hz, reachBytes] at this
    omega
end Go.Proofs.YtfolphjampklpaaDoor.Mc
