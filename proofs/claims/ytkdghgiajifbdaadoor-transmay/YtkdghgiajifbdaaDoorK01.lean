/-
  To, TmW, Tc, Sq, Tp, Tn: texts of ours that lie in one file.
-/
import Derived.Test.YtkdghgiajifbdaaDoorMem
import Derived.ProofKit
import Derived.SizedLaws
import Derived.Deep.Slices
import Derived.Test.YtkdghgiajifbdaaDoorRm5
import Derived.Test.YtkdghgiajifbdaaDoorBk
import Derived.Test.YtkdghgiajifbdaaDoorHm2
import Derived.Laws.OwnMore
import Derived.Test.YtkdghgiajifbdaaDoorMz
import Derived.Test.YtkdghgiajifbdaaDoorMw
import Derived.Test.YtkdghgiajifbdaaDoorBp
import Derived.Test.YtkdghgiajifbdaaDoorHz
/-
  A block that is handed in: opened.
-/
namespace Go.Proofs.YtkdghgiajifbdaaDoor.Ts
open Go.ChangeShapes Go.WideShapes Go.ChangeAt Go.RowKit Mm
set_option linter.unusedVariables false
set_option linter.unusedSimpArgs false

variable {w W : World} {ao : Option Addr} {n : Int} {α H : Type} {enc : TypeId × Value → H} {fuel k : Nat} {l : List Value} {x : DataW H × List MemPlace} {a : Addr} {v : Value} {d : DataW H} {p : List MemPlace}
/-- An instruction, whatever it is. -/
structure Iv where
  op : Int
  rd : Int
  r1 : Int
  r2 : Int
  im : Int
def ivL (i : Iv) : List Value := [.int .i64 i.op, .int .i64 i.rd, .int .i64 i.r1, .int .i64 i.r2, .int .i32 i.im]
def I64 (n : Int) : Prop := -9223372036854775808 ≤ n ∧ n ≤ 9223372036854775807
structure Iv.Ok (i : Iv) : Prop where
  op : I64 i.op
  rd : I64 i.rd
  r1 : I64 i.r1
  r2 : I64 i.r2
  im : -2147483648 ≤ i.im ∧ i.im ≤ 2147483647
/-- In world w, the slice at ao of n elements reads as the instructions 'is'. -/
structure Is (w : World) (ao : Option Addr) (n : Nat) (is : List Iv) : Prop where
  len : is.length = n
  ok : ∀ i ∈ is, i.Ok
  spot : 0 < n → ∃ b o, ao = some ⟨b, o, none⟩ ∧ b < w.heap.size ∧ ∀ j i, is[j]? = some i → w.cell? ⟨b, o + j * 5, none⟩ = some (.int .i64 i.op) ∧ w.cell? ⟨b, o + j * 5 + 1, none⟩ = some (.int .i64 i.rd) ∧ w.cell? ⟨b, o + j * 5 + 2, none⟩ = some (.int .i64 i.r1) ∧ w.cell? ⟨b, o + j * 5 + 3, none⟩ = some (.int .i64 i.r2) ∧ w.cell? ⟨b, o + j * 5 + 4, none⟩ = some (.int .i32 i.im)
theorem Is.of {w' : World} {n : Nat} {is : List Iv} (h : Is w ao n is) (g : Gr w w') : Is w' ao n is :=
  ⟨h.len, h.ok, fun hn => by
    obtain ⟨b, o, e, hb, hc⟩ := h.spot hn
    refine ⟨b, o, e, Nat.lt_of_lt_of_le hb g.size, fun j i hj => ?_⟩
    obtain ⟨h0, h1, h2, h3, h4⟩ := hc j i hj
    exact ⟨(g.cell _ (by exact hb)).trans h0, (g.cell _ (by exact hb)).trans h1, (g.cell _ (by exact hb)).trans h2, (g.cell _ (by exact hb)).trans h3, (g.cell _ (by exact hb)).trans h4⟩⟩
theorem cIn : Tryd.prog.cellsOf 23 = 5 := by kernel_rfl
theorem bIn : Tryd.prog.bytesOf 23 = 40 := by kernel_rfl
theorem cIt : Tryd.prog.cellsOf 3 = 1 := by kernel_rfl
theorem cI3 : Tryd.prog.cellsOf 21 = 1 := by kernel_rfl
theorem li5 {l : List α} (h : l.length = 5) : ∃ a b c d e, l = [a, b, c, d, e] := by
  match l, h with
  | [a, b, c, d, e], _ => exact ⟨a, b, c, d, e, rfl⟩
theorem bd64 (h : (Lit.int .i64 n).wf = true) : I64 n := by
  have : -9223372036854775808 ≤ n ∧ n ≤ 9223372036854775807 := by simpa [Lit.wf, IntKind.min, IntKind.max, IntKind.signed, IntKind.bits] using h
  exact this
theorem bd32 (h : (Lit.int .i32 n).wf = true) : -2147483648 ≤ n ∧ n ≤ 2147483647 := by
  simpa [Lit.wf, IntKind.min, IntKind.max, IntKind.signed, IntKind.bits] using h
set_option maxRecDepth 100000 in
theorem ins_cells {b0 : Nat} {sp : Nat → Bool} {held : Bool}
    (hf : DataW.trod enc Tryd.prog W b0 sp held fuel 23 l = some x) : ∃ i : Iv, l = ivL i ∧ i.Ok := by
  obtain ⟨xs, m, rfl, hx, hcl, hlen, hel⟩ := DataW.trod_struct Tryd.underlying23 hf
  obtain ⟨y0, y1, y2, y3, y4, rfl⟩ := li5 (l := xs) hlen
  have k0 : DataW.trod enc Tryd.prog W b0 sp held m 3 ((l.drop 0).take (Tryd.prog.cellsOf 3)) = some y0 := hel 0 _ rfl
  have k1 : DataW.trod enc Tryd.prog W b0 sp held m 3 ((l.drop 1).take (Tryd.prog.cellsOf 3)) = some y1 := hel 1 _ rfl
  have k2 : DataW.trod enc Tryd.prog W b0 sp held m 3 ((l.drop 2).take (Tryd.prog.cellsOf 3)) = some y2 := hel 2 _ rfl
  have k3 : DataW.trod enc Tryd.prog W b0 sp held m 3 ((l.drop 3).take (Tryd.prog.cellsOf 3)) = some y3 := hel 3 _ rfl
  have k4 : DataW.trod enc Tryd.prog W b0 sp held m 21 ((l.drop 4).take (Tryd.prog.cellsOf 21)) = some y4 := hel 4 _ rfl
  rw [cIn] at hcl
  obtain ⟨a, b, c, d, e, rfl⟩ := li5 hcl
  obtain ⟨p0, e0, _, w0⟩ := DataW.trod_int Tryd.underlying3 k0
  obtain ⟨p1, e1, _, w1⟩ := DataW.trod_int Tryd.underlying3 k1
  obtain ⟨p2, e2, _, w2⟩ := DataW.trod_int Tryd.underlying3 k2
  obtain ⟨p3, e3, _, w3⟩ := DataW.trod_int Tryd.underlying3 k3
  obtain ⟨p4, e4, _, w4⟩ := DataW.trod_int Tryd.underlying21 k4
  rw [cIt] at e0 e1 e2 e3
  rw [cI3] at e4
  simp at e0 e1 e2 e3 e4
  subst e0 e1 e2 e3 e4
  exact ⟨⟨p0, p1, p2, p3, p4⟩, rfl, bd64 w0, bd64 w1, bd64 w2, bd64 w3, bd32 w4⟩
theorem cells_each {n : Nat} {cs : List Value} (h : w.cells? 0 a n = some cs) : cs.length = n ∧ ∀ j, j < n → w.cell? (a.add j) = cs[j]? := by
  obtain ⟨_, hl, hc⟩ := World.cells?_some h
  exact ⟨hl, hc⟩
theorem spot_none (h : w.cell? (a.add 0) = some v) : a.spot = none := by simpa [Addr.add] using World.cell?_spot h
/-- Cells of type []api.Ins, opened. -/
theorem open_ins {len cap : Nat}
    (hf : DataW.trod enc Tryd.prog W 0 (fun _ => true) true fuel 32 (Value.slice ao len cap).cells.toList = some (d, p)) :
    ∃ is : List Iv, Is W ao len is ∧ (ao = none → cap = 0) ∧ (d = .nil ∧ len = 0 ∨ ∃ el sp, d = .slice el sp ∧ el.length = len) := by
  rcases Deep.open_slice Tryd.underlying32 hf with ⟨hcs, hx⟩ | ⟨a, len', cap', m, n, D, Pl, hcs, hb, hl, hm, em, hx, hel⟩
  · simp [Value.cells] at hcs
    obtain ⟨rfl, rfl, rfl⟩ := hcs
    exact ⟨[], ⟨rfl, fun h hm => (by cases hm), fun h => absurd h (by omega)⟩, fun _ => rfl, .inl ⟨by injection hx, rfl⟩⟩
  · simp [Value.cells] at hcs
    obtain ⟨rfl, rfl, rfl⟩ := hcs
    have em2 : m = cap := by simpa using em
    have hex : ∀ i, i < len → ∃ q : Iv, q.Ok ∧ ∀ j v, (ivL q)[j]? = some v → W.cell? (a.add (i * 5 + j)) = some v := fun i hi => by
      obtain ⟨cs', hc, ht⟩ := hel i (by omega)
      obtain ⟨q, rfl, bd⟩ := ins_cells ht
      rw [cIn] at hc
      obtain ⟨_, hc⟩ := cells_each hc
      refine ⟨q, bd, fun j v hv => ?_⟩
      have hj : j < 5 := (List.getElem?_eq_some_iff.1 hv).1
      have := hc j hj
      rw [Deep.add_add] at this
      rw [this]
      exact hv
    obtain ⟨f, hf2⟩ := @Deep.choose_lt Iv ⟨⟨0, 0, 0, 0, 0⟩⟩ len _ hex
    refine ⟨(List.range len).map f, ⟨by simp, fun h hm => ?_, fun hn => ?_⟩, fun e => (by cases e), .inr ⟨_, _, by injection hx, by simp⟩⟩
    · obtain ⟨i, hi, rfl⟩ := List.mem_map.1 hm
      exact (hf2 i (List.mem_range.1 hi)).1
    · obtain ⟨b, o, s⟩ := a
      have c0 := (hf2 0 hn).2 0 _ rfl
      have hs : s = none := spot_none (by simpa using c0)
      subst hs
      have hb : b < W.heap.size := by simpa [Addr.add] using World.block_lt_of_cell? W _ c0
      refine ⟨b, o, rfl, hb, fun i h hi => ?_⟩
      rw [List.getElem?_map] at hi
      by_cases hl2 : i < len
      · rw [List.getElem?_eq_getElem (by simpa using hl2)] at hi
        simp at hi
        subst hi
        have q := fun j v hv => (hf2 i hl2).2 j v hv
        simp only [add_at] at q
        have q0 := q 0 _ rfl
        have q1 := q 1 _ rfl
        have q2 := q 2 _ rfl
        have q3 := q 3 _ rfl
        have q4 := q 4 _ rfl
        simp only [Nat.add_zero, ← Nat.add_assoc] at q0 q1 q2 q3 q4
        exact ⟨q0, q1, q2, q3, q4⟩
      · rw [List.getElem?_eq_none (by simp; omega)] at hi
        cases hi
theorem cBk : Tryd.prog.cellsOf 34 = 2 := by kernel_rfl
theorem cU3 : Tryd.prog.cellsOf 24 = 1 := by kernel_rfl
theorem cSI : Tryd.prog.cellsOf 32 = 1 := by kernel_rfl
theorem li2 {l : List α} (h : l.length = 2) : ∃ a b, l = [a, b] := by
  match l, h with
  | [a, b], _ => exact ⟨a, b, rfl⟩
theorem cut1 (h : (l.drop k).take 1 = [v]) : l[k]? = some v := by
  have := congrArg (fun x => x[0]?) h
  simpa using this
theorem bdU (h : (Lit.int .u32 n).wf = true) : 0 ≤ n ∧ n < 4294967296 := by
  have : 0 ≤ n ∧ n ≤ 4294967295 := by simpa [Lit.wf, IntKind.min, IntKind.max, IntKind.signed, IntKind.bits] using h
  omega
theorem slice1 {t e : TypeId} (hu : Tryd.prog.underlying t = some (.slice e)) (h : DataW.trod enc Tryd.prog W 0 (fun _ => true) true fuel t ((l.drop k).take 1) = some x) : ∃ ao n c, l[k]? = some (.slice ao n c) ∧ (l.drop k).take 1 = (Value.slice ao n c).cells.toList := by
  rcases Deep.open_slice hu h with ⟨hcs, _⟩ | ⟨a, len, cap, _, _, _, _, hcs, _⟩
  · exact ⟨none, 0, 0, cut1 hcs, hcs⟩
  · exact ⟨some a, len, cap, cut1 hcs, hcs⟩
/-- A block that is handed in. -/
structure Bg (W : World) (v : Value) (pc : Int) (sa : Option Addr) (sn sc : Nat) (is : List Iv) : Prop where
  eq : v = .agg #[.int .u32 pc, .slice sa sn sc]
  pc0 : 0 ≤ pc
  pc1 : pc < 4294967296
  ins : Is W sa sn is
  cap : sa = none → sc = 0
  b : sn ≤ 140737488351232
set_option maxRecDepth 100000 in
theorem open_block {base : Nat} {ts : List TypeId} {ds : List (DataW H)} (hv : Value.okWide Tryd.prog W .any base 34 v) (h : DataW.Trod enc Tryd.prog W 0 (fun _ => true) true 34 v d p)
    (hsz : (DataW.weightsEach Tryd.prog ts ds).all (· ≤ reachBytes) = true) (ht : ts[k]? = some 34) (hd : ds[k]? = some d) : ∃ pc sa sn sc is, Bg W v pc sa sn sc is := by
  obtain ⟨cs, rfl, hcs⟩ := okWide_struct Tryd.underlying34 hv
  rw [cBk] at hcs
  obtain ⟨l⟩ := cs
  obtain ⟨fuel, hf⟩ := h
  obtain ⟨xs, n, rfl, hx, _, hlen, hel⟩ := DataW.trod_struct Tryd.underlying34 hf
  obtain ⟨y0, y1, rfl⟩ := li2 (l := xs) hlen
  have k0 : DataW.trod enc Tryd.prog W 0 (fun _ => true) true n 24 ((l.drop 0).take (Tryd.prog.cellsOf 24)) = some y0 := hel 0 _ rfl
  have k1 : DataW.trod enc Tryd.prog W 0 (fun _ => true) true n 32 ((l.drop 1).take (Tryd.prog.cellsOf 32)) = some y1 := hel 1 _ rfl
  clear hf hel hv
  rw [cSI] at k1
  obtain ⟨pc, e0, _, w0⟩ := DataW.trod_int Tryd.underlying24 k0
  rw [cU3] at e0
  have e0 := cut1 e0
  obtain ⟨sa, sn, sc, e1, q1⟩ := slice1 Tryd.underlying32 k1
  rw [q1] at k1
  obtain ⟨d0, p0⟩ := y0
  obtain ⟨d1, p1⟩ := y1
  obtain ⟨is, I, hc, hh⟩ := open_ins k1
  have ed : d = .agg [d0, d1] := by injection hx
  subst ed
  have hw := DataW.weights_mem_each (P := Tryd.prog) ht hd
  have hin : (DataW.weightsEach Tryd.prog [24, 32] [d0, d1]).all (· ≤ reachBytes) = true := by
    rw [List.all_eq_true]
    intro z hz
    refine List.all_eq_true.1 hsz z (hw z ?_)
    unfold DataW.weights
    rw [Tryd.underlying34]
    exact hz
  have ll : l = [.int .u32 pc, .slice sa sn sc] := by
    obtain ⟨a, b, rfl⟩ := li2 (l := l) (by simpa using hcs)
    simp at e0 e1
    rw [e0, e1]
  refine ⟨pc, sa, sn, sc, is, by rw [ll], (bdU w0).1, (bdU w0).2, I, hc, ?_⟩
  rcases hh with ⟨_, h⟩ | ⟨el, sp, h, hz⟩
  · rw [h]; decide
  · have := sized_slice hin (j := 1) (t := 32) (e := 23) rfl (by rw [h]; rfl) Tryd.underlying32
    rw [bIn] at this
    simp only [hz, reachBytes] at this
    omega
end Go.Proofs.YtkdghgiajifbdaaDoor.Ts
/-
  The walk of the law TransMay, given what trans.Make answers: it answers true.
-/
namespace Go.Proofs.YtkdghgiajifbdaaDoor.Ts
open Go.ChangeShapes Go.WideShapes Go.ChangeAt Go.RowKit Mm Hc Mi Hh
set_option linter.unusedVariables false
set_option linter.unusedSimpArgs false

theorem up_heap {w w' : World} (g : Gr w w') {k : Nat} {x : Obj} (h : w.heap[k]? = some x) : w'.heap[k]? = some x := by
  rw [g.block k (Array.getElem?_eq_some_iff.1 h).1]; exact h
set_option maxHeartbeats 4000000 in
set_option maxRecDepth 100000 in
theorem tmay_any {w : World} {bp pc : Int} {sa : Option Addr} {sn sc : Nat} {ao : Option Addr} {n cap cnt : Nat} {X : List Value} {P : Int}
    (TM10 : ∀ W : World, Gr w W → Calls Tryd.prog 15 #[.agg #[.int .u32 bp, .slice sa sn sc]] W fun e w' => ∃ ca cn cc code, e = .returned (.slice ca cn cc) ∧ Cs w' ca cn code ∧ mayC code = true ∧ Gr W w')
    (TMk0 : ∀ (W : World) (g : Nat), Gr w W → W.heap[g]? = some (.cells #[.int .i64 58, .int .i64 0, .int .i64 0, .int .i64 0, .int .i32 0] 23 (0, 0)) → Calls Tryd.prog 15 #[.agg #[.int .u32 0, .slice (some ⟨g, 0, none⟩) 1 1]] W fun e w' => ∃ ca cn cc, e = .returned (.slice ca cn cc) ∧ 0 < cn ∧ Gr W w')
    (Mk0 : ∀ W : World, Gr w W → Calls Tryd.prog 17 #[.slice ao n cap, .int .u32 pc] W fun e w' => ∃ va vc, e = .returned (.agg #[.int .u32 P, .slice va cnt vc]) ∧ w'.ownsRow W.heap.size 23 5 (.slice va cnt vc) cnt X ∧ Gr W w')
    (hc1 : cnt ≤ 16)
    (M70 : ∀ (W : World) (ca : Option Addr) (cn cc : Nat) (code : List Mv), Cs W ca cn code → mayC code = true → Calls Tryd.prog 16 #[.slice ca cn cc] W fun e w' => e = .returned (.bool true) ∧ Gr W w')
    (TM20 : ∀ (W : World) (b : Nat) (va : Option Addr) (vc : Nat), Gr w W → W.ownsRow b 23 5 (.slice va cnt vc) cnt X → Calls Tryd.prog 15 #[.agg #[.int .u32 P, .slice va cnt vc]] W fun e w' => ∃ ca cn cc code, e = .returned (.slice ca cn cc) ∧ Cs w' ca cn code ∧ mayC code = true ∧ cn ≤ 12 * cnt + 1 ∧ Gr W w') :
    Calls Tryd.prog 5 #[.agg #[.int .u32 bp, .slice sa sn sc], .slice ao n cap, .int .u32 pc] w fun e w' => e = .returned (.bool true) ∧ Gr w w' := by
  have TM1 : Hid (∀ W : World, Gr w W → Calls Tryd.prog 15 #[.agg #[.int .u32 bp, .slice sa sn sc]] W fun e w' => ∃ ca cn cc code, e = .returned (.slice ca cn cc) ∧ Cs w' ca cn code ∧ mayC code = true ∧ Gr W w') := TM10
  have TMk : Hid (∀ (W : World) (g : Nat), Gr w W → W.heap[g]? = some (.cells #[.int .i64 58, .int .i64 0, .int .i64 0, .int .i64 0, .int .i32 0] 23 (0, 0)) → Calls Tryd.prog 15 #[.agg #[.int .u32 0, .slice (some ⟨g, 0, none⟩) 1 1]] W fun e w' => ∃ ca cn cc, e = .returned (.slice ca cn cc) ∧ 0 < cn ∧ Gr W w') := TMk0
  have Mk : Hid (∀ W : World, Gr w W → Calls Tryd.prog 17 #[.slice ao n cap, .int .u32 pc] W fun e w' => ∃ va vc, e = .returned (.agg #[.int .u32 P, .slice va cnt vc]) ∧ w'.ownsRow W.heap.size 23 5 (.slice va cnt vc) cnt X ∧ Gr W w') := Mk0
  have TM2 : Hid (∀ (W : World) (b : Nat) (va : Option Addr) (vc : Nat), Gr w W → W.ownsRow b 23 5 (.slice va cnt vc) cnt X → Calls Tryd.prog 15 #[.agg #[.int .u32 P, .slice va cnt vc]] W fun e w' => ∃ ca cn cc code, e = .returned (.slice ca cn cc) ∧ Cs w' ca cn code ∧ mayC code = true ∧ cn ≤ 12 * cnt + 1 ∧ Gr W w') := TM20
  have M7 : Hid (∀ (W : World) (ca : Option Addr) (cn cc : Nat) (code : List Mv), Cs W ca cn code → mayC code = true → Calls Tryd.prog 16 #[.slice ca cn cc] W fun e w' => e = .returned (.bool true) ∧ Gr W w') := M70
  clear TM10 TMk0 Mk0 TM20 M70
  go_enter Tryd.func5, Tryd.ntmps5
  go_wp2_with fail
  refine (TM1.out _ (by repeat (first | exact Gr.refl _ | refine Gr.alloc ?_ _))).mono ?_
  rintro e w1 ⟨ca, cn, cc, code, rfl, C1, hm1, G1⟩
  have HC1 : Hid (∀ W : World, Gr w1 W → Cs W ca cn code) := fun W G => C1.of G
  have HM1 : Hid (mayC code = true) := hm1
  have HG1 : Hid (Gr w w1) := Gr.trans (by repeat (first | exact Gr.refl _ | refine Gr.alloc ?_ _)) G1
  clear TM1 C1 hm1 G1
  go_wp2_with fail
  refine (TMk.out _ w1.heap.size (by repeat (first | exact HG1.out | refine Gr.alloc ?_ _)) (heap_alloc_new w1 _)).mono ?_
  rintro e w2 ⟨ka, kn, kc, rfl, hk, G2⟩
  have HG2 : Hid (Gr w w2) := Gr.trans (by repeat (first | exact HG1.out | refine Gr.alloc ?_ _)) G2
  have HC2 : Hid (Cs w2 ca cn code) := HC1.out _ (Gr.trans (by repeat (first | exact Gr.refl w1 | refine Gr.alloc ?_ _)) G2)
  have bk : ((kn : Int) == 0) = false := by simp; omega
  clear TMk G2 HC1 HG1
  go_wp2_with fail
  refine (M7.out _ ca cn cc code HC2.out HM1.out).mono ?_
  rintro e w3 ⟨rfl, G3⟩
  have HG3 : Hid (Gr w w3) := HG2.out.trans G3
  clear G3 HC2 HG2 HM1
  go_wp2_with fail
  refine (Mk.out _ HG3.out).mono ?_
  rintro e w4 ⟨va, vc, rfl, O4, G4⟩
  have HG4 : Hid (Gr w w4) := HG3.out.trans G4
  have HO4 : Hid (∀ W : World, Gr w4 W → W.ownsRow w3.heap.size 23 5 (.slice va cnt vc) cnt X) := fun W G => owns_to O4 fun k o f hk => G.block k (Array.getElem?_eq_some_iff.1 hk).1
  clear Mk O4 G4 HG3
  go_wp2_with fail
  refine (TM2.out _ _ va vc (by repeat (first | exact HG4.out | refine Gr.alloc ?_ _)) (HO4.out _ (by repeat (first | exact Gr.refl w4 | refine Gr.alloc ?_ _)))).mono ?_
  rintro e w5 ⟨da, dn, dc, code2, rfl, C5, hm5, hle, G5⟩
  have HG5 : Hid (Gr w w5) := Gr.trans (by repeat (first | exact HG4.out | refine Gr.alloc ?_ _)) G5
  have HV5 : Hid (w5.heap[w4.heap.size]? = some (.cells #[.int .u32 P, .slice va cnt vc] 34 (0, 0))) := up_heap G5 (heap_alloc_new w4 _)
  have HC5 : Hid (Cs w5 da dn code2) := C5
  have HM5 : Hid (mayC code2 = true) := hm5
  clear TM2 C5 hm5 G5 HO4 HG4
  go_wp2_with fail
  refine (M7.out _ da dn dc code2 HC5.out HM5.out).mono ?_
  rintro e w6 ⟨rfl, G6⟩
  have HG6 : Hid (Gr w w6) := HG5.out.trans G6
  have v1 : w6.cell? ⟨w4.heap.size, 1, none⟩ = some (.slice va cnt vc) := cell_of_row _ _ _ _ _ _ (up_heap G6 HV5.out)
  have hle2 : decide ((dn : Int) ≤ 12 * (cnt : Int) + 1) = true := decide_eq_true (by omega)
  clear M7 HC5 HM5 G6 HV5 HG5
  go_wp2_with fail
  go_ret
  exact ⟨rfl, HG6.out⟩
end Go.Proofs.YtkdghgiajifbdaaDoor.Ts
/-
  Small steps in a slice of the program's own; the instructions of a block in one.
-/
namespace Go.Proofs.YtkdghgiajifbdaaDoor.Ts
open Go.ChangeShapes Go.WideShapes Go.ChangeAt Go.RowKit Mm Hc Mi Bk
open Hh
set_option linter.unusedVariables false
set_option linter.unusedSimpArgs false

theorem shape_own {w : World} {base e sz n : Nat} {v : Value} {xs : List Value} (h : w.ownsRow base e sz v n xs) : ∃ a c, v = .slice a n c := by
  rcases h.2 with ⟨rfl, rfl⟩ | ⟨g, cap, _, rfl, _⟩
  · exact ⟨none, 0, rfl⟩
  · exact ⟨_, cap, rfl⟩
theorem at_own {w : World} {base e sz n : Nat} {v : Value} {xs : List Value} (h : w.ownsRow base e sz v n xs) (hn : 0 < n) : ∃ g c, v = .slice (some ⟨g, 0, none⟩) n c ∧ g < w.heap.size ∧ ∀ j u, xs[j]? = some u → w.cell? ⟨g, j, none⟩ = some u := by
  obtain ⟨g, c, rfl⟩ := own_form h hn
  refine ⟨g, c, rfl, (h.lt g rfl).2, fun j u hu => ?_⟩
  have := h.cells (g := g) rfl j u hu
  rwa [add_at, Nat.zero_add] at this
/-- The slice vx, nil or not, reads as m elements of sz cells: news. -/
def Sr (w : World) (vx : Value) (m sz : Nat) (news : List Value) : Prop :=
  (vx = .slice none 0 0 ∧ m = 0 ∧ news = []) ∨ ∃ ad c, vx = .slice (some ad) m c ∧ news.length = m * sz ∧ ∀ j u, news[j]? = some u → w.cell? (ad.add j) = some u
theorem Sr.gr {w w' : World} {vx : Value} {m sz : Nat} {news : List Value} (h : Sr w vx m sz news) (G : Gr w w') : Sr w' vx m sz news := by
  rcases h with h | ⟨ad, c, e, hl, hc⟩
  · exact .inl h
  · exact .inr ⟨ad, c, e, hl, fun j u hj => (G.cell _ (World.block_lt_of_cell? w _ (hc j u hj))).trans (hc j u hj)⟩
theorem Sr.new (w : World) (cs : Array Value) (t n c : Nat) (h : cs.size = n * 5) : Sr (w.alloc (.cells cs t)) (.slice (some ⟨w.heap.size, 0, none⟩) n c) n 5 cs.toList :=
  .inr ⟨_, _, rfl, by simpa using h, fun j u hj => by rw [add_at, Nat.zero_add, cr (heap_alloc_new w _)]; simpa using hj⟩
section
variable {P : Program} {w : World} {base e size bytes n m : Nat} {i : TypeInfo} {z : Value} {t : TypeId}
theorem wpList_append_sr {ops : Array Oper} {rest : List Oper} {o : Oper} {a : Act} {Q : Exit → Act → World → Prop}
    (hg : o.guard = none) (s x : Operand) (hop : o.op = Op.call { callee := Callee.builtin Builtin.append, args := #[s, x], argTypes := #[t, t] })
    (h1 : P.underlying t = some (.slice e)) (h2 : P.info? e = some i) (h3 : i.zero = some z) (h4 : i.size = size) (h5 : i.bytes = bytes) (h6 : z.cells.size = size) (h7 : 0 < size)
    {v vx : Value} {olds news : List Value} (hs : a.eval s = v) (hx : a.eval x = vx) (hown : w.ownsRow base e size v n olds) (hsrc : Sr w vx m size news) (h1c : ∀ u ∈ news, u.oneCell' = true) (b1 : n + m ≤ maxLen) (b2 : (n + m) * bytes ≤ 140737488355328) (hbase : base ≤ w.heap.size)
    (hK : ∀ v' w', w'.ownsRow base e size v' (n + m) (olds ++ news) → w.grownBy w' v.ownBlock → wpList P ops Q rest (a.put o.dst v') w') : wpList P ops Q (o :: rest) a w := by
  refine wpList_plain hg fun K hk => ?_
  have hr : ∃ v' w', (Builtin.append_ #[t, t] o.type #[v, vx]).run P w = .ok v' w' ∧ w'.ownsRow base e size v' (n + m) (olds ++ news) ∧ w.grownBy w' v.ownBlock := by
    rcases hsrc with ⟨rfl, rfl, rfl⟩ | ⟨ad, c, rfl, hl, hc⟩
    · exact ⟨v, w, run_append_owned_none w base t o.type e i size h1 h2 v n olds hown, by simpa using hown, ⟨rfl, rfl, rfl, Nat.le_refl _, fun _ _ _ => rfl⟩⟩
    · obtain ⟨v', w', hrun, r1, r2, _⟩ := run_append_own (P := P) w base t o.type e i z size bytes h1 h2 h3 h4 h5 h6 h7 v n olds hown ad m c news hl hc h1c b1 b2 hbase
      exact ⟨v', w', hrun, r1, r2⟩
  obtain ⟨v', w', hrun, r1, r2⟩ := hr
  unfold Oper.wp
  simp [execOp, hop, resolve, invoke, builtin, hs, hx, hrun, Result.andThen]
  exact hk _ _ (hK v' w' r1 r2)
end
/-- Small steps as cells. -/
def mvC1 (i : Mv) : List Value := [.int .i64 i.op, .int .i64 i.d, .int .i64 i.a, .int .i64 i.b, .int .u32 i.n]
def mvC (code : List Mv) : List Value := code.flatMap mvC1
theorem mvC_snoc (code : List Mv) (i : Mv) : mvC (code ++ [i]) = mvC code ++ mvC1 i := by simp [mvC]
theorem mvC_app (a b : List Mv) : mvC (a ++ b) = mvC a ++ mvC b := by simp [mvC]
theorem mvC_len (code : List Mv) : (mvC code).length = code.length * 5 := by
  induction code with
  | nil => rfl
  | cons p r ih => simp only [mvC, List.flatMap_cons, List.length_append, List.length_cons] at ih ⊢; rw [ih]; simp [mvC1]; omega
theorem mvC_get : ∀ (code : List Mv) (i j : Nat) (x : Mv), code[i]? = some x → j < 5 → (mvC code)[i * 5 + j]? = (mvC1 x)[j]?
  | [], i, j, x, h, _ => by simp at h
  | p :: r, 0, j, x, h, hj => by
    simp at h; subst h
    show (mvC1 p ++ mvC r)[0 * 5 + j]? = _
    rw [Nat.zero_mul, Nat.zero_add, List.getElem?_append_left (by simpa [mvC1] using hj)]
  | p :: r, i + 1, j, x, h, hj => by
    have ih := mvC_get r i j x (by simpa using h) hj
    show (mvC1 p ++ mvC r)[(i + 1) * 5 + j]? = _
    rw [List.getElem?_append_right (by simp [mvC1]; omega)]
    rw [show (i + 1) * 5 + j - (mvC1 p).length = i * 5 + j by simp [mvC1]; omega]
    exact ih
theorem mvC_one (code : List Mv) : ∀ u ∈ mvC code, u.oneCell' = true := by
  intro u hu
  simp only [mvC, List.mem_flatMap] at hu
  obtain ⟨i, _, hu⟩ := hu
  simp only [mvC1, List.mem_cons, List.not_mem_nil, or_false] at hu
  rcases hu with rfl | rfl | rfl | rfl | rfl <;> rfl
/-- A row of the program's own reads as small steps. -/
theorem cs_own {w : World} {base : Nat} {v : Value} {code : List Mv} (O : w.ownsRow base 81 5 v code.length (mvC code)) (hn : ∀ i ∈ code, Hh.W i.n) (ho : ∀ i ∈ code, -9223372036854775808 ≤ i.op ∧ i.op ≤ 9223372036854775807) : ∃ ca cc, v = .slice ca code.length cc ∧ Cs w ca code.length code := by
  obtain ⟨ca, cc, rfl⟩ := shape_own O
  refine ⟨ca, cc, rfl, rfl, hn, ho, fun h0 => ?_⟩
  obtain ⟨g, c, e, hg, hc⟩ := at_own O h0
  injection e with e1 _ _
  refine ⟨g, 0, e1, hg, fun j i hi => ?_⟩
  rw [Nat.zero_add]
  have q := fun t (ht : t < 5) => mvC_get code j t i hi ht
  refine ⟨hc _ _ ?_, hc _ _ ?_, hc _ _ ?_, hc _ _ ?_, hc _ _ ?_⟩
  · have := q 0 (by omega); rwa [Nat.add_zero] at this
  · exact q 1 (by omega)
  · exact q 2 (by omega)
  · exact q 3 (by omega)
  · exact q 4 (by omega)
/-- Small steps that read so as long as all rows of small steps stay. -/
def Ct (w : World) (ca : Option Addr) (cn : Nat) (code : List Mv) : Prop := ∀ W : World, (∀ (k : Nat) (o : Array Value) (f : Nat × Nat), w.heap[k]? = some (.cells o 81 f) → W.heap[k]? = w.heap[k]?) → Cs W ca cn code
theorem Ct.cs {w : World} {ca : Option Addr} {cn : Nat} {code : List Mv} (h : Ct w ca cn code) : Cs w ca cn code := h w fun _ _ _ _ => rfl
theorem Ct.to {w w' : World} {ca : Option Addr} {cn : Nat} {code : List Mv} (h : Ct w ca cn code) (q : ∀ (k : Nat) (o : Array Value) (f : Nat × Nat), w.heap[k]? = some (.cells o 81 f) → w'.heap[k]? = w.heap[k]?) : Ct w' ca cn code :=
  fun W hW => h W fun k o f hk => (hW k o f ((q k o f hk).trans hk)).trans (q k o f hk)
theorem Ct.of {w w' : World} {ca : Option Addr} {cn : Nat} {code : List Mv} (h : Ct w ca cn code) (G : Gr w w') : Ct w' ca cn code := h.to fun k o f hk => G.block k (gs hk).1
theorem ct_own {w : World} {base : Nat} {v : Value} {code : List Mv} (O : w.ownsRow base 81 5 v code.length (mvC code)) (hn : ∀ i ∈ code, Hh.W i.n) (ho : ∀ i ∈ code, -9223372036854775808 ≤ i.op ∧ i.op ≤ 9223372036854775807) : ∃ ca cc, v = .slice ca code.length cc ∧ Ct w ca code.length code := by
  obtain ⟨ca, cc, rfl, _⟩ := cs_own O hn ho
  refine ⟨ca, cc, rfl, fun W q => ?_⟩
  obtain ⟨ca', cc', e, C⟩ := cs_own (owns_to O q) hn ho
  injection e with e1 _ _
  subst e1
  exact C
/-- The instructions of a block, cell by cell. -/
theorem ins_own {w : World} {base : Nat} {v : Value} {xs : List Int} (O : w.ownsRow base 23 5 v xs.length (blC xs)) : ∃ sa sc, v = .slice sa xs.length sc ∧ ∀ j x, xs[j]? = some x → ∃ g, sa = some ⟨g, 0, none⟩ ∧ g < w.heap.size ∧ ∀ t u, (insC x)[t]? = some u → w.cell? ⟨g, j * 5 + t, none⟩ = some u := by
  obtain ⟨sa, sc, rfl⟩ := shape_own O
  refine ⟨sa, sc, rfl, fun j x hx => ?_⟩
  have h0 : 0 < xs.length := by have := (List.getElem?_eq_some_iff.1 hx).1; omega
  obtain ⟨g, c, e, hg, hc⟩ := at_own O h0
  injection e with e1 _ _
  refine ⟨g, e1, hg, fun t u hu => hc _ _ ?_⟩
  have ht : t < 5 := (List.getElem?_eq_some_iff.1 hu).1
  rw [blC_get xs j t x hx ht]
  exact hu
end Go.Proofs.YtkdghgiajifbdaaDoor.Ts
/-
  The hart's own steps within a block, as plain data ('bst').
-/
namespace Go.Proofs.YtkdghgiajifbdaaDoor.Ts
open Mm Hh Mi
set_option linter.unusedVariables false

/-- Does a store meet the block's bytes? -/
def hitB (bpc last : Int) (p : Int × Int) : Bool := decide (p.1 < last ∧ bpc < Wd.lo (p.1 + p.2))
def b1 (r : Rn) : Rn := { r with h := (stp r.h r.m).h, m := (stp r.h r.m).m, out := r.out ++ (stp r.h r.m).out, n := r.n + 1, sto := r.sto ++ (stp r.h r.m).sto }
/-- Is the k-th step the last one? -/
def bstop (bpc last : Int) (k : Nat) (S : Sv) : Bool := decide (¬ S.h.state = 0) || (decide (¬ S.h.pc = Wd.lo (bpc + (4 * k + 4))) || S.sto.any (hitB bpc last))
/-- So many steps at most, from the k-th one on. -/
def bst (bpc last steps : Int) : Nat → Nat → Rn → Rn
  | 0, _, r => r
  | f + 1, k, r => if (r.n : Int) < steps then (if bstop bpc last k (stp r.h r.m) = true then b1 r else bst bpc last steps f (k + 1) (b1 r)) else r
end Go.Proofs.YtkdghgiajifbdaaDoor.Ts
/-
  Small steps that are made of a block do what the block's instructions do, as plain data, if those of each instruction do ('BodyOk').
-/
namespace Go.Proofs.YtkdghgiajifbdaaDoor.Ts
open Mm Wd Mi Bk
open Hh hiding Rn
set_option linter.unusedVariables false
set_option linter.unusedSimpArgs false

variable {l : List UInt8} {a op bpc last steps : Int} {h : Hv} {S : Sv} {cnt : Nat} {xs : Nat → Int} {bd : Nat → List Mv} {tail : List Mv}
theorem raw_congr {l' : List UInt8} {a : Nat} : ∀ n, (∀ i, a ≤ i → i < a + n → bv l i = bv l' i) → raw l a n = raw l' a n
  | 0, _ => rfl
  | n + 1, h => by
    unfold raw
    rw [raw_congr n fun i h1 h2 => h i h1 (by omega), h (a + n) (by omega) (by omega)]
/-- A store elsewhere leaves a word as it was. -/
theorem ld_keep {p x : Int} (h : stOk l op p = true) (hp : 0 ≤ p) (ha : 0 ≤ a) (d : p + (ssz op : Int) ≤ a ∨ a + 4 ≤ p) : ldV (stL l op p x) 13 a = ldV l 13 a := by
  have hl := Mi.stL_length (x := x) h
  unfold ldV
  have e : ldOk (stL l op p x) 13 a = ldOk l 13 a := by unfold ldOk; rw [hl]
  rw [e]
  split
  · rename_i q
    congr 1
    have hq : a + 4 ≤ l.length := by
      unfold ldOk thr at q
      simp only [decide_eq_true_eq] at q
      exact q.2.2
    show raw _ _ 4 = raw _ _ 4
    refine raw_congr 4 fun i h1 h2 => ?_
    unfold stL
    rw [if_pos h, bv_put _ _ _ _ _ (by omega), if_neg (by omega)]
  · rfl
/-- What a step stores: nothing, or in one place. -/
def MemS (l : List UInt8) (S : Sv) : Prop := (S.m = l ∧ S.sto = []) ∨ ∃ op p x, 0 ≤ p ∧ stOk l op p = true ∧ S.m = stL l op p x ∧ S.sto = [(p, ((ssz op : Nat) : Int))]
def EvM (l : List UInt8) (e : Ev) : Prop := (e.m = l ∧ e.sto = []) ∨ ∃ op p x, 0 ≤ p ∧ stOk l op p = true ∧ e.m = stL l op p x ∧ e.sto = [(p, ((ssz op : Nat) : Int))]
theorem evm {o : List Int} {r : Option Int} : EvM l ⟨h, l, o, [], r⟩ := .inl ⟨rfl, rfl⟩
theorem ef_mem (o : h.Ok) (l : List UInt8) {b n : Int} (ha : W a) : EvM l (eff h l op a b n) := by
  unfold eff
  split
  · exact evm
  split
  · exact evm
  split
  · exact evm
  split
  · unfold efLoad
    split <;> exact evm
  split
  · unfold efStore
    split
    · rename_i q
      exact .inr ⟨_, _, _, (W.lo _).1, q, rfl, rfl⟩
    · exact evm
  split
  · exact evm
  split
  · exact evm
  split
  · unfold efAtom
    split
    · unfold efLr
      split <;> exact evm
    split
    · unfold efSc
      split
      · rename_i q
        split
        · exact .inr ⟨18, a, b, ha.1, st_of_ld q, rfl, rfl⟩
        · exact evm
      · exact evm
    · unfold efAmo
      split
      · rename_i q
        exact .inr ⟨18, a, _, ha.1, st_of_ld q, rfl, rfl⟩
      · exact evm
  split
  · unfold efCall
    split
    · exact evm
    split <;> exact evm
  split <;> exact evm
theorem stp_mem (o : h.Ok) (l : List UInt8) : MemS l (stp h l) := by
  unfold stp insW
  split
  · split
    · exact .inl ⟨rfl, rfl⟩
    · exact ef_mem (op := Dc.dop (ldV l 13 h.pc)) o l (W.reg o _)
  · exact .inl ⟨rfl, rfl⟩
/-- Two runs that a Did does not tell apart. -/
structure Eqv (r s : Mi.Rn) : Prop where
  h : r.h = s.h
  m : r.m = s.m
  out : r.out = s.out
  n : r.n = s.n
  sto : r.sto = s.sto
/-- What the small steps of an instruction leave, against what a step of it does. -/
structure Fit (bf bt a : Int) (q : Mi.Rn) (S : Sv) (q' : Mi.Rn) : Prop where
  ok : q'.Ok
  m : q'.m = S.m
  out : q'.out = q.out ++ S.out
  sto : q'.sto = q.sto ++ S.sto
  n : q'.n = q.n
  own : q'.own = (q.own || S.sto.any (meet bf bt))
  here : q'.over = false → q'.here = a
  go : (q'.over = true ∧ q'.h = S.h) ∨ (q'.over = false ∧ S.h.state = 0 ∧ S.h.pc = lo (a + 4) ∧ q'.h = S.h.go q.h.pc)
/-- The small steps 'body' do what the instruction x at place a does. -/
def BodyOk (bf bt steps a x : Int) (body : List Mv) : Prop := ∀ q : Mi.Rn, q.over = false → q.Ok → q.h.state = 0 → rg q.h 0 = 0 → q.here = a → q.m.length ≤ 4096 →
  Fit bf bt a q (insW (q.h.go a) q.m x) (mrun bf bt steps q body) ∧ ((mrun bf bt steps q body).over = true → lastOp (Dc.dop x) = true ∨ ¬ (insW (q.h.go a) q.m x).h.state = 0)
/-- What lies behind the last instruction's. -/
def TailOk (bf bt steps a : Int) (tail : List Mv) : Prop := ∀ q : Mi.Rn, q.over = false → 0 < q.n → lo (q.here + 4) = a → Eqv (mend (mrun bf bt steps q tail)) { q with h := q.h.go a }
/-- The small steps of n instructions, from the k-th one on. -/
def codeK (bpc : Int) (bd : Nat → List Mv) : Nat → Nat → List Mv
  | 0, _ => []
  | n + 1, k => ⟨1, 0, 0, 0, at4 bpc k⟩ :: (bd k ++ codeK bpc bd n (k + 1))
theorem mend_over {r : Mi.Rn} (h : r.over = true) : mend r = r := by unfold mend; rw [if_neg (by simp [h])]
theorem mic_at (bf bt steps : Int) (q : Mi.Rn) (a : Int) : mic bf bt steps q ⟨1, 0, 0, 0, a⟩ = mAt steps q a := by unfold mic; rw [if_pos rfl]
theorem go_go (h : Hv) (x y : Int) : (h.go x).go y = h.go y := rfl
theorem go_pc (h : Hv) : h.go h.pc = h := rfl
/-- Stores of a step: the document's test of a block's bytes is the small steps' one. -/
theorem hit_meet (hS : MemS l S) (hb : bpc < last) (hl : l.length ≤ 4096) : S.sto.any (hitB bpc last) = S.sto.any (meet bpc last) := by
  rcases hS with ⟨_, e⟩ | ⟨op, p, x, hp, ho, _, e⟩
  · rw [e]; rfl
  · rw [e]
    simp only [List.any_cons, List.any_nil, Bool.or_false]
    have hz : 0 < ssz op ∧ p + (ssz op : Int) ≤ l.length := by
      unfold stOk thr at ho
      simp only [decide_eq_true_eq] at ho
      exact ⟨ho.1, ho.2.2⟩
    have hlo : lo (p + ((ssz op : Nat) : Int)) = p + (ssz op : Int) := Int.emod_eq_of_lt (by omega) (by omega)
    unfold hitB meet
    simp only [hlo]
    rw [decide_eq_decide, Int.max_def, Int.min_def]
    constructor
    · intro h; (repeat' split) <;> omega
    · intro h; (repeat' split at h) <;> omega
/-- What a store that misses the block leaves of its words. -/
theorem words_keep (hS : MemS l S) (hl : l.length ≤ 4096) (hno : S.sto.any (hitB bpc last) = false) (h0 : 0 ≤ a) (h1 : bpc ≤ a) (h2 : a + 4 ≤ last) : ldV S.m 13 a = ldV l 13 a := by
  rcases hS with ⟨e, _⟩ | ⟨op, p, x, hp, ho, e, es⟩
  · rw [e]
  · rw [e]
    refine ld_keep ho hp h0 ?_
    rw [es] at hno
    simp only [List.any_cons, List.any_nil, Bool.or_false] at hno
    have hz : 0 < ssz op ∧ p + (ssz op : Int) ≤ l.length := by
      unfold stOk thr at ho
      simp only [decide_eq_true_eq] at ho
      exact ⟨ho.1, ho.2.2⟩
    have hlo : lo (p + ((ssz op : Nat) : Int)) = p + (ssz op : Int) := Int.emod_eq_of_lt (by omega) (by omega)
    unfold hitB at hno
    simp only [hlo, decide_eq_false_iff_not] at hno
    omega
/-- A block of a memory: its words, where they stand, and that only the last one may be a jump, a branch or a call. -/
structure Blkd (l : List UInt8) (bpc last : Int) (cnt : Nat) (xs : Nat → Int) : Prop where
  pos : 0 < cnt
  low : 0 ≤ bpc
  top : bpc + 4 * cnt = last
  len : l.length ≤ 4096
  fit : last ≤ l.length
  at_ : ∀ j, j ≤ cnt → at4 bpc j = bpc + 4 * j
  ok : ∀ j, j < cnt → ldOk l 13 (at4 bpc j) = true
  op : ∀ j, j < cnt → ¬ Dc.dop (xs j) = 0
  fin : ∀ j, j < cnt → lastOp (Dc.dop (xs j)) = true → j + 1 = cnt
structure Rel (bpc steps : Int) (k : Nat) (q r : Mi.Rn) : Prop where
  over : q.over = false
  ok : q.Ok
  may : may r.h = true
  st : r.h.state = 0
  h : r.h = q.h.go (at4 bpc k)
  m : r.m = q.m
  out : r.out = q.out
  n : r.n = q.n
  sto : r.sto = q.sto
  own : q.own = false
  le : (q.n : Int) ≤ steps
  beg : k = 0 ∨ (0 < q.n ∧ lo (q.here + 4) = at4 bpc k)
theorem segs_run (B : Blkd l bpc last cnt xs) (hb : ∀ j, j < cnt → BodyOk bpc last steps (at4 bpc j) (xs j) (bd j)) (ht : TailOk bpc last steps (at4 bpc cnt) tail) :
    ∀ (n k : Nat) (q r : Mi.Rn), k + n = cnt → Rel bpc steps k q r → (∀ j, k ≤ j → j < cnt → ldV r.m 13 (at4 bpc j) = xs j) → r.m.length = l.length → Eqv (mend (mrun bpc last steps q (codeK bpc bd n k ++ tail))) (bst bpc last steps n k r)
  | 0, k, q, r, hk, R, _, _ => by
    have hkc : k = cnt := by omega
    have hp := B.pos
    rcases R.beg with h0 | ⟨h1, h2⟩
    · omega
    · have e := ht q R.over h1 (by rw [h2, hkc])
      show Eqv (mend (mrun bpc last steps q tail)) r
      refine ⟨?_, ?_, ?_, ?_, ?_⟩
      · rw [e.h, R.h, hkc]
      · rw [e.m, R.m]
      · rw [e.out, R.out]
      · rw [e.n, R.n]
      · rw [e.sto, R.sto]
  | n + 1, k, q, r, hk, R, hw, hlen => by
    have hkc : k < cnt := by omega
    have ha := B.at_ k (by omega)
    have ha1 := B.at_ (k + 1) (by omega)
    have hlow := B.low
    have htop := B.top
    have hfit := B.fit
    have hll := B.len
    have e0 : mrun bpc last steps q (codeK bpc bd (n + 1) k ++ tail) = mrun bpc last steps (mAt steps q (at4 bpc k)) (bd k ++ (codeK bpc bd n (k + 1) ++ tail)) := by
      show mrun bpc last steps q (⟨1, 0, 0, 0, at4 bpc k⟩ :: ((bd k ++ codeK bpc bd n (k + 1)) ++ tail)) = _
      rw [mrun, if_neg (by simp [R.over]), mic_at, List.append_assoc]
    rw [e0]
    by_cases hn : (q.n : Int) = steps
    · have e1 : mAt steps q (at4 bpc k) = q.stop (at4 bpc k) := by unfold mAt; rw [if_pos (.inl hn)]
      have e2 : bst bpc last steps (n + 1) k r = r := by unfold bst; rw [if_neg (by rw [R.n]; omega)]
      rw [e1, mrun_over _ _ _ rfl, mend_over rfl, e2]
      exact ⟨R.h.symm, R.m.symm, R.out.symm, R.n.symm, R.sto.symm⟩
    · have e1 : mAt steps q (at4 bpc k) = { q with n := q.n + 1, here := at4 bpc k } := by unfold mAt; rw [if_neg (by simp [hn, R.own])]
      rw [e1, mrun_append]
      have hbd := at4_bd bpc k
      have okq : Mi.Rn.Ok { q with n := q.n + 1, here := at4 bpc k } := ⟨R.ok.h, R.ok.tl, R.ok.tb, hbd.1, hbd.2⟩
      have hst : q.h.state = 0 := by have := R.st; rw [R.h] at this; exact this
      have hrn : Hh.Rn r.h := rn_of R.may R.st
      have hz : rg q.h 0 = 0 := by have := hrn.z; rw [R.h] at this; exact this
      have okr : r.h.Ok := by rw [R.h]; exact R.ok.h.go hbd.1 hbd.2
      obtain ⟨F, FL⟩ := hb k hkc { q with n := q.n + 1, here := at4 bpc k } R.over okq hst hz rfl (by show q.m.length ≤ 4096; rw [← R.m, hlen]; exact hll)
      have hpc : r.h.pc = at4 bpc k := by rw [R.h]; rfl
      have eS : stp r.h r.m = insW (q.h.go (at4 bpc k)) q.m (xs k) := by
        unfold stp
        have hok : ldOk r.m 13 r.h.pc = true := by
          rw [hpc]
          have := B.ok k hkc
          unfold ldOk at this ⊢
          rw [hlen]
          exact this
        rw [if_pos hok, hpc, hw k (Nat.le_refl _) hkc, R.h, R.m]
      have gS := good_stp hrn r.m
      have mS := stp_mem okr r.m
      rw [← show stp r.h r.m = insW (({ q with n := q.n + 1, here := at4 bpc k } : Mi.Rn).h.go (at4 bpc k)) ({ q with n := q.n + 1, here := at4 bpc k } : Mi.Rn).m (xs k) from eS] at F FL
      have ebst : bst bpc last steps (n + 1) k r = if bstop bpc last k (stp r.h r.m) = true then b1 r else bst bpc last steps n (k + 1) (b1 r) := by
        rw [bst, if_pos]
        have := R.le
        rw [R.n]
        omega
      rw [ebst]
      have hpc4 : lo (at4 bpc k + 4) = at4 bpc (k + 1) := by
        rw [ha, ha1]
        have : lo (bpc + 4 * (k : Int) + 4) = bpc + 4 * (k : Int) + 4 := Int.emod_eq_of_lt (by omega) (by omega)
        rw [this]
        omega
      have hpc5 : Wd.lo (bpc + (4 * (k : Int) + 4)) = at4 bpc (k + 1) := by
        rw [← hpc4, ha]
        congr 1
        omega
      have hmeet := hit_meet mS (bpc := bpc) (last := last) (by omega) (by rw [hlen]; exact hll)
      generalize hq' : mrun bpc last steps { q with n := q.n + 1, here := at4 bpc k } (bd k) = q' at *
      have eqb : q'.h = (stp r.h r.m).h → Eqv q' (b1 r) := fun e => ⟨e, F.m, by rw [F.out]; show q.out ++ _ = r.out ++ _; rw [R.out], by rw [F.n]; show q.n + 1 = r.n + 1; rw [R.n], by rw [F.sto]; show q.sto ++ _ = r.sto ++ _; rw [R.sto]⟩
      rcases F.go with ⟨g1, g2⟩ | ⟨g1, g2, g3, g4⟩
      · rw [mrun_over _ _ _ g1, mend_over g1]
        have hE := eqb g2
        split
        · exact hE
        · rename_i hbs
          have hs0 : (stp r.h r.m).h.state = 0 := by
            unfold bstop at hbs
            simp only [Bool.or_eq_true, decide_eq_true_eq, not_or, Classical.not_not] at hbs
            exact hbs.1
          have hfin : k + 1 = cnt := by
            rcases FL g1 with h | h
            · exact B.fin k hkc h
            · exact absurd hs0 h
          have hn0 : n = 0 := by omega
          subst hn0
          exact hE
      · have hS4 : q'.h.go (at4 bpc (k + 1)) = (stp r.h r.m).h := by
          rw [g4, go_go, ← hpc4, ← g3, go_pc]
        have hbs : bstop bpc last k (stp r.h r.m) = (stp r.h r.m).sto.any (hitB bpc last) := by
          unfold bstop
          rw [decide_eq_false (by simp [g2]), decide_eq_false (by rw [hpc5, ← hpc4]; simp [g3])]
          simp
        have hher := F.here g1
        have hnn : 0 < q'.n := by rw [F.n]; exact Nat.succ_pos _
        have hEg : ∀ s : Mi.Rn, Eqv s { q' with h := q'.h.go (at4 bpc (k + 1)) } → Eqv s (b1 r) := fun s e => by
          refine ⟨?_, ?_, ?_, ?_, ?_⟩
          · rw [e.h]; exact hS4
          · rw [e.m]; exact F.m
          · rw [e.out]; show q'.out = _; rw [F.out]; show q.out ++ _ = r.out ++ _; rw [R.out]
          · rw [e.n]; show q'.n = _; rw [F.n]; show q.n + 1 = r.n + 1; rw [R.n]
          · rw [e.sto]; show q'.sto = _; rw [F.sto]; show q.sto ++ _ = r.sto ++ _; rw [R.sto]
        rw [hbs]
        split
        · rename_i hh
          have hown : q'.own = true := by rw [F.own, ← hmeet, hh]; simp
          cases n with
          | zero =>
            have hc1 : k + 1 = cnt := by omega
            refine hEg _ ?_
            rw [hc1]
            exact ht q' g1 hnn (by rw [hher, hpc4, hc1])
          | succ n' =>
            refine hEg _ ?_
            show Eqv (mend (mrun bpc last steps q' (⟨1, 0, 0, 0, at4 bpc (k + 1)⟩ :: ((bd (k + 1) ++ codeK bpc bd n' (k + 1 + 1)) ++ tail)))) _
            rw [mrun, if_neg (by simp [g1]), mic_at]
            have e3 : mAt steps q' (at4 bpc (k + 1)) = q'.stop (at4 bpc (k + 1)) := by unfold mAt; rw [if_pos (.inr hown)]
            rw [e3, mrun_over _ _ _ rfl, mend_over rfl]
            exact ⟨rfl, rfl, rfl, rfl, rfl⟩
        · rename_i hh
          have hno : (stp r.h r.m).sto.any (hitB bpc last) = false := by simpa using hh
          have hown : q'.own = false := by rw [F.own, ← hmeet, hno]; show (q.own || false) = false; rw [R.own]; rfl
          refine segs_run B hb ht n (k + 1) q' (b1 r) (by omega) ⟨g1, F.ok, gS.1, g2, hS4.symm, F.m.symm, by rw [F.out]; show r.out ++ _ = q.out ++ _; rw [R.out], by rw [F.n]; show r.n + 1 = q.n + 1; rw [R.n], by rw [F.sto]; show r.sto ++ _ = q.sto ++ _; rw [R.sto], hown, ?_, .inr ⟨hnn, by rw [hher]; exact hpc4⟩⟩ ?_ ?_
          · rw [F.n]
            have := R.le
            show ((q.n + 1 : Nat) : Int) ≤ steps
            omega
          · intro j hj1 hj2
            have haj := B.at_ j (by omega)
            show ldV (stp r.h r.m).m 13 (at4 bpc j) = xs j
            rw [words_keep mS (bpc := bpc) (last := last) (by rw [hlen]; exact hll) hno (by omega) (by omega) (by omega)]
            exact hw j (by omega) hj2
          · show (stp r.h r.m).m.length = l.length
            rw [gS.2.1, hlen]
/-- All of it, from the beginning. -/
theorem trans_run (B : Blkd l bpc last cnt xs) (hb : ∀ j, j < cnt → BodyOk bpc last steps (at4 bpc j) (xs j) (bd j)) (ht : TailOk bpc last steps (at4 bpc cnt) tail)
 (o : h.Ok) (hm : may h = true) (hs : h.state = 0) (hp : h.pc = bpc) (h0 : 0 ≤ steps) (hx : ∀ j, j < cnt → ldV l 13 (at4 bpc j) = xs j) : Eqv (mplay bpc last steps h l (codeK bpc bd cnt 0 ++ tail)) (bst bpc last steps cnt 0 (mstart h l)) := by
  have e : at4 bpc 0 = bpc := by have := B.at_ 0 (Nat.zero_le _); simpa using this
  refine segs_run B hb ht cnt 0 (mstart h l) (mstart h l) (Nat.zero_add _) ⟨rfl, (Gd.start (bf := bpc) (bt := last) o hs B.len).ok, hm, hs, ?_, rfl, rfl, rfl, rfl, rfl, by simpa [mstart] using h0, .inl rfl⟩ (fun j _ hj => hx j hj) rfl
  rw [e, ← hp]
  rfl
theorem tail_nil (bf bt steps a : Int) : TailOk bf bt steps a [] := fun q ho hn hh => by
  show Eqv (mend q) _
  unfold mend
  rw [if_pos ⟨ho, hn⟩, hh]
  exact ⟨rfl, rfl, rfl, rfl, rfl⟩
theorem tail_go (bf bt steps a : Int) : TailOk bf bt steps a [⟨3, 0, 0, 0, a⟩] := fun q ho hn hh => by
  have e : mrun bf bt steps q [⟨3, 0, 0, 0, a⟩] = q.stop a := by
    rw [mrun, if_neg (by simp [ho]), mrun]
    unfold mic
    rw [if_neg (by simp), if_neg (by simp), if_pos rfl]
  rw [e, mend_over rfl]
  exact ⟨rfl, rfl, rfl, rfl, rfl⟩
end Go.Proofs.YtkdghgiajifbdaaDoor.Ts
/-
  What single small steps do is what single instructions do, as plain data.
-/
namespace Go.Proofs.YtkdghgiajifbdaaDoor.Ts
open Mm Wd Mi Bk
open Hh hiding Rn
set_option linter.unusedVariables false
set_option linter.unusedSimpArgs false

/-- The small steps 'body' do what an instruction of these fields at place a does. -/
def BodyI (bf bt steps a op rd r1 r2 im : Int) (body : List Mv) : Prop := ∀ q : Mi.Rn, q.over = false → q.Ok → q.h.state = 0 → rg q.h 0 = 0 → q.here = a → q.m.length ≤ 4096 →
  Fit bf bt a q (ins (q.h.go a) q.m op rd r1 r2 im) (mrun bf bt steps q body) ∧ ((mrun bf bt steps q body).over = true → lastOp op = true ∨ ¬ (ins (q.h.go a) q.m op rd r1 r2 im).h.state = 0)
theorem body_of {bf bt steps a x : Int} {body : List Mv} (hx : ¬ Dc.dop x = 0) (h : BodyI bf bt steps a (Dc.dop x) (Dc.rdF (Dc.frm (Dc.dop x)) x) (Dc.rs1F (Dc.frm (Dc.dop x)) x) (Dc.rs2F (Dc.frm (Dc.dop x)) x) (Dc.immF (Dc.frm (Dc.dop x)) x) body) : BodyOk bf bt steps a x body := fun q h1 h2 h3 h4 h5 h6 => by
  have := h q h1 h2 h3 h4 h5 h6
  unfold insW
  rw [if_neg hx]
  exact this
theorem one_run {bf bt steps : Int} {q : Mi.Rn} (ho : q.over = false) (i : Mv) : mrun bf bt steps q [i] = mic bf bt steps q i := by rw [mrun, if_neg (by simp [ho]), mrun]
theorem fit_on {bf bt a : Int} {q q' : Mi.Rn} {S : Sv} {X : Hv} {o : List Int} {s : List (Int × Int)} (hS : S = ⟨X.go (lo (a + 4)), q'.m, o, s⟩) (hq : q'.Ok) (ov : q'.over = false) (hh : q'.here = a) (hX : q'.h = X) (hpc : X.pc = q.h.pc) (hst : X.state = 0) (ho : q'.out = q.out ++ o) (hs : q'.sto = q.sto ++ s) (hn : q'.n = q.n) (hw : q'.own = (q.own || s.any (meet bf bt))) : Fit bf bt a q S q' := by
  subst hS
  exact ⟨hq, rfl, ho, hs, hn, hw, fun _ => hh, .inr ⟨ov, hst, rfl, by rw [hX]; show X = (X.go _).go _; rw [go_go, ← hpc, go_pc]⟩⟩
theorem fit_end {bf bt a : Int} {q q' : Mi.Rn} {S : Sv} {o : List Int} {s : List (Int × Int)} (hS : S = ⟨q'.h, q'.m, o, s⟩) (hq : q'.Ok) (ov : q'.over = true) (ho : q'.out = q.out ++ o) (hs : q'.sto = q.sto ++ s) (hn : q'.n = q.n) (hw : q'.own = (q.own || s.any (meet bf bt))) : Fit bf bt a q S q' := by
  subst hS
  exact ⟨hq, rfl, ho, hs, hn, hw, fun h => (by rw [ov] at h; cases h), .inl ⟨ov, rfl⟩⟩
theorem put_go (Y : Hv) (a : Int) (r : Nat) (x : Option Int) : (Y.go a).put r x = (Y.put r x).go a := by
  cases x with
  | none => rfl
  | some x =>
    show (Y.go a).set r x = (Y.set r x).go a
    unfold Hv.set
    split <;> rfl
theorem put_st (Y : Hv) (r : Nat) (x : Option Int) : (Y.put r x).state = Y.state ∧ (Y.put r x).pc = Y.pc := by
  cases x with
  | none => exact ⟨rfl, rfl⟩
  | some x =>
    show (Y.set r x).state = Y.state ∧ (Y.set r x).pc = Y.pc
    unfold Hv.set
    split <;> exact ⟨rfl, rfl⟩
/-- An instruction that does not jump, and goes on. -/
theorem ins_on {h Y : Hv} {l m : List UInt8} {op rd r1 r2 im a : Int} {o : List Int} {s : List (Int × Int)} {res : Option Int} (hE : eff (h.go a) l op (rg h r1.toNat) (rg h r2.toNat) (lo im) = ⟨Y.go a, m, o, s, res⟩) (hY : Y.state = 0) (hx : ¬ op = 3 ∧ ¬ op = 4 ∧ (op < 5 ∨ 10 < op)) : ins (h.go a) l op rd r1 r2 im = ⟨(Y.put rd.toNat res).go (lo (a + 4)), m, o, s⟩ := by
  have e : ins (h.go a) l op rd r1 r2 im = done (eff (h.go a) l op (rg h r1.toNat) (rg h r2.toNat) (lo im)) rd.toNat (nxt (h.go a) op (rg h r1.toNat) (rg h r2.toNat) (lo im)) := rfl
  have en : nxt (h.go a) op (rg h r1.toNat) (rg h r2.toNat) (lo im) = lo (a + 4) := by
    unfold nxt
    rw [if_neg hx.2.1, if_neg (by rw [holds_no hx.2.2]; simp [hx.1])]
    rfl
  rw [e, hE, en]
  unfold done
  simp only
  rw [put_go]
  unfold Hv.on
  rw [if_pos (by show (Y.put rd.toNat res).state = 0; rw [(put_st _ _ _).1]; exact hY), go_go]
/-- An instruction that traps or halts. -/
theorem ins_stop {h Y : Hv} {l m : List UInt8} {op rd r1 r2 im a : Int} {o : List Int} {s : List (Int × Int)} (hE : eff (h.go a) l op (rg h r1.toNat) (rg h r2.toNat) (lo im) = ⟨Y.go a, m, o, s, none⟩) (hY : ¬ Y.state = 0) : ins (h.go a) l op rd r1 r2 im = ⟨Y.go a, m, o, s⟩ := by
  have e : ins (h.go a) l op rd r1 r2 im = done (eff (h.go a) l op (rg h r1.toNat) (rg h r2.toNat) (lo im)) rd.toNat (nxt (h.go a) op (rg h r1.toNat) (rg h r2.toNat) (lo im)) := rfl
  rw [e, hE]
  unfold done Hv.put Hv.on
  simp only
  rw [if_neg (by show ¬ Y.state = 0; exact hY)]
theorem get_low (q : Mi.Rn) {k : Int} (h : k < 32) : q.get k = rg q.h k.toNat := by unfold Rn.get; rw [if_pos h]
theorem put_low (q : Mi.Rn) {k : Int} (h : k < 32) (x : Int) : q.put k x = { q with h := q.h.set k.toNat x } := by unfold Rn.put; rw [if_neg (by omega)]
/-- What the small step of D = x leaves. -/
theorem fit_put {bf bt a op rd r1 r2 im x : Int} {q : Mi.Rn} (ok : q.Ok) (ov : q.over = false) (st : q.h.state = 0) (hh : q.here = a) (hr : rd < 32) (wx : W x) (hE : eff (q.h.go a) q.m op (rg q.h r1.toNat) (rg q.h r2.toNat) (lo im) = ⟨q.h.go a, q.m, [], [], some x⟩) (hx : ¬ op = 3 ∧ ¬ op = 4 ∧ (op < 5 ∨ 10 < op)) : Fit bf bt a q (ins (q.h.go a) q.m op rd r1 r2 im) (q.put rd x) := by
  have okp := ok.put rd wx
  rw [put_low q hr] at okp ⊢
  refine fit_on (X := q.h.set rd.toNat x) (o := []) (s := []) (ins_on (res := some x) hE st hx) okp ov hh rfl ?_ ?_ (by simp) (by simp) rfl (by simp)
  · exact (put_st q.h rd.toNat (some x)).2
  · exact (put_st q.h rd.toNat (some x)).1.trans st
theorem over_no {bf bt a op rd x : Int} {q : Mi.Rn} {P : Prop} (ov : q.over = false) : (q.put rd x).over = true → P := fun h => by
  have : (q.put rd x).over = q.over := by unfold Rn.put; split <;> rfl
  rw [this, ov] at h
  cases h
theorem fit_trap {bf bt a op rd r1 r2 im c : Int} {q : Mi.Rn} (ok : q.Ok) (hh : q.here = a) (hE : eff (q.h.go a) q.m op (rg q.h r1.toNat) (rg q.h r2.toNat) (lo im) = ⟨(q.h.trap c).go a, q.m, [], [], none⟩) : Fit bf bt a q (ins (q.h.go a) q.m op rd r1 r2 im) (q.trap c) ∧ ¬ (ins (q.h.go a) q.m op rd r1 r2 im).h.state = 0 := by
  have e := ins_stop (rd := rd) hE (by simp [Hv.trap])
  refine ⟨fit_end (o := []) (s := []) ?_ (ok.trap c) rfl (by simp [Rn.trap]) (by simp [Rn.trap]) rfl (by simp [Rn.trap]), ?_⟩
  · rw [e]
    show _ = (⟨(q.h.trap c).go q.here, q.m, [], []⟩ : Sv)
    rw [hh]
  · rw [e]
    simp [Hv.trap, Hv.go]
section
variable {bf bt steps a op rd r1 r2 im : Int}
/-- MSet: LUI, AUIPC. -/
theorem body_set (x : Int) (hr : rd < 32) (wx : W x) (hE : ∀ (h : Hv) (l : List UInt8), eff (h.go a) l op (rg h r1.toNat) (rg h r2.toNat) (lo im) = ⟨h.go a, l, [], [], some x⟩) (hx : ¬ op = 3 ∧ ¬ op = 4 ∧ (op < 5 ∨ 10 < op)) : BodyI bf bt steps a op rd r1 r2 im [⟨2, rd, 0, 0, x⟩] := fun q ov ok st z hh hl => by
  rw [one_run ov]
  have e : mic bf bt steps q ⟨2, rd, 0, 0, x⟩ = q.put rd x := by unfold mic; rw [if_neg (by simp), if_pos rfl]
  rw [e]
  exact ⟨fit_put ok ov st hh hr wx (hE _ _) hx, over_no (op := op) (bf := bf) (bt := bt) (a := a) ov⟩
theorem body_lui (hr : rd < 32) (ho : op = 1) : BodyI bf bt steps a op rd r1 r2 im [⟨2, rd, 0, 0, lo im⟩] :=
  body_set _ hr (W.lo _) (fun h l => by subst ho; unfold eff; rw [if_pos rfl]) (by omega)
theorem body_auipc (hr : rd < 32) (ho : op = 2) : BodyI bf bt steps a op rd r1 r2 im [⟨2, rd, 0, 0, lo (a + lo im)⟩] :=
  body_set _ hr (W.lo _) (fun h l => by subst ho; unfold eff; rw [if_neg (by omega), if_pos rfl]; rfl) (by omega)
/-- MAlu. -/
theorem body_alu (hr : rd < 32) (h1 : r1 < 32) (h2 : r2 < 32) (ho : 28 ≤ op ∧ op ≤ 45) : BodyI bf bt steps a op rd r1 r2 im [⟨400 + op, rd, r1, r2, 0⟩] := fun q ov ok st z hh hl => by
  rw [one_run ov, mic_op (c := 400) (k := op) (by omega) (by omega) rfl (by omega)]
  unfold mOp
  rw [if_neg (by omega), if_neg (by omega), if_neg (by omega), if_pos rfl]
  simp only [get_low q h1, get_low q h2]
  refine ⟨fit_put ok ov st hh hr (W.alu (ok.h.reg _) (ok.h.reg _)) ?_ (by omega), over_no (op := op) (bf := bf) (bt := bt) (a := a) ov⟩
  unfold eff
  rw [if_neg (by omega), if_neg (by omega), if_neg (by omega), if_neg (by omega), if_neg (by omega), if_neg (by omega), if_pos ho]
/-- MAluN. -/
theorem body_aln (hr : rd < 32) (h1 : r1 < 32) (ho : 19 ≤ op ∧ op ≤ 27) : BodyI bf bt steps a op rd r1 r2 im [⟨500 + opn op, rd, r1, 0, lo im⟩] := fun q ov ok st z hh hl => by
  have hop : 28 ≤ opn op ∧ opn op ≤ 45 := by unfold opn; (repeat' split) <;> omega
  rw [one_run ov, mic_op (c := 500) (k := opn op) (by omega) (by omega) rfl (by omega)]
  unfold mOp
  rw [if_neg (by omega), if_neg (by omega), if_neg (by omega), if_neg (by omega), if_pos rfl]
  simp only [get_low q h1]
  refine ⟨fit_put ok ov st hh hr (W.alu (ok.h.reg _) (W.lo _)) ?_ (by omega), over_no (op := op) (bf := bf) (bt := bt) (a := a) ov⟩
  unfold eff
  rw [if_neg (by omega), if_neg (by omega), if_neg (by omega), if_neg (by omega), if_neg (by omega), if_pos ho]
/-- MLoad. -/
theorem body_ld (hr : rd < 32) (h1 : r1 < 32) (ho : 11 ≤ op ∧ op ≤ 15) : BodyI bf bt steps a op rd r1 r2 im [⟨200 + op, rd, r1, 0, lo im⟩] := fun q ov ok st z hh hl => by
  rw [one_run ov, mic_op (c := 200) (k := op) (by omega) (by omega) rfl (by omega)]
  unfold mOp
  rw [if_neg (by omega), if_pos rfl]
  simp only [get_low q h1]
  have hE : eff (q.h.go a) q.m op (rg q.h r1.toNat) (rg q.h r2.toNat) (lo im) = efLoad (q.h.go a) q.m op (lo (rg q.h r1.toNat + lo im)) := by
    unfold eff
    rw [if_neg (by omega), if_neg (by omega), if_neg (by omega), if_pos ho]
  unfold mLoad
  by_cases hk : ldOk q.m op (lo (rg q.h r1.toNat + lo im)) = true
  · rw [if_pos hk]
    refine ⟨fit_put ok ov st hh hr (W.ldV _ _ _) ?_ (by omega), over_no (op := op) (bf := bf) (bt := bt) (a := a) ov⟩
    rw [hE]
    unfold efLoad
    rw [if_pos hk]
  · rw [if_neg hk]
    have t := fit_trap (bf := bf) (bt := bt) (rd := rd) (c := 3) ok hh (r1 := r1) (r2 := r2) (im := im) (op := op) (by rw [hE]; unfold efLoad; rw [if_neg hk]; rfl)
    exact ⟨t.1, fun _ => .inr t.2⟩
theorem hits_at {l : List UInt8} {p : Int} (hl : l.length ≤ 4096) (hp : 0 ≤ p) (h : stOk l op p = true) : hits bf bt p (ssz op) = meet bf bt (p, ((ssz op : Nat) : Int)) := by
  have hz : p + (ssz op : Int) ≤ l.length := by
    unfold stOk thr at h
    simp only [decide_eq_true_eq] at h
    exact h.2.2
  exact hits_meet hp (by omega) (ssz_le _)
/-- MStore. -/
theorem body_st (h1 : r1 < 32) (h2 : r2 < 32) (ho : 16 ≤ op ∧ op ≤ 18) : BodyI bf bt steps a op rd r1 r2 im [⟨300 + op, 0, r1, r2, lo im⟩] := fun q ov ok st z hh hl => by
  rw [one_run ov, mic_op (c := 300) (k := op) (by omega) (by omega) rfl (by omega)]
  unfold mOp
  rw [if_neg (by omega), if_neg (by omega), if_pos rfl]
  simp only [get_low q h1, get_low q h2]
  have hE : eff (q.h.go a) q.m op (rg q.h r1.toNat) (rg q.h r2.toNat) (lo im) = efStore (q.h.go a) q.m op (lo (rg q.h r1.toNat + lo im)) (rg q.h r2.toNat) := by
    unfold eff
    rw [if_neg (by omega), if_neg (by omega), if_neg (by omega), if_neg (by omega), if_pos ho]
  unfold mStore
  by_cases hk : stOk q.m op (lo (rg q.h r1.toNat + lo im)) = true
  · rw [if_pos hk]
    have hm := hits_at (bf := bf) (bt := bt) hl (W.lo _).1 hk
    refine ⟨fit_on (X := q.h) (o := []) (s := [(lo (rg q.h r1.toNat + lo im), ((ssz op : Nat) : Int))]) ?_ ((ok.mem _).stored _ _ _ _) ov hh rfl rfl st (by simp [Rn.stored]) rfl rfl (by simp [Rn.stored, hm]), fun h => ?_⟩
    · rw [ins_on (Y := q.h) (res := none) (m := stL q.m op (lo (rg q.h r1.toNat + lo im)) (rg q.h r2.toNat)) (o := []) (s := [(lo (rg q.h r1.toNat + lo im), ((ssz op : Nat) : Int))]) (by rw [hE]; unfold efStore; rw [if_pos hk]) st (by omega)]
      rfl
    · have : q.over = true := h
      rw [ov] at this
      cases this
  · rw [if_neg hk]
    have t := fit_trap (bf := bf) (bt := bt) (rd := rd) (c := 4) ok hh (r1 := r1) (r2 := r2) (im := im) (op := op) (by rw [hE]; unfold efStore; rw [if_neg hk]; rfl)
    exact ⟨t.1, fun _ => .inr t.2⟩
/-- Nothing: FENCE. -/
theorem body_fence (ho : op = 57) : BodyI bf bt steps a op rd r1 r2 im [] := fun q ov ok st z hh hl => by
  have hE : eff (q.h.go a) q.m op (rg q.h r1.toNat) (rg q.h r2.toNat) (lo im) = ⟨q.h.go a, q.m, [], [], none⟩ := by
    unfold eff
    rw [if_neg (by omega), if_neg (by omega), if_neg (by omega), if_neg (by omega), if_neg (by omega), if_neg (by omega), if_neg (by omega), if_neg (by omega), if_neg (by omega), if_neg (by omega)]
  refine ⟨fit_on (X := q.h) (o := []) (s := []) ?_ ok ov hh rfl rfl st (by simp [mrun]) (by simp [mrun]) rfl (by simp [mrun]), fun h => ?_⟩
  · rw [ins_on (Y := q.h) (res := none) hE st (by omega)]
    rfl
  · have : q.over = true := h
    rw [ov] at this
    cases this
/-- MBreak: EBREAK. -/
theorem body_break (ho : op = 59) : BodyI bf bt steps a op rd r1 r2 im [⟨6, 0, 0, 0, 0⟩] := fun q ov ok st z hh hl => by
  rw [one_run ov]
  have e : mic bf bt steps q ⟨6, 0, 0, 0, 0⟩ = q.trap 6 := by unfold mic; rw [if_neg (by simp), if_neg (by simp), if_neg (by simp), if_neg (by simp), if_neg (by simp), if_pos rfl]
  rw [e]
  have t := fit_trap (bf := bf) (bt := bt) (rd := rd) (c := 6) ok hh (r1 := r1) (r2 := r2) (im := im) (op := op) (by unfold eff; rw [if_neg (by omega), if_neg (by omega), if_neg (by omega), if_neg (by omega), if_neg (by omega), if_neg (by omega), if_neg (by omega), if_neg (by omega), if_neg (by omega), if_pos ho]; rfl)
  exact ⟨t.1, fun _ => .inr t.2⟩
/-- MCall: ECALL. -/
theorem body_call (ho : op = 58) : BodyI bf bt steps a op rd r1 r2 im [⟨5, 0, 0, 0, 0⟩] := fun q ov ok st z hh hl => by
  rw [one_run ov]
  have e : mic bf bt steps q ⟨5, 0, 0, 0, 0⟩ = mCall q := by unfold mic; rw [if_neg (by simp), if_neg (by simp), if_neg (by simp), if_neg (by simp), if_pos rfl]
  rw [e]
  have hE : eff (q.h.go a) q.m op (rg q.h r1.toNat) (rg q.h r2.toNat) (lo im) = efCall (q.h.go a) q.m := by
    unfold eff
    rw [if_neg (by omega), if_neg (by omega), if_neg (by omega), if_neg (by omega), if_neg (by omega), if_neg (by omega), if_neg (by omega), if_neg (by omega), if_pos ho]
  unfold mCall
  unfold efCall at hE
  have hrg : ∀ k, rg (q.h.go a) k = rg q.h k := fun _ => rfl
  rw [hrg, hrg] at hE
  by_cases h0 : rg q.h 17 = 0
  · rw [if_pos h0] at hE ⊢
    have e2 := ins_stop (rd := rd) (Y := q.h.halt) hE (by simp [Hv.halt])
    refine ⟨fit_end (o := []) (s := []) ?_ ⟨ok.h.halt.go ok.h0 ok.h1, ok.tl, ok.tb, ok.h0, ok.h1⟩ rfl (by simp) (by simp) rfl (by simp), fun _ => .inr ?_⟩
    · rw [e2]
      show _ = (⟨q.h.halt.go q.here, q.m, [], []⟩ : Sv)
      rw [hh]
    · rw [e2]
      simp [Hv.halt, Hv.go]
  rw [if_neg h0] at hE ⊢
  by_cases h1 : rg q.h 17 = 1
  · rw [if_pos h1] at hE ⊢
    refine ⟨fit_on (X := q.h) (o := [rg q.h 10]) (s := []) ?_ ⟨ok.h, ok.tl, ok.tb, ok.h0, ok.h1⟩ ov hh rfl rfl st rfl (by simp) rfl (by simp), fun h => ?_⟩
    · rw [ins_on (Y := q.h) (res := none) hE st (by omega)]
      rfl
    · have : q.over = true := h
      rw [ov] at this
      cases this
  · rw [if_neg h1] at hE ⊢
    have t := fit_trap (bf := bf) (bt := bt) (rd := rd) (c := 5) ok hh (r1 := r1) (r2 := r2) (im := im) (op := op) hE
    exact ⟨t.1, fun _ => .inr t.2⟩
end
end Go.Proofs.YtkdghgiajifbdaaDoor.Ts
