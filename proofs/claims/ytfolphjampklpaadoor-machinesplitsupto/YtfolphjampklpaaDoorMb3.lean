/-
  A board of package machine, as cells of memory; what NewBoard answers.
-/
import Derived.Test.YtfolphjampklpaaDoorMb2
import Derived.Deep.RegionHeld3
namespace Go.Proofs.YtfolphjampklpaaDoor.Mc
open Go.ChangeShapes Go.WideShapes Go.ChangeAt Go.RowKit Mm Hh Hc
set_option linter.unusedVariables false
set_option linter.unusedSimpArgs false

theorem HRow.of {w w' : World} {g : Nat} {hs : List Hv} (r : HRow w g hs) (G : Gr w w') : HRow w' g hs := by
  obtain ⟨rest, e⟩ := r.row
  exact ⟨r.ok, rest, (G.block _ (Array.getElem?_eq_some_iff.1 e).1).trans e⟩
theorem own_gr {w w' : World} {base : Nat} {v : Value} {l : List UInt8} (h : Own w base v l) (G : Gr w w') : Own w' base v l :=
  h.to fun k o f e => G.block _ (Array.getElem?_eq_some_iff.1 e).1
/-- A board at block g: its memory M, its harts in block gh, what came out O. -/
structure Bw (w : World) (base g : Nat) (M : Value) (gh hc : Nat) (O : Value) (s : Sh) : Prop where
  bg : base ≤ g
  blk : w.heap[g]? = some (.cells #[M, .slice (some ⟨gh, 0, none⟩) s.hs.length hc, O, .int .i64 s.steps] 99 (0, 0))
  mem : Own w 0 M s.m
  bh : base ≤ gh
  row : HRow w gh s.hs
  out : w.ownsRow base 22 1 O s.out.length (s.out.map (Value.int .u32))
def Bd (w : World) (base g : Nat) (s : Sh) : Prop := ∃ M gh hc O, Bw w base g M gh hc O s
theorem Bw.of {w w' : World} {base g : Nat} {M : Value} {gh hc : Nat} {O : Value} {s : Sh} (B : Bw w base g M gh hc O s) (G : Gr w w') : Bw w' base g M gh hc O s :=
  ⟨B.bg, (G.block _ (Array.getElem?_eq_some_iff.1 B.blk).1).trans B.blk, own_gr B.mem G, B.bh, B.row.of G, owns_to B.out fun k o f e => G.block _ (Array.getElem?_eq_some_iff.1 e).1⟩
theorem Bd.of {w w' : World} {base g : Nat} {s : Sh} (B : Bd w base g s) (G : Gr w w') : Bd w' base g s := by
  obtain ⟨M, gh, hc, O, B⟩ := B
  exact ⟨M, gh, hc, O, B.of G⟩

theorem one_bd (a b c : Option Addr) (n1 n2 n3 c1 c2 c3 : Nat) (x : Int) : (#[.slice a n1 c1, .slice b n2 c2, .slice c n3 c3, .int .i64 x] : Array Value).all (·.oneCell') = true := by
  refine all_oneCell_toArray ?_
  intro v hv
  simp only [List.mem_cons, List.not_mem_nil, or_false] at hv
  rcases hv with rfl | rfl | rfl | rfl <;> rfl
theorem iB : (Tryd.prog.info? 99).map (·.size) = some 4 := by kernel_rfl
set_option maxHeartbeats 1000000 in
set_option maxRecDepth 100000 in
theorem NewBoard_no {ma ha pa : Option Addr} {hn pn : Nat} (mc hc pc : Nat) {m : List UInt8} {hs : List Hv} {ps : List (Int × Int)} {w : World} (mn : Nat) (hmn : m.length = mn) (H : Hs w ha hn hs) (P : Ps w pa pn ps) (b1 : mn ≤ 140737488351232) (b2 : hn ≤ 140737488351232) (b3 : pn ≤ 140737488351232) (hno : ¬ wrong m hs ps = 0) :
    Calls Tryd.prog 47 #[.agg #[.slice ma mn mc, .slice ha hn hc], .slice pa pn pc] w fun e w' => e = .returned (.tuple #[.agg #[.slice none 0 0, .slice none 0 0, .slice none 0 0, .int .i64 0], .int .i64 (wrong m hs ps)]) ∧ Gr w w' := by
  have HM : Hid (∀ W : World, Gr w W → Calls Tryd.prog 70 #[.agg #[.slice ma mn mc, .slice ha hn hc], .slice pa pn pc] W fun e w' => e = .returned (.int .i64 (wrong m hs ps)) ∧ Gr W w') := fun W G => pwrong_any mc hc pc mn hmn (H.of G) (P.of G) b1 b2 b3
  clear H P hmn
  generalize wrong m hs ps = E at *
  have hE : (E != 0) = true := by simpa using hno
  clear hno
  go_enter Tryd.func47, Tryd.ntmps47
  go_wp2_with fail
  refine (HM.out _ (((Gr.refl _).alloc _).alloc _)).mono ?_
  rintro e w1 ⟨rfl, G1⟩
  have HG1 : Hid (Gr w w1) := (((Gr.refl _).alloc _).alloc _).trans G1
  have HB : Hid (w1.heap[w.heap.size + 1]? = some (.cells #[.slice none 0 0, .slice none 0 0, .slice none 0 0, .int .i64 0] 99 (0, 0))) := (two_of G1).2
  clear G1 HM
  have HI : Hid ((Tryd.prog.info? 99).map (·.size) = some 4) := iB
  go_wp2_with (refine wpList_store_row rfl 99 _ _ rfl (w.heap.size + 1) #[.slice none 0 0, .slice none 0 0, .slice none 0 0, .int .i64 0] rfl rfl 99 _ ?hb HI.out rfl (by kernel_rfl) ?_; (case hb => exact HB.out))
  refine bodyPost_ret (v := .tuple #[.agg _, .int .i64 E]) (Hr.results_cell_tmp' Tryd.results47 _ _ _ _ _ (0, 0) _ _ rfl rfl (setRow_heap _ _ _ _ _ (0, 0) HB.out) Tryd.underlying99 rfl HI.out) rfl ⟨rfl, ?_⟩
  exact gr_setRow HG1.out (Nat.le_succ _) _
theorem clone_own {ma : Option Addr} {mc : Nat} {m : List UInt8} {w : World} {mn : Nat} (M : Mem w ma mn m) (hcap : ma = none → mc = 0) (hn : mn ≤ 4096) :
    Calls Tryd.prog 58 #[.slice ma mn mc] w fun e w' => ∃ a c, e = .returned (.slice a mn c) ∧ Own w' 0 (.slice a mn c) m ∧ Gr w w' :=
  (Clone_any M hcap (by omega)).mono fun e w' ⟨v, e1, e2, e3⟩ => by
    obtain ⟨a, c, rfl, _⟩ := e2.mem
    have := M.len
    rw [this] at e1 e2
    exact ⟨a, c, e1, e2.base (w' := w') (Nat.zero_le _), e3⟩
set_option maxHeartbeats 1000000 in
set_option maxRecDepth 100000 in
theorem NewBoard_yes {ma ha pa : Option Addr} {hn pn : Nat} (mc hc pc : Nat) {m : List UInt8} {hs : List Hv} {ps : List (Int × Int)} {w : World} (mn : Nat) (M : Mem w ma mn m) (hcap : ma = none → mc = 0) (H : Hs w ha hn hs) (P : Ps w pa pn ps) (b3 : pn ≤ 140737488351232) (hy : wrong m hs ps = 0) (b1 : mn ≤ 4096) (b2 : 1 ≤ hn) (b4 : hn ≤ 4) :
    Calls Tryd.prog 47 #[.agg #[.slice ma mn mc, .slice ha hn hc], .slice pa pn pc] w fun e w' => ∃ a c gh hc, e = .returned (.tuple #[.agg #[.slice a mn c, .slice (some ⟨gh, 0, none⟩) hn hc, .slice none 0 0, .int .i64 0], .int .i64 0]) ∧ Own w' 0 (.slice a mn c) m ∧ w.heap.size ≤ gh ∧ HRow w' gh hs ∧ Gr w w' := by
  have HM : Hid (∀ W : World, Gr w W → Calls Tryd.prog 70 #[.agg #[.slice ma mn mc, .slice ha hn hc], .slice pa pn pc] W fun e w' => e = .returned (.int .i64 0) ∧ Gr W w') := fun W G => by rw [← hy]; exact pwrong_any mc hc pc mn M.len (H.of G) (P.of G) (by omega) (by omega) b3
  obtain ⟨b, o, rfl, _, _⟩ := H.spot (by omega)
  have C1 : Hid (∀ W : World, Gr w W → Calls Tryd.prog 58 #[.slice ma mn mc] W fun e w' => ∃ a c, e = .returned (.slice a mn c) ∧ Own w' 0 (.slice a mn c) m ∧ Gr W w') := fun W G => clone_own (M.of G) hcap b1
  have C2 : Hid (∀ W : World, Gr w W → Calls Tryd.prog 71 #[.slice (some ⟨b, o, none⟩) hn hc] W fun e w' => ∃ g c, e = .returned (.slice (some ⟨g, 0, none⟩) hn c) ∧ w.heap.size ≤ g ∧ HRow w' g hs ∧ Gr W w') := fun W G => (HClone_any hc (H.of G) b2 b4).mono fun e w' ⟨g, c, e1, e2, e3⟩ => ⟨g, c, e1, Nat.le_trans G.size e2, e3⟩
  clear H P hy M hcap
  go_enter Tryd.func47, Tryd.ntmps47
  go_wp2_with fail
  refine (HM.out _ (((Gr.refl _).alloc _).alloc _)).mono ?_
  rintro e w1 ⟨rfl, G1⟩
  have HG1 : Hid (Gr w w1) := (((Gr.refl _).alloc _).alloc _).trans G1
  have HA : Hid (w1.heap[w.heap.size]? = some (.cells #[.slice ma mn mc, .slice (some ⟨b, o, none⟩) hn hc] 48 (0, 0))) := (two_of G1).1
  have HB : Hid (w1.heap[w.heap.size + 1]? = some (.cells #[.slice none 0 0, .slice none 0 0, .slice none 0 0, .int .i64 0] 99 (0, 0))) := (two_of G1).2
  have k0 : w1.cell? ⟨w.heap.size, 0, none⟩ = some (.slice ma mn mc) := cell_of_row _ _ _ _ _ _ HA.out
  have k1 : w1.cell? ⟨w.heap.size, 1, none⟩ = some (.slice (some ⟨b, o, none⟩) hn hc) := cell_of_row _ _ _ _ _ _ HA.out
  clear G1 HM
  go_wp2_with fail
  have hlt : w.heap.size < w1.heap.size := (Array.getElem?_eq_some_iff.1 HA.out).1
  have hne : w1.heap.size ≠ w.heap.size := by omega
  go_region_held3 (fun W => W.cell? ⟨w.heap.size, 0, none⟩ = some (.slice ma mn mc) ∧ W.cell? ⟨w.heap.size, 1, none⟩ = some (.slice (some ⟨b, o, none⟩) hn hc)) (first | go_keep | (constructor <;> assumption)) (first
    | (go_at_call 58; refine (C1.out _ (by repeat (first | exact HG1.out | refine Gr.drew ?_ | refine Gr.alloc ?_ _))).mono ?_; rintro e w2 ⟨a2, c2, rfl, O2, G2⟩; have HO2 : Hid (Own w2 0 (.slice a2 mn c2) m) := O2; have HG2 : Hid (Gr w1 w2) := Gr.trans (by repeat (first | exact Gr.refl w1 | refine Gr.drew ?_ | refine Gr.alloc ?_ _)) G2; have HC2 : Hid (w2.heap[w1.heap.size]? = some (.cells #[.slice none 0 0, .slice none 0 0, .slice none 0 0, .int .i64 0] 99 (0, 0))) := Hr.heap_of_gr ((Gr.refl (w1.alloc _)).drew.trans G2) (heap_alloc_new w1 _); have q0 : w2.cell? ⟨w.heap.size, 0, none⟩ = some (.slice ma mn mc) := cell_of_row _ _ _ _ _ _ (Hr.heap_of_gr HG2.out HA.out); have q1 : w2.cell? ⟨w.heap.size, 1, none⟩ = some (.slice (some ⟨b, o, none⟩) hn hc) := cell_of_row _ _ _ _ _ _ (Hr.heap_of_gr HG2.out HA.out); clear G2 O2 k0 k1 C1)
    | (go_at_call 71; refine (C2.out _ (by repeat (first | exact HG1.out.trans HG2.out | refine Gr.drew ?_ | refine Gr.alloc ?_ _))).mono ?_; rintro e w3 ⟨g3, c3, rfl, hg3, R3, G3⟩; have HR3 : Hid (HRow w3 g3 hs) := R3; have HO3 : Hid (Own w3 0 (.slice a2 mn c2) m) := own_gr HO2.out G3; have HG3 : Hid (Gr w1 w3) := HG2.out.trans G3; have HC3 : Hid (w3.heap[w1.heap.size]? = some (.cells #[.slice none 0 0, .slice none 0 0, .slice none 0 0, .int .i64 0] 99 (0, 0))) := Hr.heap_of_gr G3 HC2.out; have q3 : w3.cell? ⟨w.heap.size, 0, none⟩ = some (.slice ma mn mc) := cell_of_row _ _ _ _ _ _ (Hr.heap_of_gr HG3.out HA.out); have q4 : w3.cell? ⟨w.heap.size, 1, none⟩ = some (.slice (some ⟨b, o, none⟩) hn hc) := cell_of_row _ _ _ _ _ _ (Hr.heap_of_gr HG3.out HA.out); have z0 : w3.cell? ⟨w1.heap.size, 0, none⟩ = some (.slice none 0 0) := cell_of_row _ _ _ _ _ _ HC3.out; have z1 : w3.cell? ⟨w1.heap.size, 1, none⟩ = some (.slice none 0 0) := cell_of_row _ _ _ _ _ _ HC3.out; have z2 : w3.cell? ⟨w1.heap.size, 2, none⟩ = some (.slice none 0 0) := cell_of_row _ _ _ _ _ _ HC3.out; have z3 : w3.cell? ⟨w1.heap.size, 3, none⟩ = some (.int .i64 0) := cell_of_row _ _ _ _ _ _ HC3.out; have f0 : w3.frozen? ⟨w1.heap.size, 0, none⟩ = false := frozen_of_row _ _ _ _ _ HC3.out; have f1 : w3.frozen? ⟨w1.heap.size, 1, none⟩ = false := frozen_of_row _ _ _ _ _ HC3.out; clear G3 R3 C2 q0 q1 HO2 HG2 HC2))
  have hlt2 : w.heap.size + 1 < w1.heap.size := (Array.getElem?_eq_some_iff.1 HB.out).1
  have HB3 : Hid (w3.heap[w.heap.size + 1]? = some (.cells #[.slice none 0 0, .slice none 0 0, .slice none 0 0, .int .i64 0] 99 (0, 0))) := Hr.heap_of_gr HG3.out HB.out
  have hne2 : w1.heap.size ≠ w.heap.size + 1 := by omega
  have HI : Hid ((Tryd.prog.info? 99).map (·.size) = some 4) := iB
  go_wp2_with (refine wpList_store_row rfl 99 _ _ rfl (w.heap.size + 1) #[.slice a2 mn c2, .slice (some ⟨g3, 0, none⟩) hn c3, .slice none 0 0, .int .i64 0] rfl rfl 99 #[.slice none 0 0, .slice none 0 0, .slice none 0 0, .int .i64 0] ?hb HI.out rfl (one_bd _ _ _ _ _ _ _ _ _ _) ?_; (case hb => (rw [heap_setCell_other _ _ _ _ (by exact hne2.symm), heap_setCell_other _ _ _ _ (by exact hne2.symm)]; exact HB3.out)))
  refine bodyPost_ret (v := .tuple #[.agg _, .int .i64 0]) (Hr.results_cell_tmp' Tryd.results47 _ _ _ _ _ (0, 0) _ _ rfl rfl (setRow_heap _ _ _ _ _ (0, 0) (by rw [heap_setCell_other _ _ _ _ (by exact hne2.symm), heap_setCell_other _ _ _ _ (by exact hne2.symm)]; exact HB3.out)) Tryd.underlying99 rfl HI.out) rfl ?_
  have ne : ∀ (t : Nat) (k : Nat) (q : Array Value) (f : Nat × Nat), t ≠ 99 → w3.heap[k]? = some (.cells q t f) → (((w3.setCell ⟨w1.heap.size, 0, none⟩ (.slice a2 mn c2)).setCell ⟨w1.heap.size, 1, none⟩ (.slice (some ⟨g3, 0, none⟩) hn c3)).setRow (w.heap.size + 1) #[.slice a2 mn c2, .slice (some ⟨g3, 0, none⟩) hn c3, .slice none 0 0, .int .i64 0]).heap[k]? = w3.heap[k]? := fun t k q f ht hk => by
    have n1 : k ≠ w1.heap.size := ne_of_types hk HC3.out ht
    have n2 : k ≠ w.heap.size + 1 := ne_of_types hk HB3.out ht
    rw [setRow_other _ _ _ _ n2, heap_setCell_other _ _ _ _ (by exact n1), heap_setCell_other _ _ _ _ (by exact n1)]
  refine ⟨a2, c2, g3, c3, rfl, HO3.out.to fun k q f hk => ne _ k q f (by decide) hk, hg3, ?_, ?_⟩
  · obtain ⟨rest, hr⟩ := HR3.out.row
    exact ⟨HR3.out.ok, rest, (ne _ _ _ _ (by decide) hr).trans hr⟩
  · exact gr_setRow (((HG1.out.trans HG3.out).setCell (Nat.le_of_lt hlt) _).setCell (Nat.le_of_lt hlt) _) (Nat.le_succ _) _
end Go.Proofs.YtfolphjampklpaaDoor.Mc
