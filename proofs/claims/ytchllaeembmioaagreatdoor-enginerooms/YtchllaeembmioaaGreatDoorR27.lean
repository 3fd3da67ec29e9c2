/-
  Bm1, Eb: texts of ours that lie in one file.
-/
import Derived.Test.YtchllaeembmioaaGreatDoorR16
import Derived.Test.YtchllaeembmioaaGreatDoorR05
import Derived.Test.YtchllaeembmioaaGreatDoorR23
import Derived.Test.YtchllaeembmioaaGreatDoorR21
import Derived.Test.YtchllaeembmioaaGreatDoorR26
set_option linter.unusedVariables false
set_option linter.unusedSimpArgs false
set_option maxHeartbeats 8000000
set_option maxRecDepth 100000
namespace Go.Proofs.YtchllaeembmioaaGreatDoor.Bk
open Go.ChangeShapes Go.WideShapes Go.ChangeAt Go.RowKit Mm Hh Hc

def bkP (n : Nat) (pc : Int) : Int := if 4096 < n then 0 else pc
def bkX (n : Nat) (l : List UInt8) (pc : Int) : List Int := if 4096 < n then [] else blk l pc 16 0
theorem iB : (Tryz.prog.info? 45).map (·.size) = some 2 := by kernel_rfl
theorem infoI : (Tryz.prog.info? 77).map (fun i => (i.zero, i.size, i.bytes)) = some (some (.agg #[.int .i64 0, .int .i64 0, .int .i64 0, .int .i64 0, .int .i32 0]), 5, 40) := by kernel_rfl
theorem owns_form {w : World} {base e sz n : Nat} {v : Value} {xs : List Value} (h : w.ownsRow base e sz v n xs) : ∃ a c, v = .slice a n c := by
  rcases h.2 with ⟨rfl, rfl⟩ | ⟨g, cap, _, rfl, _⟩
  · exact ⟨none, 0, rfl⟩
  · exact ⟨_, cap, rfl⟩
theorem owns_base {w : World} {b b' e sz n : Nat} {v : Value} {xs : List Value} (h : w.ownsRow b e sz v n xs) (hb : b' ≤ b) : w.ownsRow b' e sz v n xs := by
  refine ⟨h.1, ?_⟩
  rcases h.2 with h | ⟨g', cap, cur, hv, hb1, r⟩
  · exact .inl h
  · exact .inr ⟨g', cap, cur, hv, by omega, r⟩
theorem five_cells {W : World} {b : Nat} {x0 x1 x2 x3 x4 : Value} (h0 : W.cell? ⟨b, 0, none⟩ = some x0) (h1 : W.cell? ⟨b, 1, none⟩ = some x1) (h2 : W.cell? ⟨b, 2, none⟩ = some x2) (h3 : W.cell? ⟨b, 3, none⟩ = some x3) (h4 : W.cell? ⟨b, 4, none⟩ = some x4) : ∀ j u, ([x0, x1, x2, x3, x4] : List Value)[j]? = some u → W.cell? ((⟨b, 0, none⟩ : Addr).add j) = some u := by
  intro j u hj
  rw [add_at]
  match j, hj with
  | 0, hj => simp at hj; subst hj; exact h0
  | 1, hj => simp at hj; subst hj; exact h1
  | 2, hj => simp at hj; subst hj; exact h2
  | 3, hj => simp at hj; subst hj; exact h3
  | 4, hj => simp at hj; subst hj; exact h4
theorem ends_any (op : Int) (w : World) : Calls Tryz.prog 94 #[.int .i64 op] w fun e w' => e = .returned (.bool (lastOp op)) ∧ w' = w := by
  go_enter Tryz.func94, Tryz.ntmps94
  go_wp2
  all_goals
    go_ret
    refine ⟨Dw.ret_bool ?_, rfl⟩
    simp only [beq_iff_eq, beq_eq_false_iff_ne, ne_eq] at *
    unfold lastOp
    first | exact (decide_eq_true (by omega)).symm | exact (decide_eq_false (by omega)).symm

structure Aft (w w3 : World) (g gi : Nat) (pc : Int) (v : Value) (k : Nat) (xs : List Value) (y : Value) : Prop where
  b1 : w3.heap[g + 1]? = some (.cells #[.int .u32 pc, v] 45 (0, 0))
  b0 : w3.heap[g]? = some (.cells #[.int .u32 0, .slice none 0 0] 45 (0, 0))
  own : w3.ownsRow (g + 2) 77 5 v k xs
  gr : Gr w w3
  op : w3.cell? ⟨gi, 0, none⟩ = some y
theorem grown_hold {w w' : World} {base : Nat} {O : Value} {n : Nat} {xs : List Value} {e sz : Nat} (hO : w.ownsRow base e sz O n xs) (q : w.grownBy w' O.ownBlock) {t : Nat} (ht : t ≠ e) {k : Nat} {o : Array Value} {f : Nat × Nat} (hk : w.heap[k]? = some (.cells o t f)) : w'.heap[k]? = some (.cells o t f) :=
  (q.block k (Array.getElem?_eq_some_iff.1 hk).1 (fun h => by
    rcases hO.2 with ⟨h0, _⟩ | ⟨g', cap, cur, hv, _, hg, _⟩
    · rw [h0] at h; cases h
    · rw [hv] at h
      injection h with h
      exact ne_of_types hk hg ht h)).trans hk
theorem heap_held {w w' : World} (g : Gr w w') {k : Nat} {x : Obj} (h : w.heap[k]? = some x) : w'.heap[k]? = some x := by
  rw [Below.block g k (Array.getElem?_eq_some_iff.1 h).1]; exact h
theorem aft {w wr w1 w2 : World} {g : Nat} {pc : Int} {S v' : Value} {k : Nat} {xs xs' : List Value} {Y Z : Array Value} {y : Value} (hg : w.heap.size = g) (B1 : wr.heap[g + 1]? = some (.cells #[.int .u32 pc, S] 45 (0, 0))) (B0 : wr.heap[g]? = some (.cells #[.int .u32 0, .slice none 0 0] 45 (0, 0)))
    (O : wr.ownsRow (g + 2) 77 5 S k xs) (G : Gr w wr) (G1 : Gr wr w1) (q : ((w1.alloc (.cells Y 77)).alloc (.cells Z 77)).grownBy w2 S.ownBlock) (O2 : w2.ownsRow (g + 2) 77 5 v' (k + 1) xs') (hy : Y[0]? = some y) :
    w2.cell? ⟨g + 1, 1, none⟩ = some S ∧ w2.frozen? ⟨g + 1, 1, none⟩ = false ∧ Aft w (w2.setCell ⟨g + 1, 1, none⟩ v') g w1.heap.size pc v' (k + 1) xs' y := by
  have G2 : Gr wr ((w1.alloc (.cells Y 77)).alloc (.cells Z 77)) := (G1.alloc _).alloc _
  have O1 := owns_gr O G2
  have b1 := grown_hold O1 q (by decide) (heap_held G2 B1)
  have b0 := grown_hold O1 q (by decide) (heap_held G2 B0)
  have hY : w2.heap[w1.heap.size]? = some (.cells Y 77 (0, 0)) := by
    have e : ((w1.alloc (.cells Y 77)).alloc (.cells Z 77)).heap[w1.heap.size]? = some (.cells Y 77 (0, 0)) := heap_alloc2_old w1 _ _
    refine (q.block _ (Array.getElem?_eq_some_iff.1 e).1 (fun h => ?_)).trans e
    have := (O.lt _ h.symm).2
    have := G1.size
    omega
  have ne : ∀ {t : Nat}, t ≠ 45 → ∀ {k : Nat} {o : Array Value} {f : Nat × Nat}, w2.heap[k]? = some (.cells o t f) → (w2.setCell ⟨g + 1, 1, none⟩ v').heap[k]? = w2.heap[k]? := fun ht _ _ _ hk => heap_setCell_other _ _ _ _ (by exact ne_of_types hk b1 ht)
  refine ⟨cell_of_row _ _ _ _ _ _ b1, frozen_of_row _ _ _ _ _ b1, ?_, ?_, ?_, ?_, ?_⟩
  · rw [heap_setCell_same _ _ _ _ _ _ b1]; rfl
  · exact (heap_setCell_other _ _ _ _ (by show g ≠ g + 1; omega)).trans b0
  · exact owns_to O2 fun k o f hk => ne (by decide) hk
  · refine Gr.setCell ?_ (by show w.heap.size ≤ g + 1; omega) _
    exact (G.trans G2).grown q (fun b e => by have := (O.lt b e).1; omega)
  · exact (cell_of_row _ _ _ _ _ _ ((ne (by decide) hY).trans hY)).trans hy
theorem two_set {W : World} {g t : Nat} {z0 z1 : Value} (h : W.heap[g]? = some (.cells #[z0, z1] t (0, 0))) (a b : Value) : ((W.setCell ⟨g, 0, none⟩ a).setCell ⟨g, 1, none⟩ b).heap[g]? = some (.cells #[a, b] t (0, 0)) := by
  have h0 := heap_setCell_same W g 0 _ _ a h
  exact heap_setCell_same _ g 1 _ _ b h0
theorem two_owns {W : World} {g base n : Nat} {z0 z1 v : Value} {xs : List Value} (h : W.ownsRow base 77 5 v n xs) (hb : W.heap[g]? = some (.cells #[z0, z1] 45 (0, 0))) (hg : g ≤ base) (a b : Value) : ((W.setCell ⟨g, 0, none⟩ a).setCell ⟨g, 1, none⟩ b).ownsRow g 77 5 v n xs :=
  owns_base (owns_to h fun k o f hk => by
    have e := ne_of_types hk hb (by decide)
    rw [heap_setCell_other _ _ _ _ (by exact e), heap_setCell_other _ _ _ _ (by exact e)]) hg
theorem ins_oneL (x0 x1 x2 x3 x4 : Int) : ∀ u ∈ ([.int .i64 x0, .int .i64 x1, .int .i64 x2, .int .i64 x3, .int .i32 x4] : List Value), u.oneCell' = true := by
  intro u hu
  simp only [List.mem_cons, List.not_mem_nil, or_false] at hu
  rcases hu with rfl | rfl | rfl | rfl | rfl <;> rfl
theorem Make_yes {w : World} {ao : Option Addr} {n : Nat} (cap : Nat) {l : List UInt8} (pc : Int) (M : Mem w ao n l) (T : Dw.Tab w) (hn : n ≤ 4096) (h0 : 0 ≤ pc) (h1 : pc < 4294967296) :
    Calls Tryz.prog 71 #[.slice ao n cap, .int .u32 pc] w fun e w' => ∃ v, e = .returned (.agg #[.int .u32 (bkP n pc), v]) ∧ w'.ownsRow w.heap.size 77 5 v (bkX n l pc).length (blC (bkX n l pc)) ∧ Gr w w' := by
  have e1 : bkP n pc = pc := if_neg (by omega)
  have e2 : bkX n l pc = blk l pc 16 0 := if_neg (by omega)
  rw [e1, e2]
  have HT : ∀ W : World, Gr w W → Dw.Tab W := fun W G => ⟨fun i v e => (G.cell _ (by exact Dw.lt_of_cell (T.shapes i v e))).trans (T.shapes i v e), fun i v e => (G.cell _ (by exact Dw.lt_of_cell (T.uppers i v e))).trans (T.uppers i v e)⟩
  have F : Hid (∀ (k : Nat) (W : World), Gr w W → Calls Tryz.prog 66 #[.slice ao n cap, .int .u32 ((pc + 4 * (k : Int)) % 4294967296)] W fun e w' => e = .returned (.tuple #[Dw.decV (ldV l 13 (at4 pc k)), .int .i64 (ftC l (at4 pc k))]) ∧ Gr W w') := fun k W G => Hf.Fetch_any cap (at4 pc k) (M.of G) (HT W G) (by omega) (at4_bd pc k).1 (at4_bd pc k).2
  obtain ⟨i0, hi, hz0, hz1, hz2⟩ := info_parts infoI
  clear e1 e2 M T HT
  go_enter Tryz.func71, Tryz.ntmps71
  go_wp2_with fail
  go_loopw [15] (fun i wr => ∃ (k : Nat) (xs : List Int) (a : Option Addr) (c : Nat), k ≤ 16 ∧ i = .int .u32 k ∧ xs.length = k ∧ xs ++ blk l pc (16 - k) k = blk l pc 16 0 ∧ wr.heap[w.heap.size + 1]? = some (.cells #[.int .u32 pc, .slice a k c] 45 (0, 0)) ∧ wr.heap[w.heap.size]? = some (.cells #[.int .u32 0, .slice none 0 0] 45 (0, 0)) ∧ wr.ownsRow (w.heap.size + 2) 77 5 (.slice a k c) k (blC xs) ∧ Gr w wr) (fun i _ => 16 - (intOf i).toNat)
  case atStart => exact ⟨0, [], none, 0, by omega, rfl, rfl, rfl, heap_alloc2_new w _ _, heap_alloc2_old w _ _, World.ownsRow_nil _ _ _ _, ((Gr.refl _).alloc _).alloc _⟩
  case round =>
    obtain ⟨k, xs, a, c, hk, rfl, hl, hx, B1, B0, O, G⟩ := hrel
    have HX : Hid (xs ++ blk l pc (16 - k) k = blk l pc 16 0) := hx
    have HL : Hid (xs.length = k) := hl
    have HB1 : Hid (wr.heap[w.heap.size + 1]? = some (.cells #[.int .u32 pc, .slice a k c] 45 (0, 0))) := B1
    have HB0 : Hid (wr.heap[w.heap.size]? = some (.cells #[.int .u32 0, .slice none 0 0] 45 (0, 0))) := B0
    have HO : Hid (wr.ownsRow (w.heap.size + 2) 77 5 (.slice a k c) k (blC xs)) := O
    have HG : Hid (Gr w wr) := G
    have hlt : w.heap.size + 1 < wr.heap.size := (Array.getElem?_eq_some_iff.1 B1).1
    clear hl hx B1 B0 O G
    by_cases h16 : k < 16
    · have FK : Hid _ := F.out k
      have HA : Hid (¬ ftC l (at4 pc k) = 0 → xs = blk l pc 16 0) := fun h => by
        have e := HX.out
        rw [show 16 - k = (15 - k) + 1 by omega, blk_stop h, List.append_nil] at e
        exact e
      have HBe : Hid (ftC l (at4 pc k) = 0 → lastOp (Dc.dop (ldV l 13 (at4 pc k))) = true → xs ++ [ldV l 13 (at4 pc k)] = blk l pc 16 0) := fun h h2 => by
        have e := HX.out
        rw [show 16 - k = (15 - k) + 1 by omega, blk_last h h2] at e
        exact e
      have HC : Hid (ftC l (at4 pc k) = 0 → lastOp (Dc.dop (ldV l 13 (at4 pc k))) = false → (xs ++ [ldV l 13 (at4 pc k)]) ++ blk l pc (16 - (k + 1)) (k + 1) = blk l pc 16 0) := fun h h2 => by
        have e := HX.out
        rw [show 16 - k = (15 - k) + 1 by omega, blk_on h h2] at e
        rw [show 16 - (k + 1) = 15 - k by omega]
        simpa using e
      have HIC : Hid (insC (ldV l 13 (at4 pc k)) = [.int .i64 (Dc.dop (ldV l 13 (at4 pc k))), .int .i64 (Dc.rdF (Dc.frm (Dc.dop (ldV l 13 (at4 pc k)))) (ldV l 13 (at4 pc k))), .int .i64 (Dc.rs1F (Dc.frm (Dc.dop (ldV l 13 (at4 pc k)))) (ldV l 13 (at4 pc k))), .int .i64 (Dc.rs2F (Dc.frm (Dc.dop (ldV l 13 (at4 pc k)))) (ldV l 13 (at4 pc k))), .int .i32 (Dc.immF (Dc.frm (Dc.dop (ldV l 13 (at4 pc k)))) (ldV l 13 (at4 pc k)))]) := rfl
      clear HX
      unfold Dw.decV Dw.insV at FK
      clear F
      generalize ldV l 13 (at4 pc k) = X at *
      generalize ftC l (at4 pc k) = cc at *
      generalize Dc.rdF (Dc.frm (Dc.dop X)) X = x1 at *
      generalize Dc.rs1F (Dc.frm (Dc.dop X)) X = x2 at *
      generalize Dc.rs2F (Dc.frm (Dc.dop X)) X = x3 at *
      generalize Dc.immF (Dc.frm (Dc.dop X)) X = x4 at *
      generalize Dc.dop X = x0 at *
      have FK2 : Hid (∀ W : World, Gr w W → Calls Tryz.prog 66 #[.slice ao n cap, .int .u32 ((pc + 4 * (k : Int)) % 4294967296)] W fun e w' => e = .returned (.tuple #[.agg #[.int .i64 x0, .int .i64 x1, .int .i64 x2, .int .i64 x3, .int .i32 x4], .int .i64 cc]) ∧ Gr W w') := FK
      clear FK
      by_cases hc : cc = 0
      · subst hc
        go_wp2_with fail
        refine (FK2.out _ HG.out).mono ?_
        rintro e w1 ⟨rfl, G1⟩
        have HG1 : Hid (Gr wr w1) := G1
        have q1 : w1.cell? ⟨w.heap.size + 1, 1, none⟩ = some (.slice a k c) := cell_of_row _ _ _ _ _ _ (heap_held G1 HB1.out)
        have hlt1 : w.heap.size + 1 < w1.heap.size := Nat.lt_of_lt_of_le hlt G1.size
        clear G1 FK2
        go_wp2_with (at_builtin; refine wpList_append_own _ rfl (.tmp 30) (.tmp 32) 43 rfl (w.heap.size + 2) 77 i0 (.agg #[.int .i64 0, .int .i64 0, .int .i64 0, .int .i64 0, .int .i32 0]) 5 40 Tryz.underlying43 hi hz0 hz1 hz2 rfl (by decide) (.slice a k c) k (blC xs) rfl (owns_gr HO.out ((HG1.out.alloc _).alloc _)) ⟨w1.heap.size + 1, 0, none⟩ 1 1 [.int .i64 x0, .int .i64 x1, .int .i64 x2, .int .i64 x3, .int .i32 x4] rfl rfl (five_cells (by simp) (by simp) (by simp) (by simp) (by simp)) (ins_oneL _ _ _ _ _) (by unfold maxLen; omega) (by omega) (by simp; omega) ?_; intro v' w2 hown hgrow _; obtain ⟨a', c', rfl⟩ := owns_form hown; obtain ⟨z1, z2, A0⟩ := aft rfl HB1.out HB0.out HO.out HG.out HG1.out hgrow hown (y := .int .i64 x0) (by simp); have HF : Hid (Aft w (w2.setCell ⟨w.heap.size + 1, 1, none⟩ (.slice a' (k + 1) c')) w.heap.size w1.heap.size pc (.slice a' (k + 1) c') (k + 1) (blC xs ++ [.int .i64 x0, .int .i64 x1, .int .i64 x2, .int .i64 x3, .int .i32 x4]) (.int .i64 x0)) := A0; have z3 := A0.op; clear A0 hown hgrow)
        clear z1 z2 z3 HO HB1 HB0 HG HG1 q1
        generalize w2.setCell ⟨w.heap.size + 1, 1, none⟩ (.slice a' (k + 1) c') = w3 at *
        have HLN : Hid ((xs ++ [X]).length = k + 1) := by unfold Hid; rw [List.length_append, HL.out]; rfl
        have HCC : Hid (blC (xs ++ [X]) = blC xs ++ [.int .i64 x0, .int .i64 x1, .int .i64 x2, .int .i64 x3, .int .i32 x4]) := by unfold Hid; rw [blC_snoc, HIC.out]
        cases hL : lastOp x0 with
        | true =>
          have HE : Hid (∀ W : World, Calls Tryz.prog 94 #[.int .i64 x0] W fun e w' => e = .returned (.bool true) ∧ w' = W) := fun W => by have := ends_any x0 W; rwa [hL] at this
          have HXE : Hid (xs ++ [X] = blk l pc 16 0) := HBe.out (by simp) hL
          refine (HE.out _).mono ?_
          rintro e w4 ⟨rfl, rfl⟩
          clear HE hL HBe HC HA
          have HOW : Hid (w4.ownsRow (w.heap.size + 2) 77 5 (.slice a' (k + 1) c') (blk l pc 16 0).length (blC (blk l pc 16 0))) := (by unfold Hid; rw [← HXE.out, HLN.out, HCC.out]; exact HF.out.own)
          have q0 : w4.cell? ⟨w.heap.size + 1, 0, none⟩ = some (.int .u32 pc) := cell_of_row _ _ _ _ _ _ HF.out.b1
          have q1 : w4.cell? ⟨w.heap.size + 1, 1, none⟩ = some (.slice a' (k + 1) c') := cell_of_row _ _ _ _ _ _ HF.out.b1
          have r0 : w4.cell? ⟨w.heap.size, 0, none⟩ = some (.int .u32 0) := cell_of_row _ _ _ _ _ _ HF.out.b0
          have r1 : w4.cell? ⟨w.heap.size, 1, none⟩ = some (.slice none 0 0) := cell_of_row _ _ _ _ _ _ HF.out.b0
          have f0 : ∀ j, w4.frozen? ⟨w.heap.size, j, none⟩ = false := fun j => frozen_of_row _ _ _ _ _ HF.out.b0
          go_wp2_with fail
          refine bodyPost_ret (v := .agg #[.int .u32 pc, .slice a' (k + 1) c']) (results_cell_row Tryz.results71 _ _ _ _ _ (0, 0) _ rfl (two_set HF.out.b0 _ _) Tryz.underlying45 rfl iB) rfl ⟨_, rfl, ?_, ?_⟩
          · exact two_owns HOW.out HF.out.b0 (by omega) _ _
          · exact (HF.out.gr.setCell (Nat.le_refl _) _).setCell (Nat.le_refl _) _
        | false =>
          have HE : Hid (∀ W : World, Calls Tryz.prog 94 #[.int .i64 x0] W fun e w' => e = .returned (.bool false) ∧ w' = W) := fun W => by have := ends_any x0 W; rwa [hL] at this
          have HXE : Hid ((xs ++ [X]) ++ blk l pc (16 - (k + 1)) (k + 1) = blk l pc 16 0) := HC.out (by simp) hL
          refine (HE.out _).mono ?_
          rintro e w4 ⟨rfl, rfl⟩
          clear HE hL HBe HC HA
          go_wp2_with fail
          go_roundw
          case rel => exact ⟨k + 1, xs ++ [X], a', c', by omega, by go_num, HLN.out, HXE.out, HF.out.b1, HF.out.b0, by rw [HCC.out]; exact HF.out.own, HF.out.gr⟩
          case measure => simp [intOf]; omega
      · have hb : (cc == 0) = false := by simpa using hc
        have HXE : Hid (xs = blk l pc 16 0) := HA.out hc
        go_wp2_with fail
        refine (FK2.out _ HG.out).mono ?_
        rintro e w1 ⟨rfl, G1⟩
        have HG1 : Hid (Gr wr w1) := G1
        have HGA : Hid (Gr wr (w1.alloc (.cells #[.int .i64 x0, .int .i64 x1, .int .i64 x2, .int .i64 x3, .int .i32 x4] 77))) := G1.alloc _
        clear G1 FK2
        have HOW : Hid ((w1.alloc (.cells #[.int .i64 x0, .int .i64 x1, .int .i64 x2, .int .i64 x3, .int .i32 x4] 77)).ownsRow (w.heap.size + 2) 77 5 (.slice a (k) c) (blk l pc 16 0).length (blC (blk l pc 16 0))) := (by unfold Hid; rw [← HXE.out, HL.out]; exact owns_gr HO.out HGA.out)
        have q0 : (w1.alloc (.cells #[.int .i64 x0, .int .i64 x1, .int .i64 x2, .int .i64 x3, .int .i32 x4] 77)).cell? ⟨w.heap.size + 1, 0, none⟩ = some (.int .u32 pc) := cell_of_row _ _ _ _ _ _ (heap_held HGA.out HB1.out)
        have q1 : (w1.alloc (.cells #[.int .i64 x0, .int .i64 x1, .int .i64 x2, .int .i64 x3, .int .i32 x4] 77)).cell? ⟨w.heap.size + 1, 1, none⟩ = some (.slice a (k) c) := cell_of_row _ _ _ _ _ _ (heap_held HGA.out HB1.out)
        have r0 : (w1.alloc (.cells #[.int .i64 x0, .int .i64 x1, .int .i64 x2, .int .i64 x3, .int .i32 x4] 77)).cell? ⟨w.heap.size, 0, none⟩ = some (.int .u32 0) := cell_of_row _ _ _ _ _ _ (heap_held HGA.out HB0.out)
        have r1 : (w1.alloc (.cells #[.int .i64 x0, .int .i64 x1, .int .i64 x2, .int .i64 x3, .int .i32 x4] 77)).cell? ⟨w.heap.size, 1, none⟩ = some (.slice none 0 0) := cell_of_row _ _ _ _ _ _ (heap_held HGA.out HB0.out)
        have f0 : ∀ j, (w1.alloc (.cells #[.int .i64 x0, .int .i64 x1, .int .i64 x2, .int .i64 x3, .int .i32 x4] 77)).frozen? ⟨w.heap.size, j, none⟩ = false := fun j => frozen_of_row _ _ _ _ _ (heap_held HGA.out HB0.out)
        go_wp2_with fail
        refine bodyPost_ret (v := .agg #[.int .u32 pc, .slice a (k) c]) (results_cell_row Tryz.results71 _ _ _ _ _ (0, 0) _ rfl (two_set (heap_held HGA.out HB0.out) _ _) Tryz.underlying45 rfl iB) rfl ⟨_, rfl, ?_, ?_⟩
        · exact two_owns HOW.out (heap_held HGA.out HB0.out) (by omega) _ _
        · exact ((HG.out.trans HGA.out).setCell (Nat.le_refl _) _).setCell (Nat.le_refl _) _
    · have k16 : k = 16 := by omega
      subst k16
      have HXE : Hid (xs = blk l pc 16 0) := by have := HX.out; rw [blk_zero, List.append_nil] at this; exact this
      clear F HX
      have HOW : Hid (wr.ownsRow (w.heap.size + 2) 77 5 (.slice a (16) c) (blk l pc 16 0).length (blC (blk l pc 16 0))) := (by unfold Hid; rw [← HXE.out, HL.out]; exact HO.out)
      have q0 : wr.cell? ⟨w.heap.size + 1, 0, none⟩ = some (.int .u32 pc) := cell_of_row _ _ _ _ _ _ HB1.out
      have q1 : wr.cell? ⟨w.heap.size + 1, 1, none⟩ = some (.slice a (16) c) := cell_of_row _ _ _ _ _ _ HB1.out
      have r0 : wr.cell? ⟨w.heap.size, 0, none⟩ = some (.int .u32 0) := cell_of_row _ _ _ _ _ _ HB0.out
      have r1 : wr.cell? ⟨w.heap.size, 1, none⟩ = some (.slice none 0 0) := cell_of_row _ _ _ _ _ _ HB0.out
      have f0 : ∀ j, wr.frozen? ⟨w.heap.size, j, none⟩ = false := fun j => frozen_of_row _ _ _ _ _ HB0.out
      go_wp2_with fail
      refine bodyPost_ret (v := .agg #[.int .u32 pc, .slice a (16) c]) (results_cell_row Tryz.results71 _ _ _ _ _ (0, 0) _ rfl (two_set HB0.out _ _) Tryz.underlying45 rfl iB) rfl ⟨_, rfl, ?_, ?_⟩
      · exact two_owns HOW.out HB0.out (by omega) _ _
      · exact (HG.out.setCell (Nat.le_refl _) _).setCell (Nat.le_refl _) _
end Go.Proofs.YtchllaeembmioaaGreatDoor.Bk
namespace Go.Proofs.YtchllaeembmioaaGreatDoor.En
open Go.ChangeShapes Go.WideShapes Go.ChangeAt Go.RowKit Mm Hh Hc Mc

theorem yieldsIf_lookup {P : Program} {ops : Array Oper} {S : World → Prop} {o : Oper} {a : Act} (hw : Region.wanted o (yielded ops a.tmps) = true) (t : TypeId) (m x : Operand) (ho : o.op = .lookup t m x false) (v : Value) (h : ∀ W, S W → (Instr.lookup t (a.eval m) (a.eval x) false).run P W = .ok v W) : YieldsIf P ops S o v a :=
  .inl ⟨hw, fun w hS => by
    unfold execOp
    simp only [ho, Sem.run_bind, h w hS, Result.andThen_ok]
    rfl⟩
theorem zMs (w : World) : (zeroValue 117).run Tryz.prog w = .ok (.slice none 0 0) w := by kernel_rfl
theorem look_held {w : World} {mb mn : Nat} {D : DataW Value} (h : w.ownsMap Tryz.prog 42 Rh mb mn D) {pc : Int} (h0 : 0 ≤ pc) (h1 : pc < 4294967296) {v : Value} (hv : ∀ z, D.atKey (.int .u32 pc) z = .held v) : (Instr.lookup 64 (.map (some mb)) (.int .u32 pc) false).run Tryz.prog w = .ok v w := by
  obtain ⟨u, ps, hrun, hu⟩ := h.lookup kU Tryz.underlying64 (zMs w) (zd := .held (.slice none 0 0)) (zp := []) rfl (keyU h0 h1)
  rw [hv] at hu
  have : some (DataW.held u, ([] : List MemPlace)) = some (.held v, ps) := hu
  injection this with this
  injection this with this
  injection this with this
  rw [hrun, this]
theorem one_bl (p : Int) (a : Option Addr) (n c : Nat) : (#[.int .u32 p, .slice a n c] : Array Value).all (·.oneCell') = true := by
  refine all_oneCell_toArray ?_
  intro v hv
  simp only [List.mem_cons, List.not_mem_nil, or_false] at hv
  rcases hv with rfl | rfl <;> rfl
section
variable {lo : Nat} {w : World} {base g gh hc : Nat} {room : Int} {M O : Value} {a : Option Addr} {n cap mb mn : Nat} {D : DataW Value} {s : Sh} {L : List Kc.Bv} {pu sl : Int}
theorem blockAt_yes (E : Ew lo w base g room M gh hc O a n cap mb mn D s L pu sl) (hn : n * 32 ≤ 140737488351232) {pc : Int} (h0 : 0 ≤ pc) (h1 : pc < 4294967296) (hp : 0 ≤ Kc.place pc L 0) (hm : Kc.fnd pc L ∈ L) (hpc : (Kc.fnd pc L).pc = pc) :
    Calls Tryz.prog 52 #[.pointer (some ⟨g, 0, none⟩), .int .u32 pc] w fun e w' => ∃ ba bc ca cn cc, e = .returned (.tuple #[.agg #[.int .u32 pc, .slice ba (Kc.fnd pc L).is.length bc], .slice ca cn cc]) ∧ Ts.Ct w' ca cn (Ts.codeV pc (Kc.fnd pc L).is 0) ∧ Gr w w' := by
  have HE : Hid (Ew lo w base g room M gh hc O a n cap mb mn D s L pu sl) := E
  obtain ⟨ca, cn, cc, hat, hct⟩ := E.code _ hm
  rw [hpc] at hat hct
  have HLk : Hid (∀ W : World, W.ownsMap Tryz.prog 42 Rh mb mn D → (Instr.lookup 64 (.map (some mb)) (.int .u32 pc) false).run Tryz.prog W = .ok (.slice ca cn cc) W) := fun W h => look_held h h0 h1 hat
  have HCt : Hid (Ts.Ct w ca cn (Ts.codeV pc (Kc.fnd pc L).is 0)) := hct
  have HFd : Hid (∀ W : World, Gr w W → Calls Tryz.prog 70 #[.agg #[.int .i64 room, .slice a n cap, .int .i64 pu, .int .i64 sl], .int .u32 pc] W fun e w' => ∃ sa sn sc, e = .returned (.tuple #[.agg #[.int .u32 pc, .slice sa sn sc], .bool true]) ∧ (Kc.fnd pc L).is.length = sn ∧ Gr W w') := fun W G => by
    have := Kc.Find_any cap (E.bt.of G).bs hn room pu sl pc
    rw [decide_eq_true hp] at this
    refine this.mono ?_
    rintro e w' ⟨x, y, rfl, ⟨hx, _, sa, sn, sc, hy, I, _⟩, G'⟩
    subst hx hy
    rw [hpc]
    exact ⟨sa, sn, sc, rfl, I.len, G'⟩
  have g4 := E.c4
  have g5 := E.c5
  have g6 := E.c6
  have g7 := E.c7
  have hgl : g < w.heap.size := E.bw.lt
  clear E hp hm hpc hat hct hn h0 h1
  generalize Kc.fnd pc L = fb at *
  go_enter Tryz.func52, Tryz.ntmps52
  go_wp2_with fail
  refine (HFd.out _ ((Gr.refl _).alloc _)).mono ?_
  rintro e w1 ⟨sa, sn, sc, rfl, hsn, G1⟩
  have HSN : Hid (fb.is.length = sn) := hsn
  have HG1 : Hid (Gr w w1) := ((Gr.refl _).alloc _).trans G1
  have HR1 : Hid (w1.heap[w.heap.size]? = some (.cells #[.int .u32 0, .slice none 0 0] 45 (0, 0))) := Kc.up_h G1 (heap_alloc_new w _)
  clear G1 hsn HFd g4 g5 g6 g7
  go_wp2_with fail
  obtain ⟨o, ho⟩ : ∃ o : Nat, o = w1.heap.size := ⟨_, rfl⟩
  refine at_world (fun W => W.heap[o]? = some (.cells #[.int .u32 pc, .slice sa sn sc] 45 (0, 0)) ∧ W.heap[w.heap.size]? = some (.cells #[.int .u32 0, .slice none 0 0] 45 (0, 0)) ∧ Gr w W) ?_ ?_
  · have hlt : w.heap.size < w1.heap.size := (Array.getElem?_eq_some_iff.1 HR1.out).1
    subst ho
    exact ⟨heap_alloc_new w1 _, Kc.up_h ((Gr.refl _).alloc _) HR1.out, HG1.out.alloc _⟩
  rw [← ho]
  have hol : w.heap.size < o := by rw [ho]; exact (Array.getElem?_eq_some_iff.1 HR1.out).1
  clear ho HR1 HG1
  clear w1
  rintro W ⟨K0, K1, GW⟩
  have HGW : Hid (Gr w W) := GW
  have HK1 : Hid (W.heap[w.heap.size]? = some (.cells #[.int .u32 0, .slice none 0 0] 45 (0, 0))) := K1
  have HS : Hid ((fun W => W.cell? ⟨o, 0, none⟩ = some (.int .u32 pc) ∧ W.cell? ⟨o, 1, none⟩ = some (.slice sa sn sc) ∧ W.cell? ⟨g, 8, none⟩ = some (.map (some mb)) ∧ W.ownsMap Tryz.prog 42 Rh mb mn D) W) := ⟨cell_of_row _ _ _ _ _ _ K0, cell_of_row _ _ _ _ _ _ K0, (HE.out.of GW).c8, (HE.out.of GW).map⟩
  have HK0 : Hid (W.heap[o]? = some (.cells #[.int .u32 pc, .slice sa sn sc] 45 (0, 0))) := K0
  clear K0 K1 GW
  refine wp_region_held_drew (S := fun W => W.cell? ⟨o, 0, none⟩ = some (.int .u32 pc) ∧ W.cell? ⟨o, 1, none⟩ = some (.slice sa sn sc) ∧ W.cell? ⟨g, 8, none⟩ = some (.map (some mb)) ∧ W.ownsMap Tryz.prog 42 Rh mb mn D) (by kernel_rfl) ?_ (fun hHeld => ?_)
  · exact HS.out
  have HS0 : Hid _ := hHeld
  clear hHeld
  refine wpAnyH_take (i := 0) (v := .agg #[.int .u32 pc, .slice sa sn sc]) rfl (by kernel_rfl) (by kernel_rfl) (by kernel_rfl) (fun _ _ _ h => h) (Or.inl ⟨by rfl, fun W hW => by obtain ⟨y0, y1, y2, y3⟩ := hW; go_simp⟩) HS0.out ?_
  simp only [List.getElem_toArray, List.getElem_cons_succ, List.getElem_cons_zero, Act.put, List.setIfInBounds_toArray, List.set_cons_zero, List.set_cons_succ]
  refine wpAnyH_take (i := 1) (v := .pointer (some ⟨g, 0, none⟩)) rfl (by kernel_rfl) (by kernel_rfl) (by kernel_rfl) (fun _ _ _ h => h) (Or.inl ⟨by rfl, fun W hW => by obtain ⟨y0, y1, y2, y3⟩ := hW; go_simp⟩) HS0.out ?_
  simp only [List.getElem_toArray, List.getElem_cons_succ, List.getElem_cons_zero, Act.put, List.setIfInBounds_toArray, List.set_cons_zero, List.set_cons_succ]
  refine wpAnyH_take (i := 2) (v := .pointer (some ⟨g, 0, none⟩)) rfl (by kernel_rfl) (by kernel_rfl) (by kernel_rfl) (fun _ _ _ h => h) (Or.inl ⟨by rfl, fun W hW => by obtain ⟨y0, y1, y2, y3⟩ := hW; go_simp⟩) HS0.out ?_
  simp only [List.getElem_toArray, List.getElem_cons_succ, List.getElem_cons_zero, Act.put, List.setIfInBounds_toArray, List.set_cons_zero, List.set_cons_succ]
  refine wpAnyH_take (i := 3) (v := .pointer (some ⟨g, 8, none⟩)) rfl (by kernel_rfl) (by kernel_rfl) (by kernel_rfl) (fun _ _ _ h => h) (Or.inl ⟨by rfl, fun W hW => by obtain ⟨y0, y1, y2, y3⟩ := hW; go_simp⟩) HS0.out ?_
  simp only [List.getElem_toArray, List.getElem_cons_succ, List.getElem_cons_zero, Act.put, List.setIfInBounds_toArray, List.set_cons_zero, List.set_cons_succ]
  refine wpAnyH_take (i := 4) (v := .map (some mb)) rfl (by kernel_rfl) (by kernel_rfl) (by kernel_rfl) (fun _ _ _ h => h) (Or.inl ⟨by rfl, fun W hW => by obtain ⟨y0, y1, y2, y3⟩ := hW; go_simp⟩) HS0.out ?_
  simp only [List.getElem_toArray, List.getElem_cons_succ, List.getElem_cons_zero, Act.put, List.setIfInBounds_toArray, List.set_cons_zero, List.set_cons_succ]
  refine wpAnyH_take (i := 5) (v := .int .u32 pc) rfl (by kernel_rfl) (by kernel_rfl) (by kernel_rfl) (fun _ _ _ h => h) (Or.inl ⟨by rfl, fun W hW => by obtain ⟨y0, y1, y2, y3⟩ := hW; go_simp⟩) HS0.out ?_
  simp only [List.getElem_toArray, List.getElem_cons_succ, List.getElem_cons_zero, Act.put, List.setIfInBounds_toArray, List.set_cons_zero, List.set_cons_succ]
  refine wpAnyH_take (i := 6) (v := .slice ca cn cc) rfl (by kernel_rfl) (by kernel_rfl) (by kernel_rfl) (fun _ _ _ h => h) (yieldsIf_lookup (by rfl) 64 (.tmp 24) (.tmp 25) rfl _ (fun W hW => by simpa [Act.eval] using HLk.out W hW.2.2.2)) HS0.out ?_
  simp only [List.getElem_toArray, List.getElem_cons_succ, List.getElem_cons_zero, Act.put, List.setIfInBounds_toArray, List.set_cons_zero, List.set_cons_succ]
  refine held_store_row (i := 7) (by kernel_rfl) rfl rfl 45 (.tmp 4) (.tmp 20) rfl w.heap.size #[.int .u32 pc, .slice sa sn sc] (by simp [Act.eval]) (by simp [Act.eval]) 45 _ HK1.out Bk.iB rfl (one_bl _ _ _ _) ?hs ?_
  case hs =>
    have e0 : (W.drew.setRow w.heap.size #[.int .u32 pc, .slice sa sn sc]).heap[o]? = some (.cells #[.int .u32 pc, .slice sa sn sc] 45 (0, 0)) := (setRow_other _ _ _ _ (by omega)).trans HK0.out
    have EW := (HE.out.of (gr_setRow HGW.out (Nat.le_refl _) #[.int .u32 pc, .slice sa sn sc]))
    exact ⟨cell_of_row _ _ _ _ _ _ e0, cell_of_row _ _ _ _ _ _ e0, EW.c8, EW.map⟩
  have HSf : Hid ((fun W => W.cell? ⟨o, 0, none⟩ = some (.int .u32 pc) ∧ W.cell? ⟨o, 1, none⟩ = some (.slice sa sn sc) ∧ W.cell? ⟨g, 8, none⟩ = some (.map (some mb)) ∧ W.ownsMap Tryz.prog 42 Rh mb mn D) (W.drew.setRow w.heap.size #[.int .u32 pc, .slice sa sn sc])) := by
    have e0 : (W.drew.setRow w.heap.size #[.int .u32 pc, .slice sa sn sc]).heap[o]? = some (.cells #[.int .u32 pc, .slice sa sn sc] 45 (0, 0)) := (setRow_other _ _ _ _ (by omega)).trans HK0.out
    have EW := (HE.out.of (gr_setRow HGW.out (Nat.le_refl _) #[.int .u32 pc, .slice sa sn sc]))
    exact ⟨cell_of_row _ _ _ _ _ _ e0, cell_of_row _ _ _ _ _ _ e0, EW.c8, EW.map⟩
  refine wpAnyH_take (i := 8) (v := .slice ca cn cc) rfl (by kernel_rfl) (by kernel_rfl) (by kernel_rfl) (fun _ _ _ h => h) (Or.inl ⟨by rfl, fun W hW => by obtain ⟨y0, y1, y2, y3⟩ := hW; go_simp⟩) HSf.out ?_
  simp only [List.getElem_toArray, List.getElem_cons_succ, List.getElem_cons_zero, Act.put, List.setIfInBounds_toArray, List.set_cons_zero, List.set_cons_succ]
  refine wpAnyH_done (by kernel_rfl) ?_ _
  go_wp2_with fail
  refine bodyPost_ret (v := .tuple #[.agg #[.int .u32 pc, .slice sa sn sc], .slice ca cn cc]) (Hr.results_cell_tmp' Tryz.results52 _ _ _ _ _ (0, 0) _ _ rfl rfl (setRow_heap _ _ _ _ _ (0, 0) HK1.out) Tryz.underlying45 rfl Bk.iB) rfl ?_
  have GF : Gr w (W.drew.setRow w.heap.size #[.int .u32 pc, .slice sa sn sc]) := gr_setRow (HGW.out.drew) (Nat.le_refl _) _
  exact ⟨sa, sc, ca, cn, ⟨cc, by rw [HSN.out]⟩, HCt.out.of GF, GF⟩
theorem blockAt_no (E : Ew lo w base g room M gh hc O a n cap mb mn D s L pu sl) (hn : n * 32 ≤ 140737488351232) (hl : L.length ≤ 64) (hr0 : 0 ≤ room) (hr1 : room ≤ 64) (hmn : mn ≤ 1000000) {pc : Int} (h0 : 0 ≤ pc) (h1 : pc < 4294967296) (hp : Kc.place pc L 0 = -1) (hml : s.m.length ≤ 4096) (T : Dw.Tab w) (Q : Ts.Tq w) :
    Calls Tryz.prog 52 #[.pointer (some ⟨g, 0, none⟩), .int .u32 pc] w fun e w' => ∃ ba bc ca cn cc, e = .returned (.tuple #[.agg #[.int .u32 pc, .slice ba (Bk.blk s.m pc 16 0).length bc], .slice ca cn cc]) ∧ Ts.Ct w' ca cn (Ts.codeV pc ((Bk.blk s.m pc 16 0).map Ts.ivX) 0) ∧
      ((Bk.blk s.m pc 16 0).length = 0 → Ev 0 w' base g room s L pu sl mn) ∧ (0 < (Bk.blk s.m pc 16 0).length → Ev 0 w' base g room s (Kc.putL room L ⟨pc, (Bk.blk s.m pc 16 0).map Ts.ivX⟩) (Kc.putP room pu L ⟨pc, (Bk.blk s.m pc 16 0).map Ts.ivX⟩) sl (mn + 1)) ∧ Fm base w w' := by
  obtain ⟨ma, mc, rfl, MM⟩ := E.bw.mem.mem
  have HE : Hid (Ew lo w base g room (.slice ma s.m.length mc) gh hc O a n cap mb mn D s L pu sl) := E
  have HFd : Hid (∀ W : World, Gr w W → Calls Tryz.prog 70 #[.agg #[.int .i64 room, .slice a n cap, .int .i64 pu, .int .i64 sl], .int .u32 pc] W fun e w' => ∃ p0 sa sn sc, e = .returned (.tuple #[.agg #[.int .u32 p0, .slice sa sn sc], .bool false]) ∧ Gr W w') := fun W G => by
    have := Kc.Find_any cap (E.bt.of G).bs hn room pu sl pc
    rw [decide_eq_false (by omega)] at this
    refine this.mono ?_
    rintro e w' ⟨x, y, rfl, ⟨hx, _, sa, sn, sc, hy, _, _⟩, G'⟩
    subst hx hy
    exact ⟨_, sa, sn, sc, rfl, G'⟩
  have h16 : (Bk.blk s.m pc 16 0).length ≤ 16 := (Ts.blk_facts s.m pc 16 0).1
  have HBM : Hid (∀ W : World, Gr w W → Calls Tryz.prog 71 #[.slice ma s.m.length mc, .int .u32 pc] W fun e w' => ∃ va vc, e = .returned (.agg #[.int .u32 pc, .slice va (Bk.blk s.m pc 16 0).length vc]) ∧ w'.ownsRow W.heap.size 77 5 (.slice va (Bk.blk s.m pc 16 0).length vc) (Bk.blk s.m pc 16 0).length (Bk.blC (Bk.blk s.m pc 16 0)) ∧ Gr W w') := fun W G => by
    have := Bk.Make_yes mc pc (MM.of G) (Ts.tabM T W G) hml h0 h1
    have e1 : Bk.bkP s.m.length pc = pc := if_neg (by omega)
    have e2 : Bk.bkX s.m.length s.m pc = Bk.blk s.m pc 16 0 := if_neg (by omega)
    rw [e1, e2] at this
    refine this.mono ?_
    rintro e w' ⟨v, rfl, OW, G'⟩
    obtain ⟨va, vc, rfl⟩ := Bk.owns_form OW
    exact ⟨va, vc, rfl, OW, G'⟩
  have HTM : Hid (∀ (W : World) (va : Option Addr) (vc b : Nat), Gr w W → W.ownsRow b 77 5 (.slice va (Bk.blk s.m pc 16 0).length vc) (Bk.blk s.m pc 16 0).length (Bk.blC (Bk.blk s.m pc 16 0)) → Calls Tryz.prog 72 #[.agg #[.int .u32 pc, .slice va (Bk.blk s.m pc 16 0).length vc]] W fun e w' => ∃ ca cn cc, e = .returned (.slice ca cn cc) ∧ Ts.Ct w' ca cn (Ts.codeV pc ((Bk.blk s.m pc 16 0).map Ts.ivX) 0) ∧ Gr W w') := fun W va vc b G OW => Ts.Make_ctw pc vc OW (Ts.blk_words s.m pc) (Ts.tabM T W G) (Q.of G) h16
  have HKp : Hid (∀ (W : World) (va : Option Addr) (vc b : Nat) (ca : Option Addr) (cn cc : Nat), Gr w W → W.ownsRow b 77 5 (.slice va (Bk.blk s.m pc 16 0).length vc) (Bk.blk s.m pc 16 0).length (Bk.blC (Bk.blk s.m pc 16 0)) → Ts.Ct W ca cn (Ts.codeV pc ((Bk.blk s.m pc 16 0).map Ts.ivX) 0) →
      Calls Tryz.prog 73 #[.pointer (some ⟨g, 0, none⟩), .agg #[.int .u32 pc, .slice va (Bk.blk s.m pc 16 0).length vc], .slice ca cn cc] W fun e w' => e = .returned (.tuple #[]) ∧ (((Bk.blk s.m pc 16 0).length = 0 → Gr W w') ∧ (0 < (Bk.blk s.m pc 16 0).length → Ev W.heap.size w' base g room s (Kc.putL room L ⟨pc, (Bk.blk s.m pc 16 0).map Ts.ivX⟩) (Kc.putP room pu L ⟨pc, (Bk.blk s.m pc 16 0).map Ts.ivX⟩) sl (mn + 1))) ∧ Fm base W w') := fun W va vc b ca cn cc G OW C => by
    by_cases hz : (Bk.blk s.m pc 16 0).length = 0
    · refine (keep_gen (E.of G) (by omega) hmn h0 h1 va _ vc ca cn cc 0 0 0 2 [] (fun h => absurd h (by omega)) (fun V GV => (Kc.PutBad V room pu sl pc a va n cap _ vc (.inl (by omega)) (by omega)).mono fun e w' ⟨h1, h2⟩ => ⟨none, 0, 0, h1, ⟨Kc.bt_nil _ _ _, Nat.le_refl _⟩, h2⟩) (fun h => absurd h (by omega)) (by simp)).mono ?_
      rintro e w' ⟨rfl, k1, _, k3⟩
      exact ⟨rfl, ⟨fun _ => k1 (by omega), fun h => absurd h (by omega)⟩, k3⟩
    · have I := Ts.is_own OW (Ts.blk_words s.m pc)
      refine (keep_gen (E.of G) (by omega) hmn h0 h1 va _ vc ca cn cc room (Kc.putP room pu L ⟨pc, (Bk.blk s.m pc 16 0).map Ts.ivX⟩) sl 0 (Kc.putL room L ⟨pc, (Bk.blk s.m pc 16 0).map Ts.ivX⟩) (fun _ => rfl) (fun V GV => Kc.PutT cap ((E.of G).bt.of GV).bs hn room pu sl (b0 := ⟨pc, (Bk.blk s.m pc 16 0).map Ts.ivX⟩) ⟨rfl, ⟨h0, h1⟩, va, _, vc, rfl, I.of GV, by omega⟩ (by omega) h16) (fun _ b hb => ?_) ?_).mono ?_
      · rcases put_mem (b := ⟨pc, (Bk.blk s.m pc 16 0).map Ts.ivX⟩) hp hb with hb | rfl
        · refine .inl ⟨hb, fun e => ?_⟩
          obtain ⟨i, hi⟩ := List.mem_iff_getElem?.1 hb
          have := pl_in hi
          rw [e, hp] at this
          omega
        · exact .inr ⟨rfl, C⟩
      · rw [(put_none (room := room) (pu := pu) (b := ⟨pc, (Bk.blk s.m pc 16 0).map Ts.ivX⟩) hp).1]
        split
        · rw [List.length_drop, List.length_append, List.length_singleton]
          omega
        · rw [List.length_append, List.length_singleton]
          omega
      · rintro e w' ⟨rfl, _, k2, k3⟩
        exact ⟨rfl, ⟨fun h => absurd h hz, fun _ => k2 rfl⟩, k3⟩
  have g0 := E.bw.c0
  have g4 := E.c4
  have g5 := E.c5
  have g6 := E.c6
  have g7 := E.c7
  have hgl : g < w.heap.size := E.bw.lt
  have hbl : base ≤ w.heap.size := E.base_le
  clear E MM hn hp hml T Q h16 hmn hl hr0 hr1 h0 h1
  generalize (Bk.blk s.m pc 16 0).map Ts.ivX = IS at *
  generalize Bk.blk s.m pc 16 0 = xs at *
  generalize s.m.length = mln at *
  go_enter Tryz.func52, Tryz.ntmps52
  go_wp2_with fail
  refine (HFd.out _ ((Gr.refl _).alloc _)).mono ?_
  rintro e w1 ⟨p0, sa, sn, sc, rfl, G1⟩
  have HG1 : Hid (Gr w w1) := ((Gr.refl _).alloc _).trans G1
  have HR1 : Hid (w1.heap[w.heap.size]? = some (.cells #[.int .u32 0, .slice none 0 0] 45 (0, 0))) := Kc.up_h G1 (heap_alloc_new w _)
  have q0 : ∀ o, (w1.alloc o).cell? ⟨g, 0, none⟩ = some (.slice ma mln mc) := fun o => ((HG1.out.alloc o).cell _ (by exact hgl)).trans g0
  have hlt1 : w.heap.size < w1.heap.size := (Array.getElem?_eq_some_iff.1 HR1.out).1
  clear G1 HFd g0 g4 g5 g6 g7
  go_wp2_with fail
  refine (HBM.out _ (HG1.out.alloc _)).mono ?_
  rintro e w2 ⟨va, vc, rfl, O2, G2⟩
  have HG2 : Hid (Gr w w2) := (HG1.out.alloc _).trans G2
  have HR2 : Hid (w2.heap[w.heap.size]? = some (.cells #[.int .u32 0, .slice none 0 0] 45 (0, 0))) := Kc.up_h G2 (Kc.up_h ((Gr.refl _).alloc _) HR1.out)
  have HO2 : Hid (∃ b, w2.ownsRow b 77 5 (.slice va xs.length vc) xs.length (Bk.blC xs)) := ⟨_, O2⟩
  have hlt2 : w.heap.size < w2.heap.size := (Array.getElem?_eq_some_iff.1 HR2.out).1
  clear G2 O2 HBM HG1 HR1 q0
  obtain ⟨b2, O2⟩ := HO2.out
  have HO3 : Hid (w2.ownsRow b2 77 5 (.slice va xs.length vc) xs.length (Bk.blC xs)) := O2
  clear O2 HO2
  go_wp2_with fail
  refine (HTM.out _ va vc b2 (HG2.out.alloc _) (owns_gr HO3.out ((Gr.refl _).alloc _))).mono ?_
  rintro e w3 ⟨ca, cn, cc, rfl, C3, G3⟩
  have HG3 : Hid (Gr w w3) := (HG2.out.alloc _).trans G3
  have HR3 : Hid (w3.heap[w.heap.size]? = some (.cells #[.int .u32 0, .slice none 0 0] 45 (0, 0))) := Kc.up_h G3 (Kc.up_h ((Gr.refl _).alloc _) HR2.out)
  have HB3 : Hid (w3.heap[w2.heap.size]? = some (.cells #[.int .u32 pc, .slice va xs.length vc] 45 (0, 0))) := Kc.up_h G3 (heap_alloc_new w2 _)
  have HC3 : Hid (Ts.Ct w3 ca cn (Ts.codeV pc IS 0)) := C3
  have HOw : Hid (w3.ownsRow b2 77 5 (.slice va xs.length vc) xs.length (Bk.blC xs)) := owns_gr HO3.out (((Gr.refl _).alloc _).trans G3)
  have b0 : w3.cell? ⟨w2.heap.size, 0, none⟩ = some (.int .u32 pc) := cell_of_row _ _ _ _ _ _ HB3.out
  have b1 : w3.cell? ⟨w2.heap.size, 1, none⟩ = some (.slice va xs.length vc) := cell_of_row _ _ _ _ _ _ HB3.out
  clear G3 C3 HTM HO3 HG2 HR2
  go_wp2_with fail
  refine (HKp.out _ va vc b2 ca cn cc HG3.out HOw.out HC3.out).mono ?_
  rintro e w4 ⟨rfl, V4, F4⟩
  have HF4 : Hid (Fm base w w4) := (Fm.ofGr HG3.out hbl).trans F4
  have HR4 : Hid (w4.heap[w.heap.size]? = some (.cells #[.int .u32 0, .slice none 0 0] 45 (0, 0))) := F4.row HR3.out (by decide)
  have HB4 : Hid (w4.heap[w2.heap.size]? = some (.cells #[.int .u32 pc, .slice va xs.length vc] 45 (0, 0))) := F4.row HB3.out (by decide)
  have HC4 : Hid (Ts.Ct w4 ca cn (Ts.codeV pc IS 0)) := HC3.out.to fun k o f e => F4.keep k o _ f e (by decide)
  have HV4 : Hid ((xs.length = 0 → Gr w w4) ∧ (0 < xs.length → Ev w3.heap.size w4 base g room s (Kc.putL room L ⟨pc, IS⟩) (Kc.putP room pu L ⟨pc, IS⟩) sl (mn + 1))) := ⟨fun h => HG3.out.trans (V4.1 h), V4.2⟩
  have c0 : w4.cell? ⟨w2.heap.size, 0, none⟩ = some (.int .u32 pc) := cell_of_row _ _ _ _ _ _ HB4.out
  have c1 : w4.cell? ⟨w2.heap.size, 1, none⟩ = some (.slice va xs.length vc) := cell_of_row _ _ _ _ _ _ HB4.out
  have hsz4 : w.heap.size < w4.heap.size := (Array.getElem?_eq_some_iff.1 HR4.out).1
  have hlt3 : w.heap.size < w3.heap.size := (Array.getElem?_eq_some_iff.1 HR3.out).1
  clear V4 F4 HKp HR3 HB3 HC3 HOw HG3 b0 b1
  go_wp2_with (refine wpList_store_row rfl 45 _ _ rfl w.heap.size #[.int .u32 pc, .slice va xs.length vc] rfl rfl 45 #[.int .u32 0, .slice none 0 0] ?ss1 Bk.iB rfl (one_bl _ _ _ _) ?_; (case ss1 => exact HR4.out))
  refine bodyPost_ret (v := .tuple #[.agg #[.int .u32 pc, .slice va xs.length vc], .slice ca cn cc]) (Hr.results_cell_tmp' Tryz.results52 _ _ _ _ _ (0, 0) _ _ rfl rfl (setRow_heap _ _ _ _ _ (0, 0) HR4.out) Tryz.underlying45 rfl Bk.iB) rfl ?_
  refine ⟨va, vc, ca, cn, cc, rfl, HC4.out.to fun k o f e => setRow_other _ _ _ _ (ne_of_types e HR4.out (by decide)), fun h => ?_, fun h => ?_, HF4.out.setRow hbl (Nat.le_refl _) _⟩
  · exact ⟨.slice ma mln mc, gh, hc, O, a, n, cap, mb, D, (HE.out.of (gr_setRow (HV4.out.1 h) (Nat.le_refl _) _)).low⟩
  · exact ((HV4.out.2 h).row HR4.out hlt3 _).low
end
end Go.Proofs.YtchllaeembmioaaGreatDoor.En
