/-
  Hm7, Mb2, Mb3, Hm3: texts of ours that lie in one file.
-/
import Derived.Test.YtchllaeembmioaaGreatDoorQ05
import Derived.Test.YtchllaeembmioaaGreatDoorQ15
import Derived.Deep.RegionHeld3
import Derived.Test.YtchllaeembmioaaGreatDoorQ07
set_option linter.unusedVariables false
set_option linter.unusedSimpArgs false
set_option maxHeartbeats 8000000
set_option maxRecDepth 100000
namespace Go.Proofs.YtchllaeembmioaaGreatDoor.Hc
open Go.ChangeShapes Go.WideShapes Go.ChangeAt Go.RowKit Mm Hh

theorem mem_bc {w w' : World} {ad : Addr} {n : Nat} {l : List UInt8} (M : Mem w (some ad) n l) (G : Gr w w') : ∀ j u, (bc l)[j]? = some u → w'.cell? (ad.add j) = some u := by
 intro j u hj
 obtain ⟨h1, rfl⟩ := bc_get hj
 have hl := M.len
 exact (M.of G).cell ad rfl j (by omega)
theorem own_of {w : World} {base n : Nat} {v : Value} {l : List UInt8} (hl : l.length = n) (h : w.ownsRow base 5 1 v n (bc l)) : Own w base v l := by
 subst hl
 obtain ⟨_, h⟩ := h
 rcases h with ⟨rfl, h0⟩ | ⟨g, cap, cur, rfl, hb, hg, hn, hm, hs, ht⟩
 ·exact .inl ⟨rfl, List.eq_nil_of_length_eq_zero h0⟩
 ·refine .inr ⟨g, cap, rfl, hb, cur.toList.drop (l.length * 1), ?_⟩
  rw [← ht, List.take_append_drop]
  exact hg
theorem Clone_any {w : World} {ao : Option Addr} {n cap : Nat} {l : List UInt8} (M : Mem w ao n l) (hcap : ao = none → cap = 0) (hn : n ≤ 140737488351232) :
  Calls Tryz.prog 30 #[.slice ao n cap] w fun e w' => ∃ v, e = .returned v ∧ Own w' w.heap.size v l ∧ Gr w w' := by
 have hl := M.len
 cases ao with
 | none =>
  obtain rfl := M.nil rfl
  obtain rfl := hcap rfl
  obtain rfl : l = [] := List.eq_nil_of_length_eq_zero hl
  clear M hcap
  have he : ∀ w : World, (binOp .eql 22 (.slice none 0 0) (.slice none 0 0)).run Tryz.prog w = .ok (.bool true) w := fun _ => by kernel_rfl
  go_enter Tryz.func30, Tryz.ntmps30
  go_wp2
  go_ret
  exact ⟨_, rfl, .inl ⟨rfl, rfl⟩, Gr.refl _⟩
 | some ad =>
  obtain ⟨i0, hi, hz0, hz1, hz2⟩ := info_parts info5
  have HM : Hid (Mem w (some ad) n l) := M
  have he : ∀ w : World, (binOp .eql 22 (.slice (some ad) n cap) (.slice none 0 0)).run Tryz.prog w = .ok (.bool false) w := fun _ => by kernel_rfl
  clear M hcap
  go_enter Tryz.func30, Tryz.ntmps30
  go_wp2_with (at_builtin; refine wpList_append_own _ rfl (.tmp 5) (.tmp 6) 22 rfl w.heap.size 5 i0 (.int .u8 0) 1 1 Tryz.underlying22 hi hz0 hz1 hz2 rfl (by decide) _ 0 [] rfl (World.ownsRow_made w #[] 0 (Nat.le_refl _) (by decide) rfl) ad n cap (bc l) rfl (by rw [bc_len, hl]; simp) (mem_bc HM.out ((Gr.refl _).alloc _)) (bc_one l) (by unfold maxLen; omega) (by omega) (by simp) ?_; intro v' w1 hown hgrow _; have HO : Hid (Own w1 w.heap.size v' l) := own_of hl (by simpa using hown); have HG : Hid (Gr w w1) := ((Gr.refl _).alloc _).grown hgrow (fun k e => Nat.le_of_eq (Option.some.inj e)); clear hown hgrow)
  go_ret
  exact ⟨_, rfl, HO.out, HG.out⟩

theorem iC : (Tryz.prog.info? 115).map (·.size) = some 40 := by kernel_rfl
theorem two_of {w w' : World} {A Z : Array Value} {t u : Nat} (g : Gr ((w.alloc (.cells A t)).alloc (.cells Z u)) w') : w'.heap[w.heap.size]? = some (.cells A t (0, 0)) ∧ w'.heap[w.heap.size + 1]? = some (.cells Z u (0, 0)) :=
 ⟨Hr.heap_of_gr g (heap_alloc2_old w _ _), Hr.heap_of_gr g (heap_alloc2_new w _ _)⟩
theorem Own.cells {w : World} {base : Nat} {v : Value} {l : List UInt8} (h : Own w base v l) : v.cells = #[v] ∧ v.oneCell' = true := by
 rcases h with ⟨rfl, _⟩ | ⟨k, cap, rfl, _⟩ <;> exact ⟨rfl, rfl⟩
theorem Own.base {w w' : World} {b b' : Nat} {v : Value} {l : List UInt8} (h : Own w b v l) (hb : b' ≤ b) : Own w b' v l := by
 rcases h with h | ⟨k, cap, e, q, R⟩
 ·exact .inl h
 ·exact .inr ⟨k, cap, e, Nat.le_trans hb q, R⟩
theorem range_of {w : World} {b : Nat} {h : Hv} {t : Nat} (e : w.heap[b]? = some (.cells (hA h) t (0, 0))) : w.rangeAt b 0 (hL h) := fun j v hv => by
 rw [Nat.zero_add, cell_of_row _ _ _ _ _ _ e]
 simpa [hA] using hv
theorem NewCore_yes {h : Hv} (o : h.Ok) {ao : Option Addr} {n cap : Nat} {l : List UInt8} {w : World} (M : Mem w ao n l) (hcap : ao = none → cap = 0) (hn : n ≤ 4096) (hm : may h = true) (hs : h.state = 0) :
  Calls Tryz.prog 99 #[.agg (hA h), .slice ao n cap] w fun e w' => ∃ v, e = .returned (.tuple #[.agg (cA ⟨h, v, nilS, nilS⟩), .bool true]) ∧ Own w' w.heap.size v l ∧ Gr w w' := by
 have HM : Hid (∀ W : World, Calls Tryz.prog 69 #[.agg (hA h)] W fun e w' => e = .returned (.bool true) ∧ Gr W w') := fun W => by rw [← hm]; exact may_any o W
 have g35 : (hA h)[35]? = some (.int .i64 0) := by rw [← hs]; exact (may_get h o).2.2.2.1
 have HS : Hid ((hA h).size = 37) := hA_size o
 have HL : Hid ((hL h).length = 37) := hL_len o
 have HC : Hid (∀ W : World, Gr w W → Calls Tryz.prog 30 #[.slice ao n cap] W fun e w' => ∃ v, e = .returned v ∧ Own w' w.heap.size v l ∧ Gr W w') := fun W G =>
  (Clone_any (M.of G) hcap (by omega)).mono fun e w' ⟨v, e1, e2, e3⟩ => ⟨v, e1, e2.base (w' := w') G.size, e3⟩
 have HBu : Hid (∀ v : Value, v.cells = #[v] → Tryz.prog.built 115 [(0, .agg (hA h)), (1, v)] = some (cA ⟨h, v, nilS, nilS⟩)) := fun v hv => built_core o v hv
 have HZ : Hid (∀ v, (cA ⟨h, v, nilS, nilS⟩).size = 40) := fun v => cA_size o
 clear M hm hs hcap o
 go_enter Tryz.func99, Tryz.ntmps99
 go_wp2_with (refine wpList_load_row rfl 51 _ rfl w.heap.size rfl 51 (hA h) (0, 0) _ ?hb1 Tryz.underlying51 rfl (by rw [HS.out]; exact Hr.iH) ?_; (case hb1 => exact heap_alloc2_old w _ _))
 refine (HM.out _).mono ?_
 rintro e w1 ⟨rfl, G1⟩
 obtain ⟨hB, hR⟩ := two_of G1
 have HG : Hid (Gr w w1) := (((Gr.refl _).alloc _).alloc _).trans G1
 have k35 : w1.cell? ⟨w.heap.size, 35, none⟩ = some (.int .i64 0) := (cell_of_row _ _ _ _ _ _ hB).trans g35
 have HB : Hid (w1.heap[w.heap.size]? = some (.cells (hA h) 51 (0, 0))) := hB
 have HR : Hid (∃ Z : Array Value, Z.size = 40 ∧ w1.heap[w.heap.size + 1]? = some (.cells Z 115 (0, 0))) := ⟨_, rfl, hR⟩
 clear G1 hB hR HM g35
 obtain ⟨Z, hz, hR⟩ := HR.out
 have HR2 : Hid (w1.heap[w.heap.size + 1]? = some (.cells Z 115 (0, 0))) := hR
 clear HR hR
 go_wp2_with fail
 refine wp_region_any (by kernel_rfl) ?_
 change wpAny _ _ _ _ _ _ _ (World.drew _)
 refine wpAny_take (i := 1) (v := .slice ao n cap) rfl (by kernel_rfl) (by kernel_rfl) (by kernel_rfl) (fun _ _ _ h => h) (Or.inl ⟨by rfl, fun w => by go_simp⟩) ?_
 refine wpAny_ready (rs := [0, 2]) (by kernel_rfl) (by simp) ?_
 refine AllReady.cons rfl (fun K hK => ?_) (AllReady.cons rfl (fun K hK => ?_) AllReady.nil)
 ·refine step_load rfl 51 (.tmp 2) rfl w.heap.size (by simp [Act.eval, Act.put]) (hL h) _ (range_of (by exact HB.out)) Tryz.underlying51 rfl (by rw [HL.out]; exact Hr.iH) ?_
  refine hK _ _ ?_
  clear hK K
  refine wpAny_ready (rs := [2]) (by kernel_rfl) (by simp) ?_
  refine AllReady.cons rfl (fun K hK => ?_) AllReady.nil
  go_simp
  refine (HC.out _ (by repeat (first | exact HG.out | refine Gr.drew ?_))).mono ?_
  rintro e w2 ⟨v, rfl, O2, G2⟩
  simp only []
  refine hK _ _ ?_
  clear hK K
  have HO2 : Hid (Own w2 w.heap.size v l) := O2
  have HG2 : Hid (Gr w1 w2) := (Gr.refl w1).drew.trans G2
  clear O2 G2
  refine wpAny_ready (rs := [3]) (by kernel_rfl) (by simp) ?_
  refine AllReady.cons rfl (fun K hK => ?_) AllReady.nil
  refine step_build rfl 115 _ rfl (cA ⟨h, v, nilS, nilS⟩) (by have := HBu.out v HO2.out.cells.1; simp [Act.eval, Act.put]; exact this) ?_
  refine hK _ _ ?_
  clear hK K
  refine wpAny_ready (rs := [4]) (by kernel_rfl) (by simp) ?_
  refine AllReady.cons rfl (fun K hK => ?_) AllReady.nil
  refine step_store rfl 115 (.tmp 4) (.tmp 23) rfl (w.heap.size + 1) (cA ⟨h, v, nilS, nilS⟩) (by simp [Act.eval, Act.put]) (by simp [Act.eval, Act.put]) 115 Z (Hr.heap_of_gr HG2.out HR2.out) (by rw [HZ.out]; exact iC) (by rw [HZ.out, hz]) (one_cA _ HO2.out.cells.2 rfl rfl) ?_
  refine hK _ _ ?_
  clear hK K
  refine wpAny_ready (rs := [5]) (by kernel_rfl) (by simp) ?_
  refine AllReady.cons rfl (fun K hK => ?_) AllReady.nil
  go_simp
  refine hK _ _ ?_
  clear hK K
  refine wpAny_done (by kernel_rfl) ?_ _
  go_wp2_with fail
  refine bodyPost_ret (v := .tuple #[.agg (cA ⟨h, v, nilS, nilS⟩), .bool true]) (Hr.results_cell_tmp' Tryz.results99 _ _ _ _ _ (0, 0) _ _ (by simp [Act.put]) (by simp [Act.put]) (setRow_heap _ _ _ _ _ (0, 0) (Hr.heap_of_gr HG2.out HR2.out)) Tryz.underlying115 rfl (by rw [HZ.out]; exact iC)) rfl ⟨v, rfl, ?_, ?_⟩
  ·refine HO2.out.to fun k q f hk => setRow_other _ _ _ _ ?_
   exact ne_of_types hk (Hr.heap_of_gr HG2.out HR2.out) (by decide)
  ·exact gr_setRow (HG.out.trans HG2.out) (Nat.le_succ _) _
 ·go_simp
  refine (HC.out _ (by repeat (first | exact HG.out | refine Gr.drew ?_))).mono ?_
  rintro e w2 ⟨v, rfl, O2, G2⟩
  simp only []
  refine hK _ _ ?_
  clear hK K
  have HO2 : Hid (Own w2 w.heap.size v l) := O2
  have HG2 : Hid (Gr w1 w2) := (Gr.refl w1).drew.trans G2
  clear O2 G2
  refine wpAny_ready (rs := [0]) (by kernel_rfl) (by simp) ?_
  refine AllReady.cons rfl (fun K hK => ?_) AllReady.nil
  refine step_load rfl 51 (.tmp 2) rfl w.heap.size (by simp [Act.eval, Act.put]) (hL h) _ (range_of (Hr.heap_of_gr HG2.out HB.out)) Tryz.underlying51 rfl (by rw [HL.out]; exact Hr.iH) ?_
  refine hK _ _ ?_
  clear hK K
  refine wpAny_ready (rs := [3]) (by kernel_rfl) (by simp) ?_
  refine AllReady.cons rfl (fun K hK => ?_) AllReady.nil
  refine step_build rfl 115 _ rfl (cA ⟨h, v, nilS, nilS⟩) (by have := HBu.out v HO2.out.cells.1; simp [Act.eval, Act.put]; exact this) ?_
  refine hK _ _ ?_
  clear hK K
  refine wpAny_ready (rs := [4]) (by kernel_rfl) (by simp) ?_
  refine AllReady.cons rfl (fun K hK => ?_) AllReady.nil
  refine step_store rfl 115 (.tmp 4) (.tmp 23) rfl (w.heap.size + 1) (cA ⟨h, v, nilS, nilS⟩) (by simp [Act.eval, Act.put]) (by simp [Act.eval, Act.put]) 115 Z (Hr.heap_of_gr HG2.out HR2.out) (by rw [HZ.out]; exact iC) (by rw [HZ.out, hz]) (one_cA _ HO2.out.cells.2 rfl rfl) ?_
  refine hK _ _ ?_
  clear hK K
  refine wpAny_ready (rs := [5]) (by kernel_rfl) (by simp) ?_
  refine AllReady.cons rfl (fun K hK => ?_) AllReady.nil
  go_simp
  refine hK _ _ ?_
  clear hK K
  refine wpAny_done (by kernel_rfl) ?_ _
  go_wp2_with fail
  refine bodyPost_ret (v := .tuple #[.agg (cA ⟨h, v, nilS, nilS⟩), .bool true]) (Hr.results_cell_tmp' Tryz.results99 _ _ _ _ _ (0, 0) _ _ (by simp [Act.put]) (by simp [Act.put]) (setRow_heap _ _ _ _ _ (0, 0) (Hr.heap_of_gr HG2.out HR2.out)) Tryz.underlying115 rfl (by rw [HZ.out]; exact iC)) rfl ⟨v, rfl, ?_, ?_⟩
  ·refine HO2.out.to fun k q f hk => setRow_other _ _ _ _ ?_
   exact ne_of_types hk (Hr.heap_of_gr HG2.out HR2.out) (by decide)
  ·exact gr_setRow (HG.out.trans HG2.out) (Nat.le_succ _) _
end Go.Proofs.YtchllaeembmioaaGreatDoor.Hc
namespace Go.Proofs.YtchllaeembmioaaGreatDoor.Mc
open Go.ChangeShapes Go.WideShapes Go.ChangeAt Go.RowKit Mm Hh Hc

theorem pwrong_any {ma ha pa : Option Addr} {hn pn : Nat} (mc hc pc : Nat) {m : List UInt8} {hs : List Hv} {ps : List (Int × Int)} {w : World} (mn : Nat) (hmn : m.length = mn) (H : Hs w ha hn hs) (P : Ps w pa pn ps) (b1 : mn ≤ 140737488351232) (b2 : hn ≤ 140737488351232) (b3 : pn ≤ 140737488351232) :
  Calls Tryz.prog 29 #[.agg #[.slice ma mn mc, .slice ha hn hc], .slice pa pn pc] w fun e w' => e = .returned (.int .i64 (wrong m hs ps)) ∧ Gr w w' := by
 have HM : Hid (∀ W : World, Gr w W → Calls Tryz.prog 51 #[.agg #[.slice ma mn mc, .slice ha hn hc]] W fun e w' => e = .returned (.bool (mayM mn hs)) ∧ Gr W w') := fun W G => MMay_any mc hc mn (H.of G) b1 b2
 have HWr : Hid (wrong m hs ps = if mayM mn hs = false then 2 else if 300 < ps.length then 1 else if ps.all (pickOk hs.length) = false then 3 else 0) := by have := wrong_may m hs ps; rw [hmn] at this; exact this
 have HL : Hid (hs.length = hn) := H.len
 have PL : Hid (ps.length = pn) := P.len
 have HP : Hid (Ps w pa pn ps) := P
 clear H P hmn
 generalize mayM mn hs = B at *
 cases B with
 | false =>
  have HE : Hid (wrong m hs ps = 2) := by unfold Hid; rw [HWr.out, if_pos rfl]
  clear HWr HP
  go_enter Tryz.func29, Tryz.ntmps29
  go_wp2_with fail
  refine (HM.out _ ((Gr.refl _).alloc _)).mono ?_
  rintro e w1 ⟨rfl, G1⟩
  have HG1 : Hid (Gr w w1) := ((Gr.refl _).alloc _).trans G1
  clear G1 HM
  go_wp2_with fail
  go_ret
  exact ⟨ret_int HE.out.symm, HG1.out⟩
 | true =>
  have HW2 : Hid (wrong m hs ps = if 300 < pn then 1 else if ps.all (pickOk hn) = false then 3 else 0) := by unfold Hid; rw [HWr.out, if_neg (by simp), PL.out, HL.out]
  clear HWr
  go_enter Tryz.func29, Tryz.ntmps29
  go_wp2_with fail
  refine (HM.out _ ((Gr.refl _).alloc _)).mono ?_
  rintro e w1 ⟨rfl, G1⟩
  have HG1 : Hid (Gr w w1) := ((Gr.refl _).alloc _).trans G1
  have HB : Hid (w1.heap[w.heap.size]? = some (.cells #[.slice ma mn mc, .slice ha hn hc] 25 (0, 0))) := (G1.block _ (by simp)).trans (heap_alloc_new w _)
  have hlt1 : w.heap.size < w1.heap.size := (Array.getElem?_eq_some_iff.1 HB.out).1
  clear G1 HM
  by_cases c3 : 300 < pn
  ·have HE : Hid (wrong m hs ps = 1) := by unfold Hid; rw [HW2.out, if_pos c3]
   go_wp2_with fail
   go_ret
   exact ⟨ret_int HE.out.symm, HG1.out⟩
  ·have HW3 : Hid (wrong m hs ps = if ps.all (pickOk hn) = false then 3 else 0) := by unfold Hid; rw [HW2.out, if_neg c3]
   clear HW2
   by_cases p0 : pn = 0
   ·subst p0
    have HE : Hid (wrong m hs ps = 0) := by
     have : ps = [] := List.eq_nil_of_length_eq_zero PL.out
     unfold Hid; rw [HW3.out, this]; rfl
    go_wp2_with fail
    go_loopw [15] (fun i wq => i = .int .i64 0 ∧ wq = w1) (fun _ _ => 0)
    case atStart => exact ⟨rfl, rfl⟩
    case round =>
     obtain ⟨rfl, rfl⟩ := hrel
     go_wp2
     go_ret
     exact ⟨ret_int HE.out.symm, HG1.out⟩
   ·obtain ⟨b', o', rfl, hb', hcell'⟩ := HP.out.spot (by omega)
    have HC : Hid (∀ i p, ps[i]? = some p → w1.cell? ⟨b', o' + i * 2, none⟩ = some (.int .i64 p.1) ∧ w1.cell? ⟨b', o' + i * 2 + 1, none⟩ = some (.int .i64 p.2)) := fun i p hp => ⟨(HG1.out.cell _ (by exact hb')).trans (hcell' i p hp).1, (HG1.out.cell _ (by exact hb')).trans (hcell' i p hp).2⟩
    have hb1 : b' < w1.heap.size := Nat.lt_of_lt_of_le hb' HG1.out.size
    clear hcell' HP
    go_wp2_with fail
    go_loopw [15] (fun i wq => ∃ j : Nat, j ≤ pn ∧ i = .int .i64 j ∧ (ps.take j).all (pickOk hn) = true ∧ Gr w1 wq) (fun i _ => pn - (intOf i).toNat)
    case atStart => exact ⟨0, Nat.zero_le _, rfl, rfl, Gr.refl _⟩
    case round =>
     obtain ⟨j, hj, rfl, hall, G⟩ := hrel
     have HA : Hid ((ps.take j).all (pickOk hn) = true) := hall
     have HG : Hid (Gr w1 wr) := G
     have hbr : b' < wr.heap.size := Nat.lt_of_lt_of_le hb1 G.size
     have hwr : w.heap.size < wr.heap.size := Nat.lt_of_lt_of_le hlt1 G.size
     have k1 : wr.cell? ⟨w.heap.size, 1, none⟩ = some (.slice ha hn hc) := (G.cell _ (by exact hlt1)).trans (cell_of_row _ _ _ _ _ _ HB.out)
     clear hall G
     by_cases hlt2 : j < pn
     ·obtain ⟨p, hp⟩ : ∃ p, ps[j]? = some p := ⟨_, List.getElem?_eq_getElem (by rw [PL.out]; exact hlt2)⟩
      have q0 : wr.cell? ⟨b', o' + j * 2, none⟩ = some (.int .i64 p.1) := (HG.out.cell _ (by exact hb1)).trans (HC.out j p hp).1
      have q1 : wr.cell? ⟨b', o' + j * 2 + 1, none⟩ = some (.int .i64 p.2) := (HG.out.cell _ (by exact hb1)).trans (HC.out j p hp).2
      have HE : Hid (¬ (0 ≤ p.1 ∧ p.1 < hn ∧ 0 ≤ p.2 ∧ p.2 ≤ 400) → wrong m hs ps = 3) := fun hno => by rw [HW3.out, if_pos (all_false hp (by unfold pickOk; exact decide_eq_false hno))]
      have HN : Hid ((0 ≤ p.1 ∧ p.1 < hn ∧ 0 ≤ p.2 ∧ p.2 ≤ 400) → (ps.take (j + 1)).all (pickOk hn) = true) := fun hy => by
       rw [all_take _ ps j p hp, HA.out, show pickOk hn p = true by unfold pickOk; exact decide_eq_true hy]; rfl
      clear hp
      obtain ⟨x, y⟩ := p
      simp only at *
      have hc : x < 0 ∨ (¬ x < 0 ∧ (hn : Int) ≤ x) ∨ (¬ x < 0 ∧ ¬ (hn : Int) ≤ x ∧ y < 0) ∨ (¬ x < 0 ∧ ¬ (hn : Int) ≤ x ∧ ¬ y < 0 ∧ 400 < y) ∨ (¬ x < 0 ∧ ¬ (hn : Int) ≤ x ∧ ¬ y < 0 ∧ ¬ 400 < y) := by omega
      rcases hc with h1 | ⟨h1, h2⟩ | ⟨h1, h2, h3⟩ | ⟨h1, h2, h3, h4⟩ | ⟨h1, h2, h3, h4⟩
      ·go_wp2
       go_ret
       exact ⟨ret_int (HE.out (by omega)).symm, HG1.out.trans (HG.out.alloc _)⟩
      ·go_wp2
       go_ret
       exact ⟨ret_int (HE.out (by omega)).symm, HG1.out.trans (HG.out.alloc _)⟩
      ·go_wp2
       go_ret
       exact ⟨ret_int (HE.out (by omega)).symm, HG1.out.trans (HG.out.alloc _)⟩
      ·go_wp2
       go_ret
       exact ⟨ret_int (HE.out (by omega)).symm, HG1.out.trans (HG.out.alloc _)⟩
      ·go_wp2
       go_roundw
       case rel => exact ⟨j + 1, by omega, by go_num, HN.out (by omega), HG.out.alloc _⟩
       case measure => simp [intOf]; omega
     ·have HE : Hid (wrong m hs ps = 0) := by
       have e : (ps.take j).all (pickOk hn) = true := HA.out
       rw [show j = pn by omega, ← PL.out, List.take_length] at e
       unfold Hid; rw [HW3.out, e]; rfl
      go_wp2
      go_ret
      exact ⟨ret_int HE.out.symm, HG1.out.trans HG.out⟩

theorem owns_at {w : World} {base e sz n : Nat} {v : Value} {xs : List Value} (h : w.ownsRow base e sz v n xs) (hn : 1 ≤ n) : ∃ g cap, v = .slice (some ⟨g, 0, none⟩) n cap ∧ base ≤ g := by
 obtain ⟨_, h⟩ := h
 rcases h with ⟨_, h0⟩ | ⟨g, cap, cur, hv, hb, _⟩
 ·omega
 ·exact ⟨g, cap, hv, hb⟩
theorem infoH : (Tryz.prog.info? 51).map (fun i => (i.zero, i.size, i.bytes)) = some (some (.agg (hA h0)), 37, 160) := by kernel_rfl
theorem HClone_any {w : World} {ad : Addr} {n : Nat} (cap : Nat) {hs : List Hv} (H : Hs w (some ad) n hs) (hn1 : 1 ≤ n) (hn : n ≤ 4) :
  Calls Tryz.prog 31 #[.slice (some ad) n cap] w fun e w' => ∃ g c, e = .returned (.slice (some ⟨g, 0, none⟩) n c) ∧ w.heap.size ≤ g ∧ HRow w' g hs ∧ Gr w w' := by
 obtain ⟨i0, hi, hz0, hz1, hz2⟩ := info_parts infoH
 have HH : Hid (Hs w (some ad) n hs) := H
 have HL : Hid (hs.length = n) := H.len
 have HO : Hid (∀ h ∈ hs, h.Ok) := H.ok
 have he : ∀ w : World, (binOp .eql 23 (.slice (some ad) n cap) (.slice none 0 0)).run Tryz.prog w = .ok (.bool false) w := fun _ => by kernel_rfl
 clear H
 go_enter Tryz.func31, Tryz.ntmps31
 go_wp2_with (at_builtin; refine wpList_append_own _ rfl (.tmp 5) (.tmp 6) 23 rfl w.heap.size 51 i0 (.agg (hA h0)) 37 160 Tryz.underlying23 hi hz0 hz1 hz2 rfl (by decide) _ 0 [] rfl (World.ownsRow_made w #[] 0 (Nat.le_refl _) (by decide) rfl) ad n cap (hC hs) rfl (by rw [hC_len HO.out, HL.out]) (HH.out.of ((Gr.refl _).alloc _)).src (hC_one hs) (by unfold maxLen; omega) (by omega) (by simp) ?_; intro v' w1 hown hgrow _; have HOw : Hid (w1.ownsRow w.heap.size 51 37 v' n (hC hs)) := (by unfold Hid; simpa using hown); have HG : Hid (Gr w w1) := ((Gr.refl _).alloc _).grown hgrow (fun k e => Nat.le_of_eq (Option.some.inj e)); clear hown hgrow)
 obtain ⟨g, c, rfl, hg⟩ := owns_at HOw.out hn1
 have HR : Hid (HRow w1 g hs) := HRow.own HO.out HOw.out
 clear HOw
 go_ret
 exact ⟨g, c, rfl, hg, HR.out, HG.out⟩
end Go.Proofs.YtchllaeembmioaaGreatDoor.Mc
namespace Go.Proofs.YtchllaeembmioaaGreatDoor.Mc
open Go.ChangeShapes Go.WideShapes Go.ChangeAt Go.RowKit Mm Hh Hc

variable {ty : Nat} {rs : List Value}
theorem HRow.of {w w' : World} {g : Nat} {hs : List Hv} (r : HRow w g hs) (G : Gr w w') : HRow w' g hs := by
 obtain ⟨rest, e⟩ := r.row
 exact ⟨r.ok, rest, (G.block _ (Array.getElem?_eq_some_iff.1 e).1).trans e⟩
theorem own_gr {w w' : World} {base : Nat} {v : Value} {l : List UInt8} (h : Own w base v l) (G : Gr w w') : Own w' base v l :=
 h.to fun k o f e => G.block _ (Array.getElem?_eq_some_iff.1 e).1
structure Bw (ty : Nat) (rs : List Value) (w : World) (base g : Nat) (M : Value) (gh hc : Nat) (O : Value) (s : Sh) : Prop where
 t1 : ty ≠ 5
 t2 : ty ≠ 42
 t3 : ty ≠ 51
 bg : base ≤ g
 blk : w.heap[g]? = some (.cells (M :: .slice (some ⟨gh, 0, none⟩) s.hs.length hc :: O :: .int .i64 s.steps :: rs).toArray ty (0, 0))
 mem : Own w 0 M s.m
 bh : base ≤ gh
 row : HRow w gh s.hs
 out : w.ownsRow base 42 1 O s.out.length (s.out.map (Value.int .u32))
def Bd (ty : Nat) (rs : List Value) (w : World) (base g : Nat) (s : Sh) : Prop := ∃ M gh hc O, Bw ty rs w base g M gh hc O s
theorem Bw.of {w w' : World} {base g : Nat} {M : Value} {gh hc : Nat} {O : Value} {s : Sh} (B : Bw ty rs w base g M gh hc O s) (G : Gr w w') : Bw ty rs w' base g M gh hc O s :=
 ⟨B.t1, B.t2, B.t3, B.bg, (G.block _ (Array.getElem?_eq_some_iff.1 B.blk).1).trans B.blk, own_gr B.mem G, B.bh, B.row.of G, owns_to B.out fun k o f e => G.block _ (Array.getElem?_eq_some_iff.1 e).1⟩
section
variable {w : World} {base g gh hc : Nat} {M O : Value} {s : Sh}
theorem Bw.lt (B : Bw ty rs w base g M gh hc O s) : g < w.heap.size := (Array.getElem?_eq_some_iff.1 B.blk).1
theorem Bw.c0 (B : Bw ty rs w base g M gh hc O s) : w.cell? ⟨g, 0, none⟩ = some M := (cell_of_row _ _ _ _ _ _ B.blk).trans (by simp)
theorem Bw.c1 (B : Bw ty rs w base g M gh hc O s) : w.cell? ⟨g, 1, none⟩ = some (.slice (some ⟨gh, 0, none⟩) s.hs.length hc) := (cell_of_row _ _ _ _ _ _ B.blk).trans (by simp)
theorem Bw.c2 (B : Bw ty rs w base g M gh hc O s) : w.cell? ⟨g, 2, none⟩ = some O := (cell_of_row _ _ _ _ _ _ B.blk).trans (by simp)
theorem Bw.c3 (B : Bw ty rs w base g M gh hc O s) : w.cell? ⟨g, 3, none⟩ = some (.int .i64 s.steps) := (cell_of_row _ _ _ _ _ _ B.blk).trans (by simp)
theorem Bw.rest (B : Bw ty rs w base g M gh hc O s) (i : Nat) : w.cell? ⟨g, 4 + i, none⟩ = rs[i]? := (cell_of_row _ _ _ _ _ _ B.blk).trans (by rw [List.getElem?_toArray, Nat.add_comm]; rfl)
end

theorem one_bd (a b c : Option Addr) (n1 n2 n3 c1 c2 c3 : Nat) (x : Int) : (#[.slice a n1 c1, .slice b n2 c2, .slice c n3 c3, .int .i64 x] : Array Value).all (·.oneCell') = true := by
 refine all_oneCell_toArray ?_
 intro v hv
 simp only [List.mem_cons, List.not_mem_nil, or_false] at hv
 rcases hv with rfl | rfl | rfl | rfl <;> rfl
theorem iB : (Tryz.prog.info? 59).map (·.size) = some 4 := by kernel_rfl
theorem clone_own {ma : Option Addr} {mc : Nat} {m : List UInt8} {w : World} {mn : Nat} (M : Mem w ma mn m) (hcap : ma = none → mc = 0) (hn : mn ≤ 4096) :
  Calls Tryz.prog 30 #[.slice ma mn mc] w fun e w' => ∃ a c, e = .returned (.slice a mn c) ∧ Own w' 0 (.slice a mn c) m ∧ Gr w w' :=
 (Clone_any M hcap (by omega)).mono fun e w' ⟨v, e1, e2, e3⟩ => by
  obtain ⟨a, c, rfl, _⟩ := e2.mem
  have := M.len
  rw [this] at e1 e2
  exact ⟨a, c, e1, e2.base (w' := w') (Nat.zero_le _), e3⟩
theorem NewBoard_yes {ma ha pa : Option Addr} {hn pn : Nat} (mc hc pc : Nat) {m : List UInt8} {hs : List Hv} {ps : List (Int × Int)} {w : World} (mn : Nat) (M : Mem w ma mn m) (hcap : ma = none → mc = 0) (H : Hs w ha hn hs) (P : Ps w pa pn ps) (b3 : pn ≤ 140737488351232) (hy : wrong m hs ps = 0) (b1 : mn ≤ 4096) (b2 : 1 ≤ hn) (b4 : hn ≤ 4) :
  Calls Tryz.prog 17 #[.agg #[.slice ma mn mc, .slice ha hn hc], .slice pa pn pc] w fun e w' => ∃ a c gh hc, e = .returned (.tuple #[.agg #[.slice a mn c, .slice (some ⟨gh, 0, none⟩) hn hc, .slice none 0 0, .int .i64 0], .int .i64 0]) ∧ Own w' 0 (.slice a mn c) m ∧ w.heap.size ≤ gh ∧ HRow w' gh hs ∧ Gr w w' := by
 have HM : Hid (∀ W : World, Gr w W → Calls Tryz.prog 29 #[.agg #[.slice ma mn mc, .slice ha hn hc], .slice pa pn pc] W fun e w' => e = .returned (.int .i64 0) ∧ Gr W w') := fun W G => by rw [← hy]; exact pwrong_any mc hc pc mn M.len (H.of G) (P.of G) (by omega) (by omega) b3
 obtain ⟨b, o, rfl, _, _⟩ := H.spot (by omega)
 have C1 : Hid (∀ W : World, Gr w W → Calls Tryz.prog 30 #[.slice ma mn mc] W fun e w' => ∃ a c, e = .returned (.slice a mn c) ∧ Own w' 0 (.slice a mn c) m ∧ Gr W w') := fun W G => clone_own (M.of G) hcap b1
 have C2 : Hid (∀ W : World, Gr w W → Calls Tryz.prog 31 #[.slice (some ⟨b, o, none⟩) hn hc] W fun e w' => ∃ g c, e = .returned (.slice (some ⟨g, 0, none⟩) hn c) ∧ w.heap.size ≤ g ∧ HRow w' g hs ∧ Gr W w') := fun W G => (HClone_any hc (H.of G) b2 b4).mono fun e w' ⟨g, c, e1, e2, e3⟩ => ⟨g, c, e1, Nat.le_trans G.size e2, e3⟩
 clear H P hy M hcap
 go_enter Tryz.func17, Tryz.ntmps17
 go_wp2_with fail
 refine (HM.out _ (((Gr.refl _).alloc _).alloc _)).mono ?_
 rintro e w1 ⟨rfl, G1⟩
 have HG1 : Hid (Gr w w1) := (((Gr.refl _).alloc _).alloc _).trans G1
 have HA : Hid (w1.heap[w.heap.size]? = some (.cells #[.slice ma mn mc, .slice (some ⟨b, o, none⟩) hn hc] 25 (0, 0))) := (two_of G1).1
 have HB : Hid (w1.heap[w.heap.size + 1]? = some (.cells #[.slice none 0 0, .slice none 0 0, .slice none 0 0, .int .i64 0] 59 (0, 0))) := (two_of G1).2
 have k0 : w1.cell? ⟨w.heap.size, 0, none⟩ = some (.slice ma mn mc) := cell_of_row _ _ _ _ _ _ HA.out
 have k1 : w1.cell? ⟨w.heap.size, 1, none⟩ = some (.slice (some ⟨b, o, none⟩) hn hc) := cell_of_row _ _ _ _ _ _ HA.out
 clear G1 HM
 go_wp2_with fail
 have hlt : w.heap.size < w1.heap.size := (Array.getElem?_eq_some_iff.1 HA.out).1
 have hne : w1.heap.size ≠ w.heap.size := by omega
 go_region_held3 (fun W => W.cell? ⟨w.heap.size, 0, none⟩ = some (.slice ma mn mc) ∧ W.cell? ⟨w.heap.size, 1, none⟩ = some (.slice (some ⟨b, o, none⟩) hn hc)) (first | go_keep | (constructor <;> assumption)) (first
  | (go_at_call 30; refine (C1.out _ (by repeat (first | exact HG1.out | refine Gr.drew ?_ | refine Gr.alloc ?_ _))).mono ?_; rintro e w2 ⟨a2, c2, rfl, O2, G2⟩; have HO2 : Hid (Own w2 0 (.slice a2 mn c2) m) := O2; have HG2 : Hid (Gr w1 w2) := Gr.trans (by repeat (first | exact Gr.refl w1 | refine Gr.drew ?_ | refine Gr.alloc ?_ _)) G2; have HC2 : Hid (w2.heap[w1.heap.size]? = some (.cells #[.slice none 0 0, .slice none 0 0, .slice none 0 0, .int .i64 0] 59 (0, 0))) := Hr.heap_of_gr ((Gr.refl (w1.alloc _)).drew.trans G2) (heap_alloc_new w1 _); have q0 : w2.cell? ⟨w.heap.size, 0, none⟩ = some (.slice ma mn mc) := cell_of_row _ _ _ _ _ _ (Hr.heap_of_gr HG2.out HA.out); have q1 : w2.cell? ⟨w.heap.size, 1, none⟩ = some (.slice (some ⟨b, o, none⟩) hn hc) := cell_of_row _ _ _ _ _ _ (Hr.heap_of_gr HG2.out HA.out); clear G2 O2 k0 k1 C1)
  | (go_at_call 31; refine (C2.out _ (by repeat (first | exact HG1.out.trans HG2.out | refine Gr.drew ?_ | refine Gr.alloc ?_ _))).mono ?_; rintro e w3 ⟨g3, c3, rfl, hg3, R3, G3⟩; have HR3 : Hid (HRow w3 g3 hs) := R3; have HO3 : Hid (Own w3 0 (.slice a2 mn c2) m) := own_gr HO2.out G3; have HG3 : Hid (Gr w1 w3) := HG2.out.trans G3; have HC3 : Hid (w3.heap[w1.heap.size]? = some (.cells #[.slice none 0 0, .slice none 0 0, .slice none 0 0, .int .i64 0] 59 (0, 0))) := Hr.heap_of_gr G3 HC2.out; have q3 : w3.cell? ⟨w.heap.size, 0, none⟩ = some (.slice ma mn mc) := cell_of_row _ _ _ _ _ _ (Hr.heap_of_gr HG3.out HA.out); have q4 : w3.cell? ⟨w.heap.size, 1, none⟩ = some (.slice (some ⟨b, o, none⟩) hn hc) := cell_of_row _ _ _ _ _ _ (Hr.heap_of_gr HG3.out HA.out); have z0 : w3.cell? ⟨w1.heap.size, 0, none⟩ = some (.slice none 0 0) := cell_of_row _ _ _ _ _ _ HC3.out; have z1 : w3.cell? ⟨w1.heap.size, 1, none⟩ = some (.slice none 0 0) := cell_of_row _ _ _ _ _ _ HC3.out; have z2 : w3.cell? ⟨w1.heap.size, 2, none⟩ = some (.slice none 0 0) := cell_of_row _ _ _ _ _ _ HC3.out; have z3 : w3.cell? ⟨w1.heap.size, 3, none⟩ = some (.int .i64 0) := cell_of_row _ _ _ _ _ _ HC3.out; have f0 : w3.frozen? ⟨w1.heap.size, 0, none⟩ = false := frozen_of_row _ _ _ _ _ HC3.out; have f1 : w3.frozen? ⟨w1.heap.size, 1, none⟩ = false := frozen_of_row _ _ _ _ _ HC3.out; clear G3 R3 C2 q0 q1 HO2 HG2 HC2))
 have hlt2 : w.heap.size + 1 < w1.heap.size := (Array.getElem?_eq_some_iff.1 HB.out).1
 have HB3 : Hid (w3.heap[w.heap.size + 1]? = some (.cells #[.slice none 0 0, .slice none 0 0, .slice none 0 0, .int .i64 0] 59 (0, 0))) := Hr.heap_of_gr HG3.out HB.out
 have hne2 : w1.heap.size ≠ w.heap.size + 1 := by omega
 have HI : Hid ((Tryz.prog.info? 59).map (·.size) = some 4) := iB
 go_wp2_with (refine wpList_store_row rfl 59 _ _ rfl (w.heap.size + 1) #[.slice a2 mn c2, .slice (some ⟨g3, 0, none⟩) hn c3, .slice none 0 0, .int .i64 0] rfl rfl 59 #[.slice none 0 0, .slice none 0 0, .slice none 0 0, .int .i64 0] ?hb HI.out rfl (one_bd _ _ _ _ _ _ _ _ _ _) ?_; (case hb => (rw [heap_setCell_other _ _ _ _ (by exact hne2.symm), heap_setCell_other _ _ _ _ (by exact hne2.symm)]; exact HB3.out)))
 refine bodyPost_ret (v := .tuple #[.agg _, .int .i64 0]) (Hr.results_cell_tmp' Tryz.results17 _ _ _ _ _ (0, 0) _ _ rfl rfl (setRow_heap _ _ _ _ _ (0, 0) (by rw [heap_setCell_other _ _ _ _ (by exact hne2.symm), heap_setCell_other _ _ _ _ (by exact hne2.symm)]; exact HB3.out)) Tryz.underlying59 rfl HI.out) rfl ?_
 have ne : ∀ (t : Nat) (k : Nat) (q : Array Value) (f : Nat × Nat), t ≠ 59 → w3.heap[k]? = some (.cells q t f) → (((w3.setCell ⟨w1.heap.size, 0, none⟩ (.slice a2 mn c2)).setCell ⟨w1.heap.size, 1, none⟩ (.slice (some ⟨g3, 0, none⟩) hn c3)).setRow (w.heap.size + 1) #[.slice a2 mn c2, .slice (some ⟨g3, 0, none⟩) hn c3, .slice none 0 0, .int .i64 0]).heap[k]? = w3.heap[k]? := fun t k q f ht hk => by
  have n1 : k ≠ w1.heap.size := ne_of_types hk HC3.out ht
  have n2 : k ≠ w.heap.size + 1 := ne_of_types hk HB3.out ht
  rw [setRow_other _ _ _ _ n2, heap_setCell_other _ _ _ _ (by exact n1), heap_setCell_other _ _ _ _ (by exact n1)]
 refine ⟨a2, c2, g3, c3, rfl, HO3.out.to fun k q f hk => ne _ k q f (by decide) hk, hg3, ?_, ?_⟩
 ·obtain ⟨rest, hr⟩ := HR3.out.row
  exact ⟨HR3.out.ok, rest, (ne _ _ _ _ (by decide) hr).trans hr⟩
 ·exact gr_setRow (((HG1.out.trans HG3.out).setCell (Nat.le_of_lt hlt) _).setCell (Nat.le_of_lt hlt) _) (Nat.le_succ _) _
end Go.Proofs.YtchllaeembmioaaGreatDoor.Mc
namespace Go.Proofs.YtchllaeembmioaaGreatDoor.Hc
open Go.ChangeShapes Go.WideShapes Go.ChangeAt Go.RowKit Mm Hh

abbrev Ptr (g : Nat) : Value := .pointer (some ⟨g, 0, none⟩)
def ret2 (r : Option Int) : Value := .tuple #[.int .u32 (r.getD 0), .bool r.isSome]

theorem reserve_any {w : World} {base g : Nat} {h : Hv} {l : List UInt8} {os : List Int} {ss : List (Int × Int)} (I : In w base g h l os ss) (hl : l.length ≤ 140737488351232) (a : Int) (h0 : 0 ≤ a) (h1 : a < 4294967296) :
  Calls Tryz.prog 138 #[.pointer (some ⟨g, 0, none⟩), .int .u32 a] w fun e w' => e = .returned (ret2 (efLr h l a).res) ∧ In w' base g (efLr h l a).h l os ss ∧ Fr base w w' := by
 have L := Load_any I hl 13 a h0 h1
 unfold efLr
 have HI : Hid (In w base g h l os ss) := I
 clear I
 cases hB : ldOk l 13 a with
 | false =>
  have hX : ldV l 13 a = 0 := by unfold ldV; rw [hB]; rfl
  rw [hB, hX] at L
  have HL : Hid (Calls Tryz.prog 110 #[.pointer (some ⟨g, 0, none⟩), .int .i64 13, .int .u32 a] w fun e w' => e = .returned (.tuple #[.int .u32 0, .bool false]) ∧ In w' base g (h.trap 3) l os ss ∧ Ch g w w') := L
  clear L hX hB
  go_enter Tryz.func138, Tryz.ntmps138
  go_wp2_with fail
  refine HL.out.mono ?_
  rintro e w' ⟨rfl, I2, C2⟩
  have HI2 : Hid (In w' base g (h.trap 3) l os ss) := I2
  have HC2 : Hid (Ch g w w') := C2
  clear I2 C2 HL
  go_wp2_with fail
  go_ret2
  exact ⟨rfl, HI2.out, HI.out.below HC2.out⟩
 | true =>
  rw [hB] at L
  have HL : Hid (Calls Tryz.prog 110 #[.pointer (some ⟨g, 0, none⟩), .int .i64 13, .int .u32 a] w fun e w' => e = .returned (.tuple #[.int .u32 (ldV l 13 a), .bool true]) ∧ In w' base g h l os ss ∧ Ch g w w') := L
  clear L hB
  generalize ldV l 13 a = X at *
  go_enter Tryz.func138, Tryz.ntmps138
  go_wp2_with fail
  refine HL.out.mono ?_
  rintro e w' ⟨rfl, I2, C2⟩
  have HC2 : Hid (Ch g w w') := C2
  obtain ⟨c0, rfl, I⟩ := I2
  have k1 : w'.cell? ⟨g, 33, none⟩ = some (.bool c0.h.held) := (I.hcell (by omega)).trans (hL_fld I.ok 1)
  have k2 : w'.cell? ⟨g, 34, none⟩ = some (.int .u32 c0.h.heldAt) := (I.hcell (by omega)).trans (hL_fld I.ok 2)
  have fz := I.fz
  have o1 : Hv.Ok { c0.h with held := true } := ⟨I.ok.len, I.ok.reg, I.ok.pc0, I.ok.pc1, I.ok.at0, I.ok.at1⟩
  have HJ : Hid (Inv ((w'.setCell ⟨g, 33, none⟩ (.bool true)).setCell ⟨g, 34, none⟩ (.int .u32 a)) base g { c0 with h := c0.h.hold true a } l os ss) :=
   (I.set (by omega) (set_held I.ok true) o1).set (c := { c0 with h := { c0.h with held := true } }) (by omega) (set_heldAt o1 a) (I.ok.hold true h0 h1)
  generalize c0.h.held = x1 at *
  generalize c0.h.heldAt = x2 at *
  clear I o1 HL C2
  go_wp2_with fail
  go_ret2
  exact ⟨rfl, HJ.out.inn, HI.out.below ((HC2.out.setCell _ _).setCell _ _)⟩

theorem storeHeld_any {w : World} {base g : Nat} {h : Hv} {l : List UInt8} {os : List Int} {ss : List (Int × Int)} (I : In w base g h l os ss) (T : Tb w base) (hl : l.length ≤ 140737488351232) (hss : ss.length ≤ 1000000) (a b : Int) (h0 : 0 ≤ a) (h1 : a < 4294967296) (hx0 : 0 ≤ b) (hx1 : b < 4294967296) (ok : ldOk l 13 a = true) :
  Calls Tryz.prog 139 #[.pointer (some ⟨g, 0, none⟩), .int .u32 a, .int .u32 b] w fun e w' => e = .returned (.int .u32 ((efSc h l a b).res.getD 0)) ∧ In w' base g (efSc h l a b).h (efSc h l a b).m os (ss ++ (efSc h l a b).sto) ∧ Fr base w w' := by
 unfold efSc
 rw [if_pos ok]
 have HI : Hid (In w base g h l os ss) := I
 obtain ⟨c0, rfl, I⟩ := I
 have k1 : w.cell? ⟨g, 33, none⟩ = some (.bool c0.h.held) := (I.hcell (by omega)).trans (hL_fld I.ok 1)
 have k2 : w.cell? ⟨g, 34, none⟩ = some (.int .u32 c0.h.heldAt) := (I.hcell (by omega)).trans (hL_fld I.ok 2)
 have fz := I.fz
 have o1 : Hv.Ok { c0.h with held := false } := ⟨I.ok.len, I.ok.reg, I.ok.pc0, I.ok.pc1, I.ok.at0, I.ok.at1⟩
 have J : Inv ((w.setCell ⟨g, 33, none⟩ (.bool false)).setCell ⟨g, 34, none⟩ (.int .u32 0)) base g { c0 with h := c0.h.hold false 0 } l os ss :=
  (I.set (by omega) (set_held I.ok false) o1).set (c := { c0 with h := { c0.h with held := false } }) (by omega) (set_heldAt o1 0) (I.ok.hold false (x := 0) (by omega) (by omega))
 have B : Fr base w ((w.setCell ⟨g, 33, none⟩ (.bool false)).setCell ⟨g, 34, none⟩ (.int .u32 0)) := HI.out.below (((Ch.refl g w).setCell _ _).setCell _ _)
 have S := Store_any J.inn (T.of B) hl hss 18 a b h0 h1 hx0 hx1
 have e1 : efStore (c0.h.hold false 0) l 18 a b = ⟨c0.h.hold false 0, stL l 18 a b, [], [(a, 4)], none⟩ := by unfold efStore; rw [if_pos (st_of_ld ok)]; rfl
 have HS : Hid (Calls Tryz.prog 111 #[.pointer (some ⟨g, 0, none⟩), .int .i64 18, .int .u32 a, .int .u32 b] ((w.setCell ⟨g, 33, none⟩ (.bool false)).setCell ⟨g, 34, none⟩ (.int .u32 0)) fun e w' => e = .returned (.tuple #[]) ∧ In w' base g (c0.h.hold false 0) (stL l 18 a b) os (ss ++ [(a, 4)]) ∧ Fr base ((w.setCell ⟨g, 33, none⟩ (.bool false)).setCell ⟨g, 34, none⟩ (.int .u32 0)) w') := by
  have S1 : Calls Tryz.prog 111 #[.pointer (some ⟨g, 0, none⟩), .int .i64 18, .int .u32 a, .int .u32 b] ((w.setCell ⟨g, 33, none⟩ (.bool false)).setCell ⟨g, 34, none⟩ (.int .u32 0)) fun e w' => e = .returned (.tuple #[]) ∧ In w' base g (efStore (c0.h.hold false 0) l 18 a b).h (efStore (c0.h.hold false 0) l 18 a b).m os (ss ++ (efStore (c0.h.hold false 0) l 18 a b).sto) ∧ Fr base ((w.setCell ⟨g, 33, none⟩ (.bool false)).setCell ⟨g, 34, none⟩ (.int .u32 0)) w' := S
  rw [e1] at S1
  exact S1
 have HJ : Hid (In ((w.setCell ⟨g, 33, none⟩ (.bool false)).setCell ⟨g, 34, none⟩ (.int .u32 0)) base g (c0.h.hold false 0) l os ss) := J.inn
 have HB : Hid (Fr base w ((w.setCell ⟨g, 33, none⟩ (.bool false)).setCell ⟨g, 34, none⟩ (.int .u32 0))) := B
 clear S J B I o1 T e1
 generalize c0.h.held = x1 at *
 generalize c0.h.heldAt = x2 at *
 cases x1 with
 | false =>
  rw [if_neg (by simp)]
  clear HS
  go_enter Tryz.func139, Tryz.ntmps139
  go_wp2_with fail
  go_ret
  exact ⟨rfl, by simpa using HJ.out, HB.out⟩
 | true =>
  by_cases ha : x2 = a
  ·rw [if_pos ⟨rfl, ha⟩]
   have ba : (x2 == a) = true := by simp [ha]
   clear ha
   go_enter Tryz.func139, Tryz.ntmps139
   go_wp2_with fail
   refine HS.out.mono ?_
   rintro e w' ⟨rfl, I2, B2⟩
   have HI2 : Hid (In w' base g (c0.h.hold false 0) (stL l 18 a b) os (ss ++ [(a, 4)])) := I2
   have HB2 : Hid (Fr base w w') := HB.out.trans B2
   clear I2 B2 HS HB HJ k1 k2 fz
   go_wp2_with fail
   go_ret
   exact ⟨rfl, HI2.out, HB2.out⟩
  ·rw [if_neg (by simp [ha])]
   have ba : (x2 == a) = false := by simp [ha]
   clear ha HS
   go_enter Tryz.func139, Tryz.ntmps139
   go_wp2_with fail
   go_ret
   exact ⟨rfl, by simpa using HJ.out, HB.out⟩

theorem Atom_any {w : World} {base g : Nat} {h : Hv} {l : List UInt8} {os : List Int} {ss : List (Int × Int)} (I : In w base g h l os ss) (T : Tb w base) (hl : l.length ≤ 140737488351232) (hss : ss.length ≤ 1000000) (op a b : Int) (h0 : 0 ≤ a) (h1 : a < 4294967296) (hx0 : 0 ≤ b) (hx1 : b < 4294967296) :
  Calls Tryz.prog 113 #[.pointer (some ⟨g, 0, none⟩), .int .i64 op, .int .u32 a, .int .u32 b] w fun e w' => e = .returned (ret2 (efAtom h l op a b).res) ∧ In w' base g (efAtom h l op a b).h (efAtom h l op a b).m os (ss ++ (efAtom h l op a b).sto) ∧ Fr base w w' := by
 have R : Hid (Calls Tryz.prog 138 #[.pointer (some ⟨g, 0, none⟩), .int .u32 a] w fun e w' => e = .returned (ret2 (efLr h l a).res) ∧ In w' base g (efLr h l a).h l os ss ∧ Fr base w w') := reserve_any I hl a h0 h1
 have Tr : Hid (∀ c, Calls Tryz.prog 67 #[.pointer (some ⟨g, 0, none⟩), .int .i64 c] w fun e w' => e = .returned (.tuple #[]) ∧ In w' base g (h.trap c) l os ss ∧ Ch g w w') := fun c => trap_any I c
 have SH : Hid (ldOk l 13 a = true → Calls Tryz.prog 139 #[.pointer (some ⟨g, 0, none⟩), .int .u32 a, .int .u32 b] w fun e w' => e = .returned (.int .u32 ((efSc h l a b).res.getD 0)) ∧ In w' base g (efSc h l a b).h (efSc h l a b).m os (ss ++ (efSc h l a b).sto) ∧ Fr base w w') := fun ok => storeHeld_any I T hl hss a b h0 h1 hx0 hx1 ok
 have wv := W.ldV l 13 a
 have wa := W.amo (op := op) wv ⟨hx0, hx1⟩
 have St : Hid (Calls Tryz.prog 111 #[.pointer (some ⟨g, 0, none⟩), .int .i64 18, .int .u32 a, .int .u32 (Wd.amo op (ldV l 13 a) b)] w fun e w' => e = .returned (.tuple #[]) ∧ In w' base g (efStore h l 18 a (Wd.amo op (ldV l 13 a) b)).h (efStore h l 18 a (Wd.amo op (ldV l 13 a) b)).m os (ss ++ (efStore h l 18 a (Wd.amo op (ldV l 13 a) b)).sto) ∧ Fr base w w') := Store_any I T hl hss 18 a _ h0 h1 wa.1 wa.2
 have HI : Hid (In w base g h l os ss) := I
 obtain ⟨c0, rfl, I⟩ := I
 obtain ⟨ao, cap, hm, M⟩ := I.mem.mem
 have k1 : w.cell? ⟨g, 37, none⟩ = some (.slice ao l.length cap) := (I.fcell 0).trans (by rw [hm]; rfl)
 have L : Hid (Calls Tryz.prog 85 #[.slice ao l.length cap, .int .i64 13, .int .u32 a] w fun e w' => e = .returned (.tuple #[.int .u32 (ldV l 13 a), .bool (ldOk l 13 a)]) ∧ w' = w) := Mm.Load_any cap 13 a M hl h0 h1
 have Am : Hid (Calls Tryz.prog 140 #[.int .i64 op, .int .u32 (ldV l 13 a), .int .u32 b] w fun e w' => e = .returned (.int .u32 (Wd.amo op (ldV l 13 a) b)) ∧ w' = w) := Ww.amo_any op _ b w wv.1 wv.2 hx0 hx1
 clear I M hm T wv wa
 by_cases h46 : op = 46
 ·have e : efAtom c0.h l op a b = efLr c0.h l a := if_pos h46
  have em : (efLr c0.h l a).m = l ∧ (efLr c0.h l a).sto = [] := by unfold efLr; split <;> exact ⟨rfl, rfl⟩
  rw [e, em.1, em.2, List.append_nil]
  have b46 : (op == 46) = true := by simp [h46]
  clear e em h46 L St SH Tr Am
  generalize efLr c0.h l a = E at *
  unfold ret2 at *
  go_enter Tryz.func113, Tryz.ntmps113
  go_wp2_with fail
  refine R.out.mono ?_
  rintro e w' ⟨rfl, I2, B2⟩
  have HI2 : Hid (In w' base g E.h l os ss) := I2
  have HB2 : Hid (Fr base w w') := B2
  clear I2 B2 R k1
  go_wp2_with fail
  go_ret2
  exact ⟨rfl, HI2.out, HB2.out⟩
 have b46 : (op == 46) = false := by simp [h46]
 clear R
 cases ok : ldOk l 13 a with
 | false =>
  have e : efAtom c0.h l op a b = ⟨c0.h.trap 4, l, [], [], none⟩ := by
   unfold efAtom efSc efAmo
   rw [if_neg h46, ok]
   simp
  rw [e, List.append_nil]
  rw [ok] at L
  have L2 : Hid (Calls Tryz.prog 85 #[.slice ao l.length cap, .int .i64 13, .int .u32 a] w fun e w' => e = .returned (.tuple #[.int .u32 (ldV l 13 a), .bool false]) ∧ w' = w) := L
  clear L e ok St SH Am h46
  generalize ldV l 13 a = X at *
  generalize l.length = n at *
  go_enter Tryz.func113, Tryz.ntmps113
  go_wp2_with fail
  refine L2.out.mono ?_
  rintro e w' ⟨rfl, rfl⟩
  clear L2
  go_wp2_with fail
  refine (Tr.out 4).mono ?_
  rintro e w2 ⟨rfl, I2, C2⟩
  have HI2 : Hid (In w2 base g (c0.h.trap 4) l os ss) := I2
  have HC2 : Hid (Ch g w' w2) := C2
  clear I2 C2 Tr k1
  go_wp2_with fail
  go_ret2
  exact ⟨rfl, HI2.out, HI.out.below HC2.out⟩
 | true =>
  rw [ok] at L
  have L2 : Hid (Calls Tryz.prog 85 #[.slice ao l.length cap, .int .i64 13, .int .u32 a] w fun e w' => e = .returned (.tuple #[.int .u32 (ldV l 13 a), .bool true]) ∧ w' = w) := L
  clear L Tr
  by_cases h47 : op = 47
  ·have e : efAtom c0.h l op a b = efSc c0.h l a b := by unfold efAtom; rw [if_neg h46, if_pos h47]
   have er : ret2 (efSc c0.h l a b).res = .tuple #[.int .u32 ((efSc c0.h l a b).res.getD 0), .bool true] := by
    unfold ret2 efSc
    rw [if_pos ok]
    split <;> rfl
   rw [e, er]
   have S2 : Hid (Calls Tryz.prog 139 #[.pointer (some ⟨g, 0, none⟩), .int .u32 a, .int .u32 b] w fun e w' => e = .returned (.int .u32 ((efSc c0.h l a b).res.getD 0)) ∧ In w' base g (efSc c0.h l a b).h (efSc c0.h l a b).m os (ss ++ (efSc c0.h l a b).sto) ∧ Fr base w w') := SH.out ok
   have b47 : (op == 47) = true := by simp [h47]
   clear e er h46 h47 ok SH St Am
   generalize efSc c0.h l a b = E at *
   generalize E.res.getD 0 = Y at *
   generalize ldV l 13 a = X at *
   generalize l.length = n at *
   go_enter Tryz.func113, Tryz.ntmps113
   go_wp2_with fail
   refine L2.out.mono ?_
   rintro e w' ⟨rfl, rfl⟩
   clear L2
   go_wp2_with fail
   refine S2.out.mono ?_
   rintro e w2 ⟨rfl, I2, B2⟩
   have HI2 : Hid (In w2 base g E.h E.m os (ss ++ E.sto)) := I2
   have HB2 : Hid (Fr base w' w2) := B2
   clear I2 B2 S2 k1
   go_wp2_with fail
   go_ret2
   exact ⟨rfl, HI2.out, HB2.out⟩
  ·have e : efAtom c0.h l op a b = ⟨c0.h, stL l 18 a (Wd.amo op (ldV l 13 a) b), [], [(a, 4)], some (ldV l 13 a)⟩ := by unfold efAtom efAmo; rw [if_neg h46, if_neg h47, if_pos ok]
   have e2 : efStore c0.h l 18 a (Wd.amo op (ldV l 13 a) b) = ⟨c0.h, stL l 18 a (Wd.amo op (ldV l 13 a) b), [], [(a, 4)], none⟩ := by unfold efStore; rw [if_pos (st_of_ld ok)]; rfl
   rw [e]
   rw [e2] at St
   have St2 : Hid (Calls Tryz.prog 111 #[.pointer (some ⟨g, 0, none⟩), .int .i64 18, .int .u32 a, .int .u32 (Wd.amo op (ldV l 13 a) b)] w fun e w' => e = .returned (.tuple #[]) ∧ In w' base g c0.h (stL l 18 a (Wd.amo op (ldV l 13 a) b)) os (ss ++ [(a, 4)]) ∧ Fr base w w') := St
   have b47 : (op == 47) = false := by simp [h47]
   clear e e2 h46 h47 ok SH St
   unfold ret2
   generalize stL l 18 a (Wd.amo op (ldV l 13 a) b) = K at *
   generalize Wd.amo op (ldV l 13 a) b = Y at *
   generalize ldV l 13 a = X at *
   generalize l.length = n at *
   go_enter Tryz.func113, Tryz.ntmps113
   go_wp2_with fail
   refine L2.out.mono ?_
   rintro e w' ⟨rfl, rfl⟩
   clear L2
   go_wp2_with fail
   refine Am.out.mono ?_
   rintro e w' ⟨rfl, rfl⟩
   clear Am
   go_wp2_with fail
   refine St2.out.mono ?_
   rintro e w2 ⟨rfl, I2, B2⟩
   have HI2 : Hid (In w2 base g c0.h K os (ss ++ [(a, 4)])) := I2
   have HB2 : Hid (Fr base w' w2) := B2
   clear I2 B2 St2 k1
   go_wp2_with fail
   go_ret2
   exact ⟨rfl, HI2.out, HB2.out⟩
end Go.Proofs.YtchllaeembmioaaGreatDoor.Hc
