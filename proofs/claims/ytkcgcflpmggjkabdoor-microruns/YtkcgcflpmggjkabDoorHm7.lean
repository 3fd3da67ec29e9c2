/-
  What bytes.Clone, and package hart's NewCore, return.
-/
import Derived.Test.YtkcgcflpmggjkabDoorHm1
import Derived.Test.YtkcgcflpmggjkabDoorHm2
import Derived.Test.YtkcgcflpmggjkabDoorHk
import Derived.Test.YtkcgcflpmggjkabDoorRef4b
namespace Go.Proofs.YtkcgcflpmggjkabDoor.Hc
open Go.ChangeShapes Go.WideShapes Go.ChangeAt Go.RowKit Mm Hh
set_option linter.unusedVariables false
set_option linter.unusedSimpArgs false

theorem mem_bc {w w' : World} {ad : Addr} {n : Nat} {l : List UInt8} (M : Mem w (some ad) n l) (G : Gr w w') : ∀ j u, (bc l)[j]? = some u → w'.cell? (ad.add j) = some u := by
  intro j u hj
  obtain ⟨h1, rfl⟩ := bc_get hj
  have hl := M.len
  exact (M.of G).cell ad rfl j (by omega)
theorem own_of {w : World} {base n : Nat} {v : Value} {l : List UInt8} (hl : l.length = n) (h : w.ownsRow base 5 1 v n (bc l)) : Own w base v l := by
  subst hl
  obtain ⟨_, h⟩ := h
  rcases h with ⟨rfl, h0⟩ | ⟨g, cap, cur, rfl, hb, hg, hn, hm, hs, ht⟩
  · exact .inl ⟨rfl, List.eq_nil_of_length_eq_zero h0⟩
  · refine .inr ⟨g, cap, rfl, hb, cur.toList.drop (l.length * 1), ?_⟩
    rw [← ht, List.take_append_drop]
    exact hg
set_option maxHeartbeats 1000000 in
set_option maxRecDepth 100000 in
theorem Clone_any {w : World} {ao : Option Addr} {n cap : Nat} {l : List UInt8} (M : Mem w ao n l) (hcap : ao = none → cap = 0) (hn : n ≤ 140737488351232) :
    Calls Tryd.prog 36 #[.slice ao n cap] w fun e w' => ∃ v, e = .returned v ∧ Own w' w.heap.size v l ∧ Gr w w' := by
  have hl := M.len
  cases ao with
  | none =>
    obtain rfl := M.nil rfl
    obtain rfl := hcap rfl
    obtain rfl : l = [] := List.eq_nil_of_length_eq_zero hl
    clear M hcap
    have he : ∀ w : World, (binOp .eql 22 (.slice none 0 0) (.slice none 0 0)).run Tryd.prog w = .ok (.bool true) w := fun _ => by kernel_rfl
    go_enter Tryd.func36, Tryd.ntmps36
    go_wp2
    go_ret
    exact ⟨_, rfl, .inl ⟨rfl, rfl⟩, Gr.refl _⟩
  | some ad =>
    obtain ⟨i0, hi, hz0, hz1, hz2⟩ := info_parts info5
    have HM : Hid (Mem w (some ad) n l) := M
    have he : ∀ w : World, (binOp .eql 22 (.slice (some ad) n cap) (.slice none 0 0)).run Tryd.prog w = .ok (.bool false) w := fun _ => by kernel_rfl
    clear M hcap
    go_enter Tryd.func36, Tryd.ntmps36
    go_wp2_with (at_builtin; refine wpList_append_own _ rfl (.tmp 5) (.tmp 6) 22 rfl w.heap.size 5 i0 (.int .u8 0) 1 1 Tryd.underlying22 hi hz0 hz1 hz2 rfl (by decide) _ 0 [] rfl (World.ownsRow_made w #[] 0 (Nat.le_refl _) (by decide) rfl) ad n cap (bc l) rfl (by rw [bc_len, hl]; simp) (mem_bc HM.out ((Gr.refl _).alloc _)) (bc_one l) (by unfold maxLen; omega) (by omega) (by simp) ?_; intro v' w1 hown hgrow _; have HO : Hid (Own w1 w.heap.size v' l) := own_of hl (by simpa using hown); have HG : Hid (Gr w w1) := ((Gr.refl _).alloc _).grown hgrow (fun k e => Nat.le_of_eq (Option.some.inj e)); clear hown hgrow)
    go_ret
    exact ⟨_, rfl, HO.out, HG.out⟩

theorem iC : (Tryd.prog.info? 85).map (·.size) = some 40 := by kernel_rfl
theorem two_of {w w' : World} {A Z : Array Value} {t u : Nat} (g : Gr ((w.alloc (.cells A t)).alloc (.cells Z u)) w') : w'.heap[w.heap.size]? = some (.cells A t (0, 0)) ∧ w'.heap[w.heap.size + 1]? = some (.cells Z u (0, 0)) :=
  ⟨Hr.heap_of_gr g (heap_alloc2_old w _ _), Hr.heap_of_gr g (heap_alloc2_new w _ _)⟩
set_option maxHeartbeats 1000000 in
set_option maxRecDepth 100000 in
theorem NewCore_no {h : Hv} (o : h.Ok) (ao : Option Addr) (n cap : Nat) (w : World) (hn : n ≤ 140737488351232) (hno : ¬ (may h = true ∧ h.state = 0 ∧ n ≤ 4096)) :
    Calls Tryd.prog 50 #[.agg (hA h), .slice ao n cap] w fun e w' => e = .returned (.tuple #[.agg (cA ⟨h0, nilS, nilS, nilS⟩), .bool false]) ∧ Gr w w' := by
  have HM : Hid (∀ W : World, Calls Tryd.prog 74 #[.agg (hA h)] W fun e w' => e = .returned (.bool (may h)) ∧ Gr W w') := fun W => may_any o W
  have g35 : (hA h)[35]? = some (.int .i64 h.state) := (may_get h o).2.2.2.1
  have HS : Hid ((hA h).size = 37) := hA_size o
  generalize hA h = H at *
  generalize may h = B at *
  generalize h.state = st at *
  clear o
  have hc : B = false ∨ (B = true ∧ ¬ st = 0) ∨ (B = true ∧ st = 0 ∧ 4096 < n) := by
    cases B with
    | false => exact .inl rfl
    | true =>
      by_cases h1 : st = 0
      · exact .inr (.inr ⟨rfl, h1, by simp [h1] at hno; omega⟩)
      · exact .inr (.inl ⟨rfl, h1⟩)
  clear hno
  rcases hc with rfl | ⟨rfl, hs⟩ | ⟨rfl, hs0, hs⟩
  · go_enter Tryd.func50, Tryd.ntmps50
    go_wp2_with (refine wpList_load_row rfl 48 _ rfl w.heap.size rfl 48 H (0, 0) _ ?hb1 Tryd.underlying48 rfl (by rw [HS.out]; exact Hr.iH) ?_; (case hb1 => exact heap_alloc2_old w _ _))
    refine (HM.out _).mono ?_
    rintro e w1 ⟨rfl, G1⟩
    obtain ⟨hB, hR⟩ := two_of G1
    have G : Gr w w1 := (((Gr.refl _).alloc _).alloc _).trans G1
    have HG : Hid (Gr w w1) := G
    have k35 : w1.cell? ⟨w.heap.size, 35, none⟩ = some (.int .i64 st) := (cell_of_row _ _ _ _ _ _ hB).trans g35
    have HB : Hid (w1.heap[w.heap.size]? = some (.cells H 48 (0, 0))) := hB
    have HR : Hid (∃ Z : Array Value, Z.size = 40 ∧ w1.heap[w.heap.size + 1]? = some (.cells Z 85 (0, 0))) := ⟨_, rfl, hR⟩
    clear G1 G hB hR HM g35
    obtain ⟨Z, hz, hR⟩ := HR.out
    have HR2 : Hid (w1.heap[w.heap.size + 1]? = some (.cells Z 85 (0, 0))) := hR
    clear HR hR
    go_wp2_with (refine wpList_store_row rfl 85 _ _ rfl (w.heap.size + 1) _ rfl rfl 85 Z ?hb2 iC (by rw [hz]; rfl) (by kernel_rfl) ?_; (case hb2 => exact HR2.out))
    refine bodyPost_ret (v := .tuple #[.agg _, .bool false]) (Hr.results_cell_tmp' Tryd.results50 _ _ _ _ _ (0, 0) _ _ rfl rfl (setRow_heap _ _ _ _ _ (0, 0) HR2.out) Tryd.underlying85 rfl iC) rfl ⟨rfl, ?_⟩
    exact gr_setRow HG.out (Nat.le_succ _) _
  · have bs : (st != 0) = true := by simp [hs]
    clear hs
    go_enter Tryd.func50, Tryd.ntmps50
    go_wp2_with (refine wpList_load_row rfl 48 _ rfl w.heap.size rfl 48 H (0, 0) _ ?hb1 Tryd.underlying48 rfl (by rw [HS.out]; exact Hr.iH) ?_; (case hb1 => exact heap_alloc2_old w _ _))
    refine (HM.out _).mono ?_
    rintro e w1 ⟨rfl, G1⟩
    obtain ⟨hB, hR⟩ := two_of G1
    have G : Gr w w1 := (((Gr.refl _).alloc _).alloc _).trans G1
    have HG : Hid (Gr w w1) := G
    have k35 : w1.cell? ⟨w.heap.size, 35, none⟩ = some (.int .i64 st) := (cell_of_row _ _ _ _ _ _ hB).trans g35
    have HB : Hid (w1.heap[w.heap.size]? = some (.cells H 48 (0, 0))) := hB
    have HR : Hid (∃ Z : Array Value, Z.size = 40 ∧ w1.heap[w.heap.size + 1]? = some (.cells Z 85 (0, 0))) := ⟨_, rfl, hR⟩
    clear G1 G hB hR HM g35
    obtain ⟨Z, hz, hR⟩ := HR.out
    have HR2 : Hid (w1.heap[w.heap.size + 1]? = some (.cells Z 85 (0, 0))) := hR
    clear HR hR
    go_wp2_with (refine wpList_store_row rfl 85 _ _ rfl (w.heap.size + 1) _ rfl rfl 85 Z ?hb2 iC (by rw [hz]; rfl) (by kernel_rfl) ?_; (case hb2 => exact HR2.out))
    refine bodyPost_ret (v := .tuple #[.agg _, .bool false]) (Hr.results_cell_tmp' Tryd.results50 _ _ _ _ _ (0, 0) _ _ rfl rfl (setRow_heap _ _ _ _ _ (0, 0) HR2.out) Tryd.underlying85 rfl iC) rfl ⟨rfl, ?_⟩
    exact gr_setRow HG.out (Nat.le_succ _) _
  · have bs : (st != 0) = false := by simp [hs0]
    clear hs0
    go_enter Tryd.func50, Tryd.ntmps50
    go_wp2_with (refine wpList_load_row rfl 48 _ rfl w.heap.size rfl 48 H (0, 0) _ ?hb1 Tryd.underlying48 rfl (by rw [HS.out]; exact Hr.iH) ?_; (case hb1 => exact heap_alloc2_old w _ _))
    refine (HM.out _).mono ?_
    rintro e w1 ⟨rfl, G1⟩
    obtain ⟨hB, hR⟩ := two_of G1
    have G : Gr w w1 := (((Gr.refl _).alloc _).alloc _).trans G1
    have HG : Hid (Gr w w1) := G
    have k35 : w1.cell? ⟨w.heap.size, 35, none⟩ = some (.int .i64 st) := (cell_of_row _ _ _ _ _ _ hB).trans g35
    have HB : Hid (w1.heap[w.heap.size]? = some (.cells H 48 (0, 0))) := hB
    have HR : Hid (∃ Z : Array Value, Z.size = 40 ∧ w1.heap[w.heap.size + 1]? = some (.cells Z 85 (0, 0))) := ⟨_, rfl, hR⟩
    clear G1 G hB hR HM g35
    obtain ⟨Z, hz, hR⟩ := HR.out
    have HR2 : Hid (w1.heap[w.heap.size + 1]? = some (.cells Z 85 (0, 0))) := hR
    clear HR hR
    go_wp2_with (refine wpList_store_row rfl 85 _ _ rfl (w.heap.size + 1) _ rfl rfl 85 Z ?hb2 iC (by rw [hz]; rfl) (by kernel_rfl) ?_; (case hb2 => exact HR2.out))
    refine bodyPost_ret (v := .tuple #[.agg _, .bool false]) (Hr.results_cell_tmp' Tryd.results50 _ _ _ _ _ (0, 0) _ _ rfl rfl (setRow_heap _ _ _ _ _ (0, 0) HR2.out) Tryd.underlying85 rfl iC) rfl ⟨rfl, ?_⟩
    exact gr_setRow HG.out (Nat.le_succ _) _

theorem Own.cells {w : World} {base : Nat} {v : Value} {l : List UInt8} (h : Own w base v l) : v.cells = #[v] ∧ v.oneCell' = true := by
  rcases h with ⟨rfl, _⟩ | ⟨k, cap, rfl, _⟩ <;> exact ⟨rfl, rfl⟩
theorem Own.base {w w' : World} {b b' : Nat} {v : Value} {l : List UInt8} (h : Own w b v l) (hb : b' ≤ b) : Own w b' v l := by
  rcases h with h | ⟨k, cap, e, q, R⟩
  · exact .inl h
  · exact .inr ⟨k, cap, e, Nat.le_trans hb q, R⟩
theorem range_of {w : World} {b : Nat} {h : Hv} {t : Nat} (e : w.heap[b]? = some (.cells (hA h) t (0, 0))) : w.rangeAt b 0 (hL h) := fun j v hv => by
  rw [Nat.zero_add, cell_of_row _ _ _ _ _ _ e]
  simpa [hA] using hv
set_option maxHeartbeats 1000000 in
set_option maxRecDepth 100000 in
theorem NewCore_yes {h : Hv} (o : h.Ok) {ao : Option Addr} {n cap : Nat} {l : List UInt8} {w : World} (M : Mem w ao n l) (hcap : ao = none → cap = 0) (hn : n ≤ 4096) (hm : may h = true) (hs : h.state = 0) :
    Calls Tryd.prog 50 #[.agg (hA h), .slice ao n cap] w fun e w' => ∃ v, e = .returned (.tuple #[.agg (cA ⟨h, v, nilS, nilS⟩), .bool true]) ∧ Own w' w.heap.size v l ∧ Gr w w' := by
  have HM : Hid (∀ W : World, Calls Tryd.prog 74 #[.agg (hA h)] W fun e w' => e = .returned (.bool true) ∧ Gr W w') := fun W => by rw [← hm]; exact may_any o W
  have g35 : (hA h)[35]? = some (.int .i64 0) := by rw [← hs]; exact (may_get h o).2.2.2.1
  have HS : Hid ((hA h).size = 37) := hA_size o
  have HL : Hid ((hL h).length = 37) := hL_len o
  have HC : Hid (∀ W : World, Gr w W → Calls Tryd.prog 36 #[.slice ao n cap] W fun e w' => ∃ v, e = .returned v ∧ Own w' w.heap.size v l ∧ Gr W w') := fun W G =>
    (Clone_any (M.of G) hcap (by omega)).mono fun e w' ⟨v, e1, e2, e3⟩ => ⟨v, e1, e2.base (w' := w') G.size, e3⟩
  have HBu : Hid (∀ v : Value, v.cells = #[v] → Tryd.prog.built 85 [(0, .agg (hA h)), (1, v)] = some (cA ⟨h, v, nilS, nilS⟩)) := fun v hv => built_core o v hv
  have HZ : Hid (∀ v, (cA ⟨h, v, nilS, nilS⟩).size = 40) := fun v => cA_size o
  clear M hm hs hcap o
  go_enter Tryd.func50, Tryd.ntmps50
  go_wp2_with (refine wpList_load_row rfl 48 _ rfl w.heap.size rfl 48 (hA h) (0, 0) _ ?hb1 Tryd.underlying48 rfl (by rw [HS.out]; exact Hr.iH) ?_; (case hb1 => exact heap_alloc2_old w _ _))
  refine (HM.out _).mono ?_
  rintro e w1 ⟨rfl, G1⟩
  obtain ⟨hB, hR⟩ := two_of G1
  have HG : Hid (Gr w w1) := (((Gr.refl _).alloc _).alloc _).trans G1
  have k35 : w1.cell? ⟨w.heap.size, 35, none⟩ = some (.int .i64 0) := (cell_of_row _ _ _ _ _ _ hB).trans g35
  have HB : Hid (w1.heap[w.heap.size]? = some (.cells (hA h) 48 (0, 0))) := hB
  have HR : Hid (∃ Z : Array Value, Z.size = 40 ∧ w1.heap[w.heap.size + 1]? = some (.cells Z 85 (0, 0))) := ⟨_, rfl, hR⟩
  clear G1 hB hR HM g35
  obtain ⟨Z, hz, hR⟩ := HR.out
  have HR2 : Hid (w1.heap[w.heap.size + 1]? = some (.cells Z 85 (0, 0))) := hR
  clear HR hR
  go_wp2_with fail
  refine wp_region_any (by kernel_rfl) ?_
  change wpAny _ _ _ _ _ _ _ (World.drew _)
  refine wpAny_take (i := 1) (v := .slice ao n cap) rfl (by kernel_rfl) (by kernel_rfl) (by kernel_rfl) (fun _ _ _ h => h) (Or.inl ⟨by rfl, fun w => by go_simp⟩) ?_
  refine wpAny_ready (rs := [0, 2]) (by kernel_rfl) (by simp) ?_
  refine AllReady.cons rfl (fun K hK => ?_) (AllReady.cons rfl (fun K hK => ?_) AllReady.nil)
  · refine step_load rfl 48 (.tmp 2) rfl w.heap.size (by simp [Act.eval, Act.put]) (hL h) _ (range_of (by exact HB.out)) Tryd.underlying48 rfl (by rw [HL.out]; exact Hr.iH) ?_
    refine hK _ _ ?_
    clear hK K
    refine wpAny_ready (rs := [2]) (by kernel_rfl) (by simp) ?_
    refine AllReady.cons rfl (fun K hK => ?_) AllReady.nil
    go_simp
    refine (HC.out _ (by repeat (first | exact HG.out | refine Gr.drew ?_))).mono ?_
    rintro e w2 ⟨v, rfl, O2, G2⟩
    simp only []
    refine hK _ _ ?_
    clear hK K
    have HO2 : Hid (Own w2 w.heap.size v l) := O2
    have HG2 : Hid (Gr w1 w2) := (Gr.refl w1).drew.trans G2
    clear O2 G2
    refine wpAny_ready (rs := [3]) (by kernel_rfl) (by simp) ?_
    refine AllReady.cons rfl (fun K hK => ?_) AllReady.nil
    refine step_build rfl 85 _ rfl (cA ⟨h, v, nilS, nilS⟩) (by have := HBu.out v HO2.out.cells.1; simp [Act.eval, Act.put]; exact this) ?_
    refine hK _ _ ?_
    clear hK K
    refine wpAny_ready (rs := [4]) (by kernel_rfl) (by simp) ?_
    refine AllReady.cons rfl (fun K hK => ?_) AllReady.nil
    refine step_store rfl 85 (.tmp 4) (.tmp 23) rfl (w.heap.size + 1) (cA ⟨h, v, nilS, nilS⟩) (by simp [Act.eval, Act.put]) (by simp [Act.eval, Act.put]) 85 Z (Hr.heap_of_gr HG2.out HR2.out) (by rw [HZ.out]; exact iC) (by rw [HZ.out, hz]) (one_cA _ HO2.out.cells.2 rfl rfl) ?_
    refine hK _ _ ?_
    clear hK K
    refine wpAny_ready (rs := [5]) (by kernel_rfl) (by simp) ?_
    refine AllReady.cons rfl (fun K hK => ?_) AllReady.nil
    go_simp
    refine hK _ _ ?_
    clear hK K
    refine wpAny_done (by kernel_rfl) ?_ _
    go_wp2_with fail
    refine bodyPost_ret (v := .tuple #[.agg (cA ⟨h, v, nilS, nilS⟩), .bool true]) (Hr.results_cell_tmp' Tryd.results50 _ _ _ _ _ (0, 0) _ _ (by simp [Act.put]) (by simp [Act.put]) (setRow_heap _ _ _ _ _ (0, 0) (Hr.heap_of_gr HG2.out HR2.out)) Tryd.underlying85 rfl (by rw [HZ.out]; exact iC)) rfl ⟨v, rfl, ?_, ?_⟩
    · refine HO2.out.to fun k q f hk => setRow_other _ _ _ _ ?_
      exact ne_of_types hk (Hr.heap_of_gr HG2.out HR2.out) (by decide)
    · exact gr_setRow (HG.out.trans HG2.out) (Nat.le_succ _) _
  · go_simp
    refine (HC.out _ (by repeat (first | exact HG.out | refine Gr.drew ?_))).mono ?_
    rintro e w2 ⟨v, rfl, O2, G2⟩
    simp only []
    refine hK _ _ ?_
    clear hK K
    have HO2 : Hid (Own w2 w.heap.size v l) := O2
    have HG2 : Hid (Gr w1 w2) := (Gr.refl w1).drew.trans G2
    clear O2 G2
    refine wpAny_ready (rs := [0]) (by kernel_rfl) (by simp) ?_
    refine AllReady.cons rfl (fun K hK => ?_) AllReady.nil
    refine step_load rfl 48 (.tmp 2) rfl w.heap.size (by simp [Act.eval, Act.put]) (hL h) _ (range_of (Hr.heap_of_gr HG2.out HB.out)) Tryd.underlying48 rfl (by rw [HL.out]; exact Hr.iH) ?_
    refine hK _ _ ?_
    clear hK K
    refine wpAny_ready (rs := [3]) (by kernel_rfl) (by simp) ?_
    refine AllReady.cons rfl (fun K hK => ?_) AllReady.nil
    refine step_build rfl 85 _ rfl (cA ⟨h, v, nilS, nilS⟩) (by have := HBu.out v HO2.out.cells.1; simp [Act.eval, Act.put]; exact this) ?_
    refine hK _ _ ?_
    clear hK K
    refine wpAny_ready (rs := [4]) (by kernel_rfl) (by simp) ?_
    refine AllReady.cons rfl (fun K hK => ?_) AllReady.nil
    refine step_store rfl 85 (.tmp 4) (.tmp 23) rfl (w.heap.size + 1) (cA ⟨h, v, nilS, nilS⟩) (by simp [Act.eval, Act.put]) (by simp [Act.eval, Act.put]) 85 Z (Hr.heap_of_gr HG2.out HR2.out) (by rw [HZ.out]; exact iC) (by rw [HZ.out, hz]) (one_cA _ HO2.out.cells.2 rfl rfl) ?_
    refine hK _ _ ?_
    clear hK K
    refine wpAny_ready (rs := [5]) (by kernel_rfl) (by simp) ?_
    refine AllReady.cons rfl (fun K hK => ?_) AllReady.nil
    go_simp
    refine hK _ _ ?_
    clear hK K
    refine wpAny_done (by kernel_rfl) ?_ _
    go_wp2_with fail
    refine bodyPost_ret (v := .tuple #[.agg (cA ⟨h, v, nilS, nilS⟩), .bool true]) (Hr.results_cell_tmp' Tryd.results50 _ _ _ _ _ (0, 0) _ _ (by simp [Act.put]) (by simp [Act.put]) (setRow_heap _ _ _ _ _ (0, 0) (Hr.heap_of_gr HG2.out HR2.out)) Tryd.underlying85 rfl (by rw [HZ.out]; exact iC)) rfl ⟨v, rfl, ?_, ?_⟩
    · refine HO2.out.to fun k q f hk => setRow_other _ _ _ _ ?_
      exact ne_of_types hk (Hr.heap_of_gr HG2.out HR2.out) (by decide)
    · exact gr_setRow (HG.out.trans HG2.out) (Nat.le_succ _) _
end Go.Proofs.YtkcgcflpmggjkabDoor.Hc
