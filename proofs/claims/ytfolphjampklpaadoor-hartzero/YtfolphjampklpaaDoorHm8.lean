/-
  What package hart's Step returns, of every hart and memory: one step ('stp'), or nothing, where none can be done.
-/
import Derived.Test.YtfolphjampklpaaDoorHm6
import Derived.Test.YtfolphjampklpaaDoorHm7
namespace Go.Proofs.YtfolphjampklpaaDoor.Hc
open Go.ChangeShapes Go.WideShapes Go.ChangeAt Go.RowKit Mm Hh
set_option linter.unusedVariables false
set_option linter.unusedSimpArgs false

theorem results_cell_tmp3 {P : Program} {fn : Func} {p t u s : Tmp} {ty : TypeId} (h : fn.results = #[.cell p ty, .tmp t, .tmp u, .tmp s]) (tmps : Array Value) (w : World) (g : Nat) (tt : TypeId) (cs : Array Value) (fr : Nat × Nat) (d : TypeDesc)
    (v1 v2 v3 : Value) (hp : tmps.getD p undef = .pointer (some ⟨g, 0, none⟩)) (h1 : tmps.getD t undef = v1) (h2 : tmps.getD u undef = v2) (h3 : tmps.getD s undef = v3) (hg : w.heap[g]? = some (.cells cs tt fr))
    (hu : P.underlying ty = some d) (hd : (match d with | .struct _ | .array _ _ => true | _ => false) = true) (hi : (P.info? ty).map (·.size) = some cs.size) :
    (results fn tmps).run P w = .ok (.tuple #[.agg cs, v1, v2, v3]) w := by
  subst h1 h2 h3
  have hp' : tmps[p]?.getD undef = .pointer (some ⟨g, 0, none⟩) := by simpa using hp
  simp [results, h, hp', asAddr, run_loadVar_row w g tt ty cs fr d hg hu hd hi]
theorem iH' : (Tryd.prog.info? 34).map (·.size) = some 37 := by kernel_rfl

set_option maxHeartbeats 1000000 in
set_option maxRecDepth 100000 in
theorem hStep_no {h : Hv} (o : h.Ok) (ao : Option Addr) (n cap : Nat) (w : World) (hn : n ≤ 140737488351232) (hno : ¬ (may h = true ∧ h.state = 0 ∧ n ≤ 4096)) :
    Calls Tryd.prog 16 #[.agg (hA h), .slice ao n cap] w fun e w' => e = .returned (.tuple #[.agg (hA h0), .slice none 0 0, .slice none 0 0, .bool false]) ∧ Gr w w' := by
  have HN : Hid (∀ W : World, Calls Tryd.prog 35 #[.agg (hA h), .slice ao n cap] W fun e w' => e = .returned (.tuple #[.agg (cA ⟨h0, nilS, nilS, nilS⟩), .bool false]) ∧ Gr W w') := fun W => NewCore_no o ao n cap W hn hno
  have HS : Hid ((hA h).size = 37) := hA_size o
  have HZ : Hid ((cA ⟨h0, nilS, nilS, nilS⟩).size = 40) := cA_size h0_ok
  have HO : Hid ((cA ⟨h0, nilS, nilS, nilS⟩).all (·.oneCell') = true) := one_cA _ rfl rfl rfl
  generalize cA ⟨h0, nilS, nilS, nilS⟩ = C at *
  generalize hA h = H at *
  clear hno o
  go_enter Tryd.func16, Tryd.ntmps16
  go_wp2_with (refine wpList_load_row rfl 34 _ rfl w.heap.size rfl 34 H (0, 0) _ ?hb1 Tryd.underlying34 rfl (by rw [HS.out]; exact Hr.iH) ?_; (case hb1 => exact heap_alloc2_old w _ _))
  refine (HN.out _).mono ?_
  rintro e w1 ⟨rfl, G1⟩
  obtain ⟨hB, hR⟩ := two_of G1
  have HG : Hid (Gr w w1) := (((Gr.refl _).alloc _).alloc _).trans G1
  have HR : Hid (∃ Z : Array Value, Z.size = 37 ∧ w1.heap[w.heap.size + 1]? = some (.cells Z 34 (0, 0))) := ⟨_, rfl, hR⟩
  clear G1 hB hR HN
  obtain ⟨Z, hz, hR⟩ := HR.out
  have HR2 : Hid (w1.heap[w.heap.size + 1]? = some (.cells Z 34 (0, 0))) := hR
  have hlt : w.heap.size + 1 < w1.heap.size := (Array.getElem?_eq_some_iff.1 hR).1
  have HR3 : Hid (∀ (Y : Array Value), ((w1.alloc (.cells Y 81)).setRow w1.heap.size C).heap[w.heap.size + 1]? = some (.cells Z 34 (0, 0))) := fun Y => by
    rw [setRow_other _ _ _ _ (by omega), heap_alloc_old _ _ (by omega)]; exact HR2.out
  clear HR hR
  go_wp2_with (first
    | (refine wpList_store_row rfl 81 _ _ rfl w1.heap.size C rfl rfl 81 _ (heap_alloc_new w1 _) (by rw [HZ.out]; exact iC) (by rw [HZ.out]; rfl) HO.out ?_)
    | (refine wpList_store_row rfl 34 _ _ rfl (w.heap.size + 1) _ rfl rfl 34 Z ?hb3 iH' (by rw [hz]; rfl) (by kernel_rfl) ?_; (case hb3 => exact HR3.out _)))
  refine bodyPost_ret (v := .tuple #[.agg _, .slice none 0 0, .slice none 0 0, .bool false]) (results_cell_tmp3 Tryd.results16 _ _ _ _ _ (0, 0) _ _ _ _ rfl rfl rfl rfl (setRow_heap _ _ _ _ _ (0, 0) (HR3.out _)) Tryd.underlying34 rfl (by exact iH')) rfl ⟨rfl, ?_⟩
  exact gr_setRow (gr_setRow (HG.out.alloc _) HG.out.size _) (Nat.le_succ _) _


theorem tt_lt {w : World} (T : Dw.Tab w) : 0 < w.heap.size ∧ 1 < w.heap.size := ⟨Dw.lt_of_cell (T.shapes 0 _ rfl), Dw.lt_of_cell (T.uppers 0 _ rfl)⟩
set_option maxHeartbeats 2000000 in
set_option maxRecDepth 100000 in
theorem hStep_yes {h : Hv} (o : h.Ok) {ao : Option Addr} {n cap : Nat} {l : List UInt8} {w : World} (T : TT w w.heap.size) (M : Mem w ao n l) (hcap : ao = none → cap = 0) (hn : n ≤ 4096) (hm : may h = true) (hs : h.state = 0) :
    Calls Tryd.prog 16 #[.agg (hA h), .slice ao n cap] w fun e w' => ∃ V O, e = .returned (.tuple #[.agg (hA (stp h l).h), V, O, .bool true]) ∧ Own w' 0 V (stp h l).m ∧ w'.ownsRow w.heap.size 22 1 O (stp h l).out.length ((stp h l).out.map (Value.int .u32)) ∧ Gr w w' := by
  have HN : Hid (∀ W : World, Gr w W → Calls Tryd.prog 35 #[.agg (hA h), .slice ao n cap] W fun e w' => ∃ v, e = .returned (.tuple #[.agg (cA ⟨h, v, nilS, nilS⟩), .bool true]) ∧ Own w' w.heap.size v l ∧ Gr W w') := fun W G =>
    (NewCore_yes o (M.of G) hcap hn hm hs).mono fun e w' ⟨v, e1, e2, e3⟩ => ⟨v, e1, e2.base (w' := w') G.size, e3⟩
  have HS : Hid ((hA h).size = 37) := hA_size o
  have HZ : Hid (∀ v, (cA ⟨h, v, nilS, nilS⟩).size = 40) := fun v => cA_size o
  have hl : l.length ≤ 4096 := by have := M.len; omega
  have Ho : Hid h.Ok := o
  have HT : Hid (TT w w.heap.size) := T
  generalize hS0 : stp h l = S0
  have HS0 : Hid (stp h l = S0) := hS0
  clear M hcap hm hs o T hS0
  go_enter Tryd.func16, Tryd.ntmps16
  go_wp2_with (refine wpList_load_row rfl 34 _ rfl w.heap.size rfl 34 (hA h) (0, 0) _ ?hb1 Tryd.underlying34 rfl (by rw [HS.out]; exact Hr.iH) ?_; (case hb1 => exact heap_alloc2_old w _ _))
  refine (HN.out _ (((Gr.refl _).alloc _).alloc _)).mono ?_
  rintro e w1 ⟨v, rfl, O1, G1⟩
  obtain ⟨hB, hR⟩ := two_of G1
  have HG : Hid (Gr w w1) := (((Gr.refl _).alloc _).alloc _).trans G1
  have HR : Hid (∃ Z : Array Value, Z.size = 37 ∧ w1.heap[w.heap.size + 1]? = some (.cells Z 34 (0, 0))) := ⟨_, rfl, hR⟩
  have HO1 : Hid (Own w1 w.heap.size v l) := O1
  clear G1 hB hR HN O1
  obtain ⟨Z, hz, hR⟩ := HR.out
  have HR2 : Hid (w1.heap[w.heap.size + 1]? = some (.cells Z 34 (0, 0))) := hR
  have hlt : w.heap.size + 1 < w1.heap.size := (Array.getElem?_eq_some_iff.1 hR).1
  clear HR hR
  have HOne : Hid ((cA ⟨h, v, nilS, nilS⟩).all (·.oneCell') = true) := one_cA _ HO1.out.cells.2 rfl rfl
  have HIn : Hid (∀ Y : Array Value, Y.size = 40 → Inv ((w1.alloc (.cells Y 81)).setRow w1.heap.size (cA ⟨h, v, nilS, nilS⟩)) w.heap.size w1.heap.size ⟨h, v, nilS, nilS⟩ l [] []) := fun Y hY => by
    have q : ∀ (k : Nat) (ob : Array Value) (t : Nat) (f : Nat × Nat), w1.heap[k]? = some (.cells ob t f) → ((w1.alloc (.cells Y 81)).setRow w1.heap.size (cA ⟨h, v, nilS, nilS⟩)).heap[k]? = w1.heap[k]? := fun k ob t f hk => by
      have := (Array.getElem?_eq_some_iff.1 hk).1
      rw [setRow_other _ _ _ _ (by omega), heap_alloc_old _ _ (by omega)]
    exact ⟨Ho.out, by omega, setRow_heap _ _ _ _ _ (0, 0) (heap_alloc_new w1 _), (HO1.out.base (w' := w1) (Nat.zero_le _)).to fun k ob f hk => q k ob _ f hk, World.ownsRow_nil _ _ _ _, World.ownsRow_nil _ _ _ _⟩
  have HG1 : Hid (∀ Y : Array Value, Gr w ((w1.alloc (.cells Y 81)).setRow w1.heap.size (cA ⟨h, v, nilS, nilS⟩))) := fun Y => gr_setRow (HG.out.alloc _) HG.out.size _
  have HR3 : Hid (∀ Y : Array Value, ((w1.alloc (.cells Y 81)).setRow w1.heap.size (cA ⟨h, v, nilS, nilS⟩)).heap[w.heap.size + 1]? = some (.cells Z 34 (0, 0))) := fun Y => by
    rw [setRow_other _ _ _ _ (by omega), heap_alloc_old _ _ (by omega)]; exact HR2.out
  go_wp2_with (refine wpList_store_row rfl 81 _ _ rfl w1.heap.size (cA ⟨h, v, nilS, nilS⟩) rfl rfl 81 _ (heap_alloc_new w1 _) (by rw [HZ.out]; exact iC) (by rw [HZ.out]; rfl) HOne.out ?_)
  refine (Step_any (HIn.out _ (by rfl)).inn (HT.out.of (Fr.ofGr (HG1.out _) (Nat.le_refl _))) (by omega) (by simp) (by simp)).mono ?_
  rintro e w2 ⟨rfl, I2, F2⟩
  have HR4 : Hid (w2.heap[w.heap.size + 1]? = some (.cells Z 34 (0, 0))) := (F2.keep _ _ _ _ (HR3.out _) (by decide) (by decide) (by decide)).trans (HR3.out _)
  have HG4 : Hid (Gr w w2) := Below.trans (HG1.out _) F2.below
  rw [HS0.out, List.nil_append, List.nil_append] at I2
  obtain ⟨c2, hc2, J2⟩ := I2
  have k37 : w2.cell? ⟨w1.heap.size, 37, none⟩ = some c2.m := J2.fcell 0
  have k38 : w2.cell? ⟨w1.heap.size, 38, none⟩ = some c2.out := J2.fcell 1
  have HOm : Hid (Own w2 0 c2.m S0.m) := J2.mem
  have HOo : Hid (w2.ownsRow w.heap.size 22 1 c2.out S0.out.length (S0.out.map (Value.int .u32))) := J2.out
  have RG : Hid (w2.rangeAt w1.heap.size 0 (hL S0.h)) := fun j u hj => by
    have hj2 : j < 37 := by have := (List.getElem?_eq_some_iff.1 hj).1; rw [← hc2, hL_len J2.ok] at this; exact this
    rw [Nat.zero_add, J2.hcell hj2, hc2]; exact hj
  have HL : Hid ((hL S0.h).length = 37) := by unfold Hid; rw [← hc2]; exact hL_len J2.ok
  have HA : Hid ((hA S0.h).size = 37) := by unfold Hid; rw [← hc2]; exact hA_size J2.ok
  generalize c2.m = V at *
  generalize c2.out = O at *
  have hne : ¬ w1.heap.size = w.heap.size + 1 := by omega
  have k37b : (w2.drew.setRow (w.heap.size + 1) (hA S0.h)).cell? ⟨w1.heap.size, 37, none⟩ = some V := (World.cell?_of_block (setRow_other _ _ _ _ hne)).trans k37
  have k38b : (w2.drew.setRow (w.heap.size + 1) (hA S0.h)).cell? ⟨w1.heap.size, 38, none⟩ = some O := (World.cell?_of_block (setRow_other _ _ _ _ hne)).trans k38
  clear J2 hc2 F2 HIn HG1 HR3 HOne HO1 HR2 HG HZ HS HT
  go_wp2_with fail
  refine wp_region_any (by kernel_rfl) ?_
  change wpAny _ _ _ _ _ _ _ (World.drew _)
  refine wpAny_take (i := 0) (v := .pointer (some ⟨w1.heap.size, 0, none⟩)) rfl (by kernel_rfl) (by kernel_rfl) (by kernel_rfl) (fun _ _ _ h => h) (Or.inl ⟨by rfl, fun w => by go_simp⟩) ?_
  refine wpAny_take (i := 2) (v := .pointer (some ⟨w1.heap.size, 37, none⟩)) rfl (by kernel_rfl) (by kernel_rfl) (by kernel_rfl) (fun _ _ _ h => h) (Or.inl ⟨by rfl, fun w => by go_simp⟩) ?_
  refine wpAny_take (i := 4) (v := .pointer (some ⟨w1.heap.size, 38, none⟩)) rfl (by kernel_rfl) (by kernel_rfl) (by kernel_rfl) (fun _ _ _ h => h) (Or.inl ⟨by rfl, fun w => by go_simp⟩) ?_
  refine wpAny_ready (rs := [1, 3, 5]) (by kernel_rfl) (by simp) ?_
  refine AllReady.cons rfl (fun K hK => ?_) (AllReady.cons rfl (fun K hK => ?_) (AllReady.cons rfl (fun K hK => ?_) AllReady.nil))
  · refine step_load rfl 34 _ rfl w1.heap.size (by simp [Act.eval, Act.put]) (hL S0.h) _ RG.out Tryd.underlying34 rfl (by rw [HL.out]; exact iH') ?_
    refine hK _ _ ?_
    clear hK K
    refine wpAny_ready (rs := [3, 5, 6]) (by kernel_rfl) (by simp) ?_
    refine AllReady.cons rfl (fun K hK => ?_) (AllReady.cons rfl (fun K hK => ?_) (AllReady.cons rfl (fun K hK => ?_) AllReady.nil))
    · go_simp
      refine hK _ _ ?_
      clear hK K
      refine wpAny_ready (rs := [5, 6]) (by kernel_rfl) (by simp) ?_
      refine AllReady.cons rfl (fun K hK => ?_) (AllReady.cons rfl (fun K hK => ?_) AllReady.nil)
      · go_simp
        refine hK _ _ ?_
        clear hK K
        refine wpAny_ready (rs := [6]) (by kernel_rfl) (by simp) ?_
        refine AllReady.cons rfl (fun K hK => ?_) AllReady.nil
        refine step_store rfl 34 (.tmp 4) (.tmp 21) rfl (w.heap.size + 1) (hA S0.h) (by simp [Act.eval, Act.put]) (by simp [Act.eval, Act.put]; rfl) 34 Z HR4.out (by rw [HA.out]; exact iH') (by rw [HA.out, hz]) (one_hA _) ?_
        refine hK _ _ ?_
        clear hK K
        refine wpAny_ready (rs := [7]) (by kernel_rfl) (by simp) ?_
        refine AllReady.cons rfl (fun K hK => ?_) AllReady.nil
        go_simp
        refine hK _ _ ?_
        clear hK K
        refine wpAny_ready (rs := [8]) (by kernel_rfl) (by simp) ?_
        refine AllReady.cons rfl (fun K hK => ?_) AllReady.nil
        go_simp
        refine hK _ _ ?_
        clear hK K
        refine wpAny_ready (rs := [9]) (by kernel_rfl) (by simp) ?_
        refine AllReady.cons rfl (fun K hK => ?_) AllReady.nil
        go_simp
        refine hK _ _ ?_
        clear hK K
        refine wpAny_done (by kernel_rfl) ?_ _
        go_wp2_with fail
        refine bodyPost_ret (v := .tuple #[.agg (hA S0.h), V, O, .bool true]) (results_cell_tmp3 Tryd.results16 _ _ _ _ _ (0, 0) _ _ _ _ (by simp [Act.put]) (by simp [Act.put]) (by simp [Act.put]) (by simp [Act.put]) (setRow_heap _ _ _ _ _ (0, 0) HR4.out) Tryd.underlying34 rfl (by rw [HA.out]; exact iH')) rfl ⟨V, O, rfl, ?_, ?_, ?_⟩
        · exact HOm.out.to fun k q f hk => setRow_other _ _ _ _ (ne_of_types hk HR4.out (by decide))
        · exact owns_to HOo.out fun k q f hk => setRow_other _ _ _ _ (ne_of_types hk HR4.out (by decide))
        · exact gr_setRow (Gr.drew HG4.out) (Nat.le_succ _) _
      · refine step_store rfl 34 (.tmp 4) (.tmp 21) rfl (w.heap.size + 1) (hA S0.h) (by simp [Act.eval, Act.put]) (by simp [Act.eval, Act.put]; rfl) 34 Z HR4.out (by rw [HA.out]; exact iH') (by rw [HA.out, hz]) (one_hA _) ?_
        refine hK _ _ ?_
        clear hK K
        refine wpAny_ready (rs := [5, 7]) (by kernel_rfl) (by simp) ?_
        refine AllReady.cons rfl (fun K hK => ?_) (AllReady.cons rfl (fun K hK => ?_) AllReady.nil)
        · go_simp
          refine hK _ _ ?_
          clear hK K
          refine wpAny_ready (rs := [7]) (by kernel_rfl) (by simp) ?_
          refine AllReady.cons rfl (fun K hK => ?_) AllReady.nil
          go_simp
          refine hK _ _ ?_
          clear hK K
          refine wpAny_ready (rs := [8]) (by kernel_rfl) (by simp) ?_
          refine AllReady.cons rfl (fun K hK => ?_) AllReady.nil
          go_simp
          refine hK _ _ ?_
          clear hK K
          refine wpAny_ready (rs := [9]) (by kernel_rfl) (by simp) ?_
          refine AllReady.cons rfl (fun K hK => ?_) AllReady.nil
          go_simp
          refine hK _ _ ?_
          clear hK K
          refine wpAny_done (by kernel_rfl) ?_ _
          go_wp2_with fail
          refine bodyPost_ret (v := .tuple #[.agg (hA S0.h), V, O, .bool true]) (results_cell_tmp3 Tryd.results16 _ _ _ _ _ (0, 0) _ _ _ _ (by simp [Act.put]) (by simp [Act.put]) (by simp [Act.put]) (by simp [Act.put]) (setRow_heap _ _ _ _ _ (0, 0) HR4.out) Tryd.underlying34 rfl (by rw [HA.out]; exact iH')) rfl ⟨V, O, rfl, ?_, ?_, ?_⟩
          · exact HOm.out.to fun k q f hk => setRow_other _ _ _ _ (ne_of_types hk HR4.out (by decide))
          · exact owns_to HOo.out fun k q f hk => setRow_other _ _ _ _ (ne_of_types hk HR4.out (by decide))
          · exact gr_setRow (Gr.drew HG4.out) (Nat.le_succ _) _
        · go_simp
          refine hK _ _ ?_
          clear hK K
          refine wpAny_ready (rs := [5]) (by kernel_rfl) (by simp) ?_
          refine AllReady.cons rfl (fun K hK => ?_) AllReady.nil
          go_simp
          refine hK _ _ ?_
          clear hK K
          refine wpAny_ready (rs := [8]) (by kernel_rfl) (by simp) ?_
          refine AllReady.cons rfl (fun K hK => ?_) AllReady.nil
          go_simp
          refine hK _ _ ?_
          clear hK K
          refine wpAny_ready (rs := [9]) (by kernel_rfl) (by simp) ?_
          refine AllReady.cons rfl (fun K hK => ?_) AllReady.nil
          go_simp
          refine hK _ _ ?_
          clear hK K
          refine wpAny_done (by kernel_rfl) ?_ _
          go_wp2_with fail
          refine bodyPost_ret (v := .tuple #[.agg (hA S0.h), V, O, .bool true]) (results_cell_tmp3 Tryd.results16 _ _ _ _ _ (0, 0) _ _ _ _ (by simp [Act.put]) (by simp [Act.put]) (by simp [Act.put]) (by simp [Act.put]) (setRow_heap _ _ _ _ _ (0, 0) HR4.out) Tryd.underlying34 rfl (by rw [HA.out]; exact iH')) rfl ⟨V, O, rfl, ?_, ?_, ?_⟩
          · exact HOm.out.to fun k q f hk => setRow_other _ _ _ _ (ne_of_types hk HR4.out (by decide))
          · exact owns_to HOo.out fun k q f hk => setRow_other _ _ _ _ (ne_of_types hk HR4.out (by decide))
          · exact gr_setRow (Gr.drew HG4.out) (Nat.le_succ _) _
    · go_simp
      refine hK _ _ ?_
      clear hK K
      refine wpAny_ready (rs := [3, 6]) (by kernel_rfl) (by simp) ?_
      refine AllReady.cons rfl (fun K hK => ?_) (AllReady.cons rfl (fun K hK => ?_) AllReady.nil)
      · go_simp
        refine hK _ _ ?_
        clear hK K
        refine wpAny_ready (rs := [6]) (by kernel_rfl) (by simp) ?_
        refine AllReady.cons rfl (fun K hK => ?_) AllReady.nil
        refine step_store rfl 34 (.tmp 4) (.tmp 21) rfl (w.heap.size + 1) (hA S0.h) (by simp [Act.eval, Act.put]) (by simp [Act.eval, Act.put]; rfl) 34 Z HR4.out (by rw [HA.out]; exact iH') (by rw [HA.out, hz]) (one_hA _) ?_
        refine hK _ _ ?_
        clear hK K
        refine wpAny_ready (rs := [7]) (by kernel_rfl) (by simp) ?_
        refine AllReady.cons rfl (fun K hK => ?_) AllReady.nil
        go_simp
        refine hK _ _ ?_
        clear hK K
        refine wpAny_ready (rs := [8]) (by kernel_rfl) (by simp) ?_
        refine AllReady.cons rfl (fun K hK => ?_) AllReady.nil
        go_simp
        refine hK _ _ ?_
        clear hK K
        refine wpAny_ready (rs := [9]) (by kernel_rfl) (by simp) ?_
        refine AllReady.cons rfl (fun K hK => ?_) AllReady.nil
        go_simp
        refine hK _ _ ?_
        clear hK K
        refine wpAny_done (by kernel_rfl) ?_ _
        go_wp2_with fail
        refine bodyPost_ret (v := .tuple #[.agg (hA S0.h), V, O, .bool true]) (results_cell_tmp3 Tryd.results16 _ _ _ _ _ (0, 0) _ _ _ _ (by simp [Act.put]) (by simp [Act.put]) (by simp [Act.put]) (by simp [Act.put]) (setRow_heap _ _ _ _ _ (0, 0) HR4.out) Tryd.underlying34 rfl (by rw [HA.out]; exact iH')) rfl ⟨V, O, rfl, ?_, ?_, ?_⟩
        · exact HOm.out.to fun k q f hk => setRow_other _ _ _ _ (ne_of_types hk HR4.out (by decide))
        · exact owns_to HOo.out fun k q f hk => setRow_other _ _ _ _ (ne_of_types hk HR4.out (by decide))
        · exact gr_setRow (Gr.drew HG4.out) (Nat.le_succ _) _
      · refine step_store rfl 34 (.tmp 4) (.tmp 21) rfl (w.heap.size + 1) (hA S0.h) (by simp [Act.eval, Act.put]) (by simp [Act.eval, Act.put]; rfl) 34 Z HR4.out (by rw [HA.out]; exact iH') (by rw [HA.out, hz]) (one_hA _) ?_
        refine hK _ _ ?_
        clear hK K
        refine wpAny_ready (rs := [3]) (by kernel_rfl) (by simp) ?_
        refine AllReady.cons rfl (fun K hK => ?_) AllReady.nil
        go_simp
        refine hK _ _ ?_
        clear hK K
        refine wpAny_ready (rs := [7]) (by kernel_rfl) (by simp) ?_
        refine AllReady.cons rfl (fun K hK => ?_) AllReady.nil
        go_simp
        refine hK _ _ ?_
        clear hK K
        refine wpAny_ready (rs := [8]) (by kernel_rfl) (by simp) ?_
        refine AllReady.cons rfl (fun K hK => ?_) AllReady.nil
        go_simp
        refine hK _ _ ?_
        clear hK K
        refine wpAny_ready (rs := [9]) (by kernel_rfl) (by simp) ?_
        refine AllReady.cons rfl (fun K hK => ?_) AllReady.nil
        go_simp
        refine hK _ _ ?_
        clear hK K
        refine wpAny_done (by kernel_rfl) ?_ _
        go_wp2_with fail
        refine bodyPost_ret (v := .tuple #[.agg (hA S0.h), V, O, .bool true]) (results_cell_tmp3 Tryd.results16 _ _ _ _ _ (0, 0) _ _ _ _ (by simp [Act.put]) (by simp [Act.put]) (by simp [Act.put]) (by simp [Act.put]) (setRow_heap _ _ _ _ _ (0, 0) HR4.out) Tryd.underlying34 rfl (by rw [HA.out]; exact iH')) rfl ⟨V, O, rfl, ?_, ?_, ?_⟩
        · exact HOm.out.to fun k q f hk => setRow_other _ _ _ _ (ne_of_types hk HR4.out (by decide))
        · exact owns_to HOo.out fun k q f hk => setRow_other _ _ _ _ (ne_of_types hk HR4.out (by decide))
        · exact gr_setRow (Gr.drew HG4.out) (Nat.le_succ _) _
    · refine step_store rfl 34 (.tmp 4) (.tmp 21) rfl (w.heap.size + 1) (hA S0.h) (by simp [Act.eval, Act.put]) (by simp [Act.eval, Act.put]; rfl) 34 Z HR4.out (by rw [HA.out]; exact iH') (by rw [HA.out, hz]) (one_hA _) ?_
      refine hK _ _ ?_
      clear hK K
      refine wpAny_ready (rs := [3, 5]) (by kernel_rfl) (by simp) ?_
      refine AllReady.cons rfl (fun K hK => ?_) (AllReady.cons rfl (fun K hK => ?_) AllReady.nil)
      · go_simp
        refine hK _ _ ?_
        clear hK K
        refine wpAny_ready (rs := [5, 7]) (by kernel_rfl) (by simp) ?_
        refine AllReady.cons rfl (fun K hK => ?_) (AllReady.cons rfl (fun K hK => ?_) AllReady.nil)
        · go_simp
          refine hK _ _ ?_
          clear hK K
          refine wpAny_ready (rs := [7]) (by kernel_rfl) (by simp) ?_
          refine AllReady.cons rfl (fun K hK => ?_) AllReady.nil
          go_simp
          refine hK _ _ ?_
          clear hK K
          refine wpAny_ready (rs := [8]) (by kernel_rfl) (by simp) ?_
          refine AllReady.cons rfl (fun K hK => ?_) AllReady.nil
          go_simp
          refine hK _ _ ?_
          clear hK K
          refine wpAny_ready (rs := [9]) (by kernel_rfl) (by simp) ?_
          refine AllReady.cons rfl (fun K hK => ?_) AllReady.nil
          go_simp
          refine hK _ _ ?_
          clear hK K
          refine wpAny_done (by kernel_rfl) ?_ _
          go_wp2_with fail
          refine bodyPost_ret (v := .tuple #[.agg (hA S0.h), V, O, .bool true]) (results_cell_tmp3 Tryd.results16 _ _ _ _ _ (0, 0) _ _ _ _ (by simp [Act.put]) (by simp [Act.put]) (by simp [Act.put]) (by simp [Act.put]) (setRow_heap _ _ _ _ _ (0, 0) HR4.out) Tryd.underlying34 rfl (by rw [HA.out]; exact iH')) rfl ⟨V, O, rfl, ?_, ?_, ?_⟩
          · exact HOm.out.to fun k q f hk => setRow_other _ _ _ _ (ne_of_types hk HR4.out (by decide))
          · exact owns_to HOo.out fun k q f hk => setRow_other _ _ _ _ (ne_of_types hk HR4.out (by decide))
          · exact gr_setRow (Gr.drew HG4.out) (Nat.le_succ _) _
        · go_simp
          refine hK _ _ ?_
          clear hK K
          refine wpAny_ready (rs := [5]) (by kernel_rfl) (by simp) ?_
          refine AllReady.cons rfl (fun K hK => ?_) AllReady.nil
          go_simp
          refine hK _ _ ?_
          clear hK K
          refine wpAny_ready (rs := [8]) (by kernel_rfl) (by simp) ?_
          refine AllReady.cons rfl (fun K hK => ?_) AllReady.nil
          go_simp
          refine hK _ _ ?_
          clear hK K
          refine wpAny_ready (rs := [9]) (by kernel_rfl) (by simp) ?_
          refine AllReady.cons rfl (fun K hK => ?_) AllReady.nil
          go_simp
          refine hK _ _ ?_
          clear hK K
          refine wpAny_done (by kernel_rfl) ?_ _
          go_wp2_with fail
          refine bodyPost_ret (v := .tuple #[.agg (hA S0.h), V, O, .bool true]) (results_cell_tmp3 Tryd.results16 _ _ _ _ _ (0, 0) _ _ _ _ (by simp [Act.put]) (by simp [Act.put]) (by simp [Act.put]) (by simp [Act.put]) (setRow_heap _ _ _ _ _ (0, 0) HR4.out) Tryd.underlying34 rfl (by rw [HA.out]; exact iH')) rfl ⟨V, O, rfl, ?_, ?_, ?_⟩
          · exact HOm.out.to fun k q f hk => setRow_other _ _ _ _ (ne_of_types hk HR4.out (by decide))
          · exact owns_to HOo.out fun k q f hk => setRow_other _ _ _ _ (ne_of_types hk HR4.out (by decide))
          · exact gr_setRow (Gr.drew HG4.out) (Nat.le_succ _) _
      · go_simp
        refine hK _ _ ?_
        clear hK K
        refine wpAny_ready (rs := [3]) (by kernel_rfl) (by simp) ?_
        refine AllReady.cons rfl (fun K hK => ?_) AllReady.nil
        go_simp
        refine hK _ _ ?_
        clear hK K
        refine wpAny_ready (rs := [7]) (by kernel_rfl) (by simp) ?_
        refine AllReady.cons rfl (fun K hK => ?_) AllReady.nil
        go_simp
        refine hK _ _ ?_
        clear hK K
        refine wpAny_ready (rs := [8]) (by kernel_rfl) (by simp) ?_
        refine AllReady.cons rfl (fun K hK => ?_) AllReady.nil
        go_simp
        refine hK _ _ ?_
        clear hK K
        refine wpAny_ready (rs := [9]) (by kernel_rfl) (by simp) ?_
        refine AllReady.cons rfl (fun K hK => ?_) AllReady.nil
        go_simp
        refine hK _ _ ?_
        clear hK K
        refine wpAny_done (by kernel_rfl) ?_ _
        go_wp2_with fail
        refine bodyPost_ret (v := .tuple #[.agg (hA S0.h), V, O, .bool true]) (results_cell_tmp3 Tryd.results16 _ _ _ _ _ (0, 0) _ _ _ _ (by simp [Act.put]) (by simp [Act.put]) (by simp [Act.put]) (by simp [Act.put]) (setRow_heap _ _ _ _ _ (0, 0) HR4.out) Tryd.underlying34 rfl (by rw [HA.out]; exact iH')) rfl ⟨V, O, rfl, ?_, ?_, ?_⟩
        · exact HOm.out.to fun k q f hk => setRow_other _ _ _ _ (ne_of_types hk HR4.out (by decide))
        · exact owns_to HOo.out fun k q f hk => setRow_other _ _ _ _ (ne_of_types hk HR4.out (by decide))
        · exact gr_setRow (Gr.drew HG4.out) (Nat.le_succ _) _
  · go_simp
    refine hK _ _ ?_
    clear hK K
    refine wpAny_ready (rs := [1, 5]) (by kernel_rfl) (by simp) ?_
    refine AllReady.cons rfl (fun K hK => ?_) (AllReady.cons rfl (fun K hK => ?_) AllReady.nil)
    · refine step_load rfl 34 _ rfl w1.heap.size (by simp [Act.eval, Act.put]) (hL S0.h) _ RG.out Tryd.underlying34 rfl (by rw [HL.out]; exact iH') ?_
      refine hK _ _ ?_
      clear hK K
      refine wpAny_ready (rs := [5, 6]) (by kernel_rfl) (by simp) ?_
      refine AllReady.cons rfl (fun K hK => ?_) (AllReady.cons rfl (fun K hK => ?_) AllReady.nil)
      · go_simp
        refine hK _ _ ?_
        clear hK K
        refine wpAny_ready (rs := [6]) (by kernel_rfl) (by simp) ?_
        refine AllReady.cons rfl (fun K hK => ?_) AllReady.nil
        refine step_store rfl 34 (.tmp 4) (.tmp 21) rfl (w.heap.size + 1) (hA S0.h) (by simp [Act.eval, Act.put]) (by simp [Act.eval, Act.put]; rfl) 34 Z HR4.out (by rw [HA.out]; exact iH') (by rw [HA.out, hz]) (one_hA _) ?_
        refine hK _ _ ?_
        clear hK K
        refine wpAny_ready (rs := [7]) (by kernel_rfl) (by simp) ?_
        refine AllReady.cons rfl (fun K hK => ?_) AllReady.nil
        go_simp
        refine hK _ _ ?_
        clear hK K
        refine wpAny_ready (rs := [8]) (by kernel_rfl) (by simp) ?_
        refine AllReady.cons rfl (fun K hK => ?_) AllReady.nil
        go_simp
        refine hK _ _ ?_
        clear hK K
        refine wpAny_ready (rs := [9]) (by kernel_rfl) (by simp) ?_
        refine AllReady.cons rfl (fun K hK => ?_) AllReady.nil
        go_simp
        refine hK _ _ ?_
        clear hK K
        refine wpAny_done (by kernel_rfl) ?_ _
        go_wp2_with fail
        refine bodyPost_ret (v := .tuple #[.agg (hA S0.h), V, O, .bool true]) (results_cell_tmp3 Tryd.results16 _ _ _ _ _ (0, 0) _ _ _ _ (by simp [Act.put]) (by simp [Act.put]) (by simp [Act.put]) (by simp [Act.put]) (setRow_heap _ _ _ _ _ (0, 0) HR4.out) Tryd.underlying34 rfl (by rw [HA.out]; exact iH')) rfl ⟨V, O, rfl, ?_, ?_, ?_⟩
        · exact HOm.out.to fun k q f hk => setRow_other _ _ _ _ (ne_of_types hk HR4.out (by decide))
        · exact owns_to HOo.out fun k q f hk => setRow_other _ _ _ _ (ne_of_types hk HR4.out (by decide))
        · exact gr_setRow (Gr.drew HG4.out) (Nat.le_succ _) _
      · refine step_store rfl 34 (.tmp 4) (.tmp 21) rfl (w.heap.size + 1) (hA S0.h) (by simp [Act.eval, Act.put]) (by simp [Act.eval, Act.put]; rfl) 34 Z HR4.out (by rw [HA.out]; exact iH') (by rw [HA.out, hz]) (one_hA _) ?_
        refine hK _ _ ?_
        clear hK K
        refine wpAny_ready (rs := [5, 7]) (by kernel_rfl) (by simp) ?_
        refine AllReady.cons rfl (fun K hK => ?_) (AllReady.cons rfl (fun K hK => ?_) AllReady.nil)
        · go_simp
          refine hK _ _ ?_
          clear hK K
          refine wpAny_ready (rs := [7]) (by kernel_rfl) (by simp) ?_
          refine AllReady.cons rfl (fun K hK => ?_) AllReady.nil
          go_simp
          refine hK _ _ ?_
          clear hK K
          refine wpAny_ready (rs := [8]) (by kernel_rfl) (by simp) ?_
          refine AllReady.cons rfl (fun K hK => ?_) AllReady.nil
          go_simp
          refine hK _ _ ?_
          clear hK K
          refine wpAny_ready (rs := [9]) (by kernel_rfl) (by simp) ?_
          refine AllReady.cons rfl (fun K hK => ?_) AllReady.nil
          go_simp
          refine hK _ _ ?_
          clear hK K
          refine wpAny_done (by kernel_rfl) ?_ _
          go_wp2_with fail
          refine bodyPost_ret (v := .tuple #[.agg (hA S0.h), V, O, .bool true]) (results_cell_tmp3 Tryd.results16 _ _ _ _ _ (0, 0) _ _ _ _ (by simp [Act.put]) (by simp [Act.put]) (by simp [Act.put]) (by simp [Act.put]) (setRow_heap _ _ _ _ _ (0, 0) HR4.out) Tryd.underlying34 rfl (by rw [HA.out]; exact iH')) rfl ⟨V, O, rfl, ?_, ?_, ?_⟩
          · exact HOm.out.to fun k q f hk => setRow_other _ _ _ _ (ne_of_types hk HR4.out (by decide))
          · exact owns_to HOo.out fun k q f hk => setRow_other _ _ _ _ (ne_of_types hk HR4.out (by decide))
          · exact gr_setRow (Gr.drew HG4.out) (Nat.le_succ _) _
        · go_simp
          refine hK _ _ ?_
          clear hK K
          refine wpAny_ready (rs := [5]) (by kernel_rfl) (by simp) ?_
          refine AllReady.cons rfl (fun K hK => ?_) AllReady.nil
          go_simp
          refine hK _ _ ?_
          clear hK K
          refine wpAny_ready (rs := [8]) (by kernel_rfl) (by simp) ?_
          refine AllReady.cons rfl (fun K hK => ?_) AllReady.nil
          go_simp
          refine hK _ _ ?_
          clear hK K
          refine wpAny_ready (rs := [9]) (by kernel_rfl) (by simp) ?_
          refine AllReady.cons rfl (fun K hK => ?_) AllReady.nil
          go_simp
          refine hK _ _ ?_
          clear hK K
          refine wpAny_done (by kernel_rfl) ?_ _
          go_wp2_with fail
          refine bodyPost_ret (v := .tuple #[.agg (hA S0.h), V, O, .bool true]) (results_cell_tmp3 Tryd.results16 _ _ _ _ _ (0, 0) _ _ _ _ (by simp [Act.put]) (by simp [Act.put]) (by simp [Act.put]) (by simp [Act.put]) (setRow_heap _ _ _ _ _ (0, 0) HR4.out) Tryd.underlying34 rfl (by rw [HA.out]; exact iH')) rfl ⟨V, O, rfl, ?_, ?_, ?_⟩
          · exact HOm.out.to fun k q f hk => setRow_other _ _ _ _ (ne_of_types hk HR4.out (by decide))
          · exact owns_to HOo.out fun k q f hk => setRow_other _ _ _ _ (ne_of_types hk HR4.out (by decide))
          · exact gr_setRow (Gr.drew HG4.out) (Nat.le_succ _) _
    · go_simp
      refine hK _ _ ?_
      clear hK K
      refine wpAny_ready (rs := [1]) (by kernel_rfl) (by simp) ?_
      refine AllReady.cons rfl (fun K hK => ?_) AllReady.nil
      refine step_load rfl 34 _ rfl w1.heap.size (by simp [Act.eval, Act.put]) (hL S0.h) _ RG.out Tryd.underlying34 rfl (by rw [HL.out]; exact iH') ?_
      refine hK _ _ ?_
      clear hK K
      refine wpAny_ready (rs := [6]) (by kernel_rfl) (by simp) ?_
      refine AllReady.cons rfl (fun K hK => ?_) AllReady.nil
      refine step_store rfl 34 (.tmp 4) (.tmp 21) rfl (w.heap.size + 1) (hA S0.h) (by simp [Act.eval, Act.put]) (by simp [Act.eval, Act.put]; rfl) 34 Z HR4.out (by rw [HA.out]; exact iH') (by rw [HA.out, hz]) (one_hA _) ?_
      refine hK _ _ ?_
      clear hK K
      refine wpAny_ready (rs := [7]) (by kernel_rfl) (by simp) ?_
      refine AllReady.cons rfl (fun K hK => ?_) AllReady.nil
      go_simp
      refine hK _ _ ?_
      clear hK K
      refine wpAny_ready (rs := [8]) (by kernel_rfl) (by simp) ?_
      refine AllReady.cons rfl (fun K hK => ?_) AllReady.nil
      go_simp
      refine hK _ _ ?_
      clear hK K
      refine wpAny_ready (rs := [9]) (by kernel_rfl) (by simp) ?_
      refine AllReady.cons rfl (fun K hK => ?_) AllReady.nil
      go_simp
      refine hK _ _ ?_
      clear hK K
      refine wpAny_done (by kernel_rfl) ?_ _
      go_wp2_with fail
      refine bodyPost_ret (v := .tuple #[.agg (hA S0.h), V, O, .bool true]) (results_cell_tmp3 Tryd.results16 _ _ _ _ _ (0, 0) _ _ _ _ (by simp [Act.put]) (by simp [Act.put]) (by simp [Act.put]) (by simp [Act.put]) (setRow_heap _ _ _ _ _ (0, 0) HR4.out) Tryd.underlying34 rfl (by rw [HA.out]; exact iH')) rfl ⟨V, O, rfl, ?_, ?_, ?_⟩
      · exact HOm.out.to fun k q f hk => setRow_other _ _ _ _ (ne_of_types hk HR4.out (by decide))
      · exact owns_to HOo.out fun k q f hk => setRow_other _ _ _ _ (ne_of_types hk HR4.out (by decide))
      · exact gr_setRow (Gr.drew HG4.out) (Nat.le_succ _) _
  · go_simp
    refine hK _ _ ?_
    clear hK K
    refine wpAny_ready (rs := [1, 3]) (by kernel_rfl) (by simp) ?_
    refine AllReady.cons rfl (fun K hK => ?_) (AllReady.cons rfl (fun K hK => ?_) AllReady.nil)
    · refine step_load rfl 34 _ rfl w1.heap.size (by simp [Act.eval, Act.put]) (hL S0.h) _ RG.out Tryd.underlying34 rfl (by rw [HL.out]; exact iH') ?_
      refine hK _ _ ?_
      clear hK K
      refine wpAny_ready (rs := [3, 6]) (by kernel_rfl) (by simp) ?_
      refine AllReady.cons rfl (fun K hK => ?_) (AllReady.cons rfl (fun K hK => ?_) AllReady.nil)
      · go_simp
        refine hK _ _ ?_
        clear hK K
        refine wpAny_ready (rs := [6]) (by kernel_rfl) (by simp) ?_
        refine AllReady.cons rfl (fun K hK => ?_) AllReady.nil
        refine step_store rfl 34 (.tmp 4) (.tmp 21) rfl (w.heap.size + 1) (hA S0.h) (by simp [Act.eval, Act.put]) (by simp [Act.eval, Act.put]; rfl) 34 Z HR4.out (by rw [HA.out]; exact iH') (by rw [HA.out, hz]) (one_hA _) ?_
        refine hK _ _ ?_
        clear hK K
        refine wpAny_ready (rs := [7]) (by kernel_rfl) (by simp) ?_
        refine AllReady.cons rfl (fun K hK => ?_) AllReady.nil
        go_simp
        refine hK _ _ ?_
        clear hK K
        refine wpAny_ready (rs := [8]) (by kernel_rfl) (by simp) ?_
        refine AllReady.cons rfl (fun K hK => ?_) AllReady.nil
        go_simp
        refine hK _ _ ?_
        clear hK K
        refine wpAny_ready (rs := [9]) (by kernel_rfl) (by simp) ?_
        refine AllReady.cons rfl (fun K hK => ?_) AllReady.nil
        go_simp
        refine hK _ _ ?_
        clear hK K
        refine wpAny_done (by kernel_rfl) ?_ _
        go_wp2_with fail
        refine bodyPost_ret (v := .tuple #[.agg (hA S0.h), V, O, .bool true]) (results_cell_tmp3 Tryd.results16 _ _ _ _ _ (0, 0) _ _ _ _ (by simp [Act.put]) (by simp [Act.put]) (by simp [Act.put]) (by simp [Act.put]) (setRow_heap _ _ _ _ _ (0, 0) HR4.out) Tryd.underlying34 rfl (by rw [HA.out]; exact iH')) rfl ⟨V, O, rfl, ?_, ?_, ?_⟩
        · exact HOm.out.to fun k q f hk => setRow_other _ _ _ _ (ne_of_types hk HR4.out (by decide))
        · exact owns_to HOo.out fun k q f hk => setRow_other _ _ _ _ (ne_of_types hk HR4.out (by decide))
        · exact gr_setRow (Gr.drew HG4.out) (Nat.le_succ _) _
      · refine step_store rfl 34 (.tmp 4) (.tmp 21) rfl (w.heap.size + 1) (hA S0.h) (by simp [Act.eval, Act.put]) (by simp [Act.eval, Act.put]; rfl) 34 Z HR4.out (by rw [HA.out]; exact iH') (by rw [HA.out, hz]) (one_hA _) ?_
        refine hK _ _ ?_
        clear hK K
        refine wpAny_ready (rs := [3]) (by kernel_rfl) (by simp) ?_
        refine AllReady.cons rfl (fun K hK => ?_) AllReady.nil
        go_simp
        refine hK _ _ ?_
        clear hK K
        refine wpAny_ready (rs := [7]) (by kernel_rfl) (by simp) ?_
        refine AllReady.cons rfl (fun K hK => ?_) AllReady.nil
        go_simp
        refine hK _ _ ?_
        clear hK K
        refine wpAny_ready (rs := [8]) (by kernel_rfl) (by simp) ?_
        refine AllReady.cons rfl (fun K hK => ?_) AllReady.nil
        go_simp
        refine hK _ _ ?_
        clear hK K
        refine wpAny_ready (rs := [9]) (by kernel_rfl) (by simp) ?_
        refine AllReady.cons rfl (fun K hK => ?_) AllReady.nil
        go_simp
        refine hK _ _ ?_
        clear hK K
        refine wpAny_done (by kernel_rfl) ?_ _
        go_wp2_with fail
        refine bodyPost_ret (v := .tuple #[.agg (hA S0.h), V, O, .bool true]) (results_cell_tmp3 Tryd.results16 _ _ _ _ _ (0, 0) _ _ _ _ (by simp [Act.put]) (by simp [Act.put]) (by simp [Act.put]) (by simp [Act.put]) (setRow_heap _ _ _ _ _ (0, 0) HR4.out) Tryd.underlying34 rfl (by rw [HA.out]; exact iH')) rfl ⟨V, O, rfl, ?_, ?_, ?_⟩
        · exact HOm.out.to fun k q f hk => setRow_other _ _ _ _ (ne_of_types hk HR4.out (by decide))
        · exact owns_to HOo.out fun k q f hk => setRow_other _ _ _ _ (ne_of_types hk HR4.out (by decide))
        · exact gr_setRow (Gr.drew HG4.out) (Nat.le_succ _) _
    · go_simp
      refine hK _ _ ?_
      clear hK K
      refine wpAny_ready (rs := [1]) (by kernel_rfl) (by simp) ?_
      refine AllReady.cons rfl (fun K hK => ?_) AllReady.nil
      refine step_load rfl 34 _ rfl w1.heap.size (by simp [Act.eval, Act.put]) (hL S0.h) _ RG.out Tryd.underlying34 rfl (by rw [HL.out]; exact iH') ?_
      refine hK _ _ ?_
      clear hK K
      refine wpAny_ready (rs := [6]) (by kernel_rfl) (by simp) ?_
      refine AllReady.cons rfl (fun K hK => ?_) AllReady.nil
      refine step_store rfl 34 (.tmp 4) (.tmp 21) rfl (w.heap.size + 1) (hA S0.h) (by simp [Act.eval, Act.put]) (by simp [Act.eval, Act.put]; rfl) 34 Z HR4.out (by rw [HA.out]; exact iH') (by rw [HA.out, hz]) (one_hA _) ?_
      refine hK _ _ ?_
      clear hK K
      refine wpAny_ready (rs := [7]) (by kernel_rfl) (by simp) ?_
      refine AllReady.cons rfl (fun K hK => ?_) AllReady.nil
      go_simp
      refine hK _ _ ?_
      clear hK K
      refine wpAny_ready (rs := [8]) (by kernel_rfl) (by simp) ?_
      refine AllReady.cons rfl (fun K hK => ?_) AllReady.nil
      go_simp
      refine hK _ _ ?_
      clear hK K
      refine wpAny_ready (rs := [9]) (by kernel_rfl) (by simp) ?_
      refine AllReady.cons rfl (fun K hK => ?_) AllReady.nil
      go_simp
      refine hK _ _ ?_
      clear hK K
      refine wpAny_done (by kernel_rfl) ?_ _
      go_wp2_with fail
      refine bodyPost_ret (v := .tuple #[.agg (hA S0.h), V, O, .bool true]) (results_cell_tmp3 Tryd.results16 _ _ _ _ _ (0, 0) _ _ _ _ (by simp [Act.put]) (by simp [Act.put]) (by simp [Act.put]) (by simp [Act.put]) (setRow_heap _ _ _ _ _ (0, 0) HR4.out) Tryd.underlying34 rfl (by rw [HA.out]; exact iH')) rfl ⟨V, O, rfl, ?_, ?_, ?_⟩
      · exact HOm.out.to fun k q f hk => setRow_other _ _ _ _ (ne_of_types hk HR4.out (by decide))
      · exact owns_to HOo.out fun k q f hk => setRow_other _ _ _ _ (ne_of_types hk HR4.out (by decide))
      · exact gr_setRow (Gr.drew HG4.out) (Nat.le_succ _) _
end Go.Proofs.YtfolphjampklpaaDoor.Hc
