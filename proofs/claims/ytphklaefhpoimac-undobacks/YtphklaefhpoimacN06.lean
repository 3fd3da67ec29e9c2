/-
  Uk4, Ref5b, Um, UbW: texts of ours that lie in one file.
-/
import Derived.Test.YtphklaefhpoimacN05
import Derived.Test.YtphklaefhpoimacN01
import Derived.Test.YtphklaefhpoimacN03
import Derived.Test.YtphklaefhpoimacRef3Walks
/-
  What ferrybridgeref12.Back answers: what is wrong; else the machine in which steps are taken back.
-/
namespace Go.Proofs.Ytphklaefhpoimac.Ud
open Go.ChangeShapes Go.WideShapes Go.ChangeAt Go.RowKit Mm Hh Hc Mc
set_option linter.unusedVariables false
set_option linter.unusedSimpArgs false

theorem fshown {a b : Option Addr} {n k c d : Nat} {e f : Value} (w : World) : (Instr.field 52 (.agg #[.slice a n c, .slice b k d, e, f]) 0).run Try.prog w = .ok (.agg #[.slice a n c, .slice b k d]) w := by kernel_rfl
theorem wfield {P : Program} {ops : Array Oper} {rest : List Oper} {o : Oper} {a : Act} {w : World} {Q : Exit → Act → World → Prop} (hg : o.guard = none) (ty : TypeId) (x : Operand) (n : Nat) (ho : o.op = .field ty x n) (A : Value) (hx : a.eval x = A) {v : Value} (hr : ∀ w, (Instr.field ty A n).run P w = .ok v w)
    (h : wpList P ops Q rest (a.put o.dst v) w) : wpList P ops Q (o :: rest) a w :=
  wpList_plain hg fun K hK => by
    unfold Oper.wp
    simp [execOp, ho, hx, hr, Result.andThen]
    exact hK _ _ h
set_option maxHeartbeats 2000000 in
set_option maxRecDepth 100000 in
theorem ZBack_may {ma ha la : Option Addr} {mn mc hn hc ln lc : Nat} {st : Int} {hs : List Hv} {us : List Uv} {w : World} {m : List UInt8} (M : Mem w ma mn m) (H : Hs w ha hn hs) (b1 : mn ≤ 140737488351232) (b2 : hn ≤ 140737488351232) (h1 : mayM mn hs = false) :
    Calls Try.prog 5 #[.agg #[.slice ma mn mc, .slice ha hn hc], .slice la ln lc, .int .i64 st] w fun e w' => (¬ bkE mn hs us st = 0 ∧ e = .returned (.tuple #[.agg #[.slice none 0 0, .slice none 0 0], .int .i64 (bkE mn hs us st)]) ∧ Gr w w') ∨ (bkE mn hs us st = 0 ∧ ∃ v, e = .returned (.tuple #[v, .int .i64 0]) ∧ Mv w' v hn mn (backs (hs, m) (us.drop (ln - st.toNat))).1 (backs (hs, m) (us.drop (ln - st.toNat))).2 ∧ Gr w w') := by
  have HE : Hid (bkE mn hs us st = 2) := if_pos h1
  have HWr : Hid (∀ W : World, Gr w W → Calls Try.prog 13 #[.agg #[.slice ma mn mc, .slice ha hn hc], .slice none 0 0] W fun e w' => e = .returned (.int .i64 2) ∧ Gr W w') := fun W G => by
    have := Wrong_any (ma := ma) (pa := none) (pn := 0) (ps := []) (fun h o W => rmay_any o W) mc hc 0 mn M.len (H.of G) ⟨rfl, fun h => absurd h (by omega)⟩ b1 b2 (Nat.zero_le _)
    rwa [wrong_may, M.len, if_pos h1] at this
  clear H M
  go_enter Try.func5, Try.ntmps5
  go_wp2_with fail
  refine (HWr.out _ (((Gr.refl _).alloc _).alloc _)).mono ?_
  rintro e w1 ⟨rfl, G1⟩
  have HG1 : Hid (Gr w w1) := (((Gr.refl _).alloc _).alloc _).trans G1
  have HB1 : Hid (w1.heap[w.heap.size + 1]? = some (.cells #[.slice none 0 0, .slice none 0 0] 25 (0, 0))) := (two_of G1).2
  clear G1 HWr
  go_wp2_with (refine wpList_store_row rfl 25 _ _ rfl (w.heap.size + 1) #[.slice none 0 0, .slice none 0 0] rfl rfl 25 #[.slice none 0 0, .slice none 0 0] ?hb iMc rfl (by kernel_rfl) ?_; (case hb => exact HB1.out))
  refine bodyPost_ret (v := .tuple #[.agg _, .int .i64 2]) (Hr.results_cell_tmp' Try.results5 _ _ _ _ _ (0, 0) _ _ rfl rfl (srh HB1.out) Try.underlying25 rfl iMc) rfl (.inl ⟨by rw [HE.out]; decide, by rw [HE.out], ?_⟩)
  exact gr_setRow HG1.out (Nat.le_succ _) _
set_option maxHeartbeats 8000000 in
set_option maxRecDepth 100000 in
theorem ZBack_any {ma ha la : Option Addr} {mn mc hn hc ln lc : Nat} {st : Int} {hs : List Hv} {us : List Uv} {w : World} {m : List UInt8} (M : Mem w ma mn m) (hcap : ma = none → mc = 0) (H : Hs w ha hn hs) (U : Us w la ln us) (b1 : mn ≤ 140737488351232) (b2 : hn ≤ 140737488351232) (b3 : ln ≤ 140737488351232) (s0 : -9223372036854775808 ≤ st) (s1 : st ≤ 9223372036854775807) :
    Calls Try.prog 5 #[.agg #[.slice ma mn mc, .slice ha hn hc], .slice la ln lc, .int .i64 st] w fun e w' => (¬ bkE mn hs us st = 0 ∧ e = .returned (.tuple #[.agg #[.slice none 0 0, .slice none 0 0], .int .i64 (bkE mn hs us st)]) ∧ Gr w w') ∨ (bkE mn hs us st = 0 ∧ ∃ v, e = .returned (.tuple #[v, .int .i64 0]) ∧ Mv w' v hn mn (backs (hs, m) (us.drop (ln - st.toNat))).1 (backs (hs, m) (us.drop (ln - st.toNat))).2 ∧ Gr w w') := by
  have hl := H.len
  have ml := M.len
  cases h1 : mayM mn hs with
  | false => exact ZBack_may M H b1 b2 h1
  | true =>
  obtain ⟨m4, n1, n4⟩ : mn ≤ 4096 ∧ 1 ≤ hn ∧ hn ≤ 4 := by
    have := h1
    unfold mayM at this
    simp only [Bool.and_eq_true, decide_eq_true_eq, hl] at this
    exact this.1
  have HWr : Hid (∀ W : World, Gr w W → Calls Try.prog 13 #[.agg #[.slice ma mn mc, .slice ha hn hc], .slice none 0 0] W fun e w' => e = .returned (.int .i64 0) ∧ Gr W w') := fun W G => by
    have := Wrong_any (ma := ma) (pa := none) (pn := 0) (ps := []) (fun h o W => rmay_any o W) mc hc 0 mn M.len (H.of G) ⟨rfl, fun h => absurd h (by omega)⟩ b1 b2 (Nat.zero_le _)
    rwa [wrong_may, M.len, if_neg (by rw [h1]; simp), if_neg (by simp), if_neg (by simp)] at this
  have HPl : Hid (∀ W : World, Gr w W → _) := fun W G => Play_nil mc hc (M.of G) hcap (H.of G) n1 n4 m4
  have HEb : Hid (us.all (fitU hn mn) = false → bkE mn hs us st = 2) := fun h => by
    unfold bkE
    rw [if_neg (by rw [h1]; simp), hl, if_pos h]
  have HEc : Hid (us.all (fitU hn mn) = true → (st < 0 ∨ (ln : Int) < st) → bkE mn hs us st = 3) := fun h hs => by
    unfold bkE
    rw [if_neg (by rw [h1]; simp), hl, if_neg (by rw [h]; simp), U.len, if_pos hs]
  have HEd : Hid (us.all (fitU hn mn) = true → ¬ (st < 0 ∨ (ln : Int) < st) → bkE mn hs us st = 0) := fun h hs => by
    unfold bkE
    rw [if_neg (by rw [h1]; simp), hl, if_neg (by rw [h]; simp), U.len, if_neg hs]
  have HUs : Hid (Us w la ln us) := U
  have HUL : Hid (us.length = ln) := U.len
  have HUO : Hid (∀ u ∈ us, 0 ≤ u.fr) := fun u hu => by
    obtain ⟨i, hi, rfl⟩ := List.getElem_of_mem hu
    obtain ⟨_, _, _, _, h⟩ := U.spot (by rw [← U.len]; omega)
    obtain ⟨x, ⟨_, _, _, _, _, _, _, ok, _⟩, _⟩ := h i _ (List.getElem?_eq_getElem hi)
    exact ok.f0
  have HHL : Hid (hs.length = hn) := hl
  have HML : Hid (m.length = mn) := ml
  clear M H U hcap h1 hl ml
  go_enter Try.func5, Try.ntmps5
  go_wp2_with fail
  refine (HWr.out _ (((Gr.refl _).alloc _).alloc _)).mono ?_
  rintro e w1 ⟨rfl, G1⟩
  have HG1 : Hid (Gr w w1) := (((Gr.refl _).alloc _).alloc _).trans G1
  have HA1 : Hid (w1.heap[w.heap.size]? = some (.cells #[.slice ma mn mc, .slice ha hn hc] 25 (0, 0))) := (two_of G1).1
  have HB1 : Hid (w1.heap[w.heap.size + 1]? = some (.cells #[.slice none 0 0, .slice none 0 0] 25 (0, 0))) := (two_of G1).2
  clear G1 HWr
  go_wp2_with fail
  go_loopw [8] (fun i wr => ∃ j : Nat, j ≤ ln ∧ i = .int .i64 j ∧ (us.take j).all (fitU hn mn) = true ∧ Gr w1 wr) (fun i _ => ln - (intOf i).toNat)
  case atStart => exact ⟨0, Nat.zero_le _, rfl, rfl, Gr.refl _⟩
  case round =>
    rename World => w3
    obtain ⟨j, hj, rfl, hall, G3⟩ := hrel
    have HAl : Hid ((us.take j).all (fitU hn mn) = true) := hall
    have HG3 : Hid (Gr w w3) := HG1.out.trans G3
    have HA3 : Hid (w3.heap[w.heap.size]? = some (.cells #[.slice ma mn mc, .slice ha hn hc] 25 (0, 0))) := Hr.heap_of_gr G3 HA1.out
    have HB3 : Hid (w3.heap[w.heap.size + 1]? = some (.cells #[.slice none 0 0, .slice none 0 0] 25 (0, 0))) := Hr.heap_of_gr G3 HB1.out
    have HG13 : Hid (Gr w1 w3) := G3
    clear hall G3
    by_cases hlt : j < ln
    · obtain ⟨u, hu⟩ : ∃ u, us[j]? = some u := ⟨_, List.getElem?_eq_getElem (by rw [HUL.out]; exact hlt)⟩
      obtain ⟨b, o, rfl, hb, hc'⟩ := HUs.out.spot (by omega)
      obtain ⟨x, Ux', hr⟩ := hc' j u hu
      have HSk : Hid (∀ W : World, Gr w3 W → W.cell? ⟨w.heap.size, 0, none⟩ = some (.slice ma mn mc) ∧ W.cell? ⟨w.heap.size, 1, none⟩ = some (.slice ha hn hc) ∧ W.rangeAt b (o + j * 41) x) := fun W G => ⟨cr0 (Hr.heap_of_gr G HA3.out), cr1 (Hr.heap_of_gr G HA3.out), rangeAt_of hr hb (HG3.out.trans G)⟩
      have HXL : Hid (x.length = 41) := Ux'.len
      have HFt : Hid (∀ W : World, Gr w W → Calls Try.prog 14 #[.agg #[.slice ma mn mc, .slice ha hn hc], .agg x.toArray] W fun e w' => e = .returned (.bool (fitU hn mn u)) ∧ Gr W w') := fun W G => fits_any (Ux'.of G) b1 b2
      have HNx : Hid ((us.take (j + 1)).all (fitU hn mn) = ((us.take j).all (fitU hn mn) && fitU hn mn u)) := all_take _ _ _ _ hu
      have HFl : Hid (fitU hn mn u = false → us.all (fitU hn mn) = false) := fun h => all_no hu h
      clear hc' hr Ux' hu
      generalize fitU hn mn u = fu at *
      go_wp2_with fail
      refine wp_region_held_drew (S := fun W => W.cell? ⟨w.heap.size, 0, none⟩ = some (.slice ma mn mc) ∧ W.cell? ⟨w.heap.size, 1, none⟩ = some (.slice ha hn hc) ∧ W.rangeAt b (o + j * 41) x) (by kernel_rfl) (HSk.out _ (Gr.drew (Gr.refl _))) (fun hHeld => ?_)
      have HT0 : Hid _ := hHeld
      clear hHeld
      refine wpAnyH_take (i := 0) (v := .agg #[.slice ma mn mc, .slice ha hn hc]) rfl (by kernel_rfl) (by kernel_rfl) (by kernel_rfl) (fun _ _ _ h => h) (Or.inl ⟨by rfl, fun W hW => by obtain ⟨y0, y1, y2⟩ := hW; go_simp⟩) HT0.out ?_
      simp only [List.getElem_toArray, List.getElem_cons_succ, List.getElem_cons_zero, Act.put, List.setIfInBounds_toArray, List.set_cons_zero, List.set_cons_succ]
      refine wpAnyH_take (i := 1) (v := .slice (some ⟨b, o, none⟩) ln lc) rfl (by kernel_rfl) (by kernel_rfl) (by kernel_rfl) (fun _ _ _ h => h) (Or.inl ⟨by rfl, fun W hW => by obtain ⟨y0, y1, y2⟩ := hW; go_simp⟩) HT0.out ?_
      simp only [List.getElem_toArray, List.getElem_cons_succ, List.getElem_cons_zero, Act.put, List.setIfInBounds_toArray, List.set_cons_zero, List.set_cons_succ]
      refine wpAnyH_take (i := 2) (v := .int .i64 j) rfl (by kernel_rfl) (by kernel_rfl) (by kernel_rfl) (fun _ _ _ h => h) (Or.inl ⟨by rfl, fun W hW => by obtain ⟨y0, y1, y2⟩ := hW; go_simp⟩) HT0.out ?_
      simp only [List.getElem_toArray, List.getElem_cons_succ, List.getElem_cons_zero, Act.put, List.setIfInBounds_toArray, List.set_cons_zero, List.set_cons_succ]
      refine wpAnyH_take (i := 3) (v := .pointer (some ⟨b, o + j * 41, none⟩)) rfl (by kernel_rfl) (by kernel_rfl) (by kernel_rfl) (fun _ _ _ h => h) (Or.inl ⟨by rfl, fun W hW => by obtain ⟨y0, y1, y2⟩ := hW; go_simp⟩) HT0.out ?_
      simp only [List.getElem_toArray, List.getElem_cons_succ, List.getElem_cons_zero, Act.put, List.setIfInBounds_toArray, List.set_cons_zero, List.set_cons_succ]
      refine wpAnyH_take (i := 4) (v := .agg x.toArray) rfl (by kernel_rfl) (by kernel_rfl) (by kernel_rfl) (fun _ _ _ h => h) (yieldsIf_load_mid (by rfl) 45 (.tmp 27) rfl b (o + j * 41) (by simp [Act.eval]) x _ (fun W hW => hW.2.2) Try.underlying45 rfl (by rw [HXL.out]; exact iU)) HT0.out ?_
      simp only [List.getElem_toArray, List.getElem_cons_succ, List.getElem_cons_zero, Act.put, List.setIfInBounds_toArray, List.set_cons_zero, List.set_cons_succ]
      refine wpAnyH_ready (rs := [5]) (by kernel_rfl) (by simp) ?_
      refine AllReadyH.cons rfl (fun K hK => ?_) AllReadyH.nil
      go_simp
      refine (HFt.out _ (HG3.out.trans (Gr.drew (Gr.refl _)))).mono ?_
      rintro e w4 ⟨rfl, G4⟩
      have HG4 : Hid (Gr w3 w4) := (Gr.drew (Gr.refl w3)).trans G4
      have HT4 : Hid _ := HSk.out _ HG4.out
      clear G4
      refine hK.out _ _ HT4.out (fun hx => ?_)
      clear hK K hx
      refine wpAnyH_take (i := 6) (v := .bool (!fu)) rfl (by kernel_rfl) (by kernel_rfl) (by kernel_rfl) (fun _ _ _ h => h) (Or.inl ⟨by rfl, fun W hW => by obtain ⟨y0, y1, y2⟩ := hW; go_simp⟩) HT4.out ?_
      simp only [List.getElem_toArray, List.getElem_cons_succ, List.getElem_cons_zero, Act.put, List.setIfInBounds_toArray, List.set_cons_zero, List.set_cons_succ]
      refine wpAnyH_done (by kernel_rfl) ?_ _
      have HB4 : Hid (w4.heap[w.heap.size + 1]? = some (.cells #[.slice none 0 0, .slice none 0 0] 25 (0, 0))) := Hr.heap_of_gr HG4.out HB3.out
      have HGw : Hid (Gr w w4) := HG3.out.trans HG4.out
      cases fu with
      | false =>
        have HE : Hid (bkE mn hs us st = 2) := HEb.out (HFl.out rfl)
        clear HFl HNx HT0 HT4 HSk
        simp only [Bool.not_false]
        go_wp2_with (refine wpList_store_row rfl 25 _ _ rfl (w.heap.size + 1) #[.slice none 0 0, .slice none 0 0] rfl rfl 25 #[.slice none 0 0, .slice none 0 0] ?hb iMc rfl (by kernel_rfl) ?_; (case hb => exact HB4.out))
        refine bodyPost_ret (v := .tuple #[.agg _, .int .i64 2]) (Hr.results_cell_tmp' Try.results5 _ _ _ _ _ (0, 0) _ _ rfl rfl (srh HB4.out) Try.underlying25 rfl iMc) rfl (.inl ⟨by rw [HE.out]; decide, by rw [HE.out], ?_⟩)
        exact gr_setRow HGw.out (Nat.le_succ _) _
      | true =>
        have HY : Hid ((us.take (j + 1)).all (fitU hn mn) = true) := by unfold Hid; rw [HNx.out, HAl.out]; rfl
        have HGz : Hid (Gr w1 w4) := HG13.out.trans HG4.out
        clear HFl HNx HT0 HT4 HSk
        simp only [Bool.not_true]
        go_wp2_with fail
        go_roundw
        case rel => exact ⟨j + 1, by omega, by go_num, HY.out, HGz.out⟩
        case measure => simp [intOf]; omega
    · have HAll : Hid (us.all (fitU hn mn) = true) := by
        have := HAl.out
        rwa [List.take_of_length_le (by rw [HUL.out]; omega)] at this
      have HFU : Hid (∀ u ∈ us, fitU hn mn u = true) := List.all_eq_true.1 HAll.out
      clear HAl HG13 HA1 HB1 HG1
      by_cases g1 : st < 0
      · have HE : Hid (bkE mn hs us st = 3) := HEc.out HAll.out (.inl g1)
        go_wp2_with (refine wpList_store_row rfl 25 _ _ rfl (w.heap.size + 1) #[.slice none 0 0, .slice none 0 0] rfl rfl 25 #[.slice none 0 0, .slice none 0 0] ?hb iMc rfl (by kernel_rfl) ?_; (case hb => exact HB3.out))
        refine bodyPost_ret (v := .tuple #[.agg _, .int .i64 3]) (Hr.results_cell_tmp' Try.results5 _ _ _ _ _ (0, 0) _ _ rfl rfl (srh HB3.out) Try.underlying25 rfl iMc) rfl (.inl ⟨by rw [HE.out]; decide, by rw [HE.out], ?_⟩)
        exact gr_setRow HG3.out (Nat.le_succ _) _
      · by_cases g2 : (ln : Int) < st
        · have HE : Hid (bkE mn hs us st = 3) := HEc.out HAll.out (.inr g2)
          go_wp2_with (refine wpList_store_row rfl 25 _ _ rfl (w.heap.size + 1) #[.slice none 0 0, .slice none 0 0] rfl rfl 25 #[.slice none 0 0, .slice none 0 0] ?hb iMc rfl (by kernel_rfl) ?_; (case hb => exact HB3.out))
          refine bodyPost_ret (v := .tuple #[.agg _, .int .i64 3]) (Hr.results_cell_tmp' Try.results5 _ _ _ _ _ (0, 0) _ _ rfl rfl (srh HB3.out) Try.underlying25 rfl iMc) rfl (.inl ⟨by rw [HE.out]; decide, by rw [HE.out], ?_⟩)
          exact gr_setRow HG3.out (Nat.le_succ _) _
        · have HE : Hid (bkE mn hs us st = 0) := HEd.out HAll.out (by omega)
          have a0 := cr0 HA3.out
          have a1 := cr1 HA3.out
          clear HEb HEc HEd HAll
          go_wp2_with fail
          refine (HPl.out _ HG3.out).mono ?_
          rintro e w5 ⟨a5, c5, gh, c6, rfl, O5, hg5, R5, G5⟩
          have HO5 : Hid (Hc.Own w5 w.heap.size (.slice a5 mn c5) m) := own_low O5 HG3.out.size
          have HR5 : Hid (HRow w5 gh hs) := R5
          have hgw : w.heap.size ≤ gh := Nat.le_trans HG3.out.size hg5
          have HG35 : Hid (Gr w3 w5) := G5
          clear O5 R5 G5 HPl a0 a1
          go_wp2_with (refine wfield rfl 52 _ 0 rfl _ rfl fshown ?_)
          refine atW (fun W => Mz W w.heap.size w5.heap.size (.slice a5 mn c5) gh c6 hs m ∧ W.heap[w.heap.size + 1]? = some (.cells #[.slice none 0 0, .slice none 0 0] 25 (0, 0)) ∧ Gr w W) ⟨?fa, ?fb, ?fc⟩ ?_
          case fa =>
            have G : Gr w5 (w5.alloc (.cells #[.slice a5 mn c5, .slice (some ⟨gh, 0, none⟩) hn c6] 25)) := (Gr.refl _).alloc _
            exact ⟨by rw [HHL.out]; exact heap_alloc_new w5 _, Nat.le_trans HG3.out.size HG35.out.size, own_gr HO5.out G, hgw, HR5.out.of G⟩
          case fb => exact Hr.heap_of_gr (HG35.out.alloc _) HB3.out
          case fc => exact (HG3.out.trans HG35.out).alloc _
          rintro W6 ⟨Z6, B6, G6⟩
          obtain ⟨z, hz⟩ : ∃ z : Nat, z = w5.heap.size := ⟨_, rfl⟩
          rw [← hz] at Z6 ⊢
          have HZ6 : Hid (Mz W6 w.heap.size z (.slice a5 mn c5) gh c6 hs m) := Z6
          have HB6 : Hid (W6.heap[w.heap.size + 1]? = some (.cells #[.slice none 0 0, .slice none 0 0] 25 (0, 0))) := B6
          have HG6 : Hid (Gr w W6) := G6
          clear Z6 B6 G6 HO5 HR5 HG35 HB3 HA3 HG3 hg5 hz
          obtain ⟨s, rfl⟩ := Int.eq_ofNat_of_zero_le (show 0 ≤ st by omega)
          have hsl : s ≤ ln := by omega
          go_loopw [10] (fun kv wr => ∃ k : Nat, k ≤ s ∧ kv = .int .i64 k ∧ Mz wr w.heap.size z (.slice a5 mn c5) gh c6 (backs (hs, m) (us.drop (ln - k))).1 (backs (hs, m) (us.drop (ln - k))).2 ∧ Th w.heap.size W6 wr) (fun kv _ => s - (intOf kv).toNat)
          case atStart => exact ⟨0, Nat.zero_le _, rfl, by rw [Nat.sub_zero, List.drop_eq_nil_of_le (by rw [HUL.out]; exact Nat.le_refl _)]; exact HZ6.out, Th.refl _ _⟩
          case round =>
            rename World => w7
            obtain ⟨k, hk, rfl, Z7, T7⟩ := hrel
            have HZ7 : Hid (Mz w7 w.heap.size z (.slice a5 mn c5) gh c6 (backs (hs, m) (us.drop (ln - k))).1 (backs (hs, m) (us.drop (ln - k))).2) := Z7
            have HT7 : Hid (Th w.heap.size W6 w7) := T7
            have HG7 : Hid (Gr w w7) := gr_th HG6.out T7
            have HB7 : Hid (w7.heap[w.heap.size + 1]? = some (.cells #[.slice none 0 0, .slice none 0 0] 25 (0, 0))) := T7.row HB6.out (by decide) (by decide)
            have HBL : Hid ((backs (hs, m) (us.drop (ln - k))).1.length = hn ∧ (backs (hs, m) (us.drop (ln - k))).2.length = mn) := backs_len (s := (hs, m)) HHL.out HML.out (fun u hu => ⟨HFU.out u hu, HUO.out u hu⟩) _ (fun u hu => List.mem_of_mem_drop hu)
            clear Z7 T7
            by_cases hks : k < s
            · have hi0 : ln - 1 - k < ln := by omega
              obtain ⟨u, hu⟩ : ∃ u, us[ln - 1 - k]? = some u := ⟨_, List.getElem?_eq_getElem (by rw [HUL.out]; exact hi0)⟩
              obtain ⟨b, o, rfl, hb, hc'⟩ := HUs.out.spot (by omega)
              obtain ⟨x, Ux', hr⟩ := hc' _ u hu
              have RG : Hid (w7.rangeAt b (o + (ln - 1 - k) * 41) x) := rangeAt_of hr hb HG7.out
              have HXL : Hid (x.length = 41) := Ux'.len
              have HXA : Hid (x.toArray.size = 41) := by unfold Hid; simp [HXL.out]
              have HX1 : Hid (x.toArray.all (·.oneCell') = true) := Ux'.one
              have hfu := HFU.out u (List.mem_of_getElem? hu)
              obtain ⟨ba, bn, bc', l1, l2, l3, hx, ok, _, _, MB, LS, bb1, bb2⟩ := Ux'
              unfold fitU at hfu
              simp only [Bool.and_eq_true, decide_eq_true_eq, List.all_eq_true] at hfu
              obtain ⟨⟨a0, a1⟩, a2, a3, a4⟩ := hfu
              obtain ⟨kh, hkh⟩ := Int.eq_ofNat_of_zero_le a0
              obtain ⟨f, hf⟩ := Int.eq_ofNat_of_zero_le ok.f0
              have hkc : kh < hn := by omega
              have hbl := MB.len
              have hfm : f + bn ≤ mn := by omega
              have HXe : Hid (x[0]? = some (.int .i64 kh) ∧ (∀ i v, (hL u.was)[i]? = some v → x[1 + i]? = some v) ∧ x[38]? = some (.int .u32 f) ∧ x[39]? = some (.slice ba bn bc') ∧ x[40]? = some (.slice l1 l2 l3)) := by
                rw [hx, ← hkh, ← hf]
                refine ⟨rfl, fun i v hi => ?_, uL_fld ok.was 0, uL_fld ok.was 1, uL_fld ok.was 2⟩
                have : i < 37 := by have := (List.getElem?_eq_some_iff.1 hi).1; rwa [hL_len ok.was] at this
                rw [uL_was ok.was this]; exact hi
              have HBk : Hid (backs (hs, m) (us.drop (ln - (k + 1))) = (gives ((backs (hs, m) (us.drop (ln - k))).1.set kh u.was) u.lost, lay (backs (hs, m) (us.drop (ln - k))).2 f u.bs)) := by
                unfold Hid
                rw [show ln - (k + 1) = ln - 1 - k by omega, backs_at (hs, m) hu, show ln - 1 - k + 1 = ln - k by omega]
                unfold back1
                rw [hkh, hf]
                simp only [Int.toNat_natCast]
              have HMB : Hid (Mem w ba bn u.bs) := MB
              have HLS : Hid (Ls w l1 l2 u.lost) := LS
              have HLL : Hid (u.lost.length = l2) := LS.len
              have HLQ : Hid (∀ q ∈ u.lost, (0 ≤ q.1 ∧ q.1 < hn) ∧ 0 ≤ q.2 ∧ q.2 < 4294967296) := fun q hq => ⟨a4 q hq, ok.lost q hq⟩
              have HOW : Hid u.was.Ok := ok.was
              have H37 : Hid ((hL u.was).length = 37) := hL_len ok.was
              have HSA : Hid ((hL u.was).toArray.size = 37) := by unfold Hid; rw [List.size_toArray]; exact H37.out
              have e1 : IntKind.i64.wrap ((ln : Int) - 1) = ((ln - 1 : Nat) : Int) := by rw [IntKind.wrap_i64]; omega
              have e2 : IntKind.i64.wrap (((ln - 1 : Nat) : Int) - (k : Int)) = ((ln - 1 - k : Nat) : Int) := by rw [IntKind.wrap_i64]; omega
              clear hc' hr hx ok MB LS a0 a1 a2 a3 a4 hkh hf hu
              generalize backs (hs, m) (us.drop (ln - k)) = bk at *
              obtain ⟨hs1, m1⟩ := bk
              simp only at *
              have HGr : Hid (∀ Y : Array Value, Gr w7 ((w7.alloc (.cells Y 45)).setRow w7.heap.size x.toArray)) := fun Y => gr_setRow ((Gr.refl _).alloc _) (Nat.le_refl _) _
              have HSr : Hid (∀ Y : Array Value, ((w7.alloc (.cells Y 45)).setRow w7.heap.size x.toArray).heap[w7.heap.size]? = some (.cells x.toArray 45 (0, 0))) := fun Y => srh (heap_alloc_new w7 _)
              have zc1 : ∀ Y : Array Value, ((w7.alloc (.cells Y 45)).setRow w7.heap.size x.toArray).cell? ⟨z, 1, none⟩ = some (.slice (some ⟨gh, 0, none⟩) hn c6) := fun Y => by have := cr1 (HZ7.out.gr (HGr.out Y)).blk; rw [HBL.out.1] at this; exact this
              have uc0 : ∀ Y : Array Value, ((w7.alloc (.cells Y 45)).setRow w7.heap.size x.toArray).cell? ⟨w7.heap.size, 0, none⟩ = some (.int .i64 kh) := fun Y => (cr (HSr.out Y)).trans (by rw [List.getElem?_toArray]; exact HXe.out.1)
              have HRu : Hid (∀ Y : Array Value, ((w7.alloc (.cells Y 45)).setRow w7.heap.size x.toArray).rangeAt w7.heap.size 1 (hL u.was)) := fun Y i v hv => (cr (HSr.out Y)).trans (by rw [List.getElem?_toArray]; exact HXe.out.2.1 i v hv)
              have HTh : Hid (∀ Y : Array Value, ((w7.alloc (.cells Y 45)).setRow w7.heap.size x.toArray).there gh (kh * 37) 37) := fun Y => (HZ7.out.gr (HGr.out Y)).row.there (List.getElem?_eq_getElem (by rw [HBL.out.1]; exact hkc))
              have hw7 : w.heap.size ≤ w7.heap.size := HG7.out.size
              go_wp2_with (first
                | (refine wpList_load_mid rfl 45 _ rfl b (o + (ln - 1 - k) * 41) rfl x _ ?r1 Try.underlying45 rfl (by rw [HXL.out]; exact iU) ?_; (case r1 => exact RG.out))
                | (refine wpList_store_row rfl 45 _ _ rfl w7.heap.size x.toArray rfl rfl 45 _ (heap_alloc_new w7 _) (by rw [HXA.out]; exact iU) (by rw [HXA.out]; rfl) HX1.out ?_)
                | (refine wpList_load_mid rfl 39 _ rfl w7.heap.size 1 rfl (hL u.was) _ ?r2 Try.underlying39 rfl (by rw [H37.out]; exact iH) ?_; (case r2 => exact HRu.out _))
                | (refine wpList_store_mid rfl 39 _ _ rfl gh (kh * 37) (hL u.was).toArray rfl rfl ?t1 (by rw [List.size_toArray, H37.out]; exact iH) (one_hA u.was) ?_; (case t1 => rw [HSA.out]; exact HTh.out _)))
              obtain ⟨ub, hub⟩ : ∃ ub : Nat, ub = w7.heap.size := ⟨_, rfl⟩
              refine atW (fun W => Mz W w.heap.size z (.slice a5 mn c5) gh c6 (hs1.set kh u.was) m1 ∧ W.heap[ub]? = some (.cells x.toArray 45 (0, 0)) ∧ Th w.heap.size W6 W) ⟨?ga, ?gb, ?gc⟩ ?_
              case ga => exact (mz_was (HZ7.out.gr (HGr.out _)) (by rw [HBL.out.1]; exact hkc) HOW.out (Nat.le_trans hw7 (HGr.out _).size)).1
              case gb => rw [hub]; exact (mz_was (HZ7.out.gr (HGr.out _)) (by rw [HBL.out.1]; exact hkc) HOW.out (Nat.le_trans hw7 (HGr.out _).size)).2.row (HSr.out _) (by decide) (by decide)
              case gc => exact (HT7.out.trans (Th.ofGr (HGr.out _) hw7)).trans (mz_was (HZ7.out.gr (HGr.out _)) (by rw [HBL.out.1]; exact hkc) HOW.out (Nat.le_trans hw7 (HGr.out _).size)).2
              rintro W8 ⟨Z8, U8, T8⟩
              rw [← hub]
              have HZ8 : Hid (Mz W8 w.heap.size z (.slice a5 mn c5) gh c6 (hs1.set kh u.was) m1) := Z8
              have HU8 : Hid (W8.heap[ub]? = some (.cells x.toArray 45 (0, 0))) := U8
              have HT8 : Hid (Th w.heap.size W6 W8) := T8
              have HBm : Hid (m1.length = mn) := HBL.out.2
              have HBh : Hid ((hs1.set kh u.was).length = hn) := by unfold Hid; rw [List.length_set]; exact HBL.out.1
              clear Z8 U8 T8 HGr HSr zc1 uc0 HRu HTh HZ7 HT7 HG7 HB7 RG HXA HX1 hw7 hub e1 e2 HBL
              generalize hs1.set kh u.was = hs2 at *
              go_loopw [12] (fun iv wq => ∃ i : Nat, i ≤ bn ∧ iv = .int .i64 i ∧ Mz wq w.heap.size z (.slice a5 mn c5) gh c6 hs2 (lay m1 f (u.bs.take i)) ∧ wq.heap[ub]? = some (.cells x.toArray 45 (0, 0)) ∧ Th w.heap.size W6 wq) (fun iv _ => bn - (intOf iv).toNat)
              case atStart => exact ⟨0, Nat.zero_le _, rfl, by rw [List.take_zero, lay_none]; exact HZ8.out, HU8.out, HT8.out⟩
              case round =>
                rename World => w9
                obtain ⟨i, hi, rfl, Z9, U9, T9⟩ := hrel
                have HZ9 : Hid (Mz w9 w.heap.size z (.slice a5 mn c5) gh c6 hs2 (lay m1 f (u.bs.take i))) := Z9
                have HU9 : Hid (w9.heap[ub]? = some (.cells x.toArray 45 (0, 0))) := U9
                have HT9 : Hid (Th w.heap.size W6 w9) := T9
                have HG9 : Hid (Gr w w9) := gr_th HG6.out T9
                have x39 : w9.cell? ⟨ub, 39, none⟩ = some (.slice ba bn bc') := (cr U9).trans (by rw [List.getElem?_toArray]; exact HXe.out.2.2.2.1)
                have hw9 : w.heap.size ≤ w9.heap.size := HG9.out.size
                clear Z9 U9 T9 HZ8 HU8 HT8
                by_cases hlt : i < bn
                · obtain ⟨bb, bo, rfl, hbb, hbc⟩ := HMB.out.spot (by omega)
                  obtain ⟨y, hy⟩ : ∃ y, u.bs[i]? = some y := ⟨_, List.getElem?_eq_getElem (by rw [hbl]; exact hlt)⟩
                  have hbv : bv u.bs i = (y.toNat : Int) := by unfold bv; simp [List.getD, hy]
                  have HBy : Hid (w9.cell? ⟨bb, bo + i, none⟩ = some (.int .u8 (y.toNat : Int))) := (HG9.out.cell _ (by exact hbb)).trans (by rw [← hbv]; exact hbc i hlt)
                  have HSt : Hid (lay m1 f (u.bs.take (i + 1)) = (lay m1 f (u.bs.take i)).set (f + i) y) := lay_step hy (by rw [hbl, HBm.out]; exact hfm)
                  have hll : (lay m1 f (u.bs.take i)).length = mn := by rw [lay_len _ _ _ (by rw [List.length_take, HBm.out]; omega), HBm.out]
                  obtain ⟨mk, hmk⟩ : ∃ mk, a5 = some ⟨mk, 0, none⟩ := by
                    rcases HZ9.out.mem with ⟨_, h2⟩ | ⟨q, cp, h1, _⟩
                    · rw [h2] at hll; simp at hll; omega
                    · injection h1 with h1
                      exact ⟨q, h1⟩
                  subst hmk
                  have mb := mz_byte (b := y) (t := f + i) HZ9.out.dr (by rw [hll]; omega) hw9
                  have z9c : w9.cell? ⟨mk, f + i, none⟩ = some (.int .u8 (bv (lay m1 f (u.bs.take i)) (f + i))) := mb.1.1
                  have z9f : w9.frozen? ⟨mk, f + i, none⟩ = false := mb.1.2.1
                  have HMb : Hid (Mz (w9.drew.setCell ⟨mk, f + i, none⟩ (.int .u8 (y.toNat : Int))) w.heap.size z (.slice (some ⟨mk, 0, none⟩) mn c5) gh c6 hs2 (lay m1 f (u.bs.take (i + 1))) ∧ Th w.heap.size w9 (w9.drew.setCell ⟨mk, f + i, none⟩ (.int .u8 (y.toNat : Int)))) := ⟨by rw [HSt.out]; exact mb.2.1, (Th.dr (Th.refl _ w9)).trans mb.2.2⟩
                  have hmw : w.heap.size ≤ mk := mb.1.2.2
                  have HSk : Hid (∀ W : World, Mz W w.heap.size z (.slice (some ⟨mk, 0, none⟩) mn c5) gh c6 hs2 (lay m1 f (u.bs.take i)) ∨ Mz W w.heap.size z (.slice (some ⟨mk, 0, none⟩) mn c5) gh c6 hs2 (lay m1 f (u.bs.take (i + 1))) → W.heap[ub]? = some (.cells x.toArray 45 (0, 0)) → W.heap[bb]? = w9.heap[bb]? → W.cell? ⟨z, 0, none⟩ = some (.slice (some ⟨mk, 0, none⟩) mn c5) ∧ W.cell? ⟨ub, 38, none⟩ = some (.int .u32 f) ∧ W.cell? ⟨ub, 39, none⟩ = some (.slice (some ⟨bb, bo, none⟩) bn bc') ∧ W.cell? ⟨bb, bo + i, none⟩ = some (.int .u8 (y.toNat : Int))) := fun W hz hu2 hb2 => ⟨by rcases hz with h | h <;> exact cr0 h.blk, (cr hu2).trans (by rw [List.getElem?_toArray]; exact HXe.out.2.2.1), (cr hu2).trans (by rw [List.getElem?_toArray]; exact HXe.out.2.2.2.1), (World.cell?_of_block hb2).trans HBy.out⟩
                  have HS0 : Hid _ := HSk.out w9.drew (.inl HZ9.out.dr) HU9.out rfl
                  have HS1 : Hid _ := HSk.out _ (.inr HMb.out.1) (HMb.out.2.row HU9.out (by decide) (by decide)) (hso (w := w9.drew) (by show bb ≠ mk; omega))
                  have q1 : (0 : Int) ≤ ((f + i : Nat) : Int) := by omega
                  have q2 : ((f + i : Nat) : Int) < (mn : Int) := by omega
                  clear mb hy hbv hbc hll HSt HBy
                  go_wp2_with fail
                  refine wp_region_held_drew (S := fun W => W.cell? ⟨z, 0, none⟩ = some (.slice (some ⟨mk, 0, none⟩) mn c5) ∧ W.cell? ⟨ub, 38, none⟩ = some (.int .u32 f) ∧ W.cell? ⟨ub, 39, none⟩ = some (.slice (some ⟨bb, bo, none⟩) bn bc') ∧ W.cell? ⟨bb, bo + i, none⟩ = some (.int .u8 (y.toNat : Int))) (by kernel_rfl) HS0.out (fun hHeld => ?_)
                  clear hHeld
                  refine wpAnyH_take (i := 0) (v := .pointer (some ⟨z, 0, none⟩)) rfl (by kernel_rfl) (by kernel_rfl) (by kernel_rfl) (fun _ _ _ h => h) (Or.inl ⟨by rfl, fun W hW => by obtain ⟨y0, y1, y2, y3⟩ := hW; go_simp⟩) HS0.out ?_
                  simp only [List.getElem_toArray, List.getElem_cons_succ, List.getElem_cons_zero, Act.put, List.setIfInBounds_toArray, List.set_cons_zero, List.set_cons_succ]
                  refine wpAnyH_take (i := 1) (v := .slice (some ⟨mk, 0, none⟩) mn c5) rfl (by kernel_rfl) (by kernel_rfl) (by kernel_rfl) (fun _ _ _ h => h) (Or.inl ⟨by rfl, fun W hW => by obtain ⟨y0, y1, y2, y3⟩ := hW; go_simp⟩) HS0.out ?_
                  simp only [List.getElem_toArray, List.getElem_cons_succ, List.getElem_cons_zero, Act.put, List.setIfInBounds_toArray, List.set_cons_zero, List.set_cons_succ]
                  refine wpAnyH_take (i := 2) (v := .pointer (some ⟨ub, 38, none⟩)) rfl (by kernel_rfl) (by kernel_rfl) (by kernel_rfl) (fun _ _ _ h => h) (Or.inl ⟨by rfl, fun W hW => by obtain ⟨y0, y1, y2, y3⟩ := hW; go_simp⟩) HS0.out ?_
                  simp only [List.getElem_toArray, List.getElem_cons_succ, List.getElem_cons_zero, Act.put, List.setIfInBounds_toArray, List.set_cons_zero, List.set_cons_succ]
                  refine wpAnyH_take (i := 3) (v := .int .u32 f) rfl (by kernel_rfl) (by kernel_rfl) (by kernel_rfl) (fun _ _ _ h => h) (Or.inl ⟨by rfl, fun W hW => by obtain ⟨y0, y1, y2, y3⟩ := hW; go_simp⟩) HS0.out ?_
                  simp only [List.getElem_toArray, List.getElem_cons_succ, List.getElem_cons_zero, Act.put, List.setIfInBounds_toArray, List.set_cons_zero, List.set_cons_succ]
                  refine wpAnyH_take (i := 4) (v := .int .i64 f) rfl (by kernel_rfl) (by kernel_rfl) (by kernel_rfl) (fun _ _ _ h => h) (Or.inl ⟨by rfl, fun W hW => by obtain ⟨y0, y1, y2, y3⟩ := hW; go_simp; rw [IntKind.wrap_i64]; omega⟩) HS0.out ?_
                  simp only [List.getElem_toArray, List.getElem_cons_succ, List.getElem_cons_zero, Act.put, List.setIfInBounds_toArray, List.set_cons_zero, List.set_cons_succ]
                  refine wpAnyH_take (i := 5) (v := .int .i64 i) rfl (by kernel_rfl) (by kernel_rfl) (by kernel_rfl) (fun _ _ _ h => h) (Or.inl ⟨by rfl, fun W hW => by obtain ⟨y0, y1, y2, y3⟩ := hW; go_simp⟩) HS0.out ?_
                  simp only [List.getElem_toArray, List.getElem_cons_succ, List.getElem_cons_zero, Act.put, List.setIfInBounds_toArray, List.set_cons_zero, List.set_cons_succ]
                  refine wpAnyH_take (i := 6) (v := .int .i64 ((f + i : Nat) : Int)) rfl (by kernel_rfl) (by kernel_rfl) (by kernel_rfl) (fun _ _ _ h => h) (Or.inl ⟨by rfl, fun W hW => by obtain ⟨y0, y1, y2, y3⟩ := hW; go_simp; rw [IntKind.wrap_i64]; omega⟩) HS0.out ?_
                  simp only [List.getElem_toArray, List.getElem_cons_succ, List.getElem_cons_zero, Act.put, List.setIfInBounds_toArray, List.set_cons_zero, List.set_cons_succ]
                  refine wpAnyH_take (i := 7) (v := .pointer (some ⟨ub, 39, none⟩)) rfl (by kernel_rfl) (by kernel_rfl) (by kernel_rfl) (fun _ _ _ h => h) (Or.inl ⟨by rfl, fun W hW => by obtain ⟨y0, y1, y2, y3⟩ := hW; go_simp⟩) HS0.out ?_
                  simp only [List.getElem_toArray, List.getElem_cons_succ, List.getElem_cons_zero, Act.put, List.setIfInBounds_toArray, List.set_cons_zero, List.set_cons_succ]
                  refine wpAnyH_take (i := 8) (v := .slice (some ⟨bb, bo, none⟩) bn bc') rfl (by kernel_rfl) (by kernel_rfl) (by kernel_rfl) (fun _ _ _ h => h) (Or.inl ⟨by rfl, fun W hW => by obtain ⟨y0, y1, y2, y3⟩ := hW; go_simp⟩) HS0.out ?_
                  simp only [List.getElem_toArray, List.getElem_cons_succ, List.getElem_cons_zero, Act.put, List.setIfInBounds_toArray, List.set_cons_zero, List.set_cons_succ]
                  refine wpAnyH_take (i := 9) (v := .int .i64 i) rfl (by kernel_rfl) (by kernel_rfl) (by kernel_rfl) (fun _ _ _ h => h) (Or.inl ⟨by rfl, fun W hW => by obtain ⟨y0, y1, y2, y3⟩ := hW; go_simp⟩) HS0.out ?_
                  simp only [List.getElem_toArray, List.getElem_cons_succ, List.getElem_cons_zero, Act.put, List.setIfInBounds_toArray, List.set_cons_zero, List.set_cons_succ]
                  refine wpAnyH_take (i := 10) (v := .pointer (some ⟨bb, bo + i, none⟩)) rfl (by kernel_rfl) (by kernel_rfl) (by kernel_rfl) (fun _ _ _ h => h) (Or.inl ⟨by rfl, fun W hW => by obtain ⟨y0, y1, y2, y3⟩ := hW; go_simp⟩) HS0.out ?_
                  simp only [List.getElem_toArray, List.getElem_cons_succ, List.getElem_cons_zero, Act.put, List.setIfInBounds_toArray, List.set_cons_zero, List.set_cons_succ]
                  refine wpAnyH_take (i := 11) (v := .int .u8 (y.toNat : Int)) rfl (by kernel_rfl) (by kernel_rfl) (by kernel_rfl) (fun _ _ _ h => h) (Or.inl ⟨by rfl, fun W hW => by obtain ⟨y0, y1, y2, y3⟩ := hW; go_simp⟩) HS0.out ?_
                  simp only [List.getElem_toArray, List.getElem_cons_succ, List.getElem_cons_zero, Act.put, List.setIfInBounds_toArray, List.set_cons_zero, List.set_cons_succ]
                  refine wpAnyH_take (i := 12) (v := .pointer (some ⟨mk, f + i, none⟩)) rfl (by kernel_rfl) (by kernel_rfl) (by kernel_rfl) (fun _ _ _ h => h) (Or.inl ⟨by rfl, fun W hW => by obtain ⟨y0, y1, y2, y3⟩ := hW; go_simp; rw [if_pos ⟨by omega, by omega⟩, show ((f : Int) + (i : Int)).toNat = f + i by omega]⟩) HS0.out ?_
                  simp only [List.getElem_toArray, List.getElem_cons_succ, List.getElem_cons_zero, Act.put, List.setIfInBounds_toArray, List.set_cons_zero, List.set_cons_succ]
                  refine wpAnyH_ready (rs := [13]) (by kernel_rfl) (by simp) ?_
                  refine AllReadyH.cons rfl (fun K hK => ?_) AllReadyH.nil
                  go_simp
                  refine hK.out _ _ HS1.out (fun hx => ?_)
                  clear hK K hx
                  refine wpAnyH_done (by kernel_rfl) ?_ _
                  have HU10 : Hid ((w9.drew.setCell ⟨mk, f + i, none⟩ (.int .u8 (y.toNat : Int))).heap[ub]? = some (.cells x.toArray 45 (0, 0))) := HMb.out.2.row HU9.out (by decide) (by decide)
                  clear HS0 HS1 HSk z9c z9f
                  refine atW (fun W => Mz W w.heap.size z (.slice (some ⟨mk, 0, none⟩) mn c5) gh c6 hs2 (lay m1 f (u.bs.take (i + 1))) ∧ W.heap[ub]? = some (.cells x.toArray 45 (0, 0)) ∧ Th w.heap.size W6 W) ⟨HMb.out.1, HU10.out, HT9.out.trans HMb.out.2⟩ ?_
                  rintro w10 ⟨Z10, U10, T10⟩
                  have HZ10 : Hid (Mz w10 w.heap.size z (.slice (some ⟨mk, 0, none⟩) mn c5) gh c6 hs2 (lay m1 f (u.bs.take (i + 1))) ∧ w10.heap[ub]? = some (.cells x.toArray 45 (0, 0)) ∧ Th w.heap.size W6 w10) := ⟨Z10, U10, T10⟩
                  clear Z10 U10 T10 HU10 HMb
                  go_wp2_with fail
                  go_roundw
                  case rel => exact ⟨i + 1, by omega, by go_num, HZ10.out⟩
                  case measure => simp [intOf]; omega
                · have HZb : Hid (Mz w9 w.heap.size z (.slice a5 mn c5) gh c6 hs2 (lay m1 f u.bs)) := by
                    have := HZ9.out
                    rwa [List.take_of_length_le (by rw [hbl]; omega)] at this
                  have HLb : Hid ((lay m1 f u.bs).length = mn) := by unfold Hid; rw [lay_len _ _ _ (by rw [hbl, HBm.out]; exact hfm), HBm.out]
                  clear HZ9
                  go_wp2_with fail
                  go_loopw [13] (fun qv wq => ∃ q : Nat, q ≤ l2 ∧ qv = .int .i64 q ∧ Mz wq w.heap.size z (.slice a5 mn c5) gh c6 (gives hs2 (u.lost.take q)) (lay m1 f u.bs) ∧ wq.heap[ub]? = some (.cells x.toArray 45 (0, 0)) ∧ Th w.heap.size W6 wq) (fun qv _ => l2 - (intOf qv).toNat)
                  case atStart => exact ⟨0, Nat.zero_le _, rfl, HZb.out, HU9.out, HT9.out⟩
                  case round =>
                    rename World => wA
                    obtain ⟨q, hq, rfl, ZA, UA, TA⟩ := hrel
                    have HZA : Hid (Mz wA w.heap.size z (.slice a5 mn c5) gh c6 (gives hs2 (u.lost.take q)) (lay m1 f u.bs)) := ZA
                    have HUA : Hid (wA.heap[ub]? = some (.cells x.toArray 45 (0, 0))) := UA
                    have HTA : Hid (Th w.heap.size W6 wA) := TA
                    have HGA : Hid (Gr w wA) := gr_th HG6.out TA
                    have x40 : wA.cell? ⟨ub, 40, none⟩ = some (.slice l1 l2 l3) := (cr UA).trans (by rw [List.getElem?_toArray]; exact HXe.out.2.2.2.2)
                    have hwA : w.heap.size ≤ wA.heap.size := HGA.out.size
                    clear ZA UA TA HZb HU9 HT9
                    by_cases hlq : q < l2
                    · obtain ⟨p, hp⟩ : ∃ p, u.lost[q]? = some p := ⟨_, List.getElem?_eq_getElem (by rw [HLL.out]; exact hlq)⟩
                      obtain ⟨b7, o7, rfl, hb7, hc7⟩ := HLS.out.spot (by omega)
                      have HL7 : Hid (∀ W : World, W.heap[b7]? = w.heap[b7]? → W.cell? ⟨b7, o7 + q * 2, none⟩ = some (.int .i64 p.1) ∧ W.cell? ⟨b7, o7 + q * 2 + 1, none⟩ = some (.int .u32 p.2)) := fun W e => ⟨(World.cell?_of_block e).trans (hc7 q p hp).1, (World.cell?_of_block e).trans (hc7 q p hp).2⟩
                      obtain ⟨⟨p0, p1⟩, p2, p3⟩ := HLQ.out p (List.mem_of_getElem? hp)
                      have HNx : Hid (gives hs2 (u.lost.take (q + 1)) = (gives hs2 (u.lost.take q)).set p.1.toNat (((gives hs2 (u.lost.take q)).getD p.1.toNat hN).hold true p.2)) := back_gives _ _ hp
                      have HGL : Hid ((gives hs2 (u.lost.take q)).length = hn) := by unfold Hid; rw [gives_len, HBh.out]
                      clear hc7 hp
                      obtain ⟨pa, pb⟩ := p
                      simp only at *
                      obtain ⟨v, rfl⟩ := Int.eq_ofNat_of_zero_le p0
                      simp only [Int.toNat_natCast] at HNx
                      have hv : v < hn := by omega
                      generalize gives hs2 (u.lost.take q) = hs4 at *
                      obtain ⟨h4, hh4⟩ : ∃ h4, hs4[v]? = some h4 := ⟨_, List.getElem?_eq_getElem (by rw [HGL.out]; exact hv)⟩
                      have hgd : hs4.getD v hN = h4 := by simp [List.getD, hh4]
                      rw [hgd] at HNx
                      have ok4 := HZA.out.row.ok h4 (List.mem_of_getElem? hh4)
                      have hwg : w.heap.size ≤ gh := hgw
                      have c33 : wA.cell? ⟨gh, v * 37 + 33, none⟩ = some (.bool h4.held) := (HZA.out.row.cell hh4 (by omega)).trans (hL_fld ok4 1)
                      have f33 : wA.frozen? ⟨gh, v * 37 + 33, none⟩ = false := HZA.out.row.fz _
                      have mh := mz_held HZA.out.dr hh4 hwA ok4
                      have HMh : Hid (Mz (wA.drew.setCell ⟨gh, v * 37 + 33, none⟩ (.bool true)) w.heap.size z (.slice a5 mn c5) gh c6 (hs4.set v { h4 with held := true }) (lay m1 f u.bs) ∧ Th w.heap.size wA (wA.drew.setCell ⟨gh, v * 37 + 33, none⟩ (.bool true))) := ⟨mh.1, (Th.dr (Th.refl _ wA)).trans mh.2⟩
                      have HSk : Hid (∀ (W : World) (hx : List Hv), hx.length = hn → Mz W w.heap.size z (.slice a5 mn c5) gh c6 hx (lay m1 f u.bs) → W.heap[ub]? = some (.cells x.toArray 45 (0, 0)) → W.heap[b7]? = w.heap[b7]? → W.cell? ⟨z, 1, none⟩ = some (.slice (some ⟨gh, 0, none⟩) hn c6) ∧ W.cell? ⟨ub, 40, none⟩ = some (.slice (some ⟨b7, o7, none⟩) l2 l3) ∧ W.cell? ⟨b7, o7 + q * 2, none⟩ = some (.int .i64 v) ∧ W.cell? ⟨b7, o7 + q * 2 + 1, none⟩ = some (.int .u32 pb)) := fun W hx hl hz hu2 hb2 => ⟨by have := cr1 hz.blk; rw [hl] at this; exact this, (cr hu2).trans (by rw [List.getElem?_toArray]; exact HXe.out.2.2.2.2), (HL7.out W hb2).1, (HL7.out W hb2).2⟩
                      have HS0 : Hid _ := HSk.out wA.drew _ HGL.out HZA.out.dr HUA.out (HGA.out.block _ hb7)
                      have HUB2 : Hid ((wA.drew.setCell ⟨gh, v * 37 + 33, none⟩ (.bool true)).heap[ub]? = some (.cells x.toArray 45 (0, 0))) := HMh.out.2.row HUA.out (by decide) (by decide)
                      have HS1 : Hid _ := HSk.out _ _ (by rw [List.length_set]; exact HGL.out) HMh.out.1 HUB2.out ((HMh.out.2.below.block _ hb7).trans (HGA.out.block _ hb7))
                      have y40 := x40
                      clear mh hgd x40
                      go_wp2_with fail
                      refine wp_region_held_drew (S := fun W => W.cell? ⟨z, 1, none⟩ = some (.slice (some ⟨gh, 0, none⟩) hn c6) ∧ W.cell? ⟨ub, 40, none⟩ = some (.slice (some ⟨b7, o7, none⟩) l2 l3) ∧ W.cell? ⟨b7, o7 + q * 2, none⟩ = some (.int .i64 v) ∧ W.cell? ⟨b7, o7 + q * 2 + 1, none⟩ = some (.int .u32 pb)) (by kernel_rfl) HS0.out (fun hHeld => ?_)
                      clear hHeld
                      refine wpAnyH_take (i := 0) (v := .pointer (some ⟨z, 1, none⟩)) rfl (by kernel_rfl) (by kernel_rfl) (by kernel_rfl) (fun _ _ _ h => h) (Or.inl ⟨by rfl, fun W hW => by obtain ⟨y0, y1, y2, y3⟩ := hW; go_simp⟩) HS0.out ?_
                      simp only [List.getElem_toArray, List.getElem_cons_succ, List.getElem_cons_zero, Act.put, List.setIfInBounds_toArray, List.set_cons_zero, List.set_cons_succ]
                      refine wpAnyH_take (i := 1) (v := .slice (some ⟨gh, 0, none⟩) hn c6) rfl (by kernel_rfl) (by kernel_rfl) (by kernel_rfl) (fun _ _ _ h => h) (Or.inl ⟨by rfl, fun W hW => by obtain ⟨y0, y1, y2, y3⟩ := hW; go_simp⟩) HS0.out ?_
                      simp only [List.getElem_toArray, List.getElem_cons_succ, List.getElem_cons_zero, Act.put, List.setIfInBounds_toArray, List.set_cons_zero, List.set_cons_succ]
                      refine wpAnyH_take (i := 2) (v := .pointer (some ⟨ub, 40, none⟩)) rfl (by kernel_rfl) (by kernel_rfl) (by kernel_rfl) (fun _ _ _ h => h) (Or.inl ⟨by rfl, fun W hW => by obtain ⟨y0, y1, y2, y3⟩ := hW; go_simp⟩) HS0.out ?_
                      simp only [List.getElem_toArray, List.getElem_cons_succ, List.getElem_cons_zero, Act.put, List.setIfInBounds_toArray, List.set_cons_zero, List.set_cons_succ]
                      refine wpAnyH_take (i := 3) (v := .slice (some ⟨b7, o7, none⟩) l2 l3) rfl (by kernel_rfl) (by kernel_rfl) (by kernel_rfl) (fun _ _ _ h => h) (Or.inl ⟨by rfl, fun W hW => by obtain ⟨y0, y1, y2, y3⟩ := hW; go_simp⟩) HS0.out ?_
                      simp only [List.getElem_toArray, List.getElem_cons_succ, List.getElem_cons_zero, Act.put, List.setIfInBounds_toArray, List.set_cons_zero, List.set_cons_succ]
                      refine wpAnyH_take (i := 4) (v := .int .i64 q) rfl (by kernel_rfl) (by kernel_rfl) (by kernel_rfl) (fun _ _ _ h => h) (Or.inl ⟨by rfl, fun W hW => by obtain ⟨y0, y1, y2, y3⟩ := hW; go_simp⟩) HS0.out ?_
                      simp only [List.getElem_toArray, List.getElem_cons_succ, List.getElem_cons_zero, Act.put, List.setIfInBounds_toArray, List.set_cons_zero, List.set_cons_succ]
                      refine wpAnyH_take (i := 5) (v := .pointer (some ⟨b7, o7 + q * 2, none⟩)) rfl (by kernel_rfl) (by kernel_rfl) (by kernel_rfl) (fun _ _ _ h => h) (Or.inl ⟨by rfl, fun W hW => by obtain ⟨y0, y1, y2, y3⟩ := hW; go_simp⟩) HS0.out ?_
                      simp only [List.getElem_toArray, List.getElem_cons_succ, List.getElem_cons_zero, Act.put, List.setIfInBounds_toArray, List.set_cons_zero, List.set_cons_succ]
                      refine wpAnyH_take (i := 6) (v := .pointer (some ⟨b7, o7 + q * 2, none⟩)) rfl (by kernel_rfl) (by kernel_rfl) (by kernel_rfl) (fun _ _ _ h => h) (Or.inl ⟨by rfl, fun W hW => by obtain ⟨y0, y1, y2, y3⟩ := hW; go_simp⟩) HS0.out ?_
                      simp only [List.getElem_toArray, List.getElem_cons_succ, List.getElem_cons_zero, Act.put, List.setIfInBounds_toArray, List.set_cons_zero, List.set_cons_succ]
                      refine wpAnyH_take (i := 7) (v := .int .i64 v) rfl (by kernel_rfl) (by kernel_rfl) (by kernel_rfl) (fun _ _ _ h => h) (Or.inl ⟨by rfl, fun W hW => by obtain ⟨y0, y1, y2, y3⟩ := hW; go_simp⟩) HS0.out ?_
                      simp only [List.getElem_toArray, List.getElem_cons_succ, List.getElem_cons_zero, Act.put, List.setIfInBounds_toArray, List.set_cons_zero, List.set_cons_succ]
                      refine wpAnyH_take (i := 8) (v := .pointer (some ⟨gh, v * 37, none⟩)) rfl (by kernel_rfl) (by kernel_rfl) (by kernel_rfl) (fun _ _ _ h => h) (Or.inl ⟨by rfl, fun W hW => by obtain ⟨y0, y1, y2, y3⟩ := hW; go_simp⟩) HS0.out ?_
                      simp only [List.getElem_toArray, List.getElem_cons_succ, List.getElem_cons_zero, Act.put, List.setIfInBounds_toArray, List.set_cons_zero, List.set_cons_succ]
                      refine wpAnyH_take (i := 9) (v := .pointer (some ⟨gh, v * 37 + 33, none⟩)) rfl (by kernel_rfl) (by kernel_rfl) (by kernel_rfl) (fun _ _ _ h => h) (Or.inl ⟨by rfl, fun W hW => by obtain ⟨y0, y1, y2, y3⟩ := hW; go_simp⟩) HS0.out ?_
                      simp only [List.getElem_toArray, List.getElem_cons_succ, List.getElem_cons_zero, Act.put, List.setIfInBounds_toArray, List.set_cons_zero, List.set_cons_succ]
                      refine wpAnyH_ready (rs := [10]) (by kernel_rfl) (by simp) ?_
                      refine AllReadyH.cons rfl (fun K hK => ?_) AllReadyH.nil
                      go_simp
                      refine hK.out _ _ HS1.out (fun hx => ?_)
                      clear hK K hx
                      refine wpAnyH_done (by kernel_rfl) ?_ _
                      refine atW (fun W => Mz W w.heap.size z (.slice a5 mn c5) gh c6 (hs4.set v { h4 with held := true }) (lay m1 f u.bs) ∧ W.heap[ub]? = some (.cells x.toArray 45 (0, 0)) ∧ Th w.heap.size W6 W) ⟨HMh.out.1, HUB2.out, HTA.out.trans HMh.out.2⟩ ?_
                      rintro wB ⟨ZB, UB', TB⟩
                      have HZB : Hid (Mz wB w.heap.size z (.slice a5 mn c5) gh c6 (hs4.set v { h4 with held := true }) (lay m1 f u.bs)) := ZB
                      have HUBb : Hid (wB.heap[ub]? = some (.cells x.toArray 45 (0, 0))) := UB'
                      have HTB : Hid (Th w.heap.size W6 wB) := TB
                      have HGB : Hid (Gr w wB) := gr_th HG6.out TB
                      have hwB : w.heap.size ≤ wB.heap.size := HGB.out.size
                      have ok5 : Hv.Ok { h4 with held := true } := ⟨ok4.len, ok4.reg, ok4.pc0, ok4.pc1, ok4.at0, ok4.at1⟩
                      have hh5 : (hs4.set v { h4 with held := true })[v]? = some { h4 with held := true } := by rw [List.getElem?_set_self (by rw [HGL.out]; exact hv)]
                      have c34 : wB.cell? ⟨gh, v * 37 + 34, none⟩ = some (.int .u32 h4.heldAt) := (ZB.row.cell hh5 (by omega)).trans (hL_fld ok5 2)
                      have f34 : wB.frozen? ⟨gh, v * 37 + 34, none⟩ = false := ZB.row.fz _
                      have ma2 := mz_at (pb := pb) ZB.dr (by rw [HGL.out]; exact hv) hwB ok4 p2 p3
                      have HMa : Hid (Mz (wB.drew.setCell ⟨gh, v * 37 + 34, none⟩ (.int .u32 pb)) w.heap.size z (.slice a5 mn c5) gh c6 (hs4.set v (h4.hold true pb)) (lay m1 f u.bs) ∧ Th w.heap.size wB (wB.drew.setCell ⟨gh, v * 37 + 34, none⟩ (.int .u32 pb))) := ⟨ma2.1, (Th.dr (Th.refl _ wB)).trans ma2.2⟩
                      have HS2 : Hid _ := HSk.out wB.drew _ (by rw [List.length_set]; exact HGL.out) ZB.dr UB' (HGB.out.block _ hb7)
                      have HUC : Hid ((wB.drew.setCell ⟨gh, v * 37 + 34, none⟩ (.int .u32 pb)).heap[ub]? = some (.cells x.toArray 45 (0, 0))) := HMa.out.2.row UB' (by decide) (by decide)
                      have HS3 : Hid _ := HSk.out _ _ (by rw [List.length_set]; exact HGL.out) HMa.out.1 HUC.out ((HMa.out.2.below.block _ hb7).trans (HGB.out.block _ hb7))
                      clear HS0 HS1 HMh HUB2 HZA HUA HTA HGA c33 f33 ma2 ZB UB' TB y40
                      go_wp2_with fail
                      refine wp_region_held_drew (S := fun W => W.cell? ⟨z, 1, none⟩ = some (.slice (some ⟨gh, 0, none⟩) hn c6) ∧ W.cell? ⟨ub, 40, none⟩ = some (.slice (some ⟨b7, o7, none⟩) l2 l3) ∧ W.cell? ⟨b7, o7 + q * 2, none⟩ = some (.int .i64 v) ∧ W.cell? ⟨b7, o7 + q * 2 + 1, none⟩ = some (.int .u32 pb)) (by kernel_rfl) HS2.out (fun hHeld => ?_)
                      clear hHeld
                      refine wpAnyH_take (i := 0) (v := .pointer (some ⟨z, 1, none⟩)) rfl (by kernel_rfl) (by kernel_rfl) (by kernel_rfl) (fun _ _ _ h => h) (Or.inl ⟨by rfl, fun W hW => by obtain ⟨y0, y1, y2, y3⟩ := hW; go_simp⟩) HS2.out ?_
                      simp only [List.getElem_toArray, List.getElem_cons_succ, List.getElem_cons_zero, Act.put, List.setIfInBounds_toArray, List.set_cons_zero, List.set_cons_succ]
                      refine wpAnyH_take (i := 1) (v := .slice (some ⟨gh, 0, none⟩) hn c6) rfl (by kernel_rfl) (by kernel_rfl) (by kernel_rfl) (fun _ _ _ h => h) (Or.inl ⟨by rfl, fun W hW => by obtain ⟨y0, y1, y2, y3⟩ := hW; go_simp⟩) HS2.out ?_
                      simp only [List.getElem_toArray, List.getElem_cons_succ, List.getElem_cons_zero, Act.put, List.setIfInBounds_toArray, List.set_cons_zero, List.set_cons_succ]
                      refine wpAnyH_take (i := 2) (v := .pointer (some ⟨ub, 40, none⟩)) rfl (by kernel_rfl) (by kernel_rfl) (by kernel_rfl) (fun _ _ _ h => h) (Or.inl ⟨by rfl, fun W hW => by obtain ⟨y0, y1, y2, y3⟩ := hW; go_simp⟩) HS2.out ?_
                      simp only [List.getElem_toArray, List.getElem_cons_succ, List.getElem_cons_zero, Act.put, List.setIfInBounds_toArray, List.set_cons_zero, List.set_cons_succ]
                      refine wpAnyH_take (i := 3) (v := .slice (some ⟨b7, o7, none⟩) l2 l3) rfl (by kernel_rfl) (by kernel_rfl) (by kernel_rfl) (fun _ _ _ h => h) (Or.inl ⟨by rfl, fun W hW => by obtain ⟨y0, y1, y2, y3⟩ := hW; go_simp⟩) HS2.out ?_
                      simp only [List.getElem_toArray, List.getElem_cons_succ, List.getElem_cons_zero, Act.put, List.setIfInBounds_toArray, List.set_cons_zero, List.set_cons_succ]
                      refine wpAnyH_take (i := 4) (v := .int .i64 q) rfl (by kernel_rfl) (by kernel_rfl) (by kernel_rfl) (fun _ _ _ h => h) (Or.inl ⟨by rfl, fun W hW => by obtain ⟨y0, y1, y2, y3⟩ := hW; go_simp⟩) HS2.out ?_
                      simp only [List.getElem_toArray, List.getElem_cons_succ, List.getElem_cons_zero, Act.put, List.setIfInBounds_toArray, List.set_cons_zero, List.set_cons_succ]
                      refine wpAnyH_take (i := 5) (v := .pointer (some ⟨b7, o7 + q * 2, none⟩)) rfl (by kernel_rfl) (by kernel_rfl) (by kernel_rfl) (fun _ _ _ h => h) (Or.inl ⟨by rfl, fun W hW => by obtain ⟨y0, y1, y2, y3⟩ := hW; go_simp⟩) HS2.out ?_
                      simp only [List.getElem_toArray, List.getElem_cons_succ, List.getElem_cons_zero, Act.put, List.setIfInBounds_toArray, List.set_cons_zero, List.set_cons_succ]
                      refine wpAnyH_take (i := 6) (v := .pointer (some ⟨b7, o7 + q * 2, none⟩)) rfl (by kernel_rfl) (by kernel_rfl) (by kernel_rfl) (fun _ _ _ h => h) (Or.inl ⟨by rfl, fun W hW => by obtain ⟨y0, y1, y2, y3⟩ := hW; go_simp⟩) HS2.out ?_
                      simp only [List.getElem_toArray, List.getElem_cons_succ, List.getElem_cons_zero, Act.put, List.setIfInBounds_toArray, List.set_cons_zero, List.set_cons_succ]
                      refine wpAnyH_take (i := 7) (v := .int .i64 v) rfl (by kernel_rfl) (by kernel_rfl) (by kernel_rfl) (fun _ _ _ h => h) (Or.inl ⟨by rfl, fun W hW => by obtain ⟨y0, y1, y2, y3⟩ := hW; go_simp⟩) HS2.out ?_
                      simp only [List.getElem_toArray, List.getElem_cons_succ, List.getElem_cons_zero, Act.put, List.setIfInBounds_toArray, List.set_cons_zero, List.set_cons_succ]
                      refine wpAnyH_take (i := 8) (v := .pointer (some ⟨ub, 40, none⟩)) rfl (by kernel_rfl) (by kernel_rfl) (by kernel_rfl) (fun _ _ _ h => h) (Or.inl ⟨by rfl, fun W hW => by obtain ⟨y0, y1, y2, y3⟩ := hW; go_simp⟩) HS2.out ?_
                      simp only [List.getElem_toArray, List.getElem_cons_succ, List.getElem_cons_zero, Act.put, List.setIfInBounds_toArray, List.set_cons_zero, List.set_cons_succ]
                      refine wpAnyH_take (i := 9) (v := .slice (some ⟨b7, o7, none⟩) l2 l3) rfl (by kernel_rfl) (by kernel_rfl) (by kernel_rfl) (fun _ _ _ h => h) (Or.inl ⟨by rfl, fun W hW => by obtain ⟨y0, y1, y2, y3⟩ := hW; go_simp⟩) HS2.out ?_
                      simp only [List.getElem_toArray, List.getElem_cons_succ, List.getElem_cons_zero, Act.put, List.setIfInBounds_toArray, List.set_cons_zero, List.set_cons_succ]
                      refine wpAnyH_take (i := 10) (v := .int .i64 q) rfl (by kernel_rfl) (by kernel_rfl) (by kernel_rfl) (fun _ _ _ h => h) (Or.inl ⟨by rfl, fun W hW => by obtain ⟨y0, y1, y2, y3⟩ := hW; go_simp⟩) HS2.out ?_
                      simp only [List.getElem_toArray, List.getElem_cons_succ, List.getElem_cons_zero, Act.put, List.setIfInBounds_toArray, List.set_cons_zero, List.set_cons_succ]
                      refine wpAnyH_take (i := 11) (v := .pointer (some ⟨b7, o7 + q * 2, none⟩)) rfl (by kernel_rfl) (by kernel_rfl) (by kernel_rfl) (fun _ _ _ h => h) (Or.inl ⟨by rfl, fun W hW => by obtain ⟨y0, y1, y2, y3⟩ := hW; go_simp⟩) HS2.out ?_
                      simp only [List.getElem_toArray, List.getElem_cons_succ, List.getElem_cons_zero, Act.put, List.setIfInBounds_toArray, List.set_cons_zero, List.set_cons_succ]
                      refine wpAnyH_take (i := 12) (v := .pointer (some ⟨b7, o7 + q * 2 + 1, none⟩)) rfl (by kernel_rfl) (by kernel_rfl) (by kernel_rfl) (fun _ _ _ h => h) (Or.inl ⟨by rfl, fun W hW => by obtain ⟨y0, y1, y2, y3⟩ := hW; go_simp⟩) HS2.out ?_
                      simp only [List.getElem_toArray, List.getElem_cons_succ, List.getElem_cons_zero, Act.put, List.setIfInBounds_toArray, List.set_cons_zero, List.set_cons_succ]
                      refine wpAnyH_take (i := 13) (v := .int .u32 pb) rfl (by kernel_rfl) (by kernel_rfl) (by kernel_rfl) (fun _ _ _ h => h) (Or.inl ⟨by rfl, fun W hW => by obtain ⟨y0, y1, y2, y3⟩ := hW; go_simp⟩) HS2.out ?_
                      simp only [List.getElem_toArray, List.getElem_cons_succ, List.getElem_cons_zero, Act.put, List.setIfInBounds_toArray, List.set_cons_zero, List.set_cons_succ]
                      refine wpAnyH_take (i := 14) (v := .pointer (some ⟨gh, v * 37, none⟩)) rfl (by kernel_rfl) (by kernel_rfl) (by kernel_rfl) (fun _ _ _ h => h) (Or.inl ⟨by rfl, fun W hW => by obtain ⟨y0, y1, y2, y3⟩ := hW; go_simp⟩) HS2.out ?_
                      simp only [List.getElem_toArray, List.getElem_cons_succ, List.getElem_cons_zero, Act.put, List.setIfInBounds_toArray, List.set_cons_zero, List.set_cons_succ]
                      refine wpAnyH_take (i := 15) (v := .pointer (some ⟨gh, v * 37 + 34, none⟩)) rfl (by kernel_rfl) (by kernel_rfl) (by kernel_rfl) (fun _ _ _ h => h) (Or.inl ⟨by rfl, fun W hW => by obtain ⟨y0, y1, y2, y3⟩ := hW; go_simp⟩) HS2.out ?_
                      simp only [List.getElem_toArray, List.getElem_cons_succ, List.getElem_cons_zero, Act.put, List.setIfInBounds_toArray, List.set_cons_zero, List.set_cons_succ]
                      refine wpAnyH_ready (rs := [16]) (by kernel_rfl) (by simp) ?_
                      refine AllReadyH.cons rfl (fun K hK => ?_) AllReadyH.nil
                      go_simp
                      refine hK.out _ _ HS3.out (fun hx => ?_)
                      clear hK K hx
                      refine wpAnyH_done (by kernel_rfl) ?_ _
                      refine atW (fun W => Mz W w.heap.size z (.slice a5 mn c5) gh c6 (hs4.set v (h4.hold true pb)) (lay m1 f u.bs) ∧ W.heap[ub]? = some (.cells x.toArray 45 (0, 0)) ∧ Th w.heap.size W6 W) ⟨HMa.out.1, HUC.out, HTB.out.trans HMa.out.2⟩ ?_
                      rintro wC ⟨ZC, UC, TC⟩
                      have HZC : Hid (Mz wC w.heap.size z (.slice a5 mn c5) gh c6 (gives hs2 (u.lost.take (q + 1))) (lay m1 f u.bs) ∧ wC.heap[ub]? = some (.cells x.toArray 45 (0, 0)) ∧ Th w.heap.size W6 wC) := ⟨by rw [HNx.out]; exact ZC, UC, TC⟩
                      clear ZC UC TC HMa HUC HS2 HS3 HSk c34 f34
                      go_wp2_with fail
                      go_roundw
                      case rel => exact ⟨q + 1, by omega, by go_num, HZC.out⟩
                      case measure => simp [intOf]; omega
                    · have HZD : Hid (Mz wA w.heap.size z (.slice a5 mn c5) gh c6 (backs (hs, m) (us.drop (ln - (k + 1)))).1 (backs (hs, m) (us.drop (ln - (k + 1)))).2) := by
                        rw [HBk.out]
                        have := HZA.out
                        rwa [List.take_of_length_le (by rw [HLL.out]; omega)] at this
                      go_wp2_with fail
                      go_roundw
                      case rel => exact ⟨k + 1, by omega, by go_num, HZD.out, HTA.out⟩
                      case measure => simp [intOf]; omega
            · obtain rfl : k = s := by omega
              generalize hbk : backs (hs, m) (us.drop (ln - k)) = bk at *
              have HKz : Hid (w7.heap[z]? = some (.cells #[.slice a5 mn c5, .slice (some ⟨gh, 0, none⟩) hn c6] 25 (0, 0))) := by have := HZ7.out.blk; rw [HBL.out.1] at this; exact this
              have kz0 := cr0 HKz.out
              have kz1 := cr1 HKz.out
              go_wp2_with (refine wpList_store_row rfl 25 _ _ rfl (w.heap.size + 1) #[.slice a5 mn c5, .slice (some ⟨gh, 0, none⟩) hn c6] rfl rfl 25 #[.slice none 0 0, .slice none 0 0] ?yy2 iMc rfl (by kernel_rfl) ?_; (case yy2 => exact HB7.out))
              refine bodyPost_ret (v := .tuple #[.agg _, .int .i64 0]) (Hr.results_cell_tmp' Try.results5 _ _ _ _ _ (0, 0) _ _ rfl rfl (srh HB7.out) Try.underlying25 rfl iMc) rfl (.inr ⟨HE.out, _, rfl, ?_, gr_setRow HG7.out (Nat.le_succ _) _⟩)
              have O9 : Hc.Own (w7.setRow (w.heap.size + 1) #[.slice a5 mn c5, .slice (some ⟨gh, 0, none⟩) hn c6]) w.heap.size (.slice a5 mn c5) bk.2 := HZ7.out.mem.to fun k o f e => sro (ne_of_types e HB7.out (by decide))
              have R9 : HRow (w7.setRow (w.heap.size + 1) #[.slice a5 mn c5, .slice (some ⟨gh, 0, none⟩) hn c6]) gh bk.1 := HZ7.out.row.to fun k o f e => sro (ne_of_types e HB7.out (by decide))
              obtain ⟨ao', cap', e', M9⟩ := O9.mem
              rw [HBL.out.2] at e' M9
              injection e' with e1' e2' e3'
              subst e1'
              rw [Int.toNat_natCast, hbk]
              exact ⟨_, _, _, _, rfl, M9, own_cap (O9.base (w' := w7) (Nat.zero_le _)), R9.hs HBL.out.1⟩
end Go.Proofs.Ytphklaefhpoimac.Ud
/-
  What ferrybridgeref5.Same answers, of two runs that are shown alike.
-/
namespace Go.Proofs.Ytphklaefhpoimac.Mc
open Go.ChangeShapes Go.WideShapes Go.ChangeAt Go.RowKit Mm Hh Hc
set_option linter.unusedVariables false
set_option linter.unusedSimpArgs false

theorem neq_hart {h : Hv} (o : h.Ok) (w : World) : (binOp .neq 39 (.agg (hA h)) (.agg (hA h))).run Try.prog w = .ok (.bool false) w := by
  have e := eql_hart o w
  have e1 : binOp .eql 39 (.agg (hA h)) (.agg (hA h)) = (do pure (.bool (← Op.equal 39 (.agg (hA h)) (.agg (hA h))))) := rfl
  have e2 : binOp .neq 39 (.agg (hA h)) (.agg (hA h)) = (do pure (.bool (!(← Op.equal 39 (.agg (hA h)) (.agg (hA h)))))) := rfl
  rw [e1, Sem.run_bind] at e
  rw [e2, Sem.run_bind]
  generalize (Op.equal 39 (.agg (hA h)) (.agg (hA h))).run Try.prog w = r at e ⊢
  cases r with
  | ok v w' =>
    simp only [Result.andThen_ok, Sem.run_pure, Result.ok.injEq, Value.bool.injEq] at e ⊢
    obtain ⟨rfl, rfl⟩ := e
    exact ⟨rfl, rfl⟩
  | _ => simp [Result.andThen] at e
theorem yieldsIf_neq {P : Program} {ops : Array Oper} {S : World → Prop} {o : Oper} {a : Act} (hw : Region.wanted o (yielded ops a.tmps) = true) (t t' : TypeId) (x y : Operand) (ho : o.op = .binOp .neq t x y t') (A B : Array Value) (hx : a.eval x = .agg A) (hy : a.eval y = .agg B) (hg : P.eqGuardType P.depth t = false)
    {v : Value} (h : ∀ w, (binOp .neq t (.agg A) (.agg B)).run P w = .ok v w) : YieldsIf P ops S o v a :=
  .inl ⟨hw, fun w _ => by
    unfold execOp
    simp only [ho, hx, hy, Sem.run_bind, run_eqGuard_agg w _ _ _ _ _ _ hg, h, Result.andThen_ok]
    rfl⟩
/-- .. of a slice that is nil no more is asked than that it reads as nothing. -/
def Shw (w : World) (v : Value) (c mn : Nat) (S : Sh) : Prop := ∃ ma mc ha hc oa oc, v = .agg #[.slice ma mn mc, .slice ha c hc, .slice oa S.out.length oc, .int .i64 S.steps] ∧ Mem w ma mn S.m ∧ Hs w ha c S.hs ∧ Wm w oa S.out.length S.out
theorem Shn.w {w : World} {v : Value} {c mn : Nat} {S : Sh} (h : Shn w v c mn S) : Shw w v c mn S := by
  obtain ⟨ma, mc, ha, hc, oa, oc, e, h1, _, h3, h4, _⟩ := h
  exact ⟨ma, mc, ha, hc, oa, oc, e, h1, h3, h4⟩
theorem Shw.of {w w' : World} {v : Value} {c mn : Nat} {S : Sh} (h : Shw w v c mn S) (G : Gr w w') : Shw w' v c mn S := by
  obtain ⟨ma, mc, ha, hc, oa, oc, e, h1, h3, h4⟩ := h
  exact ⟨ma, mc, ha, hc, oa, oc, e, h1.of G, h3.of G, h4.of G⟩
set_option maxHeartbeats 2000000 in
set_option maxRecDepth 100000 in
theorem Same_w {w : World} {a b : Value} {c mn : Nat} {S : Sh} (A : Shw w a c mn S) (B : Shw w b c mn S) (ho : S.out.length ≤ 1000000) (hc4 : c ≤ 4) :
    Calls Try.prog 16 #[a, b] w fun e w' => e = .returned (.bool true) ∧ Gr w w' := by
  obtain ⟨a1, c1, a2, c2, a3, c3, rfl, A1, A2, A3⟩ := A
  obtain ⟨b1, d1, b2, d2, b3, d3, rfl, B1, B2, B3⟩ := B
  have HBy : Hid (∀ W : World, Gr w W → Calls Try.prog 24 #[.slice a1 mn c1, .slice b1 mn d1] W fun e w' => e = .returned (.bool true) ∧ Gr W w') := fun W G =>
    (Mr.Bytes_any c1 d1 (A1.of G) (B1.of G)).mono fun e w' ⟨h1, h2⟩ => ⟨by rw [h1]; simp, by rw [h2]; exact Gr.refl _⟩
  have HWo : Hid (∀ W : World, Gr w W → Calls Try.prog 25 #[.slice a3 S.out.length c3, .slice b3 S.out.length d3] W fun e w' => e = .returned (.bool true) ∧ Gr W w') := fun W G => Words_same c3 d3 ho (A3.of G) (B3.of G)
  have HA2 : Hid (Hs w a2 c S.hs) := A2
  have HB2 : Hid (Hs w b2 c S.hs) := B2
  have HL : Hid (S.hs.length = c) := A2.len
  clear A1 A2 A3 B1 B2 B3
  generalize S.out.length = on at *
  generalize S.steps = st at *
  generalize S.hs = hs at *
  have en : ((st : Int) != (st : Int)) = false := by simp
  have en2 : ((c : Int) != (c : Int)) = false := by simp
  go_enter Try.func16, Try.ntmps16
  go_wp2_with fail
  refine (HBy.out _ (((Gr.refl _).alloc _).alloc _)).mono ?_
  rintro e w1 ⟨rfl, G1⟩
  obtain ⟨hb0, hb1⟩ := two_of G1
  have HX0 : Hid (w1.heap[w.heap.size]? = some (.cells #[.slice a1 mn c1, .slice a2 c c2, .slice a3 on c3, .int .i64 st] 52 (0, 0))) := hb0
  have HX1 : Hid (w1.heap[w.heap.size + 1]? = some (.cells #[.slice b1 mn d1, .slice b2 c d2, .slice b3 on d3, .int .i64 st] 52 (0, 0))) := hb1
  have HG1 : Hid (Gr w w1) := (((Gr.refl _).alloc _).alloc _).trans G1
  have x1 : w1.cell? ⟨w.heap.size, 1, none⟩ = some (.slice a2 c c2) := cell_of_row _ _ _ _ _ _ hb0
  have x2 : w1.cell? ⟨w.heap.size, 2, none⟩ = some (.slice a3 on c3) := cell_of_row _ _ _ _ _ _ hb0
  have x4 : w1.cell? ⟨w.heap.size + 1, 1, none⟩ = some (.slice b2 c d2) := cell_of_row _ _ _ _ _ _ hb1
  have x5 : w1.cell? ⟨w.heap.size + 1, 2, none⟩ = some (.slice b3 on d3) := cell_of_row _ _ _ _ _ _ hb1
  clear G1 hb0 hb1 HBy
  go_wp2_with fail
  refine (HWo.out _ HG1.out).mono ?_
  rintro e w2 ⟨rfl, G2⟩
  have HG2 : Hid (Gr w w2) := HG1.out.trans G2
  have HY0 : Hid (w2.heap[w.heap.size]? = some (.cells #[.slice a1 mn c1, .slice a2 c c2, .slice a3 on c3, .int .i64 st] 52 (0, 0))) := Hr.heap_of_gr G2 HX0.out
  have HY1 : Hid (w2.heap[w.heap.size + 1]? = some (.cells #[.slice b1 mn d1, .slice b2 c d2, .slice b3 on d3, .int .i64 st] 52 (0, 0))) := Hr.heap_of_gr G2 HX1.out
  have y3 : w2.cell? ⟨w.heap.size, 3, none⟩ = some (.int .i64 st) := cell_of_row _ _ _ _ _ _ HY0.out
  have y7 : w2.cell? ⟨w.heap.size + 1, 3, none⟩ = some (.int .i64 st) := cell_of_row _ _ _ _ _ _ HY1.out
  clear G2 x1 x2 x4 x5 HX0 HX1 HWo HG1
  go_wp2_with fail
  go_loopw [5] (fun i wr => ∃ k : Nat, k ≤ c ∧ i = .int .i64 k ∧ Gr w2 wr) (fun i _ => c - (intOf i).toNat)
  case atStart => exact ⟨0, Nat.zero_le _, rfl, Gr.refl _⟩
  case round =>
    obtain ⟨k, hk, rfl, G⟩ := hrel
    have HG : Hid (Gr w2 wr) := G
    have z1 : wr.cell? ⟨w.heap.size, 1, none⟩ = some (.slice a2 c c2) := cell_of_row _ _ _ _ _ _ (Hr.heap_of_gr G HY0.out)
    have z4 : wr.cell? ⟨w.heap.size + 1, 1, none⟩ = some (.slice b2 c d2) := cell_of_row _ _ _ _ _ _ (Hr.heap_of_gr G HY1.out)
    clear G y3 y7
    by_cases hlt : k < c
    · obtain ⟨h, hh⟩ : ∃ h, hs[k]? = some h := ⟨_, List.getElem?_eq_getElem (by rw [HL.out]; exact hlt)⟩
      have okh := HA2.out.ok h (List.mem_of_getElem? hh)
      obtain ⟨p1, o1, rfl, hp1, r1⟩ := HA2.out.spot (by omega)
      obtain ⟨p2, o2, rfl, hp2, r2⟩ := HB2.out.spot (by omega)
      have R1 : Hid (wr.rangeAt p1 (o1 + k * 37) (hL h)) := fun j v hv => ((HG2.out.trans HG.out).cell _ (by exact hp1)).trans (r1 k h hh j v hv)
      have R2 : Hid (wr.rangeAt p2 (o2 + k * 37) (hL h)) := fun j v hv => ((HG2.out.trans HG.out).cell _ (by exact hp2)).trans (r2 k h hh j v hv)
      have HLL : Hid ((hL h).length = 37) := hL_len okh
      have HNQ : Hid (∀ W : World, (binOp .neq 39 (.agg (hL h).toArray) (.agg (hL h).toArray)).run Try.prog W = .ok (.bool false) W) := fun W => neq_hart okh W
      clear hh okh r1 r2 en en2
      go_wp2_with fail
      refine wp_region_held_drew (S := fun W => W.cell? ⟨w.heap.size, 1, none⟩ = some (.slice (some ⟨p1, o1, none⟩) c c2) ∧ W.cell? ⟨w.heap.size + 1, 1, none⟩ = some (.slice (some ⟨p2, o2, none⟩) c d2) ∧ W.rangeAt p1 (o1 + k * 37) (hL h) ∧ W.rangeAt p2 (o2 + k * 37) (hL h)) (by kernel_rfl) ?_ (fun hHeld => ?_)
      · exact ⟨z1, z4, R1.out, R2.out⟩
      have HS0 : Hid _ := hHeld
      clear hHeld
      refine wpAnyH_take (i := 0) (v := .pointer (some ⟨w.heap.size, 0, none⟩)) rfl (by kernel_rfl) (by kernel_rfl) (by kernel_rfl) (fun _ _ _ h => h) (Or.inl ⟨by rfl, fun W hW => by obtain ⟨y0, y1, y2, y3⟩ := hW; go_simp⟩) HS0.out ?_
      simp only [List.getElem_toArray, List.getElem_cons_succ, List.getElem_cons_zero, Act.put, List.setIfInBounds_toArray, List.set_cons_zero, List.set_cons_succ]
      refine wpAnyH_take (i := 1) (v := .pointer (some ⟨w.heap.size, 1, none⟩)) rfl (by kernel_rfl) (by kernel_rfl) (by kernel_rfl) (fun _ _ _ h => h) (Or.inl ⟨by rfl, fun W hW => by obtain ⟨y0, y1, y2, y3⟩ := hW; go_simp⟩) HS0.out ?_
      simp only [List.getElem_toArray, List.getElem_cons_succ, List.getElem_cons_zero, Act.put, List.setIfInBounds_toArray, List.set_cons_zero, List.set_cons_succ]
      refine wpAnyH_take (i := 2) (v := .slice (some ⟨p1, o1, none⟩) c c2) rfl (by kernel_rfl) (by kernel_rfl) (by kernel_rfl) (fun _ _ _ h => h) (Or.inl ⟨by rfl, fun W hW => by obtain ⟨y0, y1, y2, y3⟩ := hW; go_simp⟩) HS0.out ?_
      simp only [List.getElem_toArray, List.getElem_cons_succ, List.getElem_cons_zero, Act.put, List.setIfInBounds_toArray, List.set_cons_zero, List.set_cons_succ]
      refine wpAnyH_take (i := 3) (v := .int .i64 k) rfl (by kernel_rfl) (by kernel_rfl) (by kernel_rfl) (fun _ _ _ h => h) (Or.inl ⟨by rfl, fun W hW => by obtain ⟨y0, y1, y2, y3⟩ := hW; go_simp⟩) HS0.out ?_
      simp only [List.getElem_toArray, List.getElem_cons_succ, List.getElem_cons_zero, Act.put, List.setIfInBounds_toArray, List.set_cons_zero, List.set_cons_succ]
      refine wpAnyH_take (i := 4) (v := .pointer (some ⟨p1, o1 + k * 37, none⟩)) rfl (by kernel_rfl) (by kernel_rfl) (by kernel_rfl) (fun _ _ _ h => h) (Or.inl ⟨by rfl, fun W hW => by obtain ⟨y0, y1, y2, y3⟩ := hW; go_simp⟩) HS0.out ?_
      simp only [List.getElem_toArray, List.getElem_cons_succ, List.getElem_cons_zero, Act.put, List.setIfInBounds_toArray, List.set_cons_zero, List.set_cons_succ]
      refine wpAnyH_take (i := 5) (v := .agg (hL h).toArray) rfl (by kernel_rfl) (by kernel_rfl) (by kernel_rfl) (fun _ _ _ h => h) ?hy5 HS0.out ?_
      case hy5 => exact yieldsIf_load_mid (by rfl) 39 (.tmp 52) rfl p1 (o1 + k * 37) (by simp [Act.eval]) (hL h) _ (fun W hW => hW.2.2.1) Try.underlying39 rfl (by rw [HLL.out]; exact iH)
      simp only [List.getElem_toArray, List.getElem_cons_succ, List.getElem_cons_zero, Act.put, List.setIfInBounds_toArray, List.set_cons_zero, List.set_cons_succ]
      refine wpAnyH_take (i := 6) (v := .pointer (some ⟨w.heap.size + 1, 0, none⟩)) rfl (by kernel_rfl) (by kernel_rfl) (by kernel_rfl) (fun _ _ _ h => h) (Or.inl ⟨by rfl, fun W hW => by obtain ⟨y0, y1, y2, y3⟩ := hW; go_simp⟩) HS0.out ?_
      simp only [List.getElem_toArray, List.getElem_cons_succ, List.getElem_cons_zero, Act.put, List.setIfInBounds_toArray, List.set_cons_zero, List.set_cons_succ]
      refine wpAnyH_take (i := 7) (v := .pointer (some ⟨w.heap.size + 1, 1, none⟩)) rfl (by kernel_rfl) (by kernel_rfl) (by kernel_rfl) (fun _ _ _ h => h) (Or.inl ⟨by rfl, fun W hW => by obtain ⟨y0, y1, y2, y3⟩ := hW; go_simp⟩) HS0.out ?_
      simp only [List.getElem_toArray, List.getElem_cons_succ, List.getElem_cons_zero, Act.put, List.setIfInBounds_toArray, List.set_cons_zero, List.set_cons_succ]
      refine wpAnyH_take (i := 8) (v := .slice (some ⟨p2, o2, none⟩) c d2) rfl (by kernel_rfl) (by kernel_rfl) (by kernel_rfl) (fun _ _ _ h => h) (Or.inl ⟨by rfl, fun W hW => by obtain ⟨y0, y1, y2, y3⟩ := hW; go_simp⟩) HS0.out ?_
      simp only [List.getElem_toArray, List.getElem_cons_succ, List.getElem_cons_zero, Act.put, List.setIfInBounds_toArray, List.set_cons_zero, List.set_cons_succ]
      refine wpAnyH_take (i := 9) (v := .int .i64 k) rfl (by kernel_rfl) (by kernel_rfl) (by kernel_rfl) (fun _ _ _ h => h) (Or.inl ⟨by rfl, fun W hW => by obtain ⟨y0, y1, y2, y3⟩ := hW; go_simp⟩) HS0.out ?_
      simp only [List.getElem_toArray, List.getElem_cons_succ, List.getElem_cons_zero, Act.put, List.setIfInBounds_toArray, List.set_cons_zero, List.set_cons_succ]
      refine wpAnyH_take (i := 10) (v := .pointer (some ⟨p2, o2 + k * 37, none⟩)) rfl (by kernel_rfl) (by kernel_rfl) (by kernel_rfl) (fun _ _ _ h => h) (Or.inl ⟨by rfl, fun W hW => by obtain ⟨y0, y1, y2, y3⟩ := hW; go_simp⟩) HS0.out ?_
      simp only [List.getElem_toArray, List.getElem_cons_succ, List.getElem_cons_zero, Act.put, List.setIfInBounds_toArray, List.set_cons_zero, List.set_cons_succ]
      refine wpAnyH_take (i := 11) (v := .agg (hL h).toArray) rfl (by kernel_rfl) (by kernel_rfl) (by kernel_rfl) (fun _ _ _ h => h) ?hy11 HS0.out ?_
      case hy11 => exact yieldsIf_load_mid (by rfl) 39 (.tmp 58) rfl p2 (o2 + k * 37) (by simp [Act.eval]) (hL h) _ (fun W hW => hW.2.2.2) Try.underlying39 rfl (by rw [HLL.out]; exact iH)
      simp only [List.getElem_toArray, List.getElem_cons_succ, List.getElem_cons_zero, Act.put, List.setIfInBounds_toArray, List.set_cons_zero, List.set_cons_succ]
      refine wpAnyH_take (i := 12) (v := .bool false) rfl (by kernel_rfl) (by kernel_rfl) (by kernel_rfl) (fun _ _ _ h => h) ?hneq HS0.out ?_
      case hneq => exact yieldsIf_neq (by rfl) 39 39 (.tmp 53) (.tmp 59) rfl (hL h).toArray (hL h).toArray (by simp [Act.eval]) (by simp [Act.eval]) (by kernel_rfl) HNQ.out
      simp only [List.getElem_toArray, List.getElem_cons_succ, List.getElem_cons_zero, Act.put, List.setIfInBounds_toArray, List.set_cons_zero, List.set_cons_succ]
      refine wpAnyH_done (by kernel_rfl) ?_ _
      clear HS0 HNQ R1 R2 z1 z4
      go_wp2_with fail
      go_roundw
      case rel => exact ⟨k + 1, by omega, by go_num, Gr.drew HG.out⟩
      case measure => simp [intOf]; omega
    · go_wp2_with fail
      go_ret
      exact ⟨rfl, HG2.out.trans HG.out⟩
theorem Same_any {w : World} {a b : Value} {c mn : Nat} {S : Sh} (A : Shn w a c mn S) (B : Shn w b c mn S) (ho : S.out.length ≤ 1000000) (hc4 : c ≤ 4) :
    Calls Try.prog 16 #[a, b] w fun e w' => e = .returned (.bool true) ∧ Gr w w' := Same_w A.w B.w ho hc4
end Go.Proofs.Ytphklaefhpoimac.Mc
/-
  What ferrybridgeref12.Machines answers, of two machines that are the same.
-/
namespace Go.Proofs.Ytphklaefhpoimac.Ud
open Go.ChangeShapes Go.WideShapes Go.ChangeAt Go.RowKit Mm Hh Hc Mc
set_option linter.unusedVariables false
set_option linter.unusedSimpArgs false

/-- A machine that is read; of a slice that is nil no more is asked than that it reads as nothing. -/
def Mw (w : World) (v : Value) (c mn : Nat) (hs : List Hv) (m : List UInt8) : Prop := ∃ ma mc ha hc, v = .agg #[.slice ma mn mc, .slice ha c hc] ∧ Mem w ma mn m ∧ Hs w ha c hs
theorem Mv.mw {w : World} {v : Value} {c mn : Nat} {hs : List Hv} {m : List UInt8} (h : Mv w v c mn hs m) : Mw w v c mn hs m := by
  obtain ⟨ma, mc, ha, hc, e, h1, _, h3⟩ := h
  exact ⟨ma, mc, ha, hc, e, h1, h3⟩
theorem Mw.of {w w' : World} {v : Value} {c mn : Nat} {hs : List Hv} {m : List UInt8} (h : Mw w v c mn hs m) (G : Gr w w') : Mw w' v c mn hs m := by
  obtain ⟨ma, mc, ha, hc, e, h1, h3⟩ := h
  exact ⟨ma, mc, ha, hc, e, h1.of G, h3.of G⟩
theorem mw_zero (w : World) : Mw w (.agg #[.slice none 0 0, .slice none 0 0]) 0 0 [] [] := ⟨none, 0, none, 0, rfl, ⟨rfl, fun _ => rfl, fun ad e => by cases e⟩, ⟨rfl, fun h hm => (by cases hm), fun h => absurd h (by omega)⟩⟩
set_option maxHeartbeats 2000000 in
set_option maxRecDepth 100000 in
theorem Machines_same {w : World} {a b : Value} {c mn : Nat} {hs : List Hv} {m : List UInt8} (A : Mw w a c mn hs m) (B : Mw w b c mn hs m) (hc4 : c ≤ 4) :
    Calls Try.prog 6 #[a, b] w fun e w' => e = .returned (.bool true) ∧ Gr w w' := by
  obtain ⟨a1, c1, a2, c2, rfl, A1, A2⟩ := A
  obtain ⟨b1, d1, b2, d2, rfl, B1, B2⟩ := B
  have HS : Hid (∀ W : World, Gr w W → Calls Try.prog 16 #[.agg #[.slice a1 mn c1, .slice a2 c c2, .slice none 0 0, .int .i64 0], .agg #[.slice b1 mn d1, .slice b2 c d2, .slice none 0 0, .int .i64 0]] W fun e w' => e = .returned (.bool true) ∧ Gr W w') := fun W G =>
    Same_w (S := ⟨hs, m, [], 0⟩) ⟨a1, c1, a2, c2, none, 0, rfl, A1.of G, A2.of G, ⟨rfl, fun _ => rfl, fun ad e => by cases e⟩⟩ ⟨b1, d1, b2, d2, none, 0, rfl, B1.of G, B2.of G, ⟨rfl, fun _ => rfl, fun ad e => by cases e⟩⟩ (by simp) hc4
  clear A1 A2 B1 B2
  go_enter Try.func6, Try.ntmps6
  go_wp2_with fail
  refine (HS.out _ (((Gr.refl _).alloc _).alloc _)).mono ?_
  rintro e w1 ⟨rfl, G1⟩
  have HG1 : Hid (Gr w w1) := (((Gr.refl _).alloc _).alloc _).trans G1
  clear G1
  go_wp2_with fail
  go_ret
  exact ⟨rfl, HG1.out⟩
end Go.Proofs.Ytphklaefhpoimac.Ud
/-
  The walk of the law UndoBacks: of every machine, list of Undos and number of steps it answers true.
-/
namespace Go.Proofs.Ytphklaefhpoimac.undoBacks
open Go.ChangeShapes Go.WideShapes Go.ChangeAt Go.RowKit Mm Hh Hc Mc Ud
set_option linter.unusedVariables false
set_option linter.unusedSimpArgs false

variable {ma ha la : Option Addr} {mn mc hn hc ln lc : Nat} {st : Int} {hs : List Hv} {us : List Uv} {w : World} {m : List UInt8}
/-- Both answer alike. -/
theorem walk_two {c2 n2 : Nat} {E : Int} {hs2 : List Hv} {m2 : List UInt8} (h4 : c2 ≤ 4)
    (HX : ∀ W : World, Gr w W → Calls Try.prog 4 #[.agg #[.slice ma mn mc, .slice ha hn hc], .slice la ln lc, .int .i64 st] W fun e w' => ∃ a1 k1 a2 k2, e = .returned (.tuple #[.agg #[.slice a1 n2 k1, .slice a2 c2 k2], .int .i64 E]) ∧ Mem w' a1 n2 m2 ∧ Hs w' a2 c2 hs2 ∧ Gr W w')
    (HY : ∀ W : World, Gr w W → Calls Try.prog 5 #[.agg #[.slice ma mn mc, .slice ha hn hc], .slice la ln lc, .int .i64 st] W fun e w' => ∃ a1 k1 a2 k2, e = .returned (.tuple #[.agg #[.slice a1 n2 k1, .slice a2 c2 k2], .int .i64 E]) ∧ Mem w' a1 n2 m2 ∧ Hs w' a2 c2 hs2 ∧ Gr W w') :
    Calls Try.prog 3 #[.agg #[.slice ma mn mc, .slice ha hn hc], .slice la ln lc, .int .i64 st] w fun e w' => e = .returned (.bool true) ∧ Gr w w' := by
  have HX' : Hid _ := HX
  have HY' : Hid _ := HY
  have hE : (E == E) = true := by simp
  clear HX HY
  go_enter Try.func3, Try.ntmps3
  go_wp2_with fail
  refine (HX'.out _ ((Gr.refl _).alloc _)).mono ?_
  rintro e w1 ⟨a1, k1, a2, k2, rfl, M1, H1, G1⟩
  have HG1 : Hid (Gr w w1) := ((Gr.refl _).alloc _).trans G1
  have HM1 : Hid (Mem w1 a1 n2 m2 ∧ Hs w1 a2 c2 hs2) := ⟨M1, H1⟩
  have HA1 : Hid (w1.heap[w.heap.size]? = some (.cells #[.slice ma mn mc, .slice ha hn hc] 25 (0, 0))) := Hr.heap_of_gr G1 (heap_alloc_new w _)
  have x0 := cr0 HA1.out
  have x1 := cr1 HA1.out
  have hl1 : w.heap.size < w1.heap.size := (gs HA1.out).1
  clear G1 M1 H1 HX'
  go_wp2_with fail
  refine (HY'.out _ (HG1.out.alloc _)).mono ?_
  rintro e w2 ⟨b1, j1, b2, j2, rfl, M2, H2, G2⟩
  have HG12 : Hid (Gr w1 w2) := ((Gr.refl _).alloc _).trans G2
  have HM2 : Hid (Mem w2 b1 n2 m2 ∧ Hs w2 b2 c2 hs2) := ⟨M2, H2⟩
  have HD2 : Hid (w2.heap[w1.heap.size]? = some (.cells #[.slice a1 n2 k1, .slice a2 c2 k2] 25 (0, 0))) := Hr.heap_of_gr G2 (heap_alloc_new w1 _)
  have y0 := cr0 HD2.out
  have y1 := cr1 HD2.out
  have hl2 : w1.heap.size < w2.heap.size := (gs HD2.out).1
  clear G2 M2 H2 HY' x0 x1
  go_wp2_with fail
  refine (Machines_same ⟨a1, k1, a2, k2, rfl, HM1.out.1.of (HG12.out.alloc _), HM1.out.2.of (HG12.out.alloc _)⟩ ⟨b1, j1, b2, j2, rfl, HM2.out.1.of ((Gr.refl _).alloc _), HM2.out.2.of ((Gr.refl _).alloc _)⟩ h4).mono ?_
  rintro e w3 ⟨rfl, G3⟩
  have HG3 : Hid (Gr w w3) := ((HG1.out.trans HG12.out).alloc _).trans G3
  clear G3 y0 y1
  go_wp2_with fail
  go_ret
  exact ⟨rfl, HG3.out⟩
theorem walk (M : Mem w ma mn m) (hcap : ma = none → mc = 0) (H : Hs w ha hn hs) (U : Us w la ln us) (b1 : mn ≤ 140737488351232) (b2 : hn ≤ 140737488351232) (b3 : ln ≤ 140737488351232) (hlc : ln ≤ lc) (s0 : -9223372036854775808 ≤ st) (s1 : st ≤ 9223372036854775807) :
    Calls Try.prog 3 #[.agg #[.slice ma mn mc, .slice ha hn hc], .slice la ln lc, .int .i64 st] w fun e w' => e = .returned (.bool true) ∧ Gr w w' := by
  by_cases hy : bkE mn hs us st = 0
  · have h4 : hn ≤ 4 := by
      have := hy
      unfold bkE at this
      by_cases h1 : mayM mn hs = false
      · rw [if_pos h1] at this; cases this
      · rw [Bool.not_eq_false] at h1
        unfold mayM at h1
        simp only [Bool.and_eq_true, decide_eq_true_eq, H.len] at h1
        exact h1.1.2.2
    refine walk_two (E := 0) (c2 := hn) (n2 := mn) (hs2 := (backs (hs, m) (us.drop (ln - st.toNat))).1) (m2 := (backs (hs, m) (us.drop (ln - st.toNat))).2) h4 (fun W G => ?_) (fun W G => ?_)
    · refine (UBack_yes (M.of G) hcap (H.of G) (U.of G) b3 hlc hy).mono ?_
      rintro e w' ⟨v, rfl, ⟨a1, k1, a2, k2, rfl, M1, _, H1⟩, G1⟩
      exact ⟨a1, k1, a2, k2, rfl, M1, H1, G1⟩
    · refine (ZBack_any (M.of G) hcap (H.of G) (U.of G) b1 b2 b3 s0 s1).mono ?_
      rintro e w' (⟨h, _⟩ | ⟨_, v, rfl, ⟨a1, k1, a2, k2, rfl, M1, _, H1⟩, G1⟩)
      · exact absurd hy h
      · exact ⟨a1, k1, a2, k2, rfl, M1, H1, G1⟩
  · have Z : ∀ W : World, Mem W none 0 [] ∧ Hs W none 0 [] := fun W => ⟨Mem.none W, ⟨rfl, fun h hm => (by cases hm), fun h => absurd h (by omega)⟩⟩
    refine walk_two (E := bkE mn hs us st) (c2 := 0) (n2 := 0) (hs2 := []) (m2 := []) (by omega) (fun W G => ?_) (fun W G => ?_)
    · refine (UBack_no (H.of G) (U.of G) b1 b2 b3 hy).mono ?_
      rintro e w' ⟨rfl, G1⟩
      exact ⟨none, 0, none, 0, rfl, (Z w').1, (Z w').2, G1⟩
    · refine (ZBack_any (M.of G) hcap (H.of G) (U.of G) b1 b2 b3 s0 s1).mono ?_
      rintro e w' (⟨_, rfl, G1⟩ | ⟨h, _⟩)
      · exact ⟨none, 0, none, 0, rfl, (Z w').1, (Z w').2, G1⟩
      · exact absurd h hy
end Go.Proofs.Ytphklaefhpoimac.undoBacks
