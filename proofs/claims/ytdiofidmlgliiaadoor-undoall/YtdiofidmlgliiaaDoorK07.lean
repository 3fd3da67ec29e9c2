/-
  Ub4: texts of ours that lie in one file.
-/
import Derived.Test.YtdiofidmlgliiaaDoorK05
import Derived.Test.YtdiofidmlgliiaaDoorK06
/-
  What package undo's Back answers: what is wrong; else the machine in which steps are taken back.
-/
namespace Go.Proofs.YtdiofidmlgliiaaDoor.Ud
open Go.ChangeShapes Go.WideShapes Go.ChangeAt Go.RowKit Go.Shelf Mm Hh Hc Mc
set_option linter.unusedVariables false
set_option linter.unusedSimpArgs false
attribute [local go_sem] Oper.semAt_some

/-- What is wrong (an Errno). -/
def bkE (mn : Nat) (hs : List Hv) (us : List Uv) (st : Int) : Int := if mayM mn hs = false then 2 else if us.all (fitU hs.length mn) = false then 2 else if st < 0 ∨ (us.length : Int) < st then 3 else 0
/-- No panic is let out. -/
def noP (Q : Exit → Act → World → Prop) : Exit → Act → World → Prop
  | .panic _, _, _ => False
  | e, a, w => Q e a w
theorem wp_noP {P : Program} {c : Code} {Q : Exit → Act → World → Prop} {a : Act} {w : World} (h : c.wp P (noP Q) a w) : c.wp P Q a w := Code.wp_mono (fun e a w h => by cases e <;> first | exact h | exact h.elim) h
theorem noP_n {Q : Exit → Act → World → Prop} {a : Act} {w : World} (h : Q .normal a w) : noP Q .normal a w := h
theorem iMc : (Tryd.prog.info? 34).map (·.size) = some 2 := by kernel_rfl
set_option maxHeartbeats 2000000 in
set_option maxRecDepth 100000 in
theorem UBack_may {ma ha la : Option Addr} {mn mc hn hc ln lc : Nat} {st : Int} {hs : List Hv} {w : World} (H : Hs w ha hn hs) (b1 : mn ≤ 140737488351232) (b2 : hn ≤ 140737488351232) (h1 : mayM mn hs = false) :
    Calls Tryd.prog 17 #[.agg #[.slice ma mn mc, .slice ha hn hc], .slice la ln lc, .int .i64 st] w fun e w' => e = .returned (.tuple #[.agg #[.slice none 0 0, .slice none 0 0], .int .i64 2]) ∧ Gr w w' := by
  have HMy : Hid (∀ W : World, Gr w W → Calls Tryd.prog 34 #[.agg #[.slice ma mn mc, .slice ha hn hc]] W fun e w' => e = .returned (.bool false) ∧ Gr W w') := fun W G => by rw [← h1]; exact MMay_any mc hc mn (H.of G) b1 b2
  clear H
  go_enter Tryd.func17, Tryd.ntmps17
  go_wp2_with fail
  refine (HMy.out _ (((Gr.refl _).alloc _).alloc _)).mono ?_
  rintro e w1 ⟨rfl, G1⟩
  have HG1 : Hid (Gr w w1) := (((Gr.refl _).alloc _).alloc _).trans G1
  have HA1 : Hid (w1.heap[w.heap.size]? = some (.cells #[.slice ma mn mc, .slice ha hn hc] 34 (0, 0))) := (two_of G1).1
  have HB1 : Hid (w1.heap[w.heap.size + 1]? = some (.cells #[.slice none 0 0, .slice none 0 0] 34 (0, 0))) := (two_of G1).2
  have m0 := cr0 HA1.out
  have m1 := cr1 HA1.out
  clear G1 HMy
  go_wp2_with (refine wpList_store_row rfl 34 _ _ rfl (w.heap.size + 1) #[.slice none 0 0, .slice none 0 0] rfl rfl 34 #[.slice none 0 0, .slice none 0 0] ?hb iMc rfl (by kernel_rfl) ?_; (case hb => exact HB1.out))
  refine bodyPost_ret (v := .tuple #[.agg _, .int .i64 2]) (Hr.results_cell_tmp' Tryd.results17 _ _ _ _ _ (0, 0) _ _ rfl rfl (srh HB1.out) Tryd.underlying34 rfl iMc) rfl ⟨rfl, ?_⟩
  exact gr_setRow HG1.out (Nat.le_succ _) _
set_option maxHeartbeats 2000000 in
set_option maxRecDepth 100000 in
theorem UBack_fit {ma ha la : Option Addr} {mn mc hn hc ln lc : Nat} {st : Int} {hs : List Hv} {us : List Uv} {w : World} (H : Hs w ha hn hs) (U : Us w la ln us) (b1 : mn ≤ 140737488351232) (b2 : hn ≤ 140737488351232) (b3 : ln ≤ 140737488351232) (h1 : mayM mn hs = true) (h2 : us.all (fitU hn mn) = false) :
    Calls Tryd.prog 17 #[.agg #[.slice ma mn mc, .slice ha hn hc], .slice la ln lc, .int .i64 st] w fun e w' => e = .returned (.tuple #[.agg #[.slice none 0 0, .slice none 0 0], .int .i64 2]) ∧ Gr w w' := by
  have HMy : Hid (∀ W : World, Gr w W → Calls Tryd.prog 34 #[.agg #[.slice ma mn mc, .slice ha hn hc]] W fun e w' => e = .returned (.bool true) ∧ Gr W w') := fun W G => by rw [← h1]; exact MMay_any mc hc mn (H.of G) b1 b2
  have HFt : Hid (∀ W : World, Gr w W → Calls Tryd.prog 35 #[.agg #[.slice ma mn mc, .slice ha hn hc], .slice la ln lc] W fun e w' => e = .returned (.bool false) ∧ Gr W w') := fun W G => by rw [← h2]; exact fit_any (U.of G) b1 b2 b3
  clear H U
  go_enter Tryd.func17, Tryd.ntmps17
  go_wp2_with fail
  refine (HMy.out _ (((Gr.refl _).alloc _).alloc _)).mono ?_
  rintro e w1 ⟨rfl, G1⟩
  have HG1 : Hid (Gr w w1) := (((Gr.refl _).alloc _).alloc _).trans G1
  have HA1 : Hid (w1.heap[w.heap.size]? = some (.cells #[.slice ma mn mc, .slice ha hn hc] 34 (0, 0))) := (two_of G1).1
  have HB1 : Hid (w1.heap[w.heap.size + 1]? = some (.cells #[.slice none 0 0, .slice none 0 0] 34 (0, 0))) := (two_of G1).2
  have m0 := cr0 HA1.out
  have m1 := cr1 HA1.out
  clear G1 HMy
  go_wp2_with fail
  refine (HFt.out _ HG1.out).mono ?_
  rintro e w2 ⟨rfl, G2⟩
  have HG2 : Hid (Gr w w2) := HG1.out.trans G2
  have HA2 : Hid (w2.heap[w.heap.size]? = some (.cells #[.slice ma mn mc, .slice ha hn hc] 34 (0, 0))) := Hr.heap_of_gr G2 HA1.out
  have HB2 : Hid (w2.heap[w.heap.size + 1]? = some (.cells #[.slice none 0 0, .slice none 0 0] 34 (0, 0))) := Hr.heap_of_gr G2 HB1.out
  clear G2 HFt m0 m1 HG1 HA1 HB1
  go_wp2_with (refine wpList_store_row rfl 34 _ _ rfl (w.heap.size + 1) #[.slice none 0 0, .slice none 0 0] rfl rfl 34 #[.slice none 0 0, .slice none 0 0] ?hb iMc rfl (by kernel_rfl) ?_; (case hb => exact HB2.out))
  refine bodyPost_ret (v := .tuple #[.agg _, .int .i64 2]) (Hr.results_cell_tmp' Tryd.results17 _ _ _ _ _ (0, 0) _ _ rfl rfl (srh HB2.out) Tryd.underlying34 rfl iMc) rfl ⟨rfl, ?_⟩
  exact gr_setRow HG2.out (Nat.le_succ _) _
set_option maxHeartbeats 2000000 in
set_option maxRecDepth 100000 in
theorem UBack_rng {ma ha la : Option Addr} {mn mc hn hc ln lc : Nat} {st : Int} {hs : List Hv} {us : List Uv} {w : World} (H : Hs w ha hn hs) (U : Us w la ln us) (b1 : mn ≤ 140737488351232) (b2 : hn ≤ 140737488351232) (b3 : ln ≤ 140737488351232) (h1 : mayM mn hs = true) (h2 : us.all (fitU hn mn) = true) (h3 : st < 0 ∨ (¬ st < 0 ∧ (ln : Int) < st)) :
    Calls Tryd.prog 17 #[.agg #[.slice ma mn mc, .slice ha hn hc], .slice la ln lc, .int .i64 st] w fun e w' => e = .returned (.tuple #[.agg #[.slice none 0 0, .slice none 0 0], .int .i64 3]) ∧ Gr w w' := by
  have HMy : Hid (∀ W : World, Gr w W → Calls Tryd.prog 34 #[.agg #[.slice ma mn mc, .slice ha hn hc]] W fun e w' => e = .returned (.bool true) ∧ Gr W w') := fun W G => by rw [← h1]; exact MMay_any mc hc mn (H.of G) b1 b2
  have HFt : Hid (∀ W : World, Gr w W → Calls Tryd.prog 35 #[.agg #[.slice ma mn mc, .slice ha hn hc], .slice la ln lc] W fun e w' => e = .returned (.bool true) ∧ Gr W w') := fun W G => by rw [← h2]; exact fit_any (U.of G) b1 b2 b3
  clear H U h1 h2
  rcases h3 with h3 | ⟨h3, h4⟩
  · skip
    go_enter Tryd.func17, Tryd.ntmps17
    go_wp2_with fail
    refine (HMy.out _ (((Gr.refl _).alloc _).alloc _)).mono ?_
    rintro e w1 ⟨rfl, G1⟩
    have HG1 : Hid (Gr w w1) := (((Gr.refl _).alloc _).alloc _).trans G1
    have HA1 : Hid (w1.heap[w.heap.size]? = some (.cells #[.slice ma mn mc, .slice ha hn hc] 34 (0, 0))) := (two_of G1).1
    have HB1 : Hid (w1.heap[w.heap.size + 1]? = some (.cells #[.slice none 0 0, .slice none 0 0] 34 (0, 0))) := (two_of G1).2
    have m0 := cr0 HA1.out
    have m1 := cr1 HA1.out
    clear G1 HMy
    go_wp2_with fail
    refine (HFt.out _ HG1.out).mono ?_
    rintro e w2 ⟨rfl, G2⟩
    have HG2 : Hid (Gr w w2) := HG1.out.trans G2
    have HA2 : Hid (w2.heap[w.heap.size]? = some (.cells #[.slice ma mn mc, .slice ha hn hc] 34 (0, 0))) := Hr.heap_of_gr G2 HA1.out
    have HB2 : Hid (w2.heap[w.heap.size + 1]? = some (.cells #[.slice none 0 0, .slice none 0 0] 34 (0, 0))) := Hr.heap_of_gr G2 HB1.out
    clear G2 HFt m0 m1 HG1 HA1 HB1
    go_wp2_with (refine wpList_store_row rfl 34 _ _ rfl (w.heap.size + 1) #[.slice none 0 0, .slice none 0 0] rfl rfl 34 #[.slice none 0 0, .slice none 0 0] ?hb iMc rfl (by kernel_rfl) ?_; (case hb => exact HB2.out))
    refine bodyPost_ret (v := .tuple #[.agg _, .int .i64 3]) (Hr.results_cell_tmp' Tryd.results17 _ _ _ _ _ (0, 0) _ _ rfl rfl (srh HB2.out) Tryd.underlying34 rfl iMc) rfl ⟨rfl, ?_⟩
    exact gr_setRow HG2.out (Nat.le_succ _) _
  · skip
    go_enter Tryd.func17, Tryd.ntmps17
    go_wp2_with fail
    refine (HMy.out _ (((Gr.refl _).alloc _).alloc _)).mono ?_
    rintro e w1 ⟨rfl, G1⟩
    have HG1 : Hid (Gr w w1) := (((Gr.refl _).alloc _).alloc _).trans G1
    have HA1 : Hid (w1.heap[w.heap.size]? = some (.cells #[.slice ma mn mc, .slice ha hn hc] 34 (0, 0))) := (two_of G1).1
    have HB1 : Hid (w1.heap[w.heap.size + 1]? = some (.cells #[.slice none 0 0, .slice none 0 0] 34 (0, 0))) := (two_of G1).2
    have m0 := cr0 HA1.out
    have m1 := cr1 HA1.out
    clear G1 HMy
    go_wp2_with fail
    refine (HFt.out _ HG1.out).mono ?_
    rintro e w2 ⟨rfl, G2⟩
    have HG2 : Hid (Gr w w2) := HG1.out.trans G2
    have HA2 : Hid (w2.heap[w.heap.size]? = some (.cells #[.slice ma mn mc, .slice ha hn hc] 34 (0, 0))) := Hr.heap_of_gr G2 HA1.out
    have HB2 : Hid (w2.heap[w.heap.size + 1]? = some (.cells #[.slice none 0 0, .slice none 0 0] 34 (0, 0))) := Hr.heap_of_gr G2 HB1.out
    clear G2 HFt m0 m1 HG1 HA1 HB1
    go_wp2_with (refine wpList_store_row rfl 34 _ _ rfl (w.heap.size + 1) #[.slice none 0 0, .slice none 0 0] rfl rfl 34 #[.slice none 0 0, .slice none 0 0] ?hb iMc rfl (by kernel_rfl) ?_; (case hb => exact HB2.out))
    refine bodyPost_ret (v := .tuple #[.agg _, .int .i64 3]) (Hr.results_cell_tmp' Tryd.results17 _ _ _ _ _ (0, 0) _ _ rfl rfl (srh HB2.out) Tryd.underlying34 rfl iMc) rfl ⟨rfl, ?_⟩
    exact gr_setRow HG2.out (Nat.le_succ _) _
theorem UBack_no {ma ha la : Option Addr} {mn mc hn hc ln lc : Nat} {st : Int} {hs : List Hv} {us : List Uv} {w : World} (H : Hs w ha hn hs) (U : Us w la ln us) (b1 : mn ≤ 140737488351232) (b2 : hn ≤ 140737488351232) (b3 : ln ≤ 140737488351232) (hno : ¬ bkE mn hs us st = 0) :
    Calls Tryd.prog 17 #[.agg #[.slice ma mn mc, .slice ha hn hc], .slice la ln lc, .int .i64 st] w fun e w' => e = .returned (.tuple #[.agg #[.slice none 0 0, .slice none 0 0], .int .i64 (bkE mn hs us st)]) ∧ Gr w w' := by
  have hl := H.len
  have ul := U.len
  unfold bkE at hno ⊢
  rw [hl] at hno ⊢
  by_cases h1 : mayM mn hs = false
  · rw [if_pos h1]; exact UBack_may H b1 b2 h1
  · rw [if_neg h1] at hno ⊢
    rw [Bool.not_eq_false] at h1
    by_cases h2 : us.all (fitU hn mn) = false
    · rw [if_pos h2]; exact UBack_fit H U b1 b2 b3 h1 h2
    · rw [if_neg h2] at hno ⊢
      rw [Bool.not_eq_false] at h2
      by_cases h3 : st < 0 ∨ (us.length : Int) < st
      · rw [if_pos h3]
        exact UBack_rng H U b1 b2 b3 h1 h2 (by omega)
      · exact absurd (if_neg h3) hno
/-- Where a cut of Undos begins. -/
def cutP41 (mo : Option Addr) (cap f : Nat) : Option Addr := if cap = f then mo else mo.map fun ad => ad.add (f * 41)
/-- A machine as it is answered. -/
def Mv (w : World) (v : Value) (c mn : Nat) (hs : List Hv) (m : List UInt8) : Prop := ∃ ma mc ha hc, v = .agg #[.slice ma mn mc, .slice ha c hc] ∧ Mem w ma mn m ∧ (ma = none → mc = 0) ∧ Hs w ha c hs
theorem Mv.of {w w' : World} {v : Value} {c mn : Nat} {hs : List Hv} {m : List UInt8} (h : Mv w v c mn hs m) (G : Gr w w') : Mv w' v c mn hs m := by
  obtain ⟨ma, mc, ha, hc, e, h1, h2, h3⟩ := h
  exact ⟨ma, mc, ha, hc, e, h1.of G, h2, h3.of G⟩
theorem us_drop {w : World} {la : Option Addr} {ln lc q : Nat} {us : List Uv} (U : Us w la ln us) (hq : q ≤ ln) (hc : ln ≤ lc) : Us w (cutP41 la lc q) (ln - q) (us.drop q) := by
  have hl := U.len
  refine ⟨by rw [List.length_drop, hl], fun hn => ?_⟩
  obtain ⟨b, o, rfl, hb, h⟩ := U.spot (by omega)
  have e : cutP41 (some ⟨b, o, none⟩) lc q = some ⟨b, o + q * 41, none⟩ := by unfold cutP41; rw [if_neg (by omega), Option.map_some, add_at]
  refine ⟨b, o + q * 41, e, hb, fun j u hj => ?_⟩
  rw [List.getElem?_drop] at hj
  obtain ⟨x, h1, h2⟩ := h _ u hj
  exact ⟨x, h1, fun i v hi => by have := h2 i v hi; rw [show o + q * 41 + j * 41 + i = o + (q + j) * 41 + i by omega]; exact this⟩
theorem backs_rev (s : List Hv × List UInt8) (l : List Uv) : l.reverse.foldl back1 s = backs s l := by
  unfold backs
  rw [List.foldl_reverse]
/-- Rows of cells stay: so does a machine of one's own. -/
theorem Mz.kept {w w' : World} {n z gh hc : Nat} {M : Value} {hs : List Hv} {m : List UInt8} (Z : Mz w n z M gh hc hs m) (q : ∀ (k : Nat) (o : Array Value) (t : Nat) (f : Nat × Nat), w.heap[k]? = some (.cells o t f) → w'.heap[k]? = w.heap[k]?) : Mz w' n z M gh hc hs m :=
  ⟨(q _ _ _ _ Z.blk).trans Z.blk, Z.bz, Z.mem.to fun k o f e => q k o _ f e, Z.bh, Z.row.to fun k o f e => q k o _ f e⟩
theorem kept_cells {W W' : World} {row : Option Nat} {B : Nat} (hg : W.grownBy W' row) (hr : ∀ r, row = some r → B ≤ r ∧ ∃ o : Obj, W.heap[r]? = some o ∧ o.isCells = false) : ∀ (k : Nat) (o : Array Value) (t : Nat) (f : Nat × Nat), W.heap[k]? = some (.cells o t f) → W'.heap[k]? = W.heap[k]? := fun k o t f e => by
  refine hg.block k (gs e).1 (fun e2 => ?_)
  obtain ⟨_, ob, h1, h2⟩ := hr k e2.symm
  rw [e] at h1
  injection h1 with h1
  subst h1
  cases h2
theorem back_len (s : List Hv × List UInt8) (u : Uv) {c mn : Nat} (h1 : s.1.length = c) (h2 : s.2.length = mn) (hf : fitU c mn u = true) (f0 : 0 ≤ u.fr) : (back1 s u).1.length = c ∧ (back1 s u).2.length = mn := by
  unfold fitU at hf
  simp only [Bool.and_eq_true, decide_eq_true_eq] at hf
  have := hf.2.2.1
  unfold back1 lay
  refine ⟨by simp [gives_len, h1], ?_⟩
  simp
  omega
theorem folds_len {c mn : Nat} : ∀ (l : List Uv) (s : List Hv × List UInt8), s.1.length = c → s.2.length = mn → (∀ u ∈ l, fitU c mn u = true ∧ 0 ≤ u.fr) → (l.foldl back1 s).1.length = c ∧ (l.foldl back1 s).2.length = mn
  | [], s, h1, h2, _ => ⟨h1, h2⟩
  | u :: r, s, h1, h2, h => by
    have := back_len s u h1 h2 (h u (by simp)).1 (h u (by simp)).2
    exact folds_len r (back1 s u) this.1 this.2 (fun v hv => h v (by simp [hv]))
set_option maxHeartbeats 4000000 in
set_option maxRecDepth 100000 in
theorem UBack_yes {ma ha la : Option Addr} {mn mc hn hc ln lc : Nat} {st : Int} {hs : List Hv} {us : List Uv} {w : World} {m : List UInt8} (M : Mem w ma mn m) (hcap : ma = none → mc = 0) (H : Hs w ha hn hs) (U : Us w la ln us) (b3 : ln ≤ 140737488351232) (hlc : ln ≤ lc) (hy : bkE mn hs us st = 0) :
    Calls Tryd.prog 17 #[.agg #[.slice ma mn mc, .slice ha hn hc], .slice la ln lc, .int .i64 st] w fun e w' => ∃ v, e = .returned (.tuple #[v, .int .i64 0]) ∧ Mv w' v hn mn (backs (hs, m) (us.drop (ln - st.toNat))).1 (backs (hs, m) (us.drop (ln - st.toNat))).2 ∧ Gr w w' := by
  have hl := H.len
  have ul := U.len
  have ml := M.len
  unfold bkE at hy
  rw [hl] at hy
  by_cases h1 : mayM mn hs = false
  · rw [if_pos h1] at hy; cases hy
  rw [if_neg h1, Bool.not_eq_false] at *
  by_cases h2 : us.all (fitU hn mn) = false
  · rw [if_pos h2] at hy; cases hy
  rw [if_neg h2, Bool.not_eq_false] at *
  by_cases h3 : st < 0 ∨ (us.length : Int) < st
  · rw [if_pos h3] at hy; cases hy
  clear hy
  obtain ⟨s, rfl⟩ := Int.eq_ofNat_of_zero_le (show 0 ≤ st by omega)
  have hs1 : ¬ (s : Int) < 0 := by omega
  have hs2 : ¬ (ln : Int) < (s : Int) := by omega
  have hs3 : s ≤ ln := by omega
  rw [Int.toNat_natCast]
  have hmm : mn ≤ 4096 ∧ 1 ≤ hn ∧ hn ≤ 4 := by
    unfold mayM at h1
    simp only [Bool.and_eq_true, decide_eq_true_eq, hl] at h1
    exact h1.1
  obtain ⟨m4, n1, n4⟩ := hmm
  have b1 : mn ≤ 140737488351232 := by omega
  have b2 : hn ≤ 140737488351232 := by omega
  have HMy : Hid (∀ W : World, Gr w W → Calls Tryd.prog 34 #[.agg #[.slice ma mn mc, .slice ha hn hc]] W fun e w' => e = .returned (.bool true) ∧ Gr W w') := fun W G => by rw [← h1]; exact MMay_any mc hc mn (H.of G) b1 b2
  have HFt : Hid (∀ W : World, Gr w W → Calls Tryd.prog 35 #[.agg #[.slice ma mn mc, .slice ha hn hc], .slice la ln lc] W fun e w' => e = .returned (.bool true) ∧ Gr W w') := fun W G => by rw [← h2]; exact fit_any (U.of G) b1 b2 b3
  have HUD : Hid (Us w (cutP41 la lc (ln - s)) (ln - (ln - s)) (us.drop (ln - s))) := us_drop U (by omega) hlc
  have HFU : Hid (∀ u ∈ us.drop (ln - s), fitU hn mn u = true) := fun u hu => by
    have := List.all_eq_true.1 h2 u (List.mem_of_mem_drop hu)
    exact this
  have hla : (la = none ∧ ln = 0) ∨ ∃ b o, la = some ⟨b, o, none⟩ ∨ ln = 0 := by
    by_cases h0 : 0 < ln
    · obtain ⟨b, o, e, _⟩ := U.spot h0
      exact .inr ⟨b, o, .inl e⟩
    · exact .inr ⟨0, 0, .inr (by omega)⟩
  obtain ⟨hb, ho, he, _, _⟩ := H.spot (by omega)
  subst he
  have C1 : Hid (∀ W : World, Gr w W → Calls Tryd.prog 36 #[.slice ma mn mc] W fun e w' => ∃ a c, e = .returned (.slice a mn c) ∧ Hc.Own w' w.heap.size (.slice a mn c) m ∧ Gr W w') := fun W G => (Clone_any (M.of G) hcap (by omega)).mono fun e w' ⟨v, e1, e2, e3⟩ => by
    obtain ⟨a, c, rfl, _⟩ := e2.mem
    rw [ml] at e1 e2
    exact ⟨a, c, e1, e2.base (w' := w') G.size, e3⟩
  have C2 : Hid (∀ W : World, Gr w W → Calls Tryd.prog 37 #[.slice (some ⟨hb, ho, none⟩) hn hc] W fun e w' => ∃ g c, e = .returned (.slice (some ⟨g, 0, none⟩) hn c) ∧ w.heap.size ≤ g ∧ HRow w' g hs ∧ Gr W w') := fun W G => (HClone_any hc (H.of G) n1 n4).mono fun e w' ⟨g, c, e1, e2, e3⟩ => ⟨g, c, e1, Nat.le_trans G.size e2, e3⟩
  have HHL : Hid (hs.length = hn) := hl
  have HML : Hid (m.length = mn) := ml
  have HUL : Hid (us.length = ln) := ul
  have e1 : IntKind.i64.wrap ((ln : Int) - (s : Int)) = ((ln - s : Nat) : Int) := by simp [IntKind.wrap, IntKind.bits, IntKind.signed]; omega
  clear H U M hcap h1 h2 h3 hl ul ml
  refine callsIn_wide.1 (callsIn_of_wp_marks (F := Fence.wide) (n := 9) Tryd.func17 rfl trivial ?_ rfl)
  refine wpIn_wide.2 ?_
  simp only [Tryd.ntmps17, List.size_toArray, List.length_cons, List.length_nil, Nat.reduceAdd, Nat.reduceSub, Array.replicate_succ, Array.replicate_zero, List.push_toArray, List.append_toArray, List.nil_append, List.cons_append]
  go_wp2_with fail
  refine (HMy.out _ (((Gr.refl _).alloc _).alloc _)).mono ?_
  rintro e w1 ⟨rfl, G1⟩
  have HG1 : Hid (Gr w w1) := (((Gr.refl _).alloc _).alloc _).trans G1
  have HA1 : Hid (w1.heap[w.heap.size]? = some (.cells #[.slice ma mn mc, .slice (some ⟨hb, ho, none⟩) hn hc] 34 (0, 0))) := (two_of G1).1
  have HB1 : Hid (w1.heap[w.heap.size + 1]? = some (.cells #[.slice none 0 0, .slice none 0 0] 34 (0, 0))) := (two_of G1).2
  have m0 := cr0 HA1.out
  have m1 := cr1 HA1.out
  clear G1 HMy
  go_wp2_with fail
  refine (HFt.out _ HG1.out).mono ?_
  rintro e w2 ⟨rfl, G2⟩
  have HG2 : Hid (Gr w w2) := HG1.out.trans G2
  have HA2 : Hid (w2.heap[w.heap.size]? = some (.cells #[.slice ma mn mc, .slice (some ⟨hb, ho, none⟩) hn hc] 34 (0, 0))) := Hr.heap_of_gr G2 HA1.out
  have HB2 : Hid (w2.heap[w.heap.size + 1]? = some (.cells #[.slice none 0 0, .slice none 0 0] 34 (0, 0))) := Hr.heap_of_gr G2 HB1.out
  clear G2 HFt m0 m1 HG1 HA1 HB1
  have m0 := cr0 HA2.out
  have m1 := cr1 HA2.out
  go_wp2_with fail
  have HSv : Hid (∀ V : World, Gr w2 V → (fun W => W.cell? ⟨w.heap.size, 0, none⟩ = some (.slice ma mn mc) ∧ W.cell? ⟨w.heap.size, 1, none⟩ = some (.slice (some ⟨hb, ho, none⟩) hn hc)) V) := fun V G => ⟨cr0 (Hr.heap_of_gr G HA2.out), cr1 (Hr.heap_of_gr G HA2.out)⟩
  refine wp_noP ?_
  refine wp_region_held_drew (S := fun W => W.cell? ⟨w.heap.size, 0, none⟩ = some (.slice ma mn mc) ∧ W.cell? ⟨w.heap.size, 1, none⟩ = some (.slice (some ⟨hb, ho, none⟩) hn hc)) (by kernel_rfl) (HSv.out _ (Gr.drew (Gr.refl _))) (fun hHeld => ?_)
  have HS0 : Hid _ := hHeld
  clear hHeld
  refine wpAnyH_take (i := 0) (v := .pointer (some ⟨w.heap.size, 0, none⟩)) rfl (by kernel_rfl) (by kernel_rfl) (by kernel_rfl) (fun _ _ _ h => h) (Or.inl ⟨by rfl, fun W hW => by obtain ⟨y0, y1⟩ := hW; go_simp⟩) HS0.out ?_
  simp only [List.getElem_toArray, List.getElem_cons_succ, List.getElem_cons_zero, Act.put, List.setIfInBounds_toArray, List.set_cons_zero, List.set_cons_succ]
  refine wpAnyH_take (i := 1) (v := .slice ma mn mc) rfl (by kernel_rfl) (by kernel_rfl) (by kernel_rfl) (fun _ _ _ h => h) (Or.inl ⟨by rfl, fun W hW => by obtain ⟨y0, y1⟩ := hW; go_simp⟩) HS0.out ?_
  simp only [List.getElem_toArray, List.getElem_cons_succ, List.getElem_cons_zero, Act.put, List.setIfInBounds_toArray, List.set_cons_zero, List.set_cons_succ]
  refine wpAnyH_take (i := 3) (v := .pointer (some ⟨w.heap.size, 1, none⟩)) rfl (by kernel_rfl) (by kernel_rfl) (by kernel_rfl) (fun _ _ _ h => h) (Or.inl ⟨by rfl, fun W hW => by obtain ⟨y0, y1⟩ := hW; go_simp⟩) HS0.out ?_
  simp only [List.getElem_toArray, List.getElem_cons_succ, List.getElem_cons_zero, Act.put, List.setIfInBounds_toArray, List.set_cons_zero, List.set_cons_succ]
  refine wpAnyH_take (i := 4) (v := .slice (some ⟨hb, ho, none⟩) hn hc) rfl (by kernel_rfl) (by kernel_rfl) (by kernel_rfl) (fun _ _ _ h => h) (Or.inl ⟨by rfl, fun W hW => by obtain ⟨y0, y1⟩ := hW; go_simp⟩) HS0.out ?_
  simp only [List.getElem_toArray, List.getElem_cons_succ, List.getElem_cons_zero, Act.put, List.setIfInBounds_toArray, List.set_cons_zero, List.set_cons_succ]
  obtain ⟨FA, HFA⟩ : ∃ FA : Nat → Option Addr → Nat → Nat → Nat → World → Prop, Hid (FA = fun (z : Nat) (a2 : Option Addr) (c2 g3 c3 : Nat) (V : World) => V.heap[z]? = some (.cells #[.slice none 0 0, .slice none 0 0] 34 (0, 0)) ∧ w2.heap.size ≤ z ∧ Hc.Own V w.heap.size (.slice a2 mn c2) m ∧ w.heap.size ≤ g3 ∧ HRow V g3 hs ∧ Gr w2 V) := ⟨_, rfl⟩
  have HD : Hid (Gr w2 w2.drew) := Gr.drew (Gr.refl _)
  apply shareP
  · intro CONT
    refine wpAnyH_ready (rs := [2, 7]) (by kernel_rfl) (by simp) ?_
    refine AllReadyH.cons rfl (fun K hK => ?_) (AllReadyH.cons rfl (fun K hK => ?_) AllReadyH.nil)
    · skip
      go_simp
      refine (C1.out _ (HG2.out.trans HD.out)).mono ?_
      rintro e w3 ⟨a2, c2, rfl, O3, G3⟩
      have HO3 : Hid (Hc.Own w3 w.heap.size (.slice a2 mn c2) m) := O3
      have HG3 : Hid (Gr w2 w3) := Gr.trans HD.out G3
      refine hK.out _ _ (HSv.out _ HG3.out) (fun hx => ?_)
      clear hK K hx O3
      refine wpAnyH_ready (rs := [5, 7]) (by kernel_rfl) (by simp) ?_
      refine AllReadyH.cons rfl (fun K hK => ?_) (AllReadyH.cons rfl (fun K hK => ?_) AllReadyH.nil)
      · skip
        go_simp
        refine (C2.out _ (HG2.out.trans HG3.out)).mono ?_
        rintro e w4 ⟨g3, c3, rfl, hg3, R4, G4⟩
        have HG4 : Hid (Gr w2 w4) := Gr.trans HG3.out G4
        refine hK.out _ _ (HSv.out _ HG4.out) (fun hx => ?_)
        clear hK K hx
        refine wpAnyH_take (i := 6) (v := .agg #[.slice a2 mn c2, .slice (some ⟨g3, 0, none⟩) hn c3]) rfl (by kernel_rfl) (by kernel_rfl) (by kernel_rfl) (fun _ _ _ h => h) (Or.inl ⟨by rfl, fun W hW => by obtain ⟨y0, y1⟩ := hW; go_simp⟩) (HSv.out _ HG4.out) ?_
        simp only [List.getElem_toArray, List.getElem_cons_succ, List.getElem_cons_zero, Act.put, List.setIfInBounds_toArray, List.set_cons_zero, List.set_cons_succ]
        refine wpAnyH_ready (rs := [7]) (by kernel_rfl) (by simp) ?_
        refine AllReadyH.cons rfl (fun K hK => ?_) AllReadyH.nil
        go_simp
        refine hK.out _ _ (HSv.out _ (Gr.alloc HG4.out _)) (fun hx => ?_)
        clear hK K hx
        obtain ⟨z, hz⟩ : ∃ z : Nat, z = w4.heap.size := ⟨_, rfl⟩
        rw [← hz]
        refine atW (FA z a2 c2 g3 c3) ?hfa ?_
        case hfa => rw [HFA.out]; exact ⟨by rw [hz]; exact heap_alloc_new w4 _, by rw [hz]; exact HG4.out.size, own_gr (own_gr HO3.out G4) ((Gr.refl _).alloc _), hg3, R4.of ((Gr.refl _).alloc _), Gr.alloc HG4.out _⟩
        clear hz HG4 HG3 HO3 hg3 R4 G3 G4
        clear w4 w3
        revert z a2 c2 g3 c3
        exact CONT.out
      · skip
        go_simp
        refine hK.out _ _ (HSv.out _ (Gr.alloc HG3.out _)) (fun hx => ?_)
        clear hK K hx
        refine wpAnyH_ready (rs := [5]) (by kernel_rfl) (by simp) ?_
        refine AllReadyH.cons rfl (fun K hK => ?_) AllReadyH.nil
        go_simp
        refine (C2.out _ (HG2.out.trans (Gr.alloc HG3.out _))).mono ?_
        rintro e w4 ⟨g3, c3, rfl, hg3, R4, G4⟩
        have HG4 : Hid (Gr w2 w4) := Gr.trans (Gr.alloc HG3.out _) G4
        refine hK.out _ _ (HSv.out _ HG4.out) (fun hx => ?_)
        clear hK K hx
        refine wpAnyH_take (i := 6) (v := .agg #[.slice a2 mn c2, .slice (some ⟨g3, 0, none⟩) hn c3]) rfl (by kernel_rfl) (by kernel_rfl) (by kernel_rfl) (fun _ _ _ h => h) (Or.inl ⟨by rfl, fun W hW => by obtain ⟨y0, y1⟩ := hW; go_simp⟩) (HSv.out _ HG4.out) ?_
        simp only [List.getElem_toArray, List.getElem_cons_succ, List.getElem_cons_zero, Act.put, List.setIfInBounds_toArray, List.set_cons_zero, List.set_cons_succ]
        obtain ⟨z, hz⟩ : ∃ z : Nat, z = w3.heap.size := ⟨_, rfl⟩
        rw [← hz]
        refine atW (FA z a2 c2 g3 c3) ?hfa ?_
        case hfa => rw [HFA.out]; exact ⟨by rw [hz]; exact Hr.heap_of_gr G4 (heap_alloc_new w3 _), by rw [hz]; exact HG3.out.size, own_gr HO3.out (Gr.trans ((Gr.refl _).alloc _) G4), hg3, R4, HG4.out⟩
        clear hz HG4 HG3 HO3 hg3 R4 G3 G4
        clear w4 w3
        revert z a2 c2 g3 c3
        exact CONT.out
    · skip
      go_simp
      refine hK.out _ _ (HSv.out _ (Gr.alloc HD.out _)) (fun hx => ?_)
      clear hK K hx
      refine wpAnyH_ready (rs := [2]) (by kernel_rfl) (by simp) ?_
      refine AllReadyH.cons rfl (fun K hK => ?_) AllReadyH.nil
      go_simp
      refine (C1.out _ (HG2.out.trans (Gr.alloc HD.out _))).mono ?_
      rintro e w3 ⟨a2, c2, rfl, O3, G3⟩
      have HO3 : Hid (Hc.Own w3 w.heap.size (.slice a2 mn c2) m) := O3
      have HG3 : Hid (Gr w2 w3) := Gr.trans (Gr.alloc HD.out _) G3
      refine hK.out _ _ (HSv.out _ HG3.out) (fun hx => ?_)
      clear hK K hx O3
      refine wpAnyH_ready (rs := [5]) (by kernel_rfl) (by simp) ?_
      refine AllReadyH.cons rfl (fun K hK => ?_) AllReadyH.nil
      go_simp
      refine (C2.out _ (HG2.out.trans HG3.out)).mono ?_
      rintro e w4 ⟨g3, c3, rfl, hg3, R4, G4⟩
      have HG4 : Hid (Gr w2 w4) := Gr.trans HG3.out G4
      refine hK.out _ _ (HSv.out _ HG4.out) (fun hx => ?_)
      clear hK K hx
      refine wpAnyH_take (i := 6) (v := .agg #[.slice a2 mn c2, .slice (some ⟨g3, 0, none⟩) hn c3]) rfl (by kernel_rfl) (by kernel_rfl) (by kernel_rfl) (fun _ _ _ h => h) (Or.inl ⟨by rfl, fun W hW => by obtain ⟨y0, y1⟩ := hW; go_simp⟩) (HSv.out _ HG4.out) ?_
      simp only [List.getElem_toArray, List.getElem_cons_succ, List.getElem_cons_zero, Act.put, List.setIfInBounds_toArray, List.set_cons_zero, List.set_cons_succ]
      obtain ⟨z, hz⟩ : ∃ z : Nat, z = w2.heap.size := ⟨_, rfl⟩
      rw [← hz]
      refine atW (FA z a2 c2 g3 c3) ?hfa ?_
      case hfa => rw [HFA.out]; exact ⟨by rw [hz]; exact Hr.heap_of_gr G4 (Hr.heap_of_gr G3 (heap_alloc_new w2.drew _)), by rw [hz]; exact Nat.le_refl _, own_gr HO3.out G4, hg3, R4, HG4.out⟩
      clear hz HG4 HG3 HO3 hg3 R4 G3 G4
      clear w4 w3
      revert z a2 c2 g3 c3
      exact CONT.out
  intro a2 c2 g3 c3 z V hF
  rw [HFA.out] at hF
  obtain ⟨kz, hz2, O5, hg5, R5, G5⟩ := hF
  have HKz : Hid (V.heap[z]? = some (.cells #[.slice none 0 0, .slice none 0 0] 34 (0, 0))) := kz
  have hb2 : w.heap.size + 1 < w2.heap.size := (gs HB2.out).1
  have HZ5 : Hid (Mz (V.setRow z #[.slice a2 mn c2, .slice (some ⟨g3, 0, none⟩) hn c3]) w.heap.size z (.slice a2 mn c2) g3 c3 hs m) := by
    have st : ∀ (k : Nat) (q : Array Value) (t : Nat) (f : Nat × Nat), t ≠ 34 → V.heap[k]? = some (.cells q t f) → (V.setRow z #[.slice a2 mn c2, .slice (some ⟨g3, 0, none⟩) hn c3]).heap[k]? = V.heap[k]? := fun k q t f ht hk => sro (ne_of_types hk kz ht)
    refine ⟨?_, by omega, O5.to fun k o f e => st k o _ f (by decide) e, hg5, R5.to fun k o f e => st k o _ f (by decide) e⟩
    rw [HHL.out]
    exact srh kz
  have HG5 : Hid (Gr w2 (V.setRow z #[.slice a2 mn c2, .slice (some ⟨g3, 0, none⟩) hn c3])) := gr_setRow G5 hz2 _
  clear kz O5 hg5 R5 G5
  refine wpAnyH_ready (rs := [8]) (by kernel_rfl) (by simp) ?_
  refine AllReadyH.cons rfl (fun K hK => ?_) AllReadyH.nil
  refine step_store rfl 34 (.tmp 8) (.tmp 36) rfl z #[.slice a2 mn c2, .slice (some ⟨g3, 0, none⟩) hn c3] (by simp [Act.eval]) (by simp [Act.eval]) 34 #[.slice none 0 0, .slice none 0 0] HKz.out iMc rfl (by kernel_rfl) ?_
  refine hK.out _ _ (HSv.out _ HG5.out) (fun hx => ?_)
  clear hK K hx
  refine wpAnyH_done (by kernel_rfl) ?_ _
  refine noP_n ?_
  generalize V.setRow z #[.slice a2 mn c2, .slice (some ⟨g3, 0, none⟩) hn c3] = W3 at *
  have HB3 : Hid (W3.heap[w.heap.size + 1]? = some (.cells #[.slice none 0 0, .slice none 0 0] 34 (0, 0))) := Hr.heap_of_gr HG5.out HB2.out
  have HG3 : Hid (Gr w W3) := HG2.out.trans HG5.out
  have hzr : z ≠ w.heap.size + 1 := by omega
  clear HKz HSv HS0 HFA HD FA HA2 HB2 HG2 HG5 m0 m1 C1 C2 hz2
  clear V
  obtain ⟨q, hq⟩ : ∃ q : Nat, q = ln - s := ⟨_, rfl⟩
  have HQ : Hid (q = ln - s) := hq
  have hql : q ≤ ln := by omega
  have hqi : (q : Int) ≤ (ln : Int) := by omega
  have hqc : (ln : Int) ≤ (lc : Int) := by omega
  rw [← hq] at e1 HUD
  clear hq
  by_cases hcl : lc = q
  · subst hcl
    have h0 : ln - lc = 0 := by omega
    have HX : Hid (Us w la 0 (us.drop (ln - s))) := by have := HUD.out; unfold cutP41 at this; rw [if_pos rfl, h0] at this; rw [← HQ.out]; exact this
    go_wp2_with fail
    refine (Backward_any _ _ _ _).mono ?_
    rintro e w5 ⟨rfl, rfl⟩
    go_wp2_with fail
    have HB5 : Hid ((W3.alloc (.cells #[.slice la 0 0] 41)).heap[W3.heap.size]? = some (.cells #[.slice la 0 0] 41 (0, 0))) := heap_alloc_new W3 _
    have HG5 : Hid (Gr w (W3.alloc (.cells #[.slice la 0 0] 41))) := HG3.out.alloc _
    have HZ6 : Hid (Mz (W3.alloc (.cells #[.slice la 0 0] 41)) w.heap.size z (.slice a2 mn c2) g3 c3 hs m) := HZ5.out.kept fun k o t f e => ((Gr.refl W3).alloc _).block _ (gs e).1
    have HB6 : Hid ((W3.alloc (.cells #[.slice la 0 0] 41)).heap[w.heap.size + 1]? = some (.cells #[.slice none 0 0, .slice none 0 0] 34 (0, 0))) := Hr.heap_of_gr ((Gr.refl W3).alloc _) HB3.out
    generalize hW6 : W3.alloc (.cells #[.slice la 0 0] 41) = W6 at *
    have hw6 : w.heap.size ≤ W6.heap.size := HG5.out.size
    clear hW6
    refine (wpIn_wide (n := 9)).1 ?_
    refine wpIn_rangeFunc_ownH (F := Fence.wide) (n := 9) rfl (by omega) (gf := 72) (lb := #[.pointer (some ⟨W3.heap.size, 0, none⟩)]) rfl trivial (enters_of Tryd.func72 (by kernel_rfl) rfl)
      (bwd_stops (c := hn) (mn := mn) HX.out (by omega) HFU.out (9 - 1) W3.heap.size W6 HG5.out HB5.out) Kr.trans (kr_b hw6) (Below.refl _ _) (fun _ => rfl)
      (fun pre W => (Mz W w.heap.size z (.slice a2 mn c2) g3 c3 ((pre.map Yv.u).foldl back1 (hs, m)).1 ((pre.map Yv.u).foldl back1 (hs, m)).2 ∧ W.heap[w.heap.size + 1]? = some (.cells #[.slice none 0 0, .slice none 0 0] 34 (0, 0))) ∧ Below w.heap.size w W)
      (fun _ _ _ => False)
      (OwnFrom.and (fun s X X' row h hg hr => ⟨h.1.kept (kept_cells hg hr), (kept_cells hg hr _ _ _ _ h.2).trans h.2⟩) (ownFrom_below (Nat.le_refl _) hw6))
      (fun _ _ _ _ _ h _ _ => h)
      ⟨⟨HZ6.out, HB6.out⟩, HG5.out⟩
      (fun y a' W => ∃ Bx, W.heap[Bx]? = some (.cells y.x.toArray 86 (0, 0)) ∧ a' = { tmps := #[.agg #[.slice ma mn mc, .slice (some ⟨hb, ho, none⟩) hn hc], .slice la ln lc, .int .i64 s, .pointer (some ⟨w.heap.size, 0, none⟩), undef, undef, .pointer (some ⟨(w.heap.size + 1), 0, none⟩), .int .i64 0, .pointer (some ⟨z, 0, none⟩), undef, .pointer (some ⟨Bx, 0, none⟩), .agg #[.slice ma mn mc, .slice (some ⟨hb, ho, none⟩) hn hc], .bool true, .bool false, .bool false, .agg #[.slice ma mn mc, .slice (some ⟨hb, ho, none⟩) hn hc], .slice la ln lc, .bool true, .bool false, .bool false, undef, .int .i64 s, .bool (decide ((s : Int) < 0)), .bool (decide ((s : Int) < 0)), .int .i64 s, .slice la ln lc, .int .i64 ln, .bool false, .bool (decide ((s : Int) < 0)), undef, .pointer (some ⟨w.heap.size, 0, none⟩), .slice ma mn mc, .slice a2 mn c2, .pointer (some ⟨w.heap.size, 1, none⟩), .slice (some ⟨hb, ho, none⟩) hn hc, .slice (some ⟨g3, 0, none⟩) hn c3, .agg #[.slice a2 mn c2, .slice (some ⟨g3, 0, none⟩) hn c3], .slice la ln lc, .slice la ln lc, .int .i64 ln, .int .i64 s, .int .i64 lc, .slice la 0 0, .func (.func 72) #[] #[.pointer (some ⟨W3.heap.size, 0, none⟩)], .int .i64 (y.1.1 : Int), .agg y.x.toArray, undef, undef, undef], defers := [] })
      (fun y a' _ X X' row h hg hr => by obtain ⟨Bx, h1, h2⟩ := h; exact ⟨Bx, (kept_cells hg hr _ _ _ _ h1).trans h1, h2⟩)
      ?assign ?body ?done ?stop
    case assign =>
      rintro l pre y W K ⟨⟨Z7, B7⟩, L7⟩ hK
      have HXL : Hid (y.x.length = 41) := y.2.1.len
      have HXA : Hid (y.x.toArray.size = 41) := by unfold Hid; simp [HXL.out]
      have HX1 : Hid (y.x.toArray.all (·.oneCell') = true) := y.2.1.one
      unfold Yv.enc
      have G7 : ∀ Y : Array Value, Gr W ((W.alloc (.cells Y 86)).setRow W.heap.size y.x.toArray) := fun Y => gr_setRow ((Gr.refl _).alloc _) (Nat.le_refl _) _
      have HG7 : Hid _ := G7
      have HK : Hid _ := hK
      have HZ7 : Hid (Mz W w.heap.size z (.slice a2 mn c2) g3 c3 ((pre.map Yv.u).foldl back1 (hs, m)).1 ((pre.map Yv.u).foldl back1 (hs, m)).2) := Z7
      have HB7 : Hid (W.heap[w.heap.size + 1]? = some (.cells #[.slice none 0 0, .slice none 0 0] 34 (0, 0))) := B7
      have HL7 : Hid (Below w.heap.size w W) := L7
      have hwl := L7.size
      clear hK Z7 B7 L7 G7
      gi_wp2_with (refine wpListIn_store_row' rfl 86 _ _ rfl W.heap.size y.x.toArray rfl rfl 86 _ (heap_alloc_new W _) (by rw [HXA.out]; exact iU) (by rw [HXA.out]; rfl) HX1.out ?_)
      exact HK.out _ _ ((Th.ofGr (n := w.heap.size) (HG7.out _) hwl).keeps) ((Th.ofGr (HG7.out _) hwl).kr) ⟨⟨HZ7.out.kept fun k o t f e => (HG7.out _).block _ (gs e).1, Hr.heap_of_gr (HG7.out _) HB7.out⟩, HL7.out.trans (Below.mono (HG7.out _) hwl)⟩ ⟨W.heap.size, srh (heap_alloc_new W _), rfl⟩
    case body =>
      rintro l pre y a' W hl hr ⟨⟨Z7, B7⟩, L7⟩ ⟨Bx, hBx, rfl⟩ hlt
      dsimp only
      have hfl := folds_len (pre.map Yv.u) (hs, m) HHL.out HML.out (fun u hu => by
        obtain ⟨y', _, rfl⟩ := List.mem_map.1 hu
        obtain ⟨_, _, _, _, _, _, _, ok, _⟩ := y'.2.1
        exact ⟨y'.2.2, ok.f0⟩)
      have HXL : Hid (y.x.length = 41) := y.2.1.len
      have RG : Hid (W.rangeAt Bx 0 y.x) := fun i v hi => by rw [Nat.zero_add, cr hBx, List.getElem?_toArray]; exact hi
      have HTB : Hid (Calls Tryd.prog 39 #[.pointer (some ⟨z, 0, none⟩), .agg y.x.toArray] W fun e w' => e = .returned (.tuple #[]) ∧ Mz w' w.heap.size z (.slice a2 mn c2) g3 c3 (((pre ++ [y]).map Yv.u).foldl back1 (hs, m)).1 (((pre ++ [y]).map Yv.u).foldl back1 (hs, m)).2 ∧ Th w.heap.size W w') := by
        have := takeBack_any y.2.1 L7 Z7 hfl.1 n4 hfl.2 m4 y.2.2
        have e : ((pre ++ [y]).map Yv.u).foldl back1 (hs, m) = back1 ((pre.map Yv.u).foldl back1 (hs, m)) y.u := by rw [List.map_append, List.foldl_append]; rfl
        rw [e]
        exact this
      have HB7 : Hid (W.heap[w.heap.size + 1]? = some (.cells #[.slice none 0 0, .slice none 0 0] 34 (0, 0))) := B7
      have HL7 : Hid (Below w.heap.size w W) := L7
      clear Z7 B7 L7 hfl hBx hr hlt
      gi_wp2_with (first
        | (refine wpListIn_load_mid rfl 86 _ rfl Bx 0 rfl y.x _ ?r1 Tryd.underlying86 rfl (by rw [HXL.out]; exact iU) ?_; (case r1 => exact RG.out))
        | (refine ⟨trivial, ?_⟩; gi_at_call 39; refine (CallsIn.inRound l (callsIn_wide.2 HTB.out)).mono ?_; rintro e w8 ⟨rfl, Z8, T8⟩))
      exact ⟨T8.keeps, T8.kr, ⟨Z8, T8.row HB7.out (by decide) (by decide)⟩, HL7.out.trans T8.below⟩
    case done =>
      rintro D ys W hD hys ⟨⟨Z7, B7⟩, L7⟩ hK
      rw [hys, backs_rev] at Z7
      have hfl : (backs (hs, m) (us.drop (ln - s))).1.length = hn ∧ (backs (hs, m) (us.drop (ln - s))).2.length = mn := by
        rw [← backs_rev]
        refine folds_len _ (hs, m) HHL.out HML.out (fun u hu => ?_)
        rw [← hys] at hu
        obtain ⟨y', _, rfl⟩ := List.mem_map.1 hu
        obtain ⟨_, _, _, _, _, _, _, ok, _⟩ := y'.2.1
        exact ⟨y'.2.2, ok.f0⟩
      have HZ7 : Hid (Mz W w.heap.size z (.slice a2 mn c2) g3 c3 (backs (hs, m) (us.drop (ln - s))).1 (backs (hs, m) (us.drop (ln - s))).2) := Z7
      have HFL : Hid _ := hfl
      generalize hbk : (backs (hs, m) (us.drop (ln - s))) = bk at *
      have HB7 : Hid (W.heap[w.heap.size + 1]? = some (.cells #[.slice none 0 0, .slice none 0 0] 34 (0, 0))) := B7
      have kz : W.heap[z]? = some (.cells #[.slice a2 mn c2, .slice (some ⟨g3, 0, none⟩) hn c3] 34 (0, 0)) := by have := Z7.blk; rw [hfl.1] at this; exact this
      have HKz : Hid _ := kz
      have HL7 : Hid (Gr w W) := L7
      have HKD : Hid (W.heap[D]? = some (.deferred (some []))) := hK
      clear Z7 B7 L7 hK kz hfl hys
      go_wp2_with (first
        | (refine wpList_load_row rfl 34 _ rfl z rfl 34 #[.slice a2 mn c2, .slice (some ⟨g3, 0, none⟩) hn c3] (0, 0) _ ?yy1 Tryd.underlying34 rfl iMc ?_; (case yy1 => exact HKz.out))
        | (refine wpList_store_row rfl 34 _ _ rfl (w.heap.size + 1) #[.slice a2 mn c2, .slice (some ⟨g3, 0, none⟩) hn c3] rfl rfl 34 #[.slice none 0 0, .slice none 0 0] ?yy2 iMc rfl (by kernel_rfl) ?_; (case yy2 => exact HB7.out)))
      have hDr : D ≠ w.heap.size + 1 := by have := (gs HB6.out).1; omega
      have HK9 : Hid ((W.setRow (w.heap.size + 1) #[.slice a2 mn c2, .slice (some ⟨g3, 0, none⟩) hn c3]).heap[D]? = some (.deferred (some []))) := (sro hDr).trans HKD.out
      have H9b : Hid ((W.setRow (w.heap.size + 1) #[.slice a2 mn c2, .slice (some ⟨g3, 0, none⟩) hn c3]).heap[w.heap.size + 1]? = some (.cells #[.slice a2 mn c2, .slice (some ⟨g3, 0, none⟩) hn c3] 34 (0, 0))) := srh HB7.out
      have H9 : Hid (Hc.Own (W.setRow (w.heap.size + 1) #[.slice a2 mn c2, .slice (some ⟨g3, 0, none⟩) hn c3]) w.heap.size (.slice a2 mn c2) bk.2 ∧ HRow (W.setRow (w.heap.size + 1) #[.slice a2 mn c2, .slice (some ⟨g3, 0, none⟩) hn c3]) g3 bk.1) := ⟨HZ7.out.mem.to fun k o f e => sro (ne_of_types e HB7.out (by decide)), HZ7.out.row.to fun k o f e => sro (ne_of_types e HB7.out (by decide))⟩
      have HG9 : Hid (Gr w (W.setRow (w.heap.size + 1) #[.slice a2 mn c2, .slice (some ⟨g3, 0, none⟩) hn c3])) := gr_setRow HL7.out (Nat.le_succ _) _
      have HBk : Hid (bk = backs (hs, m) (us.drop (ln - s))) := by unfold Hid; exact hbk.symm
      rw [hbk]
      generalize W.setRow (w.heap.size + 1) #[.slice a2 mn c2, .slice (some ⟨g3, 0, none⟩) hn c3] = W9 at *
      have kc := kept_cells (B := 0) (grownBy_putObj' W9 D (.deferred none)) (fun r e => by cases e; exact ⟨Nat.zero_le _, _, HK9.out, rfl⟩)
      refine ⟨by simp, .inl ⟨D, _, rfl, run_takeDeferred HK9.out, ?_⟩⟩
      refine ⟨_, Hr.results_cell_tmp' Tryd.results17 _ _ _ _ _ (0, 0) _ _ rfl rfl ((kc _ _ _ _ H9b.out).trans H9b.out) Tryd.underlying34 rfl iMc, _, rfl, ?_, Below.trans HG9.out (belowK_b (w := w) (Nat.le_refl _) W9 D _ _ (by omega) HK9.out rfl rfl)⟩
      obtain ⟨l1, l2⟩ := HFL.out
      have O10 := H9.out.1.to (w' := W9.putObj D (.deferred none)) fun k o f e => kc k o _ f e
      have R10 := H9.out.2.to (w' := W9.putObj D (.deferred none)) fun k o f e => kc k o _ f e
      obtain ⟨ao', cap', e', M10⟩ := O10.mem
      rw [l2] at e' M10
      injection e' with e1' e2' e3'
      subst e1'
      exact ⟨_, _, _, _, rfl, M10, own_cap (O10.base (w' := W9) (Nat.zero_le _)), R10.hs l1⟩
    case stop =>
      rintro D c pre W _ _ h _
      exact h.elim
  · have HX : Hid (Us w (la.map fun x => x.add (q * 41)) (ln - q) (us.drop (ln - s))) := by have := HUD.out; unfold cutP41 at this; rw [if_neg hcl] at this; rw [← HQ.out]; exact this
    go_wp2_with fail
    refine (Backward_any _ _ _ _).mono ?_
    rintro e w5 ⟨rfl, rfl⟩
    go_wp2_with fail
    have HB5 : Hid ((W3.alloc (.cells #[.slice (la.map fun x => x.add (q * 41)) (ln - q) (lc - q)] 41)).heap[W3.heap.size]? = some (.cells #[.slice (la.map fun x => x.add (q * 41)) (ln - q) (lc - q)] 41 (0, 0))) := heap_alloc_new W3 _
    have HG5 : Hid (Gr w (W3.alloc (.cells #[.slice (la.map fun x => x.add (q * 41)) (ln - q) (lc - q)] 41))) := HG3.out.alloc _
    have HZ6 : Hid (Mz (W3.alloc (.cells #[.slice (la.map fun x => x.add (q * 41)) (ln - q) (lc - q)] 41)) w.heap.size z (.slice a2 mn c2) g3 c3 hs m) := HZ5.out.kept fun k o t f e => ((Gr.refl W3).alloc _).block _ (gs e).1
    have HB6 : Hid ((W3.alloc (.cells #[.slice (la.map fun x => x.add (q * 41)) (ln - q) (lc - q)] 41)).heap[w.heap.size + 1]? = some (.cells #[.slice none 0 0, .slice none 0 0] 34 (0, 0))) := Hr.heap_of_gr ((Gr.refl W3).alloc _) HB3.out
    generalize hW6 : W3.alloc (.cells #[.slice (la.map fun x => x.add (q * 41)) (ln - q) (lc - q)] 41) = W6 at *
    have hw6 : w.heap.size ≤ W6.heap.size := HG5.out.size
    clear hW6
    refine (wpIn_wide (n := 9)).1 ?_
    refine wpIn_rangeFunc_ownH (F := Fence.wide) (n := 9) rfl (by omega) (gf := 72) (lb := #[.pointer (some ⟨W3.heap.size, 0, none⟩)]) rfl trivial (enters_of Tryd.func72 (by kernel_rfl) rfl)
      (bwd_stops (c := hn) (mn := mn) HX.out (by omega) HFU.out (9 - 1) W3.heap.size W6 HG5.out HB5.out) Kr.trans (kr_b hw6) (Below.refl _ _) (fun _ => rfl)
      (fun pre W => (Mz W w.heap.size z (.slice a2 mn c2) g3 c3 ((pre.map Yv.u).foldl back1 (hs, m)).1 ((pre.map Yv.u).foldl back1 (hs, m)).2 ∧ W.heap[w.heap.size + 1]? = some (.cells #[.slice none 0 0, .slice none 0 0] 34 (0, 0))) ∧ Below w.heap.size w W)
      (fun _ _ _ => False)
      (OwnFrom.and (fun s X X' row h hg hr => ⟨h.1.kept (kept_cells hg hr), (kept_cells hg hr _ _ _ _ h.2).trans h.2⟩) (ownFrom_below (Nat.le_refl _) hw6))
      (fun _ _ _ _ _ h _ _ => h)
      ⟨⟨HZ6.out, HB6.out⟩, HG5.out⟩
      (fun y a' W => ∃ Bx, W.heap[Bx]? = some (.cells y.x.toArray 86 (0, 0)) ∧ a' = { tmps := #[.agg #[.slice ma mn mc, .slice (some ⟨hb, ho, none⟩) hn hc], .slice la ln lc, .int .i64 s, .pointer (some ⟨w.heap.size, 0, none⟩), undef, undef, .pointer (some ⟨(w.heap.size + 1), 0, none⟩), .int .i64 0, .pointer (some ⟨z, 0, none⟩), undef, .pointer (some ⟨Bx, 0, none⟩), .agg #[.slice ma mn mc, .slice (some ⟨hb, ho, none⟩) hn hc], .bool true, .bool false, .bool false, .agg #[.slice ma mn mc, .slice (some ⟨hb, ho, none⟩) hn hc], .slice la ln lc, .bool true, .bool false, .bool false, undef, .int .i64 s, .bool (decide ((s : Int) < 0)), .bool (decide ((s : Int) < 0)), .int .i64 s, .slice la ln lc, .int .i64 ln, .bool false, .bool (decide ((s : Int) < 0)), undef, .pointer (some ⟨w.heap.size, 0, none⟩), .slice ma mn mc, .slice a2 mn c2, .pointer (some ⟨w.heap.size, 1, none⟩), .slice (some ⟨hb, ho, none⟩) hn hc, .slice (some ⟨g3, 0, none⟩) hn c3, .agg #[.slice a2 mn c2, .slice (some ⟨g3, 0, none⟩) hn c3], .slice la ln lc, .slice la ln lc, .int .i64 ln, .int .i64 s, .int .i64 q, .slice (la.map fun x => x.add (q * 41)) (ln - q) (lc - q), .func (.func 72) #[] #[.pointer (some ⟨W3.heap.size, 0, none⟩)], .int .i64 (y.1.1 : Int), .agg y.x.toArray, undef, undef, undef], defers := [] })
      (fun y a' _ X X' row h hg hr => by obtain ⟨Bx, h1, h2⟩ := h; exact ⟨Bx, (kept_cells hg hr _ _ _ _ h1).trans h1, h2⟩)
      ?assign ?body ?done ?stop
    case assign =>
      rintro l pre y W K ⟨⟨Z7, B7⟩, L7⟩ hK
      have HXL : Hid (y.x.length = 41) := y.2.1.len
      have HXA : Hid (y.x.toArray.size = 41) := by unfold Hid; simp [HXL.out]
      have HX1 : Hid (y.x.toArray.all (·.oneCell') = true) := y.2.1.one
      unfold Yv.enc
      have G7 : ∀ Y : Array Value, Gr W ((W.alloc (.cells Y 86)).setRow W.heap.size y.x.toArray) := fun Y => gr_setRow ((Gr.refl _).alloc _) (Nat.le_refl _) _
      have HG7 : Hid _ := G7
      have HK : Hid _ := hK
      have HZ7 : Hid (Mz W w.heap.size z (.slice a2 mn c2) g3 c3 ((pre.map Yv.u).foldl back1 (hs, m)).1 ((pre.map Yv.u).foldl back1 (hs, m)).2) := Z7
      have HB7 : Hid (W.heap[w.heap.size + 1]? = some (.cells #[.slice none 0 0, .slice none 0 0] 34 (0, 0))) := B7
      have HL7 : Hid (Below w.heap.size w W) := L7
      have hwl := L7.size
      clear hK Z7 B7 L7 G7
      gi_wp2_with (refine wpListIn_store_row' rfl 86 _ _ rfl W.heap.size y.x.toArray rfl rfl 86 _ (heap_alloc_new W _) (by rw [HXA.out]; exact iU) (by rw [HXA.out]; rfl) HX1.out ?_)
      exact HK.out _ _ ((Th.ofGr (n := w.heap.size) (HG7.out _) hwl).keeps) ((Th.ofGr (HG7.out _) hwl).kr) ⟨⟨HZ7.out.kept fun k o t f e => (HG7.out _).block _ (gs e).1, Hr.heap_of_gr (HG7.out _) HB7.out⟩, HL7.out.trans (Below.mono (HG7.out _) hwl)⟩ ⟨W.heap.size, srh (heap_alloc_new W _), rfl⟩
    case body =>
      rintro l pre y a' W hl hr ⟨⟨Z7, B7⟩, L7⟩ ⟨Bx, hBx, rfl⟩ hlt
      dsimp only
      have hfl := folds_len (pre.map Yv.u) (hs, m) HHL.out HML.out (fun u hu => by
        obtain ⟨y', _, rfl⟩ := List.mem_map.1 hu
        obtain ⟨_, _, _, _, _, _, _, ok, _⟩ := y'.2.1
        exact ⟨y'.2.2, ok.f0⟩)
      have HXL : Hid (y.x.length = 41) := y.2.1.len
      have RG : Hid (W.rangeAt Bx 0 y.x) := fun i v hi => by rw [Nat.zero_add, cr hBx, List.getElem?_toArray]; exact hi
      have HTB : Hid (Calls Tryd.prog 39 #[.pointer (some ⟨z, 0, none⟩), .agg y.x.toArray] W fun e w' => e = .returned (.tuple #[]) ∧ Mz w' w.heap.size z (.slice a2 mn c2) g3 c3 (((pre ++ [y]).map Yv.u).foldl back1 (hs, m)).1 (((pre ++ [y]).map Yv.u).foldl back1 (hs, m)).2 ∧ Th w.heap.size W w') := by
        have := takeBack_any y.2.1 L7 Z7 hfl.1 n4 hfl.2 m4 y.2.2
        have e : ((pre ++ [y]).map Yv.u).foldl back1 (hs, m) = back1 ((pre.map Yv.u).foldl back1 (hs, m)) y.u := by rw [List.map_append, List.foldl_append]; rfl
        rw [e]
        exact this
      have HB7 : Hid (W.heap[w.heap.size + 1]? = some (.cells #[.slice none 0 0, .slice none 0 0] 34 (0, 0))) := B7
      have HL7 : Hid (Below w.heap.size w W) := L7
      clear Z7 B7 L7 hfl hBx hr hlt
      gi_wp2_with (first
        | (refine wpListIn_load_mid rfl 86 _ rfl Bx 0 rfl y.x _ ?r1 Tryd.underlying86 rfl (by rw [HXL.out]; exact iU) ?_; (case r1 => exact RG.out))
        | (refine ⟨trivial, ?_⟩; gi_at_call 39; refine (CallsIn.inRound l (callsIn_wide.2 HTB.out)).mono ?_; rintro e w8 ⟨rfl, Z8, T8⟩))
      exact ⟨T8.keeps, T8.kr, ⟨Z8, T8.row HB7.out (by decide) (by decide)⟩, HL7.out.trans T8.below⟩
    case done =>
      rintro D ys W hD hys ⟨⟨Z7, B7⟩, L7⟩ hK
      rw [hys, backs_rev] at Z7
      have hfl : (backs (hs, m) (us.drop (ln - s))).1.length = hn ∧ (backs (hs, m) (us.drop (ln - s))).2.length = mn := by
        rw [← backs_rev]
        refine folds_len _ (hs, m) HHL.out HML.out (fun u hu => ?_)
        rw [← hys] at hu
        obtain ⟨y', _, rfl⟩ := List.mem_map.1 hu
        obtain ⟨_, _, _, _, _, _, _, ok, _⟩ := y'.2.1
        exact ⟨y'.2.2, ok.f0⟩
      have HZ7 : Hid (Mz W w.heap.size z (.slice a2 mn c2) g3 c3 (backs (hs, m) (us.drop (ln - s))).1 (backs (hs, m) (us.drop (ln - s))).2) := Z7
      have HFL : Hid _ := hfl
      generalize hbk : (backs (hs, m) (us.drop (ln - s))) = bk at *
      have HB7 : Hid (W.heap[w.heap.size + 1]? = some (.cells #[.slice none 0 0, .slice none 0 0] 34 (0, 0))) := B7
      have kz : W.heap[z]? = some (.cells #[.slice a2 mn c2, .slice (some ⟨g3, 0, none⟩) hn c3] 34 (0, 0)) := by have := Z7.blk; rw [hfl.1] at this; exact this
      have HKz : Hid _ := kz
      have HL7 : Hid (Gr w W) := L7
      have HKD : Hid (W.heap[D]? = some (.deferred (some []))) := hK
      clear Z7 B7 L7 hK kz hfl hys
      go_wp2_with (first
        | (refine wpList_load_row rfl 34 _ rfl z rfl 34 #[.slice a2 mn c2, .slice (some ⟨g3, 0, none⟩) hn c3] (0, 0) _ ?yy1 Tryd.underlying34 rfl iMc ?_; (case yy1 => exact HKz.out))
        | (refine wpList_store_row rfl 34 _ _ rfl (w.heap.size + 1) #[.slice a2 mn c2, .slice (some ⟨g3, 0, none⟩) hn c3] rfl rfl 34 #[.slice none 0 0, .slice none 0 0] ?yy2 iMc rfl (by kernel_rfl) ?_; (case yy2 => exact HB7.out)))
      have hDr : D ≠ w.heap.size + 1 := by have := (gs HB6.out).1; omega
      have HK9 : Hid ((W.setRow (w.heap.size + 1) #[.slice a2 mn c2, .slice (some ⟨g3, 0, none⟩) hn c3]).heap[D]? = some (.deferred (some []))) := (sro hDr).trans HKD.out
      have H9b : Hid ((W.setRow (w.heap.size + 1) #[.slice a2 mn c2, .slice (some ⟨g3, 0, none⟩) hn c3]).heap[w.heap.size + 1]? = some (.cells #[.slice a2 mn c2, .slice (some ⟨g3, 0, none⟩) hn c3] 34 (0, 0))) := srh HB7.out
      have H9 : Hid (Hc.Own (W.setRow (w.heap.size + 1) #[.slice a2 mn c2, .slice (some ⟨g3, 0, none⟩) hn c3]) w.heap.size (.slice a2 mn c2) bk.2 ∧ HRow (W.setRow (w.heap.size + 1) #[.slice a2 mn c2, .slice (some ⟨g3, 0, none⟩) hn c3]) g3 bk.1) := ⟨HZ7.out.mem.to fun k o f e => sro (ne_of_types e HB7.out (by decide)), HZ7.out.row.to fun k o f e => sro (ne_of_types e HB7.out (by decide))⟩
      have HG9 : Hid (Gr w (W.setRow (w.heap.size + 1) #[.slice a2 mn c2, .slice (some ⟨g3, 0, none⟩) hn c3])) := gr_setRow HL7.out (Nat.le_succ _) _
      have HBk : Hid (bk = backs (hs, m) (us.drop (ln - s))) := by unfold Hid; exact hbk.symm
      rw [hbk]
      generalize W.setRow (w.heap.size + 1) #[.slice a2 mn c2, .slice (some ⟨g3, 0, none⟩) hn c3] = W9 at *
      have kc := kept_cells (B := 0) (grownBy_putObj' W9 D (.deferred none)) (fun r e => by cases e; exact ⟨Nat.zero_le _, _, HK9.out, rfl⟩)
      refine ⟨by simp, .inl ⟨D, _, rfl, run_takeDeferred HK9.out, ?_⟩⟩
      refine ⟨_, Hr.results_cell_tmp' Tryd.results17 _ _ _ _ _ (0, 0) _ _ rfl rfl ((kc _ _ _ _ H9b.out).trans H9b.out) Tryd.underlying34 rfl iMc, _, rfl, ?_, Below.trans HG9.out (belowK_b (w := w) (Nat.le_refl _) W9 D _ _ (by omega) HK9.out rfl rfl)⟩
      obtain ⟨l1, l2⟩ := HFL.out
      have O10 := H9.out.1.to (w' := W9.putObj D (.deferred none)) fun k o f e => kc k o _ f e
      have R10 := H9.out.2.to (w' := W9.putObj D (.deferred none)) fun k o f e => kc k o _ f e
      obtain ⟨ao', cap', e', M10⟩ := O10.mem
      rw [l2] at e' M10
      injection e' with e1' e2' e3'
      subst e1'
      exact ⟨_, _, _, _, rfl, M10, own_cap (O10.base (w' := W9) (Nat.zero_le _)), R10.hs l1⟩
    case stop =>
      rintro D c pre W _ _ h _
      exact h.elim
end Go.Proofs.YtdiofidmlgliiaaDoor.Ud
