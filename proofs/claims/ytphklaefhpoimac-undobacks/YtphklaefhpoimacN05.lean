/-
  Ub4, Uk1, Uk2, Uk3: texts of ours that lie in one file.
-/
import Derived.Test.YtphklaefhpoimacN03
import Derived.Test.YtphklaefhpoimacN04
/-
  What package undo's Back answers: what is wrong; else the machine in which steps are taken back.
-/
namespace Go.Proofs.Ytphklaefhpoimac.Ud
open Go.ChangeShapes Go.WideShapes Go.ChangeAt Go.RowKit Go.Shelf Mm Hh Hc Mc
set_option linter.unusedVariables false
set_option linter.unusedSimpArgs false
attribute [local go_sem] Oper.semAt_some

/-- What is wrong (an Errno). -/
def bkE (mn : Nat) (hs : List Hv) (us : List Uv) (st : Int) : Int := if mayM mn hs = false then 2 else if us.all (fitU hs.length mn) = false then 2 else if st < 0 ∨ (us.length : Int) < st then 3 else 0
/-- No panic is let out. -/
def noP (Q : Exit → Act → World → Prop) : Exit → Act → World → Prop
  | .panic _, _, _ => False
  | e, a, w => Q e a w
theorem wp_noP {P : Program} {c : Code} {Q : Exit → Act → World → Prop} {a : Act} {w : World} (h : c.wp P (noP Q) a w) : c.wp P Q a w := Code.wp_mono (fun e a w h => by cases e <;> first | exact h | exact h.elim) h
theorem noP_n {Q : Exit → Act → World → Prop} {a : Act} {w : World} (h : Q .normal a w) : noP Q .normal a w := h
theorem iMc : (Try.prog.info? 25).map (·.size) = some 2 := by kernel_rfl
set_option maxHeartbeats 2000000 in
set_option maxRecDepth 100000 in
theorem UBack_may {ma ha la : Option Addr} {mn mc hn hc ln lc : Nat} {st : Int} {hs : List Hv} {w : World} (H : Hs w ha hn hs) (b1 : mn ≤ 140737488351232) (b2 : hn ≤ 140737488351232) (h1 : mayM mn hs = false) :
    Calls Try.prog 4 #[.agg #[.slice ma mn mc, .slice ha hn hc], .slice la ln lc, .int .i64 st] w fun e w' => e = .returned (.tuple #[.agg #[.slice none 0 0, .slice none 0 0], .int .i64 2]) ∧ Gr w w' := by
  have HMy : Hid (∀ W : World, Gr w W → Calls Try.prog 7 #[.agg #[.slice ma mn mc, .slice ha hn hc]] W fun e w' => e = .returned (.bool false) ∧ Gr W w') := fun W G => by rw [← h1]; exact MMay_any mc hc mn (H.of G) b1 b2
  clear H
  go_enter Try.func4, Try.ntmps4
  go_wp2_with fail
  refine (HMy.out _ (((Gr.refl _).alloc _).alloc _)).mono ?_
  rintro e w1 ⟨rfl, G1⟩
  have HG1 : Hid (Gr w w1) := (((Gr.refl _).alloc _).alloc _).trans G1
  have HA1 : Hid (w1.heap[w.heap.size]? = some (.cells #[.slice ma mn mc, .slice ha hn hc] 25 (0, 0))) := (two_of G1).1
  have HB1 : Hid (w1.heap[w.heap.size + 1]? = some (.cells #[.slice none 0 0, .slice none 0 0] 25 (0, 0))) := (two_of G1).2
  have m0 := cr0 HA1.out
  have m1 := cr1 HA1.out
  clear G1 HMy
  go_wp2_with (refine wpList_store_row rfl 25 _ _ rfl (w.heap.size + 1) #[.slice none 0 0, .slice none 0 0] rfl rfl 25 #[.slice none 0 0, .slice none 0 0] ?hb iMc rfl (by kernel_rfl) ?_; (case hb => exact HB1.out))
  refine bodyPost_ret (v := .tuple #[.agg _, .int .i64 2]) (Hr.results_cell_tmp' Try.results4 _ _ _ _ _ (0, 0) _ _ rfl rfl (srh HB1.out) Try.underlying25 rfl iMc) rfl ⟨rfl, ?_⟩
  exact gr_setRow HG1.out (Nat.le_succ _) _
set_option maxHeartbeats 2000000 in
set_option maxRecDepth 100000 in
theorem UBack_fit {ma ha la : Option Addr} {mn mc hn hc ln lc : Nat} {st : Int} {hs : List Hv} {us : List Uv} {w : World} (H : Hs w ha hn hs) (U : Us w la ln us) (b1 : mn ≤ 140737488351232) (b2 : hn ≤ 140737488351232) (b3 : ln ≤ 140737488351232) (h1 : mayM mn hs = true) (h2 : us.all (fitU hn mn) = false) :
    Calls Try.prog 4 #[.agg #[.slice ma mn mc, .slice ha hn hc], .slice la ln lc, .int .i64 st] w fun e w' => e = .returned (.tuple #[.agg #[.slice none 0 0, .slice none 0 0], .int .i64 2]) ∧ Gr w w' := by
  have HMy : Hid (∀ W : World, Gr w W → Calls Try.prog 7 #[.agg #[.slice ma mn mc, .slice ha hn hc]] W fun e w' => e = .returned (.bool true) ∧ Gr W w') := fun W G => by rw [← h1]; exact MMay_any mc hc mn (H.of G) b1 b2
  have HFt : Hid (∀ W : World, Gr w W → Calls Try.prog 8 #[.agg #[.slice ma mn mc, .slice ha hn hc], .slice la ln lc] W fun e w' => e = .returned (.bool false) ∧ Gr W w') := fun W G => by rw [← h2]; exact fit_any (U.of G) b1 b2 b3
  clear H U
  go_enter Try.func4, Try.ntmps4
  go_wp2_with fail
  refine (HMy.out _ (((Gr.refl _).alloc _).alloc _)).mono ?_
  rintro e w1 ⟨rfl, G1⟩
  have HG1 : Hid (Gr w w1) := (((Gr.refl _).alloc _).alloc _).trans G1
  have HA1 : Hid (w1.heap[w.heap.size]? = some (.cells #[.slice ma mn mc, .slice ha hn hc] 25 (0, 0))) := (two_of G1).1
  have HB1 : Hid (w1.heap[w.heap.size + 1]? = some (.cells #[.slice none 0 0, .slice none 0 0] 25 (0, 0))) := (two_of G1).2
  have m0 := cr0 HA1.out
  have m1 := cr1 HA1.out
  clear G1 HMy
  go_wp2_with fail
  refine (HFt.out _ HG1.out).mono ?_
  rintro e w2 ⟨rfl, G2⟩
  have HG2 : Hid (Gr w w2) := HG1.out.trans G2
  have HA2 : Hid (w2.heap[w.heap.size]? = some (.cells #[.slice ma mn mc, .slice ha hn hc] 25 (0, 0))) := Hr.heap_of_gr G2 HA1.out
  have HB2 : Hid (w2.heap[w.heap.size + 1]? = some (.cells #[.slice none 0 0, .slice none 0 0] 25 (0, 0))) := Hr.heap_of_gr G2 HB1.out
  clear G2 HFt m0 m1 HG1 HA1 HB1
  go_wp2_with (refine wpList_store_row rfl 25 _ _ rfl (w.heap.size + 1) #[.slice none 0 0, .slice none 0 0] rfl rfl 25 #[.slice none 0 0, .slice none 0 0] ?hb iMc rfl (by kernel_rfl) ?_; (case hb => exact HB2.out))
  refine bodyPost_ret (v := .tuple #[.agg _, .int .i64 2]) (Hr.results_cell_tmp' Try.results4 _ _ _ _ _ (0, 0) _ _ rfl rfl (srh HB2.out) Try.underlying25 rfl iMc) rfl ⟨rfl, ?_⟩
  exact gr_setRow HG2.out (Nat.le_succ _) _
set_option maxHeartbeats 2000000 in
set_option maxRecDepth 100000 in
theorem UBack_rng {ma ha la : Option Addr} {mn mc hn hc ln lc : Nat} {st : Int} {hs : List Hv} {us : List Uv} {w : World} (H : Hs w ha hn hs) (U : Us w la ln us) (b1 : mn ≤ 140737488351232) (b2 : hn ≤ 140737488351232) (b3 : ln ≤ 140737488351232) (h1 : mayM mn hs = true) (h2 : us.all (fitU hn mn) = true) (h3 : st < 0 ∨ (¬ st < 0 ∧ (ln : Int) < st)) :
    Calls Try.prog 4 #[.agg #[.slice ma mn mc, .slice ha hn hc], .slice la ln lc, .int .i64 st] w fun e w' => e = .returned (.tuple #[.agg #[.slice none 0 0, .slice none 0 0], .int .i64 3]) ∧ Gr w w' := by
  have HMy : Hid (∀ W : World, Gr w W → Calls Try.prog 7 #[.agg #[.slice ma mn mc, .slice ha hn hc]] W fun e w' => e = .returned (.bool true) ∧ Gr W w') := fun W G => by rw [← h1]; exact MMay_any mc hc mn (H.of G) b1 b2
  have HFt : Hid (∀ W : World, Gr w W → Calls Try.prog 8 #[.agg #[.slice ma mn mc, .slice ha hn hc], .slice la ln lc] W fun e w' => e = .returned (.bool true) ∧ Gr W w') := fun W G => by rw [← h2]; exact fit_any (U.of G) b1 b2 b3
  clear H U h1 h2
  rcases h3 with h3 | ⟨h3, h4⟩
  · skip
    go_enter Try.func4, Try.ntmps4
    go_wp2_with fail
    refine (HMy.out _ (((Gr.refl _).alloc _).alloc _)).mono ?_
    rintro e w1 ⟨rfl, G1⟩
    have HG1 : Hid (Gr w w1) := (((Gr.refl _).alloc _).alloc _).trans G1
    have HA1 : Hid (w1.heap[w.heap.size]? = some (.cells #[.slice ma mn mc, .slice ha hn hc] 25 (0, 0))) := (two_of G1).1
    have HB1 : Hid (w1.heap[w.heap.size + 1]? = some (.cells #[.slice none 0 0, .slice none 0 0] 25 (0, 0))) := (two_of G1).2
    have m0 := cr0 HA1.out
    have m1 := cr1 HA1.out
    clear G1 HMy
    go_wp2_with fail
    refine (HFt.out _ HG1.out).mono ?_
    rintro e w2 ⟨rfl, G2⟩
    have HG2 : Hid (Gr w w2) := HG1.out.trans G2
    have HA2 : Hid (w2.heap[w.heap.size]? = some (.cells #[.slice ma mn mc, .slice ha hn hc] 25 (0, 0))) := Hr.heap_of_gr G2 HA1.out
    have HB2 : Hid (w2.heap[w.heap.size + 1]? = some (.cells #[.slice none 0 0, .slice none 0 0] 25 (0, 0))) := Hr.heap_of_gr G2 HB1.out
    clear G2 HFt m0 m1 HG1 HA1 HB1
    go_wp2_with (refine wpList_store_row rfl 25 _ _ rfl (w.heap.size + 1) #[.slice none 0 0, .slice none 0 0] rfl rfl 25 #[.slice none 0 0, .slice none 0 0] ?hb iMc rfl (by kernel_rfl) ?_; (case hb => exact HB2.out))
    refine bodyPost_ret (v := .tuple #[.agg _, .int .i64 3]) (Hr.results_cell_tmp' Try.results4 _ _ _ _ _ (0, 0) _ _ rfl rfl (srh HB2.out) Try.underlying25 rfl iMc) rfl ⟨rfl, ?_⟩
    exact gr_setRow HG2.out (Nat.le_succ _) _
  · skip
    go_enter Try.func4, Try.ntmps4
    go_wp2_with fail
    refine (HMy.out _ (((Gr.refl _).alloc _).alloc _)).mono ?_
    rintro e w1 ⟨rfl, G1⟩
    have HG1 : Hid (Gr w w1) := (((Gr.refl _).alloc _).alloc _).trans G1
    have HA1 : Hid (w1.heap[w.heap.size]? = some (.cells #[.slice ma mn mc, .slice ha hn hc] 25 (0, 0))) := (two_of G1).1
    have HB1 : Hid (w1.heap[w.heap.size + 1]? = some (.cells #[.slice none 0 0, .slice none 0 0] 25 (0, 0))) := (two_of G1).2
    have m0 := cr0 HA1.out
    have m1 := cr1 HA1.out
    clear G1 HMy
    go_wp2_with fail
    refine (HFt.out _ HG1.out).mono ?_
    rintro e w2 ⟨rfl, G2⟩
    have HG2 : Hid (Gr w w2) := HG1.out.trans G2
    have HA2 : Hid (w2.heap[w.heap.size]? = some (.cells #[.slice ma mn mc, .slice ha hn hc] 25 (0, 0))) := Hr.heap_of_gr G2 HA1.out
    have HB2 : Hid (w2.heap[w.heap.size + 1]? = some (.cells #[.slice none 0 0, .slice none 0 0] 25 (0, 0))) := Hr.heap_of_gr G2 HB1.out
    clear G2 HFt m0 m1 HG1 HA1 HB1
    go_wp2_with (refine wpList_store_row rfl 25 _ _ rfl (w.heap.size + 1) #[.slice none 0 0, .slice none 0 0] rfl rfl 25 #[.slice none 0 0, .slice none 0 0] ?hb iMc rfl (by kernel_rfl) ?_; (case hb => exact HB2.out))
    refine bodyPost_ret (v := .tuple #[.agg _, .int .i64 3]) (Hr.results_cell_tmp' Try.results4 _ _ _ _ _ (0, 0) _ _ rfl rfl (srh HB2.out) Try.underlying25 rfl iMc) rfl ⟨rfl, ?_⟩
    exact gr_setRow HG2.out (Nat.le_succ _) _
theorem UBack_no {ma ha la : Option Addr} {mn mc hn hc ln lc : Nat} {st : Int} {hs : List Hv} {us : List Uv} {w : World} (H : Hs w ha hn hs) (U : Us w la ln us) (b1 : mn ≤ 140737488351232) (b2 : hn ≤ 140737488351232) (b3 : ln ≤ 140737488351232) (hno : ¬ bkE mn hs us st = 0) :
    Calls Try.prog 4 #[.agg #[.slice ma mn mc, .slice ha hn hc], .slice la ln lc, .int .i64 st] w fun e w' => e = .returned (.tuple #[.agg #[.slice none 0 0, .slice none 0 0], .int .i64 (bkE mn hs us st)]) ∧ Gr w w' := by
  have hl := H.len
  have ul := U.len
  unfold bkE at hno ⊢
  rw [hl] at hno ⊢
  by_cases h1 : mayM mn hs = false
  · rw [if_pos h1]; exact UBack_may H b1 b2 h1
  · rw [if_neg h1] at hno ⊢
    rw [Bool.not_eq_false] at h1
    by_cases h2 : us.all (fitU hn mn) = false
    · rw [if_pos h2]; exact UBack_fit H U b1 b2 b3 h1 h2
    · rw [if_neg h2] at hno ⊢
      rw [Bool.not_eq_false] at h2
      by_cases h3 : st < 0 ∨ (us.length : Int) < st
      · rw [if_pos h3]
        exact UBack_rng H U b1 b2 b3 h1 h2 (by omega)
      · exact absurd (if_neg h3) hno
/-- Where a cut of Undos begins. -/
def cutP41 (mo : Option Addr) (cap f : Nat) : Option Addr := if cap = f then mo else mo.map fun ad => ad.add (f * 41)
/-- A machine as it is answered. -/
def Mv (w : World) (v : Value) (c mn : Nat) (hs : List Hv) (m : List UInt8) : Prop := ∃ ma mc ha hc, v = .agg #[.slice ma mn mc, .slice ha c hc] ∧ Mem w ma mn m ∧ (ma = none → mc = 0) ∧ Hs w ha c hs
theorem Mv.of {w w' : World} {v : Value} {c mn : Nat} {hs : List Hv} {m : List UInt8} (h : Mv w v c mn hs m) (G : Gr w w') : Mv w' v c mn hs m := by
  obtain ⟨ma, mc, ha, hc, e, h1, h2, h3⟩ := h
  exact ⟨ma, mc, ha, hc, e, h1.of G, h2, h3.of G⟩
theorem us_drop {w : World} {la : Option Addr} {ln lc q : Nat} {us : List Uv} (U : Us w la ln us) (hq : q ≤ ln) (hc : ln ≤ lc) : Us w (cutP41 la lc q) (ln - q) (us.drop q) := by
  have hl := U.len
  refine ⟨by rw [List.length_drop, hl], fun hn => ?_⟩
  obtain ⟨b, o, rfl, hb, h⟩ := U.spot (by omega)
  have e : cutP41 (some ⟨b, o, none⟩) lc q = some ⟨b, o + q * 41, none⟩ := by unfold cutP41; rw [if_neg (by omega), Option.map_some, add_at]
  refine ⟨b, o + q * 41, e, hb, fun j u hj => ?_⟩
  rw [List.getElem?_drop] at hj
  obtain ⟨x, h1, h2⟩ := h _ u hj
  exact ⟨x, h1, fun i v hi => by have := h2 i v hi; rw [show o + q * 41 + j * 41 + i = o + (q + j) * 41 + i by omega]; exact this⟩
theorem backs_rev (s : List Hv × List UInt8) (l : List Uv) : l.reverse.foldl back1 s = backs s l := by
  unfold backs
  rw [List.foldl_reverse]
/-- Rows of cells stay: so does a machine of one's own. -/
theorem Mz.kept {w w' : World} {n z gh hc : Nat} {M : Value} {hs : List Hv} {m : List UInt8} (Z : Mz w n z M gh hc hs m) (q : ∀ (k : Nat) (o : Array Value) (t : Nat) (f : Nat × Nat), w.heap[k]? = some (.cells o t f) → w'.heap[k]? = w.heap[k]?) : Mz w' n z M gh hc hs m :=
  ⟨(q _ _ _ _ Z.blk).trans Z.blk, Z.bz, Z.mem.to fun k o f e => q k o _ f e, Z.bh, Z.row.to fun k o f e => q k o _ f e⟩
theorem kept_cells {W W' : World} {row : Option Nat} {B : Nat} (hg : W.grownBy W' row) (hr : ∀ r, row = some r → B ≤ r ∧ ∃ o : Obj, W.heap[r]? = some o ∧ o.isCells = false) : ∀ (k : Nat) (o : Array Value) (t : Nat) (f : Nat × Nat), W.heap[k]? = some (.cells o t f) → W'.heap[k]? = W.heap[k]? := fun k o t f e => by
  refine hg.block k (gs e).1 (fun e2 => ?_)
  obtain ⟨_, ob, h1, h2⟩ := hr k e2.symm
  rw [e] at h1
  injection h1 with h1
  subst h1
  cases h2
theorem back_len (s : List Hv × List UInt8) (u : Uv) {c mn : Nat} (h1 : s.1.length = c) (h2 : s.2.length = mn) (hf : fitU c mn u = true) (f0 : 0 ≤ u.fr) : (back1 s u).1.length = c ∧ (back1 s u).2.length = mn := by
  unfold fitU at hf
  simp only [Bool.and_eq_true, decide_eq_true_eq] at hf
  have := hf.2.2.1
  unfold back1 lay
  refine ⟨by simp [gives_len, h1], ?_⟩
  simp
  omega
theorem folds_len {c mn : Nat} : ∀ (l : List Uv) (s : List Hv × List UInt8), s.1.length = c → s.2.length = mn → (∀ u ∈ l, fitU c mn u = true ∧ 0 ≤ u.fr) → (l.foldl back1 s).1.length = c ∧ (l.foldl back1 s).2.length = mn
  | [], s, h1, h2, _ => ⟨h1, h2⟩
  | u :: r, s, h1, h2, h => by
    have := back_len s u h1 h2 (h u (by simp)).1 (h u (by simp)).2
    exact folds_len r (back1 s u) this.1 this.2 (fun v hv => h v (by simp [hv]))
set_option maxHeartbeats 4000000 in
set_option maxRecDepth 100000 in
theorem UBack_yes {ma ha la : Option Addr} {mn mc hn hc ln lc : Nat} {st : Int} {hs : List Hv} {us : List Uv} {w : World} {m : List UInt8} (M : Mem w ma mn m) (hcap : ma = none → mc = 0) (H : Hs w ha hn hs) (U : Us w la ln us) (b3 : ln ≤ 140737488351232) (hlc : ln ≤ lc) (hy : bkE mn hs us st = 0) :
    Calls Try.prog 4 #[.agg #[.slice ma mn mc, .slice ha hn hc], .slice la ln lc, .int .i64 st] w fun e w' => ∃ v, e = .returned (.tuple #[v, .int .i64 0]) ∧ Mv w' v hn mn (backs (hs, m) (us.drop (ln - st.toNat))).1 (backs (hs, m) (us.drop (ln - st.toNat))).2 ∧ Gr w w' := by
  have hl := H.len
  have ul := U.len
  have ml := M.len
  unfold bkE at hy
  rw [hl] at hy
  by_cases h1 : mayM mn hs = false
  · rw [if_pos h1] at hy; cases hy
  rw [if_neg h1, Bool.not_eq_false] at *
  by_cases h2 : us.all (fitU hn mn) = false
  · rw [if_pos h2] at hy; cases hy
  rw [if_neg h2, Bool.not_eq_false] at *
  by_cases h3 : st < 0 ∨ (us.length : Int) < st
  · rw [if_pos h3] at hy; cases hy
  clear hy
  obtain ⟨s, rfl⟩ := Int.eq_ofNat_of_zero_le (show 0 ≤ st by omega)
  have hs1 : ¬ (s : Int) < 0 := by omega
  have hs2 : ¬ (ln : Int) < (s : Int) := by omega
  have hs3 : s ≤ ln := by omega
  rw [Int.toNat_natCast]
  have hmm : mn ≤ 4096 ∧ 1 ≤ hn ∧ hn ≤ 4 := by
    unfold mayM at h1
    simp only [Bool.and_eq_true, decide_eq_true_eq, hl] at h1
    exact h1.1
  obtain ⟨m4, n1, n4⟩ := hmm
  have b1 : mn ≤ 140737488351232 := by omega
  have b2 : hn ≤ 140737488351232 := by omega
  have HMy : Hid (∀ W : World, Gr w W → Calls Try.prog 7 #[.agg #[.slice ma mn mc, .slice ha hn hc]] W fun e w' => e = .returned (.bool true) ∧ Gr W w') := fun W G => by rw [← h1]; exact MMay_any mc hc mn (H.of G) b1 b2
  have HFt : Hid (∀ W : World, Gr w W → Calls Try.prog 8 #[.agg #[.slice ma mn mc, .slice ha hn hc], .slice la ln lc] W fun e w' => e = .returned (.bool true) ∧ Gr W w') := fun W G => by rw [← h2]; exact fit_any (U.of G) b1 b2 b3
  have HUD : Hid (Us w (cutP41 la lc (ln - s)) (ln - (ln - s)) (us.drop (ln - s))) := us_drop U (by omega) hlc
  have HFU : Hid (∀ u ∈ us.drop (ln - s), fitU hn mn u = true) := fun u hu => by
    have := List.all_eq_true.1 h2 u (List.mem_of_mem_drop hu)
    exact this
  have hla : (la = none ∧ ln = 0) ∨ ∃ b o, la = some ⟨b, o, none⟩ ∨ ln = 0 := by
    by_cases h0 : 0 < ln
    · obtain ⟨b, o, e, _⟩ := U.spot h0
      exact .inr ⟨b, o, .inl e⟩
    · exact .inr ⟨0, 0, .inr (by omega)⟩
  obtain ⟨hb, ho, he, _, _⟩ := H.spot (by omega)
  subst he
  have C1 : Hid (∀ W : World, Gr w W → Calls Try.prog 9 #[.slice ma mn mc] W fun e w' => ∃ a c, e = .returned (.slice a mn c) ∧ Hc.Own w' w.heap.size (.slice a mn c) m ∧ Gr W w') := fun W G => (Clone_any (M.of G) hcap (by omega)).mono fun e w' ⟨v, e1, e2, e3⟩ => by
    obtain ⟨a, c, rfl, _⟩ := e2.mem
    rw [ml] at e1 e2
    exact ⟨a, c, e1, e2.base (w' := w') G.size, e3⟩
  have C2 : Hid (∀ W : World, Gr w W → Calls Try.prog 10 #[.slice (some ⟨hb, ho, none⟩) hn hc] W fun e w' => ∃ g c, e = .returned (.slice (some ⟨g, 0, none⟩) hn c) ∧ w.heap.size ≤ g ∧ HRow w' g hs ∧ Gr W w') := fun W G => (HClone_any hc (H.of G) n1 n4).mono fun e w' ⟨g, c, e1, e2, e3⟩ => ⟨g, c, e1, Nat.le_trans G.size e2, e3⟩
  have HHL : Hid (hs.length = hn) := hl
  have HML : Hid (m.length = mn) := ml
  have HUL : Hid (us.length = ln) := ul
  have e1 : IntKind.i64.wrap ((ln : Int) - (s : Int)) = ((ln - s : Nat) : Int) := by simp [IntKind.wrap, IntKind.bits, IntKind.signed]; omega
  clear H U M hcap h1 h2 h3 hl ul ml
  refine callsIn_wide.1 (callsIn_of_wp_marks (F := Fence.wide) (n := 9) Try.func4 rfl trivial ?_ rfl)
  refine wpIn_wide.2 ?_
  simp only [Try.ntmps4, List.size_toArray, List.length_cons, List.length_nil, Nat.reduceAdd, Nat.reduceSub, Array.replicate_succ, Array.replicate_zero, List.push_toArray, List.append_toArray, List.nil_append, List.cons_append]
  go_wp2_with fail
  refine (HMy.out _ (((Gr.refl _).alloc _).alloc _)).mono ?_
  rintro e w1 ⟨rfl, G1⟩
  have HG1 : Hid (Gr w w1) := (((Gr.refl _).alloc _).alloc _).trans G1
  have HA1 : Hid (w1.heap[w.heap.size]? = some (.cells #[.slice ma mn mc, .slice (some ⟨hb, ho, none⟩) hn hc] 25 (0, 0))) := (two_of G1).1
  have HB1 : Hid (w1.heap[w.heap.size + 1]? = some (.cells #[.slice none 0 0, .slice none 0 0] 25 (0, 0))) := (two_of G1).2
  have m0 := cr0 HA1.out
  have m1 := cr1 HA1.out
  clear G1 HMy
  go_wp2_with fail
  refine (HFt.out _ HG1.out).mono ?_
  rintro e w2 ⟨rfl, G2⟩
  have HG2 : Hid (Gr w w2) := HG1.out.trans G2
  have HA2 : Hid (w2.heap[w.heap.size]? = some (.cells #[.slice ma mn mc, .slice (some ⟨hb, ho, none⟩) hn hc] 25 (0, 0))) := Hr.heap_of_gr G2 HA1.out
  have HB2 : Hid (w2.heap[w.heap.size + 1]? = some (.cells #[.slice none 0 0, .slice none 0 0] 25 (0, 0))) := Hr.heap_of_gr G2 HB1.out
  clear G2 HFt m0 m1 HG1 HA1 HB1
  have m0 := cr0 HA2.out
  have m1 := cr1 HA2.out
  go_wp2_with fail
  have HSv : Hid (∀ V : World, Gr w2 V → (fun W => W.cell? ⟨w.heap.size, 0, none⟩ = some (.slice ma mn mc) ∧ W.cell? ⟨w.heap.size, 1, none⟩ = some (.slice (some ⟨hb, ho, none⟩) hn hc)) V) := fun V G => ⟨cr0 (Hr.heap_of_gr G HA2.out), cr1 (Hr.heap_of_gr G HA2.out)⟩
  refine wp_noP ?_
  refine wp_region_held_drew (S := fun W => W.cell? ⟨w.heap.size, 0, none⟩ = some (.slice ma mn mc) ∧ W.cell? ⟨w.heap.size, 1, none⟩ = some (.slice (some ⟨hb, ho, none⟩) hn hc)) (by kernel_rfl) (HSv.out _ (Gr.drew (Gr.refl _))) (fun hHeld => ?_)
  have HS0 : Hid _ := hHeld
  clear hHeld
  refine wpAnyH_take (i := 0) (v := .pointer (some ⟨w.heap.size, 0, none⟩)) rfl (by kernel_rfl) (by kernel_rfl) (by kernel_rfl) (fun _ _ _ h => h) (Or.inl ⟨by rfl, fun W hW => by obtain ⟨y0, y1⟩ := hW; go_simp⟩) HS0.out ?_
  simp only [List.getElem_toArray, List.getElem_cons_succ, List.getElem_cons_zero, Act.put, List.setIfInBounds_toArray, List.set_cons_zero, List.set_cons_succ]
  refine wpAnyH_take (i := 1) (v := .slice ma mn mc) rfl (by kernel_rfl) (by kernel_rfl) (by kernel_rfl) (fun _ _ _ h => h) (Or.inl ⟨by rfl, fun W hW => by obtain ⟨y0, y1⟩ := hW; go_simp⟩) HS0.out ?_
  simp only [List.getElem_toArray, List.getElem_cons_succ, List.getElem_cons_zero, Act.put, List.setIfInBounds_toArray, List.set_cons_zero, List.set_cons_succ]
  refine wpAnyH_take (i := 3) (v := .pointer (some ⟨w.heap.size, 1, none⟩)) rfl (by kernel_rfl) (by kernel_rfl) (by kernel_rfl) (fun _ _ _ h => h) (Or.inl ⟨by rfl, fun W hW => by obtain ⟨y0, y1⟩ := hW; go_simp⟩) HS0.out ?_
  simp only [List.getElem_toArray, List.getElem_cons_succ, List.getElem_cons_zero, Act.put, List.setIfInBounds_toArray, List.set_cons_zero, List.set_cons_succ]
  refine wpAnyH_take (i := 4) (v := .slice (some ⟨hb, ho, none⟩) hn hc) rfl (by kernel_rfl) (by kernel_rfl) (by kernel_rfl) (fun _ _ _ h => h) (Or.inl ⟨by rfl, fun W hW => by obtain ⟨y0, y1⟩ := hW; go_simp⟩) HS0.out ?_
  simp only [List.getElem_toArray, List.getElem_cons_succ, List.getElem_cons_zero, Act.put, List.setIfInBounds_toArray, List.set_cons_zero, List.set_cons_succ]
  obtain ⟨FA, HFA⟩ : ∃ FA : Nat → Option Addr → Nat → Nat → Nat → World → Prop, Hid (FA = fun (z : Nat) (a2 : Option Addr) (c2 g3 c3 : Nat) (V : World) => V.heap[z]? = some (.cells #[.slice none 0 0, .slice none 0 0] 25 (0, 0)) ∧ w2.heap.size ≤ z ∧ Hc.Own V w.heap.size (.slice a2 mn c2) m ∧ w.heap.size ≤ g3 ∧ HRow V g3 hs ∧ Gr w2 V) := ⟨_, rfl⟩
  have HD : Hid (Gr w2 w2.drew) := Gr.drew (Gr.refl _)
  apply shareP
  · intro CONT
    refine wpAnyH_ready (rs := [2, 7]) (by kernel_rfl) (by simp) ?_
    refine AllReadyH.cons rfl (fun K hK => ?_) (AllReadyH.cons rfl (fun K hK => ?_) AllReadyH.nil)
    · skip
      go_simp
      refine (C1.out _ (HG2.out.trans HD.out)).mono ?_
      rintro e w3 ⟨a2, c2, rfl, O3, G3⟩
      have HO3 : Hid (Hc.Own w3 w.heap.size (.slice a2 mn c2) m) := O3
      have HG3 : Hid (Gr w2 w3) := Gr.trans HD.out G3
      refine hK.out _ _ (HSv.out _ HG3.out) (fun hx => ?_)
      clear hK K hx O3
      refine wpAnyH_ready (rs := [5, 7]) (by kernel_rfl) (by simp) ?_
      refine AllReadyH.cons rfl (fun K hK => ?_) (AllReadyH.cons rfl (fun K hK => ?_) AllReadyH.nil)
      · skip
        go_simp
        refine (C2.out _ (HG2.out.trans HG3.out)).mono ?_
        rintro e w4 ⟨g3, c3, rfl, hg3, R4, G4⟩
        have HG4 : Hid (Gr w2 w4) := Gr.trans HG3.out G4
        refine hK.out _ _ (HSv.out _ HG4.out) (fun hx => ?_)
        clear hK K hx
        refine wpAnyH_take (i := 6) (v := .agg #[.slice a2 mn c2, .slice (some ⟨g3, 0, none⟩) hn c3]) rfl (by kernel_rfl) (by kernel_rfl) (by kernel_rfl) (fun _ _ _ h => h) (Or.inl ⟨by rfl, fun W hW => by obtain ⟨y0, y1⟩ := hW; go_simp⟩) (HSv.out _ HG4.out) ?_
        simp only [List.getElem_toArray, List.getElem_cons_succ, List.getElem_cons_zero, Act.put, List.setIfInBounds_toArray, List.set_cons_zero, List.set_cons_succ]
        refine wpAnyH_ready (rs := [7]) (by kernel_rfl) (by simp) ?_
        refine AllReadyH.cons rfl (fun K hK => ?_) AllReadyH.nil
        go_simp
        refine hK.out _ _ (HSv.out _ (Gr.alloc HG4.out _)) (fun hx => ?_)
        clear hK K hx
        obtain ⟨z, hz⟩ : ∃ z : Nat, z = w4.heap.size := ⟨_, rfl⟩
        rw [← hz]
        refine atW (FA z a2 c2 g3 c3) ?hfa ?_
        case hfa => rw [HFA.out]; exact ⟨by rw [hz]; exact heap_alloc_new w4 _, by rw [hz]; exact HG4.out.size, own_gr (own_gr HO3.out G4) ((Gr.refl _).alloc _), hg3, R4.of ((Gr.refl _).alloc _), Gr.alloc HG4.out _⟩
        clear hz HG4 HG3 HO3 hg3 R4 G3 G4
        clear w4 w3
        revert z a2 c2 g3 c3
        exact CONT.out
      · skip
        go_simp
        refine hK.out _ _ (HSv.out _ (Gr.alloc HG3.out _)) (fun hx => ?_)
        clear hK K hx
        refine wpAnyH_ready (rs := [5]) (by kernel_rfl) (by simp) ?_
        refine AllReadyH.cons rfl (fun K hK => ?_) AllReadyH.nil
        go_simp
        refine (C2.out _ (HG2.out.trans (Gr.alloc HG3.out _))).mono ?_
        rintro e w4 ⟨g3, c3, rfl, hg3, R4, G4⟩
        have HG4 : Hid (Gr w2 w4) := Gr.trans (Gr.alloc HG3.out _) G4
        refine hK.out _ _ (HSv.out _ HG4.out) (fun hx => ?_)
        clear hK K hx
        refine wpAnyH_take (i := 6) (v := .agg #[.slice a2 mn c2, .slice (some ⟨g3, 0, none⟩) hn c3]) rfl (by kernel_rfl) (by kernel_rfl) (by kernel_rfl) (fun _ _ _ h => h) (Or.inl ⟨by rfl, fun W hW => by obtain ⟨y0, y1⟩ := hW; go_simp⟩) (HSv.out _ HG4.out) ?_
        simp only [List.getElem_toArray, List.getElem_cons_succ, List.getElem_cons_zero, Act.put, List.setIfInBounds_toArray, List.set_cons_zero, List.set_cons_succ]
        obtain ⟨z, hz⟩ : ∃ z : Nat, z = w3.heap.size := ⟨_, rfl⟩
        rw [← hz]
        refine atW (FA z a2 c2 g3 c3) ?hfa ?_
        case hfa => rw [HFA.out]; exact ⟨by rw [hz]; exact Hr.heap_of_gr G4 (heap_alloc_new w3 _), by rw [hz]; exact HG3.out.size, own_gr HO3.out (Gr.trans ((Gr.refl _).alloc _) G4), hg3, R4, HG4.out⟩
        clear hz HG4 HG3 HO3 hg3 R4 G3 G4
        clear w4 w3
        revert z a2 c2 g3 c3
        exact CONT.out
    · skip
      go_simp
      refine hK.out _ _ (HSv.out _ (Gr.alloc HD.out _)) (fun hx => ?_)
      clear hK K hx
      refine wpAnyH_ready (rs := [2]) (by kernel_rfl) (by simp) ?_
      refine AllReadyH.cons rfl (fun K hK => ?_) AllReadyH.nil
      go_simp
      refine (C1.out _ (HG2.out.trans (Gr.alloc HD.out _))).mono ?_
      rintro e w3 ⟨a2, c2, rfl, O3, G3⟩
      have HO3 : Hid (Hc.Own w3 w.heap.size (.slice a2 mn c2) m) := O3
      have HG3 : Hid (Gr w2 w3) := Gr.trans (Gr.alloc HD.out _) G3
      refine hK.out _ _ (HSv.out _ HG3.out) (fun hx => ?_)
      clear hK K hx O3
      refine wpAnyH_ready (rs := [5]) (by kernel_rfl) (by simp) ?_
      refine AllReadyH.cons rfl (fun K hK => ?_) AllReadyH.nil
      go_simp
      refine (C2.out _ (HG2.out.trans HG3.out)).mono ?_
      rintro e w4 ⟨g3, c3, rfl, hg3, R4, G4⟩
      have HG4 : Hid (Gr w2 w4) := Gr.trans HG3.out G4
      refine hK.out _ _ (HSv.out _ HG4.out) (fun hx => ?_)
      clear hK K hx
      refine wpAnyH_take (i := 6) (v := .agg #[.slice a2 mn c2, .slice (some ⟨g3, 0, none⟩) hn c3]) rfl (by kernel_rfl) (by kernel_rfl) (by kernel_rfl) (fun _ _ _ h => h) (Or.inl ⟨by rfl, fun W hW => by obtain ⟨y0, y1⟩ := hW; go_simp⟩) (HSv.out _ HG4.out) ?_
      simp only [List.getElem_toArray, List.getElem_cons_succ, List.getElem_cons_zero, Act.put, List.setIfInBounds_toArray, List.set_cons_zero, List.set_cons_succ]
      obtain ⟨z, hz⟩ : ∃ z : Nat, z = w2.heap.size := ⟨_, rfl⟩
      rw [← hz]
      refine atW (FA z a2 c2 g3 c3) ?hfa ?_
      case hfa => rw [HFA.out]; exact ⟨by rw [hz]; exact Hr.heap_of_gr G4 (Hr.heap_of_gr G3 (heap_alloc_new w2.drew _)), by rw [hz]; exact Nat.le_refl _, own_gr HO3.out G4, hg3, R4, HG4.out⟩
      clear hz HG4 HG3 HO3 hg3 R4 G3 G4
      clear w4 w3
      revert z a2 c2 g3 c3
      exact CONT.out
  intro a2 c2 g3 c3 z V hF
  rw [HFA.out] at hF
  obtain ⟨kz, hz2, O5, hg5, R5, G5⟩ := hF
  have HKz : Hid (V.heap[z]? = some (.cells #[.slice none 0 0, .slice none 0 0] 25 (0, 0))) := kz
  have hb2 : w.heap.size + 1 < w2.heap.size := (gs HB2.out).1
  have HZ5 : Hid (Mz (V.setRow z #[.slice a2 mn c2, .slice (some ⟨g3, 0, none⟩) hn c3]) w.heap.size z (.slice a2 mn c2) g3 c3 hs m) := by
    have st : ∀ (k : Nat) (q : Array Value) (t : Nat) (f : Nat × Nat), t ≠ 25 → V.heap[k]? = some (.cells q t f) → (V.setRow z #[.slice a2 mn c2, .slice (some ⟨g3, 0, none⟩) hn c3]).heap[k]? = V.heap[k]? := fun k q t f ht hk => sro (ne_of_types hk kz ht)
    refine ⟨?_, by omega, O5.to fun k o f e => st k o _ f (by decide) e, hg5, R5.to fun k o f e => st k o _ f (by decide) e⟩
    rw [HHL.out]
    exact srh kz
  have HG5 : Hid (Gr w2 (V.setRow z #[.slice a2 mn c2, .slice (some ⟨g3, 0, none⟩) hn c3])) := gr_setRow G5 hz2 _
  clear kz O5 hg5 R5 G5
  refine wpAnyH_ready (rs := [8]) (by kernel_rfl) (by simp) ?_
  refine AllReadyH.cons rfl (fun K hK => ?_) AllReadyH.nil
  refine step_store rfl 25 (.tmp 8) (.tmp 36) rfl z #[.slice a2 mn c2, .slice (some ⟨g3, 0, none⟩) hn c3] (by simp [Act.eval]) (by simp [Act.eval]) 25 #[.slice none 0 0, .slice none 0 0] HKz.out iMc rfl (by kernel_rfl) ?_
  refine hK.out _ _ (HSv.out _ HG5.out) (fun hx => ?_)
  clear hK K hx
  refine wpAnyH_done (by kernel_rfl) ?_ _
  refine noP_n ?_
  generalize V.setRow z #[.slice a2 mn c2, .slice (some ⟨g3, 0, none⟩) hn c3] = W3 at *
  have HB3 : Hid (W3.heap[w.heap.size + 1]? = some (.cells #[.slice none 0 0, .slice none 0 0] 25 (0, 0))) := Hr.heap_of_gr HG5.out HB2.out
  have HG3 : Hid (Gr w W3) := HG2.out.trans HG5.out
  have hzr : z ≠ w.heap.size + 1 := by omega
  clear HKz HSv HS0 HFA HD FA HA2 HB2 HG2 HG5 m0 m1 C1 C2 hz2
  clear V
  obtain ⟨q, hq⟩ : ∃ q : Nat, q = ln - s := ⟨_, rfl⟩
  have HQ : Hid (q = ln - s) := hq
  have hql : q ≤ ln := by omega
  have hqi : (q : Int) ≤ (ln : Int) := by omega
  have hqc : (ln : Int) ≤ (lc : Int) := by omega
  rw [← hq] at e1 HUD
  clear hq
  by_cases hcl : lc = q
  · subst hcl
    have h0 : ln - lc = 0 := by omega
    have HX : Hid (Us w la 0 (us.drop (ln - s))) := by have := HUD.out; unfold cutP41 at this; rw [if_pos rfl, h0] at this; rw [← HQ.out]; exact this
    go_wp2_with fail
    refine (Backward_any _ _ _ _).mono ?_
    rintro e w5 ⟨rfl, rfl⟩
    go_wp2_with fail
    have HB5 : Hid ((W3.alloc (.cells #[.slice la 0 0] 26)).heap[W3.heap.size]? = some (.cells #[.slice la 0 0] 26 (0, 0))) := heap_alloc_new W3 _
    have HG5 : Hid (Gr w (W3.alloc (.cells #[.slice la 0 0] 26))) := HG3.out.alloc _
    have HZ6 : Hid (Mz (W3.alloc (.cells #[.slice la 0 0] 26)) w.heap.size z (.slice a2 mn c2) g3 c3 hs m) := HZ5.out.kept fun k o t f e => ((Gr.refl W3).alloc _).block _ (gs e).1
    have HB6 : Hid ((W3.alloc (.cells #[.slice la 0 0] 26)).heap[w.heap.size + 1]? = some (.cells #[.slice none 0 0, .slice none 0 0] 25 (0, 0))) := Hr.heap_of_gr ((Gr.refl W3).alloc _) HB3.out
    generalize hW6 : W3.alloc (.cells #[.slice la 0 0] 26) = W6 at *
    have hw6 : w.heap.size ≤ W6.heap.size := HG5.out.size
    clear hW6
    refine (wpIn_wide (n := 9)).1 ?_
    refine wpIn_rangeFunc_ownH (F := Fence.wide) (n := 9) rfl (by omega) (gf := 20) (lb := #[.pointer (some ⟨W3.heap.size, 0, none⟩)]) rfl trivial (enters_of Try.func20 (by kernel_rfl) rfl)
      (bwd_stops (c := hn) (mn := mn) HX.out (by omega) HFU.out (9 - 1) W3.heap.size W6 HG5.out HB5.out) Kr.trans (kr_b hw6) (Below.refl _ _) (fun _ => rfl)
      (fun pre W => (Mz W w.heap.size z (.slice a2 mn c2) g3 c3 ((pre.map Yv.u).foldl back1 (hs, m)).1 ((pre.map Yv.u).foldl back1 (hs, m)).2 ∧ W.heap[w.heap.size + 1]? = some (.cells #[.slice none 0 0, .slice none 0 0] 25 (0, 0))) ∧ Below w.heap.size w W)
      (fun _ _ _ => False)
      (OwnFrom.and (fun s X X' row h hg hr => ⟨h.1.kept (kept_cells hg hr), (kept_cells hg hr _ _ _ _ h.2).trans h.2⟩) (ownFrom_below (Nat.le_refl _) hw6))
      (fun _ _ _ _ _ h _ _ => h)
      ⟨⟨HZ6.out, HB6.out⟩, HG5.out⟩
      (fun y a' W => ∃ Bx, W.heap[Bx]? = some (.cells y.x.toArray 45 (0, 0)) ∧ a' = { tmps := #[.agg #[.slice ma mn mc, .slice (some ⟨hb, ho, none⟩) hn hc], .slice la ln lc, .int .i64 s, .pointer (some ⟨w.heap.size, 0, none⟩), undef, undef, .pointer (some ⟨(w.heap.size + 1), 0, none⟩), .int .i64 0, .pointer (some ⟨z, 0, none⟩), undef, .pointer (some ⟨Bx, 0, none⟩), .agg #[.slice ma mn mc, .slice (some ⟨hb, ho, none⟩) hn hc], .bool true, .bool false, .bool false, .agg #[.slice ma mn mc, .slice (some ⟨hb, ho, none⟩) hn hc], .slice la ln lc, .bool true, .bool false, .bool false, undef, .int .i64 s, .bool (decide ((s : Int) < 0)), .bool (decide ((s : Int) < 0)), .int .i64 s, .slice la ln lc, .int .i64 ln, .bool false, .bool (decide ((s : Int) < 0)), undef, .pointer (some ⟨w.heap.size, 0, none⟩), .slice ma mn mc, .slice a2 mn c2, .pointer (some ⟨w.heap.size, 1, none⟩), .slice (some ⟨hb, ho, none⟩) hn hc, .slice (some ⟨g3, 0, none⟩) hn c3, .agg #[.slice a2 mn c2, .slice (some ⟨g3, 0, none⟩) hn c3], .slice la ln lc, .slice la ln lc, .int .i64 ln, .int .i64 s, .int .i64 lc, .slice la 0 0, .func (.func 20) #[] #[.pointer (some ⟨W3.heap.size, 0, none⟩)], .int .i64 (y.1.1 : Int), .agg y.x.toArray, undef, undef, undef], defers := [] })
      (fun y a' _ X X' row h hg hr => by obtain ⟨Bx, h1, h2⟩ := h; exact ⟨Bx, (kept_cells hg hr _ _ _ _ h1).trans h1, h2⟩)
      ?assign ?body ?done ?stop
    case assign =>
      rintro l pre y W K ⟨⟨Z7, B7⟩, L7⟩ hK
      have HXL : Hid (y.x.length = 41) := y.2.1.len
      have HXA : Hid (y.x.toArray.size = 41) := by unfold Hid; simp [HXL.out]
      have HX1 : Hid (y.x.toArray.all (·.oneCell') = true) := y.2.1.one
      unfold Yv.enc
      have G7 : ∀ Y : Array Value, Gr W ((W.alloc (.cells Y 45)).setRow W.heap.size y.x.toArray) := fun Y => gr_setRow ((Gr.refl _).alloc _) (Nat.le_refl _) _
      have HG7 : Hid _ := G7
      have HK : Hid _ := hK
      have HZ7 : Hid (Mz W w.heap.size z (.slice a2 mn c2) g3 c3 ((pre.map Yv.u).foldl back1 (hs, m)).1 ((pre.map Yv.u).foldl back1 (hs, m)).2) := Z7
      have HB7 : Hid (W.heap[w.heap.size + 1]? = some (.cells #[.slice none 0 0, .slice none 0 0] 25 (0, 0))) := B7
      have HL7 : Hid (Below w.heap.size w W) := L7
      have hwl := L7.size
      clear hK Z7 B7 L7 G7
      gi_wp2_with (refine wpListIn_store_row' rfl 45 _ _ rfl W.heap.size y.x.toArray rfl rfl 45 _ (heap_alloc_new W _) (by rw [HXA.out]; exact iU) (by rw [HXA.out]; rfl) HX1.out ?_)
      exact HK.out _ _ ((Th.ofGr (n := w.heap.size) (HG7.out _) hwl).keeps) ((Th.ofGr (HG7.out _) hwl).kr) ⟨⟨HZ7.out.kept fun k o t f e => (HG7.out _).block _ (gs e).1, Hr.heap_of_gr (HG7.out _) HB7.out⟩, HL7.out.trans (Below.mono (HG7.out _) hwl)⟩ ⟨W.heap.size, srh (heap_alloc_new W _), rfl⟩
    case body =>
      rintro l pre y a' W hl hr ⟨⟨Z7, B7⟩, L7⟩ ⟨Bx, hBx, rfl⟩ hlt
      dsimp only
      have hfl := folds_len (pre.map Yv.u) (hs, m) HHL.out HML.out (fun u hu => by
        obtain ⟨y', _, rfl⟩ := List.mem_map.1 hu
        obtain ⟨_, _, _, _, _, _, _, ok, _⟩ := y'.2.1
        exact ⟨y'.2.2, ok.f0⟩)
      have HXL : Hid (y.x.length = 41) := y.2.1.len
      have RG : Hid (W.rangeAt Bx 0 y.x) := fun i v hi => by rw [Nat.zero_add, cr hBx, List.getElem?_toArray]; exact hi
      have HTB : Hid (Calls Try.prog 12 #[.pointer (some ⟨z, 0, none⟩), .agg y.x.toArray] W fun e w' => e = .returned (.tuple #[]) ∧ Mz w' w.heap.size z (.slice a2 mn c2) g3 c3 (((pre ++ [y]).map Yv.u).foldl back1 (hs, m)).1 (((pre ++ [y]).map Yv.u).foldl back1 (hs, m)).2 ∧ Th w.heap.size W w') := by
        have := takeBack_any y.2.1 L7 Z7 hfl.1 n4 hfl.2 m4 y.2.2
        have e : ((pre ++ [y]).map Yv.u).foldl back1 (hs, m) = back1 ((pre.map Yv.u).foldl back1 (hs, m)) y.u := by rw [List.map_append, List.foldl_append]; rfl
        rw [e]
        exact this
      have HB7 : Hid (W.heap[w.heap.size + 1]? = some (.cells #[.slice none 0 0, .slice none 0 0] 25 (0, 0))) := B7
      have HL7 : Hid (Below w.heap.size w W) := L7
      clear Z7 B7 L7 hfl hBx hr hlt
      gi_wp2_with (first
        | (refine wpListIn_load_mid rfl 45 _ rfl Bx 0 rfl y.x _ ?r1 Try.underlying45 rfl (by rw [HXL.out]; exact iU) ?_; (case r1 => exact RG.out))
        | (refine ⟨trivial, ?_⟩; gi_at_call 12; refine (CallsIn.inRound l (callsIn_wide.2 HTB.out)).mono ?_; rintro e w8 ⟨rfl, Z8, T8⟩))
      exact ⟨T8.keeps, T8.kr, ⟨Z8, T8.row HB7.out (by decide) (by decide)⟩, HL7.out.trans T8.below⟩
    case done =>
      rintro D ys W hD hys ⟨⟨Z7, B7⟩, L7⟩ hK
      rw [hys, backs_rev] at Z7
      have hfl : (backs (hs, m) (us.drop (ln - s))).1.length = hn ∧ (backs (hs, m) (us.drop (ln - s))).2.length = mn := by
        rw [← backs_rev]
        refine folds_len _ (hs, m) HHL.out HML.out (fun u hu => ?_)
        rw [← hys] at hu
        obtain ⟨y', _, rfl⟩ := List.mem_map.1 hu
        obtain ⟨_, _, _, _, _, _, _, ok, _⟩ := y'.2.1
        exact ⟨y'.2.2, ok.f0⟩
      have HZ7 : Hid (Mz W w.heap.size z (.slice a2 mn c2) g3 c3 (backs (hs, m) (us.drop (ln - s))).1 (backs (hs, m) (us.drop (ln - s))).2) := Z7
      have HFL : Hid _ := hfl
      generalize hbk : (backs (hs, m) (us.drop (ln - s))) = bk at *
      have HB7 : Hid (W.heap[w.heap.size + 1]? = some (.cells #[.slice none 0 0, .slice none 0 0] 25 (0, 0))) := B7
      have kz : W.heap[z]? = some (.cells #[.slice a2 mn c2, .slice (some ⟨g3, 0, none⟩) hn c3] 25 (0, 0)) := by have := Z7.blk; rw [hfl.1] at this; exact this
      have HKz : Hid _ := kz
      have HL7 : Hid (Gr w W) := L7
      have HKD : Hid (W.heap[D]? = some (.deferred (some []))) := hK
      clear Z7 B7 L7 hK kz hfl hys
      go_wp2_with (first
        | (refine wpList_load_row rfl 25 _ rfl z rfl 25 #[.slice a2 mn c2, .slice (some ⟨g3, 0, none⟩) hn c3] (0, 0) _ ?yy1 Try.underlying25 rfl iMc ?_; (case yy1 => exact HKz.out))
        | (refine wpList_store_row rfl 25 _ _ rfl (w.heap.size + 1) #[.slice a2 mn c2, .slice (some ⟨g3, 0, none⟩) hn c3] rfl rfl 25 #[.slice none 0 0, .slice none 0 0] ?yy2 iMc rfl (by kernel_rfl) ?_; (case yy2 => exact HB7.out)))
      have hDr : D ≠ w.heap.size + 1 := by have := (gs HB6.out).1; omega
      have HK9 : Hid ((W.setRow (w.heap.size + 1) #[.slice a2 mn c2, .slice (some ⟨g3, 0, none⟩) hn c3]).heap[D]? = some (.deferred (some []))) := (sro hDr).trans HKD.out
      have H9b : Hid ((W.setRow (w.heap.size + 1) #[.slice a2 mn c2, .slice (some ⟨g3, 0, none⟩) hn c3]).heap[w.heap.size + 1]? = some (.cells #[.slice a2 mn c2, .slice (some ⟨g3, 0, none⟩) hn c3] 25 (0, 0))) := srh HB7.out
      have H9 : Hid (Hc.Own (W.setRow (w.heap.size + 1) #[.slice a2 mn c2, .slice (some ⟨g3, 0, none⟩) hn c3]) w.heap.size (.slice a2 mn c2) bk.2 ∧ HRow (W.setRow (w.heap.size + 1) #[.slice a2 mn c2, .slice (some ⟨g3, 0, none⟩) hn c3]) g3 bk.1) := ⟨HZ7.out.mem.to fun k o f e => sro (ne_of_types e HB7.out (by decide)), HZ7.out.row.to fun k o f e => sro (ne_of_types e HB7.out (by decide))⟩
      have HG9 : Hid (Gr w (W.setRow (w.heap.size + 1) #[.slice a2 mn c2, .slice (some ⟨g3, 0, none⟩) hn c3])) := gr_setRow HL7.out (Nat.le_succ _) _
      have HBk : Hid (bk = backs (hs, m) (us.drop (ln - s))) := by unfold Hid; exact hbk.symm
      rw [hbk]
      generalize W.setRow (w.heap.size + 1) #[.slice a2 mn c2, .slice (some ⟨g3, 0, none⟩) hn c3] = W9 at *
      have kc := kept_cells (B := 0) (grownBy_putObj' W9 D (.deferred none)) (fun r e => by cases e; exact ⟨Nat.zero_le _, _, HK9.out, rfl⟩)
      refine ⟨by simp, .inl ⟨D, _, rfl, run_takeDeferred HK9.out, ?_⟩⟩
      refine ⟨_, Hr.results_cell_tmp' Try.results4 _ _ _ _ _ (0, 0) _ _ rfl rfl ((kc _ _ _ _ H9b.out).trans H9b.out) Try.underlying25 rfl iMc, _, rfl, ?_, Below.trans HG9.out (belowK_b (w := w) (Nat.le_refl _) W9 D _ _ (by omega) HK9.out rfl rfl)⟩
      obtain ⟨l1, l2⟩ := HFL.out
      have O10 := H9.out.1.to (w' := W9.putObj D (.deferred none)) fun k o f e => kc k o _ f e
      have R10 := H9.out.2.to (w' := W9.putObj D (.deferred none)) fun k o f e => kc k o _ f e
      obtain ⟨ao', cap', e', M10⟩ := O10.mem
      rw [l2] at e' M10
      injection e' with e1' e2' e3'
      subst e1'
      exact ⟨_, _, _, _, rfl, M10, own_cap (O10.base (w' := W9) (Nat.zero_le _)), R10.hs l1⟩
    case stop =>
      rintro D c pre W _ _ h _
      exact h.elim
  · have HX : Hid (Us w (la.map fun x => x.add (q * 41)) (ln - q) (us.drop (ln - s))) := by have := HUD.out; unfold cutP41 at this; rw [if_neg hcl] at this; rw [← HQ.out]; exact this
    go_wp2_with fail
    refine (Backward_any _ _ _ _).mono ?_
    rintro e w5 ⟨rfl, rfl⟩
    go_wp2_with fail
    have HB5 : Hid ((W3.alloc (.cells #[.slice (la.map fun x => x.add (q * 41)) (ln - q) (lc - q)] 26)).heap[W3.heap.size]? = some (.cells #[.slice (la.map fun x => x.add (q * 41)) (ln - q) (lc - q)] 26 (0, 0))) := heap_alloc_new W3 _
    have HG5 : Hid (Gr w (W3.alloc (.cells #[.slice (la.map fun x => x.add (q * 41)) (ln - q) (lc - q)] 26))) := HG3.out.alloc _
    have HZ6 : Hid (Mz (W3.alloc (.cells #[.slice (la.map fun x => x.add (q * 41)) (ln - q) (lc - q)] 26)) w.heap.size z (.slice a2 mn c2) g3 c3 hs m) := HZ5.out.kept fun k o t f e => ((Gr.refl W3).alloc _).block _ (gs e).1
    have HB6 : Hid ((W3.alloc (.cells #[.slice (la.map fun x => x.add (q * 41)) (ln - q) (lc - q)] 26)).heap[w.heap.size + 1]? = some (.cells #[.slice none 0 0, .slice none 0 0] 25 (0, 0))) := Hr.heap_of_gr ((Gr.refl W3).alloc _) HB3.out
    generalize hW6 : W3.alloc (.cells #[.slice (la.map fun x => x.add (q * 41)) (ln - q) (lc - q)] 26) = W6 at *
    have hw6 : w.heap.size ≤ W6.heap.size := HG5.out.size
    clear hW6
    refine (wpIn_wide (n := 9)).1 ?_
    refine wpIn_rangeFunc_ownH (F := Fence.wide) (n := 9) rfl (by omega) (gf := 20) (lb := #[.pointer (some ⟨W3.heap.size, 0, none⟩)]) rfl trivial (enters_of Try.func20 (by kernel_rfl) rfl)
      (bwd_stops (c := hn) (mn := mn) HX.out (by omega) HFU.out (9 - 1) W3.heap.size W6 HG5.out HB5.out) Kr.trans (kr_b hw6) (Below.refl _ _) (fun _ => rfl)
      (fun pre W => (Mz W w.heap.size z (.slice a2 mn c2) g3 c3 ((pre.map Yv.u).foldl back1 (hs, m)).1 ((pre.map Yv.u).foldl back1 (hs, m)).2 ∧ W.heap[w.heap.size + 1]? = some (.cells #[.slice none 0 0, .slice none 0 0] 25 (0, 0))) ∧ Below w.heap.size w W)
      (fun _ _ _ => False)
      (OwnFrom.and (fun s X X' row h hg hr => ⟨h.1.kept (kept_cells hg hr), (kept_cells hg hr _ _ _ _ h.2).trans h.2⟩) (ownFrom_below (Nat.le_refl _) hw6))
      (fun _ _ _ _ _ h _ _ => h)
      ⟨⟨HZ6.out, HB6.out⟩, HG5.out⟩
      (fun y a' W => ∃ Bx, W.heap[Bx]? = some (.cells y.x.toArray 45 (0, 0)) ∧ a' = { tmps := #[.agg #[.slice ma mn mc, .slice (some ⟨hb, ho, none⟩) hn hc], .slice la ln lc, .int .i64 s, .pointer (some ⟨w.heap.size, 0, none⟩), undef, undef, .pointer (some ⟨(w.heap.size + 1), 0, none⟩), .int .i64 0, .pointer (some ⟨z, 0, none⟩), undef, .pointer (some ⟨Bx, 0, none⟩), .agg #[.slice ma mn mc, .slice (some ⟨hb, ho, none⟩) hn hc], .bool true, .bool false, .bool false, .agg #[.slice ma mn mc, .slice (some ⟨hb, ho, none⟩) hn hc], .slice la ln lc, .bool true, .bool false, .bool false, undef, .int .i64 s, .bool (decide ((s : Int) < 0)), .bool (decide ((s : Int) < 0)), .int .i64 s, .slice la ln lc, .int .i64 ln, .bool false, .bool (decide ((s : Int) < 0)), undef, .pointer (some ⟨w.heap.size, 0, none⟩), .slice ma mn mc, .slice a2 mn c2, .pointer (some ⟨w.heap.size, 1, none⟩), .slice (some ⟨hb, ho, none⟩) hn hc, .slice (some ⟨g3, 0, none⟩) hn c3, .agg #[.slice a2 mn c2, .slice (some ⟨g3, 0, none⟩) hn c3], .slice la ln lc, .slice la ln lc, .int .i64 ln, .int .i64 s, .int .i64 q, .slice (la.map fun x => x.add (q * 41)) (ln - q) (lc - q), .func (.func 20) #[] #[.pointer (some ⟨W3.heap.size, 0, none⟩)], .int .i64 (y.1.1 : Int), .agg y.x.toArray, undef, undef, undef], defers := [] })
      (fun y a' _ X X' row h hg hr => by obtain ⟨Bx, h1, h2⟩ := h; exact ⟨Bx, (kept_cells hg hr _ _ _ _ h1).trans h1, h2⟩)
      ?assign ?body ?done ?stop
    case assign =>
      rintro l pre y W K ⟨⟨Z7, B7⟩, L7⟩ hK
      have HXL : Hid (y.x.length = 41) := y.2.1.len
      have HXA : Hid (y.x.toArray.size = 41) := by unfold Hid; simp [HXL.out]
      have HX1 : Hid (y.x.toArray.all (·.oneCell') = true) := y.2.1.one
      unfold Yv.enc
      have G7 : ∀ Y : Array Value, Gr W ((W.alloc (.cells Y 45)).setRow W.heap.size y.x.toArray) := fun Y => gr_setRow ((Gr.refl _).alloc _) (Nat.le_refl _) _
      have HG7 : Hid _ := G7
      have HK : Hid _ := hK
      have HZ7 : Hid (Mz W w.heap.size z (.slice a2 mn c2) g3 c3 ((pre.map Yv.u).foldl back1 (hs, m)).1 ((pre.map Yv.u).foldl back1 (hs, m)).2) := Z7
      have HB7 : Hid (W.heap[w.heap.size + 1]? = some (.cells #[.slice none 0 0, .slice none 0 0] 25 (0, 0))) := B7
      have HL7 : Hid (Below w.heap.size w W) := L7
      have hwl := L7.size
      clear hK Z7 B7 L7 G7
      gi_wp2_with (refine wpListIn_store_row' rfl 45 _ _ rfl W.heap.size y.x.toArray rfl rfl 45 _ (heap_alloc_new W _) (by rw [HXA.out]; exact iU) (by rw [HXA.out]; rfl) HX1.out ?_)
      exact HK.out _ _ ((Th.ofGr (n := w.heap.size) (HG7.out _) hwl).keeps) ((Th.ofGr (HG7.out _) hwl).kr) ⟨⟨HZ7.out.kept fun k o t f e => (HG7.out _).block _ (gs e).1, Hr.heap_of_gr (HG7.out _) HB7.out⟩, HL7.out.trans (Below.mono (HG7.out _) hwl)⟩ ⟨W.heap.size, srh (heap_alloc_new W _), rfl⟩
    case body =>
      rintro l pre y a' W hl hr ⟨⟨Z7, B7⟩, L7⟩ ⟨Bx, hBx, rfl⟩ hlt
      dsimp only
      have hfl := folds_len (pre.map Yv.u) (hs, m) HHL.out HML.out (fun u hu => by
        obtain ⟨y', _, rfl⟩ := List.mem_map.1 hu
        obtain ⟨_, _, _, _, _, _, _, ok, _⟩ := y'.2.1
        exact ⟨y'.2.2, ok.f0⟩)
      have HXL : Hid (y.x.length = 41) := y.2.1.len
      have RG : Hid (W.rangeAt Bx 0 y.x) := fun i v hi => by rw [Nat.zero_add, cr hBx, List.getElem?_toArray]; exact hi
      have HTB : Hid (Calls Try.prog 12 #[.pointer (some ⟨z, 0, none⟩), .agg y.x.toArray] W fun e w' => e = .returned (.tuple #[]) ∧ Mz w' w.heap.size z (.slice a2 mn c2) g3 c3 (((pre ++ [y]).map Yv.u).foldl back1 (hs, m)).1 (((pre ++ [y]).map Yv.u).foldl back1 (hs, m)).2 ∧ Th w.heap.size W w') := by
        have := takeBack_any y.2.1 L7 Z7 hfl.1 n4 hfl.2 m4 y.2.2
        have e : ((pre ++ [y]).map Yv.u).foldl back1 (hs, m) = back1 ((pre.map Yv.u).foldl back1 (hs, m)) y.u := by rw [List.map_append, List.foldl_append]; rfl
        rw [e]
        exact this
      have HB7 : Hid (W.heap[w.heap.size + 1]? = some (.cells #[.slice none 0 0, .slice none 0 0] 25 (0, 0))) := B7
      have HL7 : Hid (Below w.heap.size w W) := L7
      clear Z7 B7 L7 hfl hBx hr hlt
      gi_wp2_with (first
        | (refine wpListIn_load_mid rfl 45 _ rfl Bx 0 rfl y.x _ ?r1 Try.underlying45 rfl (by rw [HXL.out]; exact iU) ?_; (case r1 => exact RG.out))
        | (refine ⟨trivial, ?_⟩; gi_at_call 12; refine (CallsIn.inRound l (callsIn_wide.2 HTB.out)).mono ?_; rintro e w8 ⟨rfl, Z8, T8⟩))
      exact ⟨T8.keeps, T8.kr, ⟨Z8, T8.row HB7.out (by decide) (by decide)⟩, HL7.out.trans T8.below⟩
    case done =>
      rintro D ys W hD hys ⟨⟨Z7, B7⟩, L7⟩ hK
      rw [hys, backs_rev] at Z7
      have hfl : (backs (hs, m) (us.drop (ln - s))).1.length = hn ∧ (backs (hs, m) (us.drop (ln - s))).2.length = mn := by
        rw [← backs_rev]
        refine folds_len _ (hs, m) HHL.out HML.out (fun u hu => ?_)
        rw [← hys] at hu
        obtain ⟨y', _, rfl⟩ := List.mem_map.1 hu
        obtain ⟨_, _, _, _, _, _, _, ok, _⟩ := y'.2.1
        exact ⟨y'.2.2, ok.f0⟩
      have HZ7 : Hid (Mz W w.heap.size z (.slice a2 mn c2) g3 c3 (backs (hs, m) (us.drop (ln - s))).1 (backs (hs, m) (us.drop (ln - s))).2) := Z7
      have HFL : Hid _ := hfl
      generalize hbk : (backs (hs, m) (us.drop (ln - s))) = bk at *
      have HB7 : Hid (W.heap[w.heap.size + 1]? = some (.cells #[.slice none 0 0, .slice none 0 0] 25 (0, 0))) := B7
      have kz : W.heap[z]? = some (.cells #[.slice a2 mn c2, .slice (some ⟨g3, 0, none⟩) hn c3] 25 (0, 0)) := by have := Z7.blk; rw [hfl.1] at this; exact this
      have HKz : Hid _ := kz
      have HL7 : Hid (Gr w W) := L7
      have HKD : Hid (W.heap[D]? = some (.deferred (some []))) := hK
      clear Z7 B7 L7 hK kz hfl hys
      go_wp2_with (first
        | (refine wpList_load_row rfl 25 _ rfl z rfl 25 #[.slice a2 mn c2, .slice (some ⟨g3, 0, none⟩) hn c3] (0, 0) _ ?yy1 Try.underlying25 rfl iMc ?_; (case yy1 => exact HKz.out))
        | (refine wpList_store_row rfl 25 _ _ rfl (w.heap.size + 1) #[.slice a2 mn c2, .slice (some ⟨g3, 0, none⟩) hn c3] rfl rfl 25 #[.slice none 0 0, .slice none 0 0] ?yy2 iMc rfl (by kernel_rfl) ?_; (case yy2 => exact HB7.out)))
      have hDr : D ≠ w.heap.size + 1 := by have := (gs HB6.out).1; omega
      have HK9 : Hid ((W.setRow (w.heap.size + 1) #[.slice a2 mn c2, .slice (some ⟨g3, 0, none⟩) hn c3]).heap[D]? = some (.deferred (some []))) := (sro hDr).trans HKD.out
      have H9b : Hid ((W.setRow (w.heap.size + 1) #[.slice a2 mn c2, .slice (some ⟨g3, 0, none⟩) hn c3]).heap[w.heap.size + 1]? = some (.cells #[.slice a2 mn c2, .slice (some ⟨g3, 0, none⟩) hn c3] 25 (0, 0))) := srh HB7.out
      have H9 : Hid (Hc.Own (W.setRow (w.heap.size + 1) #[.slice a2 mn c2, .slice (some ⟨g3, 0, none⟩) hn c3]) w.heap.size (.slice a2 mn c2) bk.2 ∧ HRow (W.setRow (w.heap.size + 1) #[.slice a2 mn c2, .slice (some ⟨g3, 0, none⟩) hn c3]) g3 bk.1) := ⟨HZ7.out.mem.to fun k o f e => sro (ne_of_types e HB7.out (by decide)), HZ7.out.row.to fun k o f e => sro (ne_of_types e HB7.out (by decide))⟩
      have HG9 : Hid (Gr w (W.setRow (w.heap.size + 1) #[.slice a2 mn c2, .slice (some ⟨g3, 0, none⟩) hn c3])) := gr_setRow HL7.out (Nat.le_succ _) _
      have HBk : Hid (bk = backs (hs, m) (us.drop (ln - s))) := by unfold Hid; exact hbk.symm
      rw [hbk]
      generalize W.setRow (w.heap.size + 1) #[.slice a2 mn c2, .slice (some ⟨g3, 0, none⟩) hn c3] = W9 at *
      have kc := kept_cells (B := 0) (grownBy_putObj' W9 D (.deferred none)) (fun r e => by cases e; exact ⟨Nat.zero_le _, _, HK9.out, rfl⟩)
      refine ⟨by simp, .inl ⟨D, _, rfl, run_takeDeferred HK9.out, ?_⟩⟩
      refine ⟨_, Hr.results_cell_tmp' Try.results4 _ _ _ _ _ (0, 0) _ _ rfl rfl ((kc _ _ _ _ H9b.out).trans H9b.out) Try.underlying25 rfl iMc, _, rfl, ?_, Below.trans HG9.out (belowK_b (w := w) (Nat.le_refl _) W9 D _ _ (by omega) HK9.out rfl rfl)⟩
      obtain ⟨l1, l2⟩ := HFL.out
      have O10 := H9.out.1.to (w' := W9.putObj D (.deferred none)) fun k o f e => kc k o _ f e
      have R10 := H9.out.2.to (w' := W9.putObj D (.deferred none)) fun k o f e => kc k o _ f e
      obtain ⟨ao', cap', e', M10⟩ := O10.mem
      rw [l2] at e' M10
      injection e' with e1' e2' e3'
      subst e1'
      exact ⟨_, _, _, _, rfl, M10, own_cap (O10.base (w' := W9) (Nat.zero_le _)), R10.hs l1⟩
    case stop =>
      rintro D c pre W _ _ h _
      exact h.elim
end Go.Proofs.Ytphklaefhpoimac.Ud
/-
  What ferrybridgeref5.Play answers of a script with no picks: the machine, in rows of its own.
-/
namespace Go.Proofs.Ytphklaefhpoimac.Ud
open Go.ChangeShapes Go.WideShapes Go.ChangeAt Go.RowKit Mm Hh Hc Mc
set_option linter.unusedVariables false
set_option linter.unusedSimpArgs false

variable {w w' : World} {ma : Option Addr} {mn mc hn : Nat} {m : List UInt8} {hs : List Hv}
theorem msrc (M : Mem w ma mn m) (hc : ma = none → mc = 0) : Src w (.slice ma mn mc) mn 1 (bc m) := by
  have hl := M.len
  cases ma with
  | none =>
    obtain rfl := hc rfl
    obtain rfl := M.nil rfl
    obtain rfl : m = [] := List.eq_nil_of_length_eq_zero hl
    exact .inl ⟨rfl, rfl, rfl⟩
  | some ad => exact .inr ⟨ad, mc, rfl, by rw [bc_len, hl]; simp, mem_bc M (Gr.refl _)⟩
theorem hsrc {ad : Addr} (hc : Nat) (H : Hs w (some ad) hn hs) : Src w (.slice (some ad) hn hc) hn 37 (hC hs) :=
  .inr ⟨ad, hc, rfl, by rw [hC_len H.ok, H.len], H.src⟩
theorem k3o (w : World) (A : Array Value) (t : Nat) (b c : Obj) : (((w.alloc (.cells A t)).alloc b).alloc c).heap[w.heap.size]? = some (.cells A t (0, 0)) := Hr.heap_of_gr (Gr.alloc (Gr.refl _) _) (heap_alloc2_old w _ _)
theorem k3m (w : World) (a : Obj) (A : Array Value) (t : Nat) (c : Obj) : (((w.alloc a).alloc (.cells A t)).alloc c).heap[w.heap.size + 1]? = some (.cells A t (0, 0)) := Hr.heap_of_gr (Gr.alloc (Gr.refl _) _) (heap_alloc2_new w _ _)
theorem k3n (w : World) (a b c : Obj) : (((w.alloc a).alloc b).alloc c).heap[w.heap.size + 1 + 1]? = some c := by
  have := heap_alloc_new ((w.alloc a).alloc b) c
  have e : ((w.alloc a).alloc b).heap.size = w.heap.size + 1 + 1 := by simp
  rwa [e] at this
theorem k3 (w : World) (a b c : Obj) : Gr w (((w.alloc a).alloc b).alloc c) := Gr.alloc (Gr.alloc (Gr.alloc (Gr.refl _) _) _) _
theorem own_low {b b' : Nat} {v : Value} {l : List UInt8} (h : Hc.Own w b v l) (hb : b' ≤ b) : Hc.Own w b' v l := by
  rcases h with h | ⟨k, cap, e, ⟨h1, h2⟩, R⟩
  · exact .inl h
  · exact .inr ⟨k, cap, e, ⟨by omega, h2⟩, R⟩
set_option maxHeartbeats 4000000 in
set_option maxRecDepth 100000 in
theorem Play_nil {ha : Option Addr} (mc hc : Nat) (M : Mem w ma mn m) (hcap : ma = none → mc = 0) (H : Hs w ha hn hs) (hn1 : 1 ≤ hn) (c4 : hn ≤ 4) (m4 : mn ≤ 4096) :
    Calls Try.prog 15 #[.agg #[.slice ma mn mc, .slice ha hn hc], .slice none 0 0] w fun e w' => ∃ a c1 gh c2, e = .returned (.agg #[.slice a mn c1, .slice (some ⟨gh, 0, none⟩) hn c2, .slice none 0 0, .int .i64 0]) ∧ Hc.Own w' w.heap.size (.slice a mn c1) m ∧ w.heap.size ≤ gh ∧ HRow w' gh hs ∧ Gr w w' := by
  obtain ⟨bh, oh, rfl, _, _⟩ := H.spot (by omega)
  have HSM : Hid (∀ W : World, Gr w W → Src W (.slice ma mn mc) mn 1 (bc m)) := fun W G => msrc (M.of G) hcap
  have HSH : Hid (∀ W : World, Gr w W → Src W (.slice (some ⟨bh, oh, none⟩) hn hc) hn 37 (hC hs)) := fun W G => hsrc hc (H.of G)
  have HML : Hid (m.length = mn) := M.len
  have HOK : Hid (∀ h ∈ hs, h.Ok) := H.ok
  obtain ⟨i8, hi8, z80, z81, z82⟩ := info_parts info5
  obtain ⟨iH0, hiH, zH0, zH1, zH2⟩ := info_parts infoH
  clear M H hcap
  go_enter Try.func15, Try.ntmps15
  go_wp2_with (first
    | (at_builtin; refine wpList_append_src (base := w.heap.size + 1 + 1) (n := 0) (m := mn) rfl (.tmp 15) (.tmp 17) rfl Try.underlying22 hi8 z80 z81 z82 rfl (by decide) rfl rfl (World.ownsRow_nil _ _ _ _) (HSM.out _ (k3 w _ _ _)) (bc_one m) (by unfold maxLen; omega) (by omega) (by simp) ?_; intro v1 w1 hown hgrow; have HO1 : Hid (w1.ownsRow (w.heap.size + 1 + 1) 5 1 v1 mn (bc m)) := (by unfold Hid; rw [Nat.zero_add, List.nil_append] at hown; exact hown); have G1 := Gr.grown (Gr.refl _) hgrow (fun k e => by cases e); have HX1 : Hid (w1.heap[w.heap.size]? = some (.cells #[.slice ma mn mc, .slice (some ⟨bh, oh, none⟩) hn hc] 25 (0, 0))) := Hr.heap_of_gr G1 (k3o w _ _ _ _); have HR1 : Hid (w1.heap[w.heap.size + 1]? = some (.cells #[.slice none 0 0, .slice none 0 0, .slice none 0 0, .int .i64 0] 52 (0, 0))) := Hr.heap_of_gr G1 (k3m w _ _ _ _); have HS1 : Hid (w1.heap[w.heap.size + 1 + 1]? = some (.cells #[.slice none 0 0, .slice none 0 0, .slice none 0 0, .int .i64 0] 52 (0, 0))) := Hr.heap_of_gr G1 (k3n w _ _ _); have HG1 : Hid (Gr w w1) := (k3 w _ _ _).trans G1; obtain ⟨a1, c1, rfl⟩ := (owns_cells HO1.out).2.2; have y0 : w1.cell? ⟨w.heap.size + 1 + 1, 0, none⟩ = some (.slice none 0 0) := cell_of_row _ _ _ _ _ _ HS1.out; have y1 : w1.cell? ⟨w.heap.size + 1 + 1, 1, none⟩ = some (.slice none 0 0) := cell_of_row _ _ _ _ _ _ HS1.out; have f0 : w1.frozen? ⟨w.heap.size + 1 + 1, 0, none⟩ = false := frozen_of_row _ _ _ _ _ HS1.out; have y2 : w1.cell? ⟨w.heap.size, 1, none⟩ = some (.slice (some ⟨bh, oh, none⟩) hn hc) := cell_of_row _ _ _ _ _ _ HX1.out; clear hown hgrow G1)
    | (at_builtin; refine wpList_append_src (base := w.heap.size + 1 + 1) (n := 0) (m := hn) rfl (.tmp 23) (.tmp 25) rfl Try.underlying23 hiH zH0 zH1 zH2 rfl (by decide) rfl rfl (World.ownsRow_nil _ _ _ _) (HSH.out _ (HG1.out.setCell (by show w.heap.size ≤ w.heap.size + 1 + 1; omega) _)) (hC_one hs) (by unfold maxLen; omega) (by omega) (by have := (Array.getElem?_eq_some_iff.1 HS1.out).1; simp; omega) ?_; intro v2 w2 hown hgrow; have HO2 : Hid (w2.ownsRow (w.heap.size + 1 + 1) 39 37 v2 hn (hC hs)) := (by unfold Hid; rw [Nat.zero_add, List.nil_append] at hown; exact hown); have G2 := Gr.grown (Gr.refl _) hgrow (fun k e => by cases e); obtain ⟨gh, c2, rfl, hgh⟩ := owns_at HO2.out hn1; have HRo2 : Hid (HRow w2 gh hs) := HRow.own HOK.out HO2.out; have HM2 : Hid (w2.ownsRow (w.heap.size + 1 + 1) 5 1 (.slice a1 mn c1) mn (bc m)) := owns_gr (owns_to HO1.out fun k o f hk => heap_setCell_other _ _ _ _ (by exact ne_of_types hk HS1.out (by decide))) G2; have HS2 : Hid (w2.heap[w.heap.size + 1 + 1]? = some (.cells #[.slice a1 mn c1, .slice none 0 0, .slice none 0 0, .int .i64 0] 52 (0, 0))) := Hr.heap_of_gr G2 (by rw [heap_setCell_same _ _ _ _ _ _ HS1.out]; rfl); have HR2 : Hid (w2.heap[w.heap.size + 1]? = some (.cells #[.slice none 0 0, .slice none 0 0, .slice none 0 0, .int .i64 0] 52 (0, 0))) := Hr.heap_of_gr G2 ((heap_setCell_other _ _ _ _ (by show w.heap.size + 1 ≠ w.heap.size + 1 + 1; omega)).trans HR1.out); have HG2 : Hid (Gr w w2) := (HG1.out.setCell (by show w.heap.size ≤ w.heap.size + 1 + 1; omega) _).trans G2; have k1 : w2.cell? ⟨w.heap.size + 1 + 1, 1, none⟩ = some (.slice none 0 0) := cell_of_row _ _ _ _ _ _ HS2.out; have f1 : w2.frozen? ⟨w.heap.size + 1 + 1, 1, none⟩ = false := frozen_of_row _ _ _ _ _ HS2.out; clear hown hgrow G2 y0 y1 y2 f0 HO2 HO1 HX1 HR1 HS1))
  have ne : ∀ {t : Nat}, t ≠ 52 → ∀ {k : Nat} {o : Array Value} {f : Nat × Nat}, w2.heap[k]? = some (.cells o t f) → (w2.setCell ⟨w.heap.size + 1 + 1, 1, none⟩ (.slice (some ⟨gh, 0, none⟩) hn c2)).heap[k]? = w2.heap[k]? := fun ht _ _ _ hk => heap_setCell_other _ _ _ _ (by exact ne_of_types hk HS2.out ht)
  refine atW (fun W => W.heap[w.heap.size + 1 + 1]? = some (.cells #[.slice a1 mn c1, .slice (some ⟨gh, 0, none⟩) hn c2, .slice none 0 0, .int .i64 0] 52 (0, 0)) ∧ W.heap[w.heap.size + 1]? = some (.cells #[.slice none 0 0, .slice none 0 0, .slice none 0 0, .int .i64 0] 52 (0, 0)) ∧ Hc.Own W w.heap.size (.slice a1 mn c1) m ∧ HRow W gh hs ∧ Gr w W) ⟨?a1, ?a2, ?a3, ?a4, ?a5⟩ ?_
  case a1 => rw [hss HS2.out]; rfl
  case a2 => rw [hso (by show w.heap.size + 1 ≠ w.heap.size + 1 + 1; omega)]; exact HR2.out
  case a3 => exact own_low (own_of HML.out (owns_to HM2.out fun k o f hk => ne (by decide) hk)) (by omega)
  case a4 => exact HRo2.out.to fun k o f hk => ne (by decide) hk
  case a5 => exact HG2.out.setCell (by show w.heap.size ≤ w.heap.size + 1 + 1; omega) _
  rintro W3 ⟨KS, KR, KO, KH, KG⟩
  have HS3 : Hid (W3.heap[w.heap.size + 1 + 1]? = some (.cells #[.slice a1 mn c1, .slice (some ⟨gh, 0, none⟩) hn c2, .slice none 0 0, .int .i64 0] 52 (0, 0))) := KS
  have HR3 : Hid (W3.heap[w.heap.size + 1]? = some (.cells #[.slice none 0 0, .slice none 0 0, .slice none 0 0, .int .i64 0] 52 (0, 0))) := KR
  have HO3 : Hid (Hc.Own W3 w.heap.size (.slice a1 mn c1) m) := KO
  have HH3 : Hid (HRow W3 gh hs) := KH
  have HG3 : Hid (Gr w W3) := KG
  have HJ : Hid ((Try.prog.info? 52).map (·.size) = some 4) := iS
  have hgl : w.heap.size ≤ gh := by omega
  clear KS KR KO KH KG ne HS2 HR2 HM2 HRo2 HG2 k1 f1
  go_loopw [7] (fun i wr => i = .int .i64 0 ∧ wr = W3) (fun _ _ => 0)
  case atStart => exact ⟨rfl, rfl⟩
  case round =>
    obtain ⟨rfl, rfl⟩ := hrel
    go_wp2_with (first
      | (refine wpList_load_row rfl 52 _ rfl (w.heap.size + 1 + 1) rfl 52 #[.slice a1 mn c1, .slice (some ⟨gh, 0, none⟩) hn c2, .slice none 0 0, .int .i64 0] (0, 0) _ ?yy1 Try.underlying52 rfl HJ.out ?_; (case yy1 => exact HS3.out))
      | (refine wpList_store_row rfl 52 _ _ rfl (w.heap.size + 1) #[.slice a1 mn c1, .slice (some ⟨gh, 0, none⟩) hn c2, .slice none 0 0, .int .i64 0] rfl rfl 52 #[.slice none 0 0, .slice none 0 0, .slice none 0 0, .int .i64 0] ?yy2 HJ.out rfl (one_bd _ _ _ _ _ _ _ _ _ _) ?_; (case yy2 => exact HR3.out)))
    refine bodyPost_ret (v := .agg #[.slice a1 mn c1, .slice (some ⟨gh, 0, none⟩) hn c2, .slice none 0 0, .int .i64 0]) (results_cell_row rfl _ _ _ _ _ (0, 0) _ rfl (setRow_heap _ _ _ _ _ (0, 0) HR3.out) Try.underlying52 rfl HJ.out) rfl ⟨a1, c1, gh, c2, rfl, ?_, hgl, ?_, ?_⟩
    · exact HO3.out.to fun k o f hk => sro (ne_of_types hk HR3.out (by decide))
    · exact HH3.out.to fun k o f hk => sro (ne_of_types hk HR3.out (by decide))
    · exact gr_setRow HG3.out (by omega) _
end Go.Proofs.Ytphklaefhpoimac.Ud
/-
  What ferrybridgeref12.fits says: whether an Undo can be one of a machine.
-/
namespace Go.Proofs.Ytphklaefhpoimac.Ud
open Go.ChangeShapes Go.WideShapes Go.ChangeAt Go.RowKit Mm Hh Hc Mc
set_option linter.unusedVariables false
set_option linter.unusedSimpArgs false

theorem a2n (w : World) (a : Obj) (A : Array Value) (t : Nat) : ((w.alloc a).alloc (.cells A t)).heap[w.heap.size + 1]? = some (.cells A t (0, 0)) := heap_alloc2_new w _ _
set_option maxHeartbeats 4000000 in
set_option maxRecDepth 100000 in
theorem fits_any {ma ha : Option Addr} {mn mc hn hc : Nat} {u : Uv} {x : List Value} {w : World} (U : Uc w u x) (b1 : mn ≤ 140737488351232) (b2 : hn ≤ 140737488351232) :
    Calls Try.prog 14 #[.agg #[.slice ma mn mc, .slice ha hn hc], .agg x.toArray] w fun e w' => e = .returned (.bool (fitU hn mn u)) ∧ Gr w w' := by
  obtain ⟨ba, bn, bc', l1, l2, l3, rfl, ok, kk, hlq, M, LS, bb, lb⟩ := U
  have hbl := M.len
  have f0 := ok.f0
  have f1 := ok.f1
  have HLS : Hid (Ls w l1 l2 u.lost) := LS
  have HLL : Hid (u.lost.length = l2) := LS.len
  have HLQ : Hid (∀ q ∈ u.lost, -9223372036854775808 ≤ q.1 ∧ q.1 ≤ 9223372036854775807) := hlq
  have HMy : Hid (∀ W : World, Calls Try.prog 21 #[.agg (hL u.was).toArray] W fun e w' => e = .returned (.bool (may u.was)) ∧ Gr W w') := fun W => rmay_any ok.was W
  have HHL : Hid ((hL u.was).length = 37) := hL_len ok.was
  have HFu : Hid (fitU hn mn u = (decide (0 ≤ u.k ∧ u.k < hn) && (may u.was && (decide (u.fr + (bn : Int) ≤ mn) && u.lost.all fun q => decide (0 ≤ q.1 ∧ q.1 < hn))))) := by unfold Hid fitU; rw [hbl]
  have HX : Hid ((uL u (.slice ba bn bc') (.slice l1 l2 l3)).toArray[0]? = some (.int .i64 u.k) ∧ (uL u (.slice ba bn bc') (.slice l1 l2 l3)).toArray[38]? = some (.int .u32 u.fr) ∧ (uL u (.slice ba bn bc') (.slice l1 l2 l3)).toArray[39]? = some (.slice ba bn bc') ∧ (uL u (.slice ba bn bc') (.slice l1 l2 l3)).toArray[40]? = some (.slice l1 l2 l3) ∧ ∀ i v, (hL u.was)[i]? = some v → (uL u (.slice ba bn bc') (.slice l1 l2 l3)).toArray[1 + i]? = some v) := by
    refine ⟨rfl, ?_, ?_, ?_, fun i v hi => ?_⟩
    · rw [List.getElem?_toArray]; exact uL_fld ok.was 0
    · rw [List.getElem?_toArray]; exact uL_fld ok.was 1
    · rw [List.getElem?_toArray]; exact uL_fld ok.was 2
    · have : i < 37 := by have := (List.getElem?_eq_some_iff.1 hi).1; rwa [hL_len ok.was] at this
      rw [List.getElem?_toArray, uL_was ok.was this]; exact hi
  clear M ok hbl LS hlq
  generalize (uL u (.slice ba bn bc') (.slice l1 l2 l3)).toArray = X at *
  obtain ⟨A, hA⟩ : ∃ A : Obj, A = .cells #[.slice ma mn mc, .slice ha hn hc] 25 := ⟨_, rfl⟩
  have u0 : ((w.alloc (.cells #[.slice ma mn mc, .slice ha hn hc] 25)).alloc (.cells X 45)).cell? ⟨w.heap.size + 1, 0, none⟩ = some (.int .i64 u.k) := (cr (a2n w _ X 45)).trans HX.out.1
  have HR2 : Hid (((w.alloc (.cells #[.slice ma mn mc, .slice ha hn hc] 25)).alloc (.cells X 45)).rangeAt (w.heap.size + 1) 1 (hL u.was)) := fun i v hv => (cr (a2n w _ X 45)).trans (HX.out.2.2.2.2 i v hv)
  have HG2 : Hid (Gr w ((w.alloc (.cells #[.slice ma mn mc, .slice ha hn hc] 25)).alloc (.cells X 45))) := ((Gr.refl _).alloc _).alloc _
  have HM2 : Hid (((w.alloc (.cells #[.slice ma mn mc, .slice ha hn hc] 25)).alloc (.cells X 45)).heap[w.heap.size]? = some (.cells #[.slice ma mn mc, .slice ha hn hc] 25 (0, 0))) := heap_alloc2_old w _ _
  have HU2 : Hid (((w.alloc (.cells #[.slice ma mn mc, .slice ha hn hc] 25)).alloc (.cells X 45)).heap[w.heap.size + 1]? = some (.cells X 45 (0, 0))) := a2n w _ X 45
  have HKk : Hid (∃ kv : Int, u.k = kv) := ⟨_, rfl⟩
  clear hA A
  generalize u.k = kv at *
  generalize u.fr = f at *
  clear HKk
  by_cases h1 : kv < 0
  · have HNo : Hid (fitU hn mn u = false) := by unfold Hid; rw [HFu.out, decide_eq_false (by omega)]; rfl
    clear HFu HX
    go_enter Try.func14, Try.ntmps14
    go_wp2_with fail
    go_ret
    exact ⟨retB HNo.out.symm, HG2.out⟩
  · by_cases h2 : (hn : Int) ≤ kv
    · have HNo : Hid (fitU hn mn u = false) := by unfold Hid; rw [HFu.out, decide_eq_false (by omega)]; rfl
      clear HFu HX
      go_enter Try.func14, Try.ntmps14
      go_wp2_with fail
      go_ret
      exact ⟨retB HNo.out.symm, HG2.out⟩
    · rw [decide_eq_true (show 0 ≤ kv ∧ kv < (hn : Int) by omega), Bool.true_and] at HFu
      generalize may u.was = tm at *
      cases tm with
      | false =>
        have HNo : Hid (fitU hn mn u = false) := HFu.out
        clear HFu HX
        go_enter Try.func14, Try.ntmps14
        go_wp2_with (refine wpList_gload_mid (by rfl) 39 _ rfl (w.heap.size + 1) 1 rfl (hL u.was) _ ?r2 Try.underlying39 rfl (by rw [HHL.out]; exact iH) ?_; (case r2 => exact HR2.out))
        refine (HMy.out _).mono ?_
        rintro e w3 ⟨rfl, G3⟩
        have HG3 : Hid (Gr w w3) := HG2.out.trans G3
        clear G3 HMy
        go_wp2_with fail
        go_ret
        exact ⟨retB HNo.out.symm, HG3.out⟩
      | true =>
        rw [Bool.true_and] at HFu
        have e1 : IntKind.i64.wrap f = f := by rw [IntKind.wrap_i64]; omega
        have e3 : IntKind.i64.wrap (f + (bn : Int)) = f + bn := by rw [IntKind.wrap_i64]; omega
        go_enter Try.func14, Try.ntmps14
        go_wp2_with (refine wpList_gload_mid (by rfl) 39 _ rfl (w.heap.size + 1) 1 rfl (hL u.was) _ ?r2 Try.underlying39 rfl (by rw [HHL.out]; exact iH) ?_; (case r2 => exact HR2.out))
        refine (HMy.out _).mono ?_
        rintro e w3 ⟨rfl, G3⟩
        have HG3 : Hid (Gr w w3) := HG2.out.trans G3
        have HM3 : Hid (w3.heap[w.heap.size]? = some (.cells #[.slice ma mn mc, .slice ha hn hc] 25 (0, 0))) := Hr.heap_of_gr G3 HM2.out
        have HU3 : Hid (w3.heap[w.heap.size + 1]? = some (.cells X 45 (0, 0))) := Hr.heap_of_gr G3 HU2.out
        have m0 := cr0 HM3.out
        have m1 := cr1 HM3.out
        have x38 : w3.cell? ⟨w.heap.size + 1, 38, none⟩ = some (.int .u32 f) := (cr HU3.out).trans HX.out.2.1
        have x39 : w3.cell? ⟨w.heap.size + 1, 39, none⟩ = some (.slice ba bn bc') := (cr HU3.out).trans HX.out.2.2.1
        have x40 : w3.cell? ⟨w.heap.size + 1, 40, none⟩ = some (.slice l1 l2 l3) := (cr HU3.out).trans HX.out.2.2.2.1
        clear G3 HMy u0 HR2 HG2 HM2 HU2 HX
        by_cases h3 : (mn : Int) < f + bn
        · have HNo : Hid (fitU hn mn u = false) := by unfold Hid; rw [HFu.out, decide_eq_false (by omega)]; rfl
          clear HFu
          go_wp2_with fail
          go_ret
          exact ⟨retB HNo.out.symm, HG3.out⟩
        · rw [decide_eq_true (show f + (bn : Int) ≤ mn by omega), Bool.true_and] at HFu
          go_wp2_with fail
          go_loopw [6] (fun i wr => ∃ j : Nat, j ≤ l2 ∧ i = .int .i64 j ∧ wr = w3 ∧ (u.lost.take j).all (fun q => decide (0 ≤ q.1 ∧ q.1 < hn)) = true) (fun i _ => l2 - (intOf i).toNat)
          case atStart => exact ⟨0, Nat.zero_le _, rfl, rfl, rfl⟩
          case round =>
            obtain ⟨j, hj, rfl, rfl, hall⟩ := hrel
            have HA : Hid ((u.lost.take j).all (fun q => decide (0 ≤ q.1 ∧ q.1 < (hn : Int))) = true) := hall
            clear hall
            by_cases hlt : j < l2
            · obtain ⟨q, hq⟩ : ∃ q, u.lost[j]? = some q := ⟨_, List.getElem?_eq_getElem (by rw [HLL.out]; exact hlt)⟩
              obtain ⟨b7, o7, rfl, hb7, hc7⟩ := HLS.out.spot (by omega)
              have z0 : wr.cell? ⟨b7, o7 + j * 2, none⟩ = some (.int .i64 q.1) := (HG3.out.cell _ (by exact hb7)).trans (hc7 j q hq).1
              have hqq := HLQ.out q (List.mem_of_getElem? hq)
              have HNx : Hid ((u.lost.take (j + 1)).all (fun q => decide (0 ≤ q.1 ∧ q.1 < (hn : Int))) = ((u.lost.take j).all (fun q => decide (0 ≤ q.1 ∧ q.1 < (hn : Int))) && decide (0 ≤ q.1 ∧ q.1 < (hn : Int)))) := all_take _ _ _ _ hq
              have HFl : Hid (decide (0 ≤ q.1 ∧ q.1 < (hn : Int)) = false → u.lost.all (fun q => decide (0 ≤ q.1 ∧ q.1 < (hn : Int))) = false) := fun h => all_no hq h
              clear hc7 hq
              generalize q.1 = qv at *
              by_cases h4 : qv < 0
              · have HNo : Hid (fitU hn mn u = false) := by unfold Hid; rw [HFu.out]; exact HFl.out (decide_eq_false (by omega))
                clear HFu HFl HNx
                go_wp2_with fail
                go_ret
                exact ⟨retB HNo.out.symm, HG3.out⟩
              · by_cases h5 : (hn : Int) ≤ qv
                · have HNo : Hid (fitU hn mn u = false) := by unfold Hid; rw [HFu.out]; exact HFl.out (decide_eq_false (by omega))
                  clear HFu HFl HNx
                  go_wp2_with fail
                  go_ret
                  exact ⟨retB HNo.out.symm, HG3.out⟩
                · have HY : Hid ((u.lost.take (j + 1)).all (fun q => decide (0 ≤ q.1 ∧ q.1 < (hn : Int))) = true) := by unfold Hid; rw [HNx.out, HA.out, decide_eq_true (by omega)]; rfl
                  clear HFl HNx
                  go_wp2_with fail
                  go_roundw
                  case rel => exact ⟨j + 1, by omega, by go_num, trivial, HY.out⟩
                  case measure => simp [intOf]; omega
            · have HY : Hid (fitU hn mn u = true) := by
                unfold Hid
                have := HA.out
                rw [List.take_of_length_le (by rw [HLL.out]; omega)] at this
                rw [HFu.out, this]
              go_wp2_with fail
              go_ret
              exact ⟨retB HY.out.symm, HG3.out⟩
end Go.Proofs.Ytphklaefhpoimac.Ud
/-
  A machine of one's own, with a hart, a byte, or what a hart holds set; what is left of bytes laid one by one.
-/
namespace Go.Proofs.Ytphklaefhpoimac.Ud
open Go.ChangeShapes Go.WideShapes Go.ChangeAt Go.RowKit Mm Hh Hc Mc
set_option linter.unusedVariables false
set_option linter.unusedSimpArgs false

variable {w : World} {n z gh hc k v t mk mn cap : Nat} {M : Value} {hs : List Hv} {m : List UInt8} {h : Hv}
theorem Mz.zg (Z : Mz w n z M gh hc hs m) : z ≠ gh := by obtain ⟨_, e⟩ := Z.row.row; exact ne_of_types Z.blk e (by decide)
theorem Mz.dr (Z : Mz w n z M gh hc hs m) : Mz w.drew n z M gh hc hs m := Z.kept fun _ _ _ _ _ => rfl
theorem Mz.gr {w' : World} (Z : Mz w n z M gh hc hs m) (G : Gr w w') : Mz w' n z M gh hc hs m := Z.kept fun k o t f e => G.block k (gs e).1
theorem Th.dr {w' : World} (T : Th n w w') : Th n w w'.drew := T.trans ⟨(Below.refl n w').drew, fun _ _ e _ _ => e⟩
/-- A hart as it was. -/
theorem mz_was (Z : Mz w n z M gh hc hs m) (hk : k < hs.length) (ok : h.Ok) (hb : n ≤ w.heap.size) : Mz (w.setCells gh (k * 37) (hL h)) n z M gh hc (hs.set k h) m ∧ Th n w (w.setCells gh (k * 37) (hL h)) := by
  have C : Ch gh w (w.setCells gh (k * 37) (hL h)) := Mc.Ch.setCells (Ch.refl gh w) _ _
  have hz := Z.zg
  obtain ⟨rst, hrw⟩ := Z.row.row
  refine ⟨⟨?_, Z.bz, ?_, Z.bh, Z.row.put hk ok⟩, th_one hrw (.inl rfl) Z.bh hb C⟩
  · rw [List.length_set]; exact (C.block z (gs Z.blk).1 (fun e => hz (by injection e))).trans Z.blk
  · exact Z.mem.to fun q ob fz hq => ch_keep Z.row C (by decide) hq
theorem mz_cell {i : Nat} {x : Value} {hs' : List Hv} (Z : Mz w n z M gh hc hs m) (hb : n ≤ w.heap.size) (hl : hs'.length = hs.length) (R : HRow (w.setCell ⟨gh, i, none⟩ x) gh hs') : Mz (w.setCell ⟨gh, i, none⟩ x) n z M gh hc hs' m ∧ Th n w (w.setCell ⟨gh, i, none⟩ x) := by
  have hz := Z.zg
  obtain ⟨rst, hrw⟩ := Z.row.row
  refine ⟨⟨?_, Z.bz, ?_, Z.bh, R⟩, th_one hrw (.inl rfl) Z.bh hb ((Ch.refl gh w).setCell _ _)⟩
  · rw [hl]; exact (hso (by exact hz)).trans Z.blk
  · exact Z.mem.to fun q ob fz hq => hso (by exact ne_of_types hq hrw (by decide))
/-- A hart that holds again: first that it does. -/
theorem mz_held (Z : Mz w n z M gh hc hs m) (hv : hs[v]? = some h) (hb : n ≤ w.heap.size) (ok : h.Ok) : Mz (w.setCell ⟨gh, v * 37 + 33, none⟩ (.bool true)) n z M gh hc (hs.set v { h with held := true }) m ∧ Th n w (w.setCell ⟨gh, v * 37 + 33, none⟩ (.bool true)) :=
  mz_cell Z hb (List.length_set ..) (HRow.set Z.row hv (by omega) (set_held ok true) ⟨ok.len, ok.reg, ok.pc0, ok.pc1, ok.at0, ok.at1⟩)
/-- .. then where. -/
theorem mz_at {pb : Int} (Z : Mz w n z M gh hc (hs.set v { h with held := true }) m) (hv : v < hs.length) (hb : n ≤ w.heap.size) (ok : h.Ok) (p0 : 0 ≤ pb) (p1 : pb < 4294967296) : Mz (w.setCell ⟨gh, v * 37 + 34, none⟩ (.int .u32 pb)) n z M gh hc (hs.set v (h.hold true pb)) m ∧ Th n w (w.setCell ⟨gh, v * 37 + 34, none⟩ (.int .u32 pb)) := by
  have ok1 : Hv.Ok { h with held := true } := ⟨ok.len, ok.reg, ok.pc0, ok.pc1, ok.at0, ok.at1⟩
  have hg : (hs.set v { h with held := true })[v]? = some { h with held := true } := by rw [List.getElem?_set_self hv]
  have := HRow.set (h' := h.hold true pb) Z.row hg (by omega) (set_heldAt (h := { h with held := true }) ok1 pb) (ok.hold true p0 p1)
  rw [List.set_set] at this
  exact mz_cell Z hb (by rw [List.length_set, List.length_set]) this
/-- A byte. -/
theorem mz_byte {b : UInt8} (Z : Mz w n z (.slice (some ⟨mk, 0, none⟩) mn cap) gh hc hs m) (ht : t < m.length) (hb : n ≤ w.heap.size) : (w.cell? ⟨mk, t, none⟩ = some (.int .u8 (bv m t)) ∧ w.frozen? ⟨mk, t, none⟩ = false ∧ n ≤ mk) ∧ Mz (w.setCell ⟨mk, t, none⟩ (.int .u8 (b.toNat : Int))) n z (.slice (some ⟨mk, 0, none⟩) mn cap) gh hc hs (m.set t b) ∧ Th n w (w.setCell ⟨mk, t, none⟩ (.int .u8 (b.toNat : Int))) := by
  rcases Z.mem with ⟨h1, h2⟩ | ⟨k, cp, h1, ⟨h2, h3⟩, R⟩
  · cases h1
  · injection h1 with e1 e2 e3
    injection e1 with e1
    injection e1 with e1
    subst e1 e2 e3
    obtain ⟨rest, hr⟩ := R
    have hbt := b.toNat_lt
    have R' := Row.set (show Row w mk m from ⟨rest, hr⟩) ht (b.toNat : Int) (by omega) (by omega)
    rw [Int.toNat_natCast, UInt8.ofNat_toNat] at R'
    have G : w.grownBy (w.setCell ⟨mk, t, none⟩ (.int .u8 (b.toNat : Int))) (some mk) := ⟨rfl, rfl, rfl, by simp, fun k _ hk => hso (by intro e; exact hk (by rw [e]))⟩
    refine ⟨⟨(show Row w mk m from ⟨rest, hr⟩).cell ht, (show Row w mk m from ⟨rest, hr⟩).frozen t, h2⟩, ⟨?_, Z.bz, .inr ⟨mk, cap, by rw [List.length_set], ⟨h2, by rw [List.length_set]; omega⟩, R'⟩, Z.bh, ?_⟩, th_one hr (.inr rfl) h2 hb G⟩
    · exact (hso (by exact ne_of_types Z.blk hr (by decide))).trans Z.blk
    · exact Z.row.to fun q ob fz hq => hso (by exact ne_of_types hq hr (by decide))
theorem lay_none (m : List UInt8) (f : Nat) : lay m f [] = m := by simp [lay]
theorem lay_step {bs : List UInt8} {f i : Nat} {b : UInt8} (h : bs[i]? = some b) (hf : f + bs.length ≤ m.length) : lay m f (bs.take (i + 1)) = (lay m f (bs.take i)).set (f + i) b := by
  have hi := (List.getElem?_eq_some_iff.1 h).1
  apply List.ext_getElem?
  intro j
  unfold lay
  have l1 : (m.take f).length = f := by rw [List.length_take]; omega
  have l2 : (bs.take i).length = i := by rw [List.length_take]; omega
  have l3 : (bs.take (i + 1)).length = i + 1 := by rw [List.length_take]; omega
  rw [l2, l3, List.getElem?_set, List.append_assoc, List.append_assoc]
  have l4 : (m.take f ++ (bs.take i ++ m.drop (f + i))).length = m.length := by simp; omega
  rw [l4]
  by_cases h1 : j < f
  · rw [if_neg (by omega), List.getElem?_append_left (by omega), List.getElem?_append_left (by omega)]
  · rw [List.getElem?_append_right (by omega), l1]
    by_cases h2 : f + i = j
    · rw [if_pos h2, if_pos (by omega), List.getElem?_append_left (by omega), List.getElem?_take, if_pos (by omega), show j - f = i by omega]
      exact h
    · rw [if_neg h2, List.getElem?_append_right (l₁ := m.take f) (l₂ := bs.take i ++ m.drop (f + i)) (by omega), l1]
      by_cases h3 : j < f + i
      · rw [List.getElem?_append_left (by omega), List.getElem?_append_left (by omega), List.getElem?_take, List.getElem?_take, if_pos (by omega), if_pos (by omega)]
      · rw [List.getElem?_append_right (by omega), List.getElem?_append_right (by omega), l2, l3, List.getElem?_drop, List.getElem?_drop]
        congr 1
        omega
theorem lay_len (m bs : List UInt8) (f : Nat) (h : f + bs.length ≤ m.length) : (lay m f bs).length = m.length := by unfold lay; simp; omega
theorem backs_at (s : List Hv × List UInt8) {us : List Uv} {j : Nat} {u : Uv} (h : us[j]? = some u) : backs s (us.drop j) = back1 (backs s (us.drop (j + 1))) u := by
  obtain ⟨h1, h2⟩ := List.getElem?_eq_some_iff.1 h
  rw [List.drop_eq_getElem_cons h1, h2]
  rfl
theorem backs_len {c mn : Nat} {us : List Uv} {s : List Hv × List UInt8} (h1 : s.1.length = c) (h2 : s.2.length = mn) (hf : ∀ u ∈ us, fitU c mn u = true ∧ 0 ≤ u.fr) : ∀ l : List Uv, (∀ u ∈ l, u ∈ us) → (backs s l).1.length = c ∧ (backs s l).2.length = mn
  | [], _ => ⟨h1, h2⟩
  | u :: r, h => by
    have ih := backs_len h1 h2 hf r (fun v hv => h v (by simp [hv]))
    have := hf u (h u (by simp))
    exact back_len (backs s r) u ih.1 ih.2 this.1 this.2
end Go.Proofs.Ytphklaefhpoimac.Ud
