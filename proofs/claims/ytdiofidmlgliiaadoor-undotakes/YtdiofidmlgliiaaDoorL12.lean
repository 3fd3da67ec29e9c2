/-
  Ub4, Um, UtW, Ma, Mo: texts of ours that lie in one file.
-/
import Derived.Test.YtdiofidmlgliiaaDoorL11
import Derived.Test.YtdiofidmlgliiaaDoorL06
import Derived.Test.YtdiofidmlgliiaaDoorL10
import Derived.Test.YtdiofidmlgliiaaDoorL01
import Derived.Test.YtdiofidmlgliiaaDoorL02
import Derived.ProofKit
import Derived.SizedLaws
import Derived.Deep.Slices
import Derived.Test.YtdiofidmlgliiaaDoorMemArgs
/-
  What package undo's Back answers: what is wrong; else the machine in which steps are taken back.
-/
namespace Go.Proofs.YtdiofidmlgliiaaDoor.Ud
open Go.ChangeShapes Go.WideShapes Go.ChangeAt Go.RowKit Go.Shelf Mm Hh Hc Mc
set_option linter.unusedVariables false
set_option linter.unusedSimpArgs false
attribute [local go_sem] Oper.semAt_some

/-- What is wrong (an Errno). -/
def bkE (mn : Nat) (hs : List Hv) (us : List Uv) (st : Int) : Int := if mayM mn hs = false then 2 else if us.all (fitU hs.length mn) = false then 2 else if st < 0 ∨ (us.length : Int) < st then 3 else 0
/-- No panic is let out. -/
def noP (Q : Exit → Act → World → Prop) : Exit → Act → World → Prop
  | .panic _, _, _ => False
  | e, a, w => Q e a w
theorem wp_noP {P : Program} {c : Code} {Q : Exit → Act → World → Prop} {a : Act} {w : World} (h : c.wp P (noP Q) a w) : c.wp P Q a w := Code.wp_mono (fun e a w h => by cases e <;> first | exact h | exact h.elim) h
theorem noP_n {Q : Exit → Act → World → Prop} {a : Act} {w : World} (h : Q .normal a w) : noP Q .normal a w := h
theorem iMc : (Tryd.prog.info? 34).map (·.size) = some 2 := by kernel_rfl
set_option maxHeartbeats 2000000 in
set_option maxRecDepth 100000 in
theorem UBack_may {ma ha la : Option Addr} {mn mc hn hc ln lc : Nat} {st : Int} {hs : List Hv} {w : World} (H : Hs w ha hn hs) (b1 : mn ≤ 140737488351232) (b2 : hn ≤ 140737488351232) (h1 : mayM mn hs = false) :
    Calls Tryd.prog 17 #[.agg #[.slice ma mn mc, .slice ha hn hc], .slice la ln lc, .int .i64 st] w fun e w' => e = .returned (.tuple #[.agg #[.slice none 0 0, .slice none 0 0], .int .i64 2]) ∧ Gr w w' := by
  have HMy : Hid (∀ W : World, Gr w W → Calls Tryd.prog 34 #[.agg #[.slice ma mn mc, .slice ha hn hc]] W fun e w' => e = .returned (.bool false) ∧ Gr W w') := fun W G => by rw [← h1]; exact MMay_any mc hc mn (H.of G) b1 b2
  clear H
  go_enter Tryd.func17, Tryd.ntmps17
  go_wp2_with fail
  refine (HMy.out _ (((Gr.refl _).alloc _).alloc _)).mono ?_
  rintro e w1 ⟨rfl, G1⟩
  have HG1 : Hid (Gr w w1) := (((Gr.refl _).alloc _).alloc _).trans G1
  have HA1 : Hid (w1.heap[w.heap.size]? = some (.cells #[.slice ma mn mc, .slice ha hn hc] 34 (0, 0))) := (two_of G1).1
  have HB1 : Hid (w1.heap[w.heap.size + 1]? = some (.cells #[.slice none 0 0, .slice none 0 0] 34 (0, 0))) := (two_of G1).2
  have m0 := cr0 HA1.out
  have m1 := cr1 HA1.out
  clear G1 HMy
  go_wp2_with (refine wpList_store_row rfl 34 _ _ rfl (w.heap.size + 1) #[.slice none 0 0, .slice none 0 0] rfl rfl 34 #[.slice none 0 0, .slice none 0 0] ?hb iMc rfl (by kernel_rfl) ?_; (case hb => exact HB1.out))
  refine bodyPost_ret (v := .tuple #[.agg _, .int .i64 2]) (Hr.results_cell_tmp' Tryd.results17 _ _ _ _ _ (0, 0) _ _ rfl rfl (srh HB1.out) Tryd.underlying34 rfl iMc) rfl ⟨rfl, ?_⟩
  exact gr_setRow HG1.out (Nat.le_succ _) _
set_option maxHeartbeats 2000000 in
set_option maxRecDepth 100000 in
theorem UBack_fit {ma ha la : Option Addr} {mn mc hn hc ln lc : Nat} {st : Int} {hs : List Hv} {us : List Uv} {w : World} (H : Hs w ha hn hs) (U : Us w la ln us) (b1 : mn ≤ 140737488351232) (b2 : hn ≤ 140737488351232) (b3 : ln ≤ 140737488351232) (h1 : mayM mn hs = true) (h2 : us.all (fitU hn mn) = false) :
    Calls Tryd.prog 17 #[.agg #[.slice ma mn mc, .slice ha hn hc], .slice la ln lc, .int .i64 st] w fun e w' => e = .returned (.tuple #[.agg #[.slice none 0 0, .slice none 0 0], .int .i64 2]) ∧ Gr w w' := by
  have HMy : Hid (∀ W : World, Gr w W → Calls Tryd.prog 34 #[.agg #[.slice ma mn mc, .slice ha hn hc]] W fun e w' => e = .returned (.bool true) ∧ Gr W w') := fun W G => by rw [← h1]; exact MMay_any mc hc mn (H.of G) b1 b2
  have HFt : Hid (∀ W : World, Gr w W → Calls Tryd.prog 35 #[.agg #[.slice ma mn mc, .slice ha hn hc], .slice la ln lc] W fun e w' => e = .returned (.bool false) ∧ Gr W w') := fun W G => by rw [← h2]; exact fit_any (U.of G) b1 b2 b3
  clear H U
  go_enter Tryd.func17, Tryd.ntmps17
  go_wp2_with fail
  refine (HMy.out _ (((Gr.refl _).alloc _).alloc _)).mono ?_
  rintro e w1 ⟨rfl, G1⟩
  have HG1 : Hid (Gr w w1) := (((Gr.refl _).alloc _).alloc _).trans G1
  have HA1 : Hid (w1.heap[w.heap.size]? = some (.cells #[.slice ma mn mc, .slice ha hn hc] 34 (0, 0))) := (two_of G1).1
  have HB1 : Hid (w1.heap[w.heap.size + 1]? = some (.cells #[.slice none 0 0, .slice none 0 0] 34 (0, 0))) := (two_of G1).2
  have m0 := cr0 HA1.out
  have m1 := cr1 HA1.out
  clear G1 HMy
  go_wp2_with fail
  refine (HFt.out _ HG1.out).mono ?_
  rintro e w2 ⟨rfl, G2⟩
  have HG2 : Hid (Gr w w2) := HG1.out.trans G2
  have HA2 : Hid (w2.heap[w.heap.size]? = some (.cells #[.slice ma mn mc, .slice ha hn hc] 34 (0, 0))) := Hr.heap_of_gr G2 HA1.out
  have HB2 : Hid (w2.heap[w.heap.size + 1]? = some (.cells #[.slice none 0 0, .slice none 0 0] 34 (0, 0))) := Hr.heap_of_gr G2 HB1.out
  clear G2 HFt m0 m1 HG1 HA1 HB1
  go_wp2_with (refine wpList_store_row rfl 34 _ _ rfl (w.heap.size + 1) #[.slice none 0 0, .slice none 0 0] rfl rfl 34 #[.slice none 0 0, .slice none 0 0] ?hb iMc rfl (by kernel_rfl) ?_; (case hb => exact HB2.out))
  refine bodyPost_ret (v := .tuple #[.agg _, .int .i64 2]) (Hr.results_cell_tmp' Tryd.results17 _ _ _ _ _ (0, 0) _ _ rfl rfl (srh HB2.out) Tryd.underlying34 rfl iMc) rfl ⟨rfl, ?_⟩
  exact gr_setRow HG2.out (Nat.le_succ _) _
set_option maxHeartbeats 2000000 in
set_option maxRecDepth 100000 in
theorem UBack_rng {ma ha la : Option Addr} {mn mc hn hc ln lc : Nat} {st : Int} {hs : List Hv} {us : List Uv} {w : World} (H : Hs w ha hn hs) (U : Us w la ln us) (b1 : mn ≤ 140737488351232) (b2 : hn ≤ 140737488351232) (b3 : ln ≤ 140737488351232) (h1 : mayM mn hs = true) (h2 : us.all (fitU hn mn) = true) (h3 : st < 0 ∨ (¬ st < 0 ∧ (ln : Int) < st)) :
    Calls Tryd.prog 17 #[.agg #[.slice ma mn mc, .slice ha hn hc], .slice la ln lc, .int .i64 st] w fun e w' => e = .returned (.tuple #[.agg #[.slice none 0 0, .slice none 0 0], .int .i64 3]) ∧ Gr w w' := by
  have HMy : Hid (∀ W : World, Gr w W → Calls Tryd.prog 34 #[.agg #[.slice ma mn mc, .slice ha hn hc]] W fun e w' => e = .returned (.bool true) ∧ Gr W w') := fun W G => by rw [← h1]; exact MMay_any mc hc mn (H.of G) b1 b2
  have HFt : Hid (∀ W : World, Gr w W → Calls Tryd.prog 35 #[.agg #[.slice ma mn mc, .slice ha hn hc], .slice la ln lc] W fun e w' => e = .returned (.bool true) ∧ Gr W w') := fun W G => by rw [← h2]; exact fit_any (U.of G) b1 b2 b3
  clear H U h1 h2
  rcases h3 with h3 | ⟨h3, h4⟩
  · skip
    go_enter Tryd.func17, Tryd.ntmps17
    go_wp2_with fail
    refine (HMy.out _ (((Gr.refl _).alloc _).alloc _)).mono ?_
    rintro e w1 ⟨rfl, G1⟩
    have HG1 : Hid (Gr w w1) := (((Gr.refl _).alloc _).alloc _).trans G1
    have HA1 : Hid (w1.heap[w.heap.size]? = some (.cells #[.slice ma mn mc, .slice ha hn hc] 34 (0, 0))) := (two_of G1).1
    have HB1 : Hid (w1.heap[w.heap.size + 1]? = some (.cells #[.slice none 0 0, .slice none 0 0] 34 (0, 0))) := (two_of G1).2
    have m0 := cr0 HA1.out
    have m1 := cr1 HA1.out
    clear G1 HMy
    go_wp2_with fail
    refine (HFt.out _ HG1.out).mono ?_
    rintro e w2 ⟨rfl, G2⟩
    have HG2 : Hid (Gr w w2) := HG1.out.trans G2
    have HA2 : Hid (w2.heap[w.heap.size]? = some (.cells #[.slice ma mn mc, .slice ha hn hc] 34 (0, 0))) := Hr.heap_of_gr G2 HA1.out
    have HB2 : Hid (w2.heap[w.heap.size + 1]? = some (.cells #[.slice none 0 0, .slice none 0 0] 34 (0, 0))) := Hr.heap_of_gr G2 HB1.out
    clear G2 HFt m0 m1 HG1 HA1 HB1
    go_wp2_with (refine wpList_store_row rfl 34 _ _ rfl (w.heap.size + 1) #[.slice none 0 0, .slice none 0 0] rfl rfl 34 #[.slice none 0 0, .slice none 0 0] ?hb iMc rfl (by kernel_rfl) ?_; (case hb => exact HB2.out))
    refine bodyPost_ret (v := .tuple #[.agg _, .int .i64 3]) (Hr.results_cell_tmp' Tryd.results17 _ _ _ _ _ (0, 0) _ _ rfl rfl (srh HB2.out) Tryd.underlying34 rfl iMc) rfl ⟨rfl, ?_⟩
    exact gr_setRow HG2.out (Nat.le_succ _) _
  · skip
    go_enter Tryd.func17, Tryd.ntmps17
    go_wp2_with fail
    refine (HMy.out _ (((Gr.refl _).alloc _).alloc _)).mono ?_
    rintro e w1 ⟨rfl, G1⟩
    have HG1 : Hid (Gr w w1) := (((Gr.refl _).alloc _).alloc _).trans G1
    have HA1 : Hid (w1.heap[w.heap.size]? = some (.cells #[.slice ma mn mc, .slice ha hn hc] 34 (0, 0))) := (two_of G1).1
    have HB1 : Hid (w1.heap[w.heap.size + 1]? = some (.cells #[.slice none 0 0, .slice none 0 0] 34 (0, 0))) := (two_of G1).2
    have m0 := cr0 HA1.out
    have m1 := cr1 HA1.out
    clear G1 HMy
    go_wp2_with fail
    refine (HFt.out _ HG1.out).mono ?_
    rintro e w2 ⟨rfl, G2⟩
    have HG2 : Hid (Gr w w2) := HG1.out.trans G2
    have HA2 : Hid (w2.heap[w.heap.size]? = some (.cells #[.slice ma mn mc, .slice ha hn hc] 34 (0, 0))) := Hr.heap_of_gr G2 HA1.out
    have HB2 : Hid (w2.heap[w.heap.size + 1]? = some (.cells #[.slice none 0 0, .slice none 0 0] 34 (0, 0))) := Hr.heap_of_gr G2 HB1.out
    clear G2 HFt m0 m1 HG1 HA1 HB1
    go_wp2_with (refine wpList_store_row rfl 34 _ _ rfl (w.heap.size + 1) #[.slice none 0 0, .slice none 0 0] rfl rfl 34 #[.slice none 0 0, .slice none 0 0] ?hb iMc rfl (by kernel_rfl) ?_; (case hb => exact HB2.out))
    refine bodyPost_ret (v := .tuple #[.agg _, .int .i64 3]) (Hr.results_cell_tmp' Tryd.results17 _ _ _ _ _ (0, 0) _ _ rfl rfl (srh HB2.out) Tryd.underlying34 rfl iMc) rfl ⟨rfl, ?_⟩
    exact gr_setRow HG2.out (Nat.le_succ _) _
theorem UBack_no {ma ha la : Option Addr} {mn mc hn hc ln lc : Nat} {st : Int} {hs : List Hv} {us : List Uv} {w : World} (H : Hs w ha hn hs) (U : Us w la ln us) (b1 : mn ≤ 140737488351232) (b2 : hn ≤ 140737488351232) (b3 : ln ≤ 140737488351232) (hno : ¬ bkE mn hs us st = 0) :
    Calls Tryd.prog 17 #[.agg #[.slice ma mn mc, .slice ha hn hc], .slice la ln lc, .int .i64 st] w fun e w' => e = .returned (.tuple #[.agg #[.slice none 0 0, .slice none 0 0], .int .i64 (bkE mn hs us st)]) ∧ Gr w w' := by
  have hl := H.len
  have ul := U.len
  unfold bkE at hno ⊢
  rw [hl] at hno ⊢
  by_cases h1 : mayM mn hs = false
  · rw [if_pos h1]; exact UBack_may H b1 b2 h1
  · rw [if_neg h1] at hno ⊢
    rw [Bool.not_eq_false] at h1
    by_cases h2 : us.all (fitU hn mn) = false
    · rw [if_pos h2]; exact UBack_fit H U b1 b2 b3 h1 h2
    · rw [if_neg h2] at hno ⊢
      rw [Bool.not_eq_false] at h2
      by_cases h3 : st < 0 ∨ (us.length : Int) < st
      · rw [if_pos h3]
        exact UBack_rng H U b1 b2 b3 h1 h2 (by omega)
      · exact absurd (if_neg h3) hno
/-- Where a cut of Undos begins. -/
def cutP41 (mo : Option Addr) (cap f : Nat) : Option Addr := if cap = f then mo else mo.map fun ad => ad.add (f * 41)
/-- A machine as it is answered. -/
def Mv (w : World) (v : Value) (c mn : Nat) (hs : List Hv) (m : List UInt8) : Prop := ∃ ma mc ha hc, v = .agg #[.slice ma mn mc, .slice ha c hc] ∧ Mem w ma mn m ∧ (ma = none → mc = 0) ∧ Hs w ha c hs
theorem Mv.of {w w' : World} {v : Value} {c mn : Nat} {hs : List Hv} {m : List UInt8} (h : Mv w v c mn hs m) (G : Gr w w') : Mv w' v c mn hs m := by
  obtain ⟨ma, mc, ha, hc, e, h1, h2, h3⟩ := h
  exact ⟨ma, mc, ha, hc, e, h1.of G, h2, h3.of G⟩
theorem us_drop {w : World} {la : Option Addr} {ln lc q : Nat} {us : List Uv} (U : Us w la ln us) (hq : q ≤ ln) (hc : ln ≤ lc) : Us w (cutP41 la lc q) (ln - q) (us.drop q) := by
  have hl := U.len
  refine ⟨by rw [List.length_drop, hl], fun hn => ?_⟩
  obtain ⟨b, o, rfl, hb, h⟩ := U.spot (by omega)
  have e : cutP41 (some ⟨b, o, none⟩) lc q = some ⟨b, o + q * 41, none⟩ := by unfold cutP41; rw [if_neg (by omega), Option.map_some, add_at]
  refine ⟨b, o + q * 41, e, hb, fun j u hj => ?_⟩
  rw [List.getElem?_drop] at hj
  obtain ⟨x, h1, h2⟩ := h _ u hj
  exact ⟨x, h1, fun i v hi => by have := h2 i v hi; rw [show o + q * 41 + j * 41 + i = o + (q + j) * 41 + i by omega]; exact this⟩
theorem backs_rev (s : List Hv × List UInt8) (l : List Uv) : l.reverse.foldl back1 s = backs s l := by
  unfold backs
  rw [List.foldl_reverse]
/-- Rows of cells stay: so does a machine of one's own. -/
theorem Mz.kept {w w' : World} {n z gh hc : Nat} {M : Value} {hs : List Hv} {m : List UInt8} (Z : Mz w n z M gh hc hs m) (q : ∀ (k : Nat) (o : Array Value) (t : Nat) (f : Nat × Nat), w.heap[k]? = some (.cells o t f) → w'.heap[k]? = w.heap[k]?) : Mz w' n z M gh hc hs m :=
  ⟨(q _ _ _ _ Z.blk).trans Z.blk, Z.bz, Z.mem.to fun k o f e => q k o _ f e, Z.bh, Z.row.to fun k o f e => q k o _ f e⟩
theorem kept_cells {W W' : World} {row : Option Nat} {B : Nat} (hg : W.grownBy W' row) (hr : ∀ r, row = some r → B ≤ r ∧ ∃ o : Obj, W.heap[r]? = some o ∧ o.isCells = false) : ∀ (k : Nat) (o : Array Value) (t : Nat) (f : Nat × Nat), W.heap[k]? = some (.cells o t f) → W'.heap[k]? = W.heap[k]? := fun k o t f e => by
  refine hg.block k (gs e).1 (fun e2 => ?_)
  obtain ⟨_, ob, h1, h2⟩ := hr k e2.symm
  rw [e] at h1
  injection h1 with h1
  subst h1
  cases h2
theorem back_len (s : List Hv × List UInt8) (u : Uv) {c mn : Nat} (h1 : s.1.length = c) (h2 : s.2.length = mn) (hf : fitU c mn u = true) (f0 : 0 ≤ u.fr) : (back1 s u).1.length = c ∧ (back1 s u).2.length = mn := by
  unfold fitU at hf
  simp only [Bool.and_eq_true, decide_eq_true_eq] at hf
  have := hf.2.2.1
  unfold back1 lay
  refine ⟨by simp [gives_len, h1], ?_⟩
  simp
  omega
theorem folds_len {c mn : Nat} : ∀ (l : List Uv) (s : List Hv × List UInt8), s.1.length = c → s.2.length = mn → (∀ u ∈ l, fitU c mn u = true ∧ 0 ≤ u.fr) → (l.foldl back1 s).1.length = c ∧ (l.foldl back1 s).2.length = mn
  | [], s, h1, h2, _ => ⟨h1, h2⟩
  | u :: r, s, h1, h2, h => by
    have := back_len s u h1 h2 (h u (by simp)).1 (h u (by simp)).2
    exact folds_len r (back1 s u) this.1 this.2 (fun v hv => h v (by simp [hv]))
set_option maxHeartbeats 4000000 in
set_option maxRecDepth 100000 in
theorem UBack_yes {ma ha la : Option Addr} {mn mc hn hc ln lc : Nat} {st : Int} {hs : List Hv} {us : List Uv} {w : World} {m : List UInt8} (M : Mem w ma mn m) (hcap : ma = none → mc = 0) (H : Hs w ha hn hs) (U : Us w la ln us) (b3 : ln ≤ 140737488351232) (hlc : ln ≤ lc) (hy : bkE mn hs us st = 0) :
    Calls Tryd.prog 17 #[.agg #[.slice ma mn mc, .slice ha hn hc], .slice la ln lc, .int .i64 st] w fun e w' => ∃ v, e = .returned (.tuple #[v, .int .i64 0]) ∧ Mv w' v hn mn (backs (hs, m) (us.drop (ln - st.toNat))).1 (backs (hs, m) (us.drop (ln - st.toNat))).2 ∧ Gr w w' := by
  have hl := H.len
  have ul := U.len
  have ml := M.len
  unfold bkE at hy
  rw [hl] at hy
  by_cases h1 : mayM mn hs = false
  · rw [if_pos h1] at hy; cases hy
  rw [if_neg h1, Bool.not_eq_false] at *
  by_cases h2 : us.all (fitU hn mn) = false
  · rw [if_pos h2] at hy; cases hy
  rw [if_neg h2, Bool.not_eq_false] at *
  by_cases h3 : st < 0 ∨ (us.length : Int) < st
  · rw [if_pos h3] at hy; cases hy
  clear hy
  obtain ⟨s, rfl⟩ := Int.eq_ofNat_of_zero_le (show 0 ≤ st by omega)
  have hs1 : ¬ (s : Int) < 0 := by omega
  have hs2 : ¬ (ln : Int) < (s : Int) := by omega
  have hs3 : s ≤ ln := by omega
  rw [Int.toNat_natCast]
  have hmm : mn ≤ 4096 ∧ 1 ≤ hn ∧ hn ≤ 4 := by
    unfold mayM at h1
    simp only [Bool.and_eq_true, decide_eq_true_eq, hl] at h1
    exact h1.1
  obtain ⟨m4, n1, n4⟩ := hmm
  have b1 : mn ≤ 140737488351232 := by omega
  have b2 : hn ≤ 140737488351232 := by omega
  have HMy : Hid (∀ W : World, Gr w W → Calls Tryd.prog 34 #[.agg #[.slice ma mn mc, .slice ha hn hc]] W fun e w' => e = .returned (.bool true) ∧ Gr W w') := fun W G => by rw [← h1]; exact MMay_any mc hc mn (H.of G) b1 b2
  have HFt : Hid (∀ W : World, Gr w W → Calls Tryd.prog 35 #[.agg #[.slice ma mn mc, .slice ha hn hc], .slice la ln lc] W fun e w' => e = .returned (.bool true) ∧ Gr W w') := fun W G => by rw [← h2]; exact fit_any (U.of G) b1 b2 b3
  have HUD : Hid (Us w (cutP41 la lc (ln - s)) (ln - (ln - s)) (us.drop (ln - s))) := us_drop U (by omega) hlc
  have HFU : Hid (∀ u ∈ us.drop (ln - s), fitU hn mn u = true) := fun u hu => by
    have := List.all_eq_true.1 h2 u (List.mem_of_mem_drop hu)
    exact this
  have hla : (la = none ∧ ln = 0) ∨ ∃ b o, la = some ⟨b, o, none⟩ ∨ ln = 0 := by
    by_cases h0 : 0 < ln
    · obtain ⟨b, o, e, _⟩ := U.spot h0
      exact .inr ⟨b, o, .inl e⟩
    · exact .inr ⟨0, 0, .inr (by omega)⟩
  obtain ⟨hb, ho, he, _, _⟩ := H.spot (by omega)
  subst he
  have C1 : Hid (∀ W : World, Gr w W → Calls Tryd.prog 36 #[.slice ma mn mc] W fun e w' => ∃ a c, e = .returned (.slice a mn c) ∧ Hc.Own w' w.heap.size (.slice a mn c) m ∧ Gr W w') := fun W G => (Clone_any (M.of G) hcap (by omega)).mono fun e w' ⟨v, e1, e2, e3⟩ => by
    obtain ⟨a, c, rfl, _⟩ := e2.mem
    rw [ml] at e1 e2
    exact ⟨a, c, e1, e2.base (w' := w') G.size, e3⟩
  have C2 : Hid (∀ W : World, Gr w W → Calls Tryd.prog 37 #[.slice (some ⟨hb, ho, none⟩) hn hc] W fun e w' => ∃ g c, e = .returned (.slice (some ⟨g, 0, none⟩) hn c) ∧ w.heap.size ≤ g ∧ HRow w' g hs ∧ Gr W w') := fun W G => (HClone_any hc (H.of G) n1 n4).mono fun e w' ⟨g, c, e1, e2, e3⟩ => ⟨g, c, e1, Nat.le_trans G.size e2, e3⟩
  have HHL : Hid (hs.length = hn) := hl
  have HML : Hid (m.length = mn) := ml
  have HUL : Hid (us.length = ln) := ul
  have e1 : IntKind.i64.wrap ((ln : Int) - (s : Int)) = ((ln - s : Nat) : Int) := by simp [IntKind.wrap, IntKind.bits, IntKind.signed]; omega
  clear H U M hcap h1 h2 h3 hl ul ml
  refine callsIn_wide.1 (callsIn_of_wp_marks (F := Fence.wide) (n := 9) Tryd.func17 rfl trivial ?_ rfl)
  refine wpIn_wide.2 ?_
  simp only [Tryd.ntmps17, List.size_toArray, List.length_cons, List.length_nil, Nat.reduceAdd, Nat.reduceSub, Array.replicate_succ, Array.replicate_zero, List.push_toArray, List.append_toArray, List.nil_append, List.cons_append]
  go_wp2_with fail
  refine (HMy.out _ (((Gr.refl _).alloc _).alloc _)).mono ?_
  rintro e w1 ⟨rfl, G1⟩
  have HG1 : Hid (Gr w w1) := (((Gr.refl _).alloc _).alloc _).trans G1
  have HA1 : Hid (w1.heap[w.heap.size]? = some (.cells #[.slice ma mn mc, .slice (some ⟨hb, ho, none⟩) hn hc] 34 (0, 0))) := (two_of G1).1
  have HB1 : Hid (w1.heap[w.heap.size + 1]? = some (.cells #[.slice none 0 0, .slice none 0 0] 34 (0, 0))) := (two_of G1).2
  have m0 := cr0 HA1.out
  have m1 := cr1 HA1.out
  clear G1 HMy
  go_wp2_with fail
  refine (HFt.out _ HG1.out).mono ?_
  rintro e w2 ⟨rfl, G2⟩
  have HG2 : Hid (Gr w w2) := HG1.out.trans G2
  have HA2 : Hid (w2.heap[w.heap.size]? = some (.cells #[.slice ma mn mc, .slice (some ⟨hb, ho, none⟩) hn hc] 34 (0, 0))) := Hr.heap_of_gr G2 HA1.out
  have HB2 : Hid (w2.heap[w.heap.size + 1]? = some (.cells #[.slice none 0 0, .slice none 0 0] 34 (0, 0))) := Hr.heap_of_gr G2 HB1.out
  clear G2 HFt m0 m1 HG1 HA1 HB1
  have m0 := cr0 HA2.out
  have m1 := cr1 HA2.out
  go_wp2_with fail
  have HSv : Hid (∀ V : World, Gr w2 V → (fun W => W.cell? ⟨w.heap.size, 0, none⟩ = some (.slice ma mn mc) ∧ W.cell? ⟨w.heap.size, 1, none⟩ = some (.slice (some ⟨hb, ho, none⟩) hn hc)) V) := fun V G => ⟨cr0 (Hr.heap_of_gr G HA2.out), cr1 (Hr.heap_of_gr G HA2.out)⟩
  refine wp_noP ?_
  refine wp_region_held_drew (S := fun W => W.cell? ⟨w.heap.size, 0, none⟩ = some (.slice ma mn mc) ∧ W.cell? ⟨w.heap.size, 1, none⟩ = some (.slice (some ⟨hb, ho, none⟩) hn hc)) (by kernel_rfl) (HSv.out _ (Gr.drew (Gr.refl _))) (fun hHeld => ?_)
  have HS0 : Hid _ := hHeld
  clear hHeld
  refine wpAnyH_take (i := 0) (v := .pointer (some ⟨w.heap.size, 0, none⟩)) rfl (by kernel_rfl) (by kernel_rfl) (by kernel_rfl) (fun _ _ _ h => h) (Or.inl ⟨by rfl, fun W hW => by obtain ⟨y0, y1⟩ := hW; go_simp⟩) HS0.out ?_
  simp only [List.getElem_toArray, List.getElem_cons_succ, List.getElem_cons_zero, Act.put, List.setIfInBounds_toArray, List.set_cons_zero, List.set_cons_succ]
  refine wpAnyH_take (i := 1) (v := .slice ma mn mc) rfl (by kernel_rfl) (by kernel_rfl) (by kernel_rfl) (fun _ _ _ h => h) (Or.inl ⟨by rfl, fun W hW => by obtain ⟨y0, y1⟩ := hW; go_simp⟩) HS0.out ?_
  simp only [List.getElem_toArray, List.getElem_cons_succ, List.getElem_cons_zero, Act.put, List.setIfInBounds_toArray, List.set_cons_zero, List.set_cons_succ]
  refine wpAnyH_take (i := 3) (v := .pointer (some ⟨w.heap.size, 1, none⟩)) rfl (by kernel_rfl) (by kernel_rfl) (by kernel_rfl) (fun _ _ _ h => h) (Or.inl ⟨by rfl, fun W hW => by obtain ⟨y0, y1⟩ := hW; go_simp⟩) HS0.out ?_
  simp only [List.getElem_toArray, List.getElem_cons_succ, List.getElem_cons_zero, Act.put, List.setIfInBounds_toArray, List.set_cons_zero, List.set_cons_succ]
  refine wpAnyH_take (i := 4) (v := .slice (some ⟨hb, ho, none⟩) hn hc) rfl (by kernel_rfl) (by kernel_rfl) (by kernel_rfl) (fun _ _ _ h => h) (Or.inl ⟨by rfl, fun W hW => by obtain ⟨y0, y1⟩ := hW; go_simp⟩) HS0.out ?_
  simp only [List.getElem_toArray, List.getElem_cons_succ, List.getElem_cons_zero, Act.put, List.setIfInBounds_toArray, List.set_cons_zero, List.set_cons_succ]
  obtain ⟨FA, HFA⟩ : ∃ FA : Nat → Option Addr → Nat → Nat → Nat → World → Prop, Hid (FA = fun (z : Nat) (a2 : Option Addr) (c2 g3 c3 : Nat) (V : World) => V.heap[z]? = some (.cells #[.slice none 0 0, .slice none 0 0] 34 (0, 0)) ∧ w2.heap.size ≤ z ∧ Hc.Own V w.heap.size (.slice a2 mn c2) m ∧ w.heap.size ≤ g3 ∧ HRow V g3 hs ∧ Gr w2 V) := ⟨_, rfl⟩
  have HD : Hid (Gr w2 w2.drew) := Gr.drew (Gr.refl _)
  apply shareP
  · intro CONT
    refine wpAnyH_ready (rs := [2, 7]) (by kernel_rfl) (by simp) ?_
    refine AllReadyH.cons rfl (fun K hK => ?_) (AllReadyH.cons rfl (fun K hK => ?_) AllReadyH.nil)
    · skip
      go_simp
      refine (C1.out _ (HG2.out.trans HD.out)).mono ?_
      rintro e w3 ⟨a2, c2, rfl, O3, G3⟩
      have HO3 : Hid (Hc.Own w3 w.heap.size (.slice a2 mn c2) m) := O3
      have HG3 : Hid (Gr w2 w3) := Gr.trans HD.out G3
      refine hK.out _ _ (HSv.out _ HG3.out) (fun hx => ?_)
      clear hK K hx O3
      refine wpAnyH_ready (rs := [5, 7]) (by kernel_rfl) (by simp) ?_
      refine AllReadyH.cons rfl (fun K hK => ?_) (AllReadyH.cons rfl (fun K hK => ?_) AllReadyH.nil)
      · skip
        go_simp
        refine (C2.out _ (HG2.out.trans HG3.out)).mono ?_
        rintro e w4 ⟨g3, c3, rfl, hg3, R4, G4⟩
        have HG4 : Hid (Gr w2 w4) := Gr.trans HG3.out G4
        refine hK.out _ _ (HSv.out _ HG4.out) (fun hx => ?_)
        clear hK K hx
        refine wpAnyH_take (i := 6) (v := .agg #[.slice a2 mn c2, .slice (some ⟨g3, 0, none⟩) hn c3]) rfl (by kernel_rfl) (by kernel_rfl) (by kernel_rfl) (fun _ _ _ h => h) (Or.inl ⟨by rfl, fun W hW => by obtain ⟨y0, y1⟩ := hW; go_simp⟩) (HSv.out _ HG4.out) ?_
        simp only [List.getElem_toArray, List.getElem_cons_succ, List.getElem_cons_zero, Act.put, List.setIfInBounds_toArray, List.set_cons_zero, List.set_cons_succ]
        refine wpAnyH_ready (rs := [7]) (by kernel_rfl) (by simp) ?_
        refine AllReadyH.cons rfl (fun K hK => ?_) AllReadyH.nil
        go_simp
        refine hK.out _ _ (HSv.out _ (Gr.alloc HG4.out _)) (fun hx => ?_)
        clear hK K hx
        obtain ⟨z, hz⟩ : ∃ z : Nat, z = w4.heap.size := ⟨_, rfl⟩
        rw [← hz]
        refine atW (FA z a2 c2 g3 c3) ?hfa ?_
        case hfa => rw [HFA.out]; exact ⟨by rw [hz]; exact heap_alloc_new w4 _, by rw [hz]; exact HG4.out.size, own_gr (own_gr HO3.out G4) ((Gr.refl _).alloc _), hg3, R4.of ((Gr.refl _).alloc _), Gr.alloc HG4.out _⟩
        clear hz HG4 HG3 HO3 hg3 R4 G3 G4
        clear w4 w3
        revert z a2 c2 g3 c3
        exact CONT.out
      · skip
        go_simp
        refine hK.out _ _ (HSv.out _ (Gr.alloc HG3.out _)) (fun hx => ?_)
        clear hK K hx
        refine wpAnyH_ready (rs := [5]) (by kernel_rfl) (by simp) ?_
        refine AllReadyH.cons rfl (fun K hK => ?_) AllReadyH.nil
        go_simp
        refine (C2.out _ (HG2.out.trans (Gr.alloc HG3.out _))).mono ?_
        rintro e w4 ⟨g3, c3, rfl, hg3, R4, G4⟩
        have HG4 : Hid (Gr w2 w4) := Gr.trans (Gr.alloc HG3.out _) G4
        refine hK.out _ _ (HSv.out _ HG4.out) (fun hx => ?_)
        clear hK K hx
        refine wpAnyH_take (i := 6) (v := .agg #[.slice a2 mn c2, .slice (some ⟨g3, 0, none⟩) hn c3]) rfl (by kernel_rfl) (by kernel_rfl) (by kernel_rfl) (fun _ _ _ h => h) (Or.inl ⟨by rfl, fun W hW => by obtain ⟨y0, y1⟩ := hW; go_simp⟩) (HSv.out _ HG4.out) ?_
        simp only [List.getElem_toArray, List.getElem_cons_succ, List.getElem_cons_zero, Act.put, List.setIfInBounds_toArray, List.set_cons_zero, List.set_cons_succ]
        obtain ⟨z, hz⟩ : ∃ z : Nat, z = w3.heap.size := ⟨_, rfl⟩
        rw [← hz]
        refine atW (FA z a2 c2 g3 c3) ?hfa ?_
        case hfa => rw [HFA.out]; exact ⟨by rw [hz]; exact Hr.heap_of_gr G4 (heap_alloc_new w3 _), by rw [hz]; exact HG3.out.size, own_gr HO3.out (Gr.trans ((Gr.refl _).alloc _) G4), hg3, R4, HG4.out⟩
        clear hz HG4 HG3 HO3 hg3 R4 G3 G4
        clear w4 w3
        revert z a2 c2 g3 c3
        exact CONT.out
    · skip
      go_simp
      refine hK.out _ _ (HSv.out _ (Gr.alloc HD.out _)) (fun hx => ?_)
      clear hK K hx
      refine wpAnyH_ready (rs := [2]) (by kernel_rfl) (by simp) ?_
      refine AllReadyH.cons rfl (fun K hK => ?_) AllReadyH.nil
      go_simp
      refine (C1.out _ (HG2.out.trans (Gr.alloc HD.out _))).mono ?_
      rintro e w3 ⟨a2, c2, rfl, O3, G3⟩
      have HO3 : Hid (Hc.Own w3 w.heap.size (.slice a2 mn c2) m) := O3
      have HG3 : Hid (Gr w2 w3) := Gr.trans (Gr.alloc HD.out _) G3
      refine hK.out _ _ (HSv.out _ HG3.out) (fun hx => ?_)
      clear hK K hx O3
      refine wpAnyH_ready (rs := [5]) (by kernel_rfl) (by simp) ?_
      refine AllReadyH.cons rfl (fun K hK => ?_) AllReadyH.nil
      go_simp
      refine (C2.out _ (HG2.out.trans HG3.out)).mono ?_
      rintro e w4 ⟨g3, c3, rfl, hg3, R4, G4⟩
      have HG4 : Hid (Gr w2 w4) := Gr.trans HG3.out G4
      refine hK.out _ _ (HSv.out _ HG4.out) (fun hx => ?_)
      clear hK K hx
      refine wpAnyH_take (i := 6) (v := .agg #[.slice a2 mn c2, .slice (some ⟨g3, 0, none⟩) hn c3]) rfl (by kernel_rfl) (by kernel_rfl) (by kernel_rfl) (fun _ _ _ h => h) (Or.inl ⟨by rfl, fun W hW => by obtain ⟨y0, y1⟩ := hW; go_simp⟩) (HSv.out _ HG4.out) ?_
      simp only [List.getElem_toArray, List.getElem_cons_succ, List.getElem_cons_zero, Act.put, List.setIfInBounds_toArray, List.set_cons_zero, List.set_cons_succ]
      obtain ⟨z, hz⟩ : ∃ z : Nat, z = w2.heap.size := ⟨_, rfl⟩
      rw [← hz]
      refine atW (FA z a2 c2 g3 c3) ?hfa ?_
      case hfa => rw [HFA.out]; exact ⟨by rw [hz]; exact Hr.heap_of_gr G4 (Hr.heap_of_gr G3 (heap_alloc_new w2.drew _)), by rw [hz]; exact Nat.le_refl _, own_gr HO3.out G4, hg3, R4, HG4.out⟩
      clear hz HG4 HG3 HO3 hg3 R4 G3 G4
      clear w4 w3
      revert z a2 c2 g3 c3
      exact CONT.out
  intro a2 c2 g3 c3 z V hF
  rw [HFA.out] at hF
  obtain ⟨kz, hz2, O5, hg5, R5, G5⟩ := hF
  have HKz : Hid (V.heap[z]? = some (.cells #[.slice none 0 0, .slice none 0 0] 34 (0, 0))) := kz
  have hb2 : w.heap.size + 1 < w2.heap.size := (gs HB2.out).1
  have HZ5 : Hid (Mz (V.setRow z #[.slice a2 mn c2, .slice (some ⟨g3, 0, none⟩) hn c3]) w.heap.size z (.slice a2 mn c2) g3 c3 hs m) := by
    have st : ∀ (k : Nat) (q : Array Value) (t : Nat) (f : Nat × Nat), t ≠ 34 → V.heap[k]? = some (.cells q t f) → (V.setRow z #[.slice a2 mn c2, .slice (some ⟨g3, 0, none⟩) hn c3]).heap[k]? = V.heap[k]? := fun k q t f ht hk => sro (ne_of_types hk kz ht)
    refine ⟨?_, by omega, O5.to fun k o f e => st k o _ f (by decide) e, hg5, R5.to fun k o f e => st k o _ f (by decide) e⟩
    rw [HHL.out]
    exact srh kz
  have HG5 : Hid (Gr w2 (V.setRow z #[.slice a2 mn c2, .slice (some ⟨g3, 0, none⟩) hn c3])) := gr_setRow G5 hz2 _
  clear kz O5 hg5 R5 G5
  refine wpAnyH_ready (rs := [8]) (by kernel_rfl) (by simp) ?_
  refine AllReadyH.cons rfl (fun K hK => ?_) AllReadyH.nil
  refine step_store rfl 34 (.tmp 8) (.tmp 36) rfl z #[.slice a2 mn c2, .slice (some ⟨g3, 0, none⟩) hn c3] (by simp [Act.eval]) (by simp [Act.eval]) 34 #[.slice none 0 0, .slice none 0 0] HKz.out iMc rfl (by kernel_rfl) ?_
  refine hK.out _ _ (HSv.out _ HG5.out) (fun hx => ?_)
  clear hK K hx
  refine wpAnyH_done (by kernel_rfl) ?_ _
  refine noP_n ?_
  generalize V.setRow z #[.slice a2 mn c2, .slice (some ⟨g3, 0, none⟩) hn c3] = W3 at *
  have HB3 : Hid (W3.heap[w.heap.size + 1]? = some (.cells #[.slice none 0 0, .slice none 0 0] 34 (0, 0))) := Hr.heap_of_gr HG5.out HB2.out
  have HG3 : Hid (Gr w W3) := HG2.out.trans HG5.out
  have hzr : z ≠ w.heap.size + 1 := by omega
  clear HKz HSv HS0 HFA HD FA HA2 HB2 HG2 HG5 m0 m1 C1 C2 hz2
  clear V
  obtain ⟨q, hq⟩ : ∃ q : Nat, q = ln - s := ⟨_, rfl⟩
  have HQ : Hid (q = ln - s) := hq
  have hql : q ≤ ln := by omega
  have hqi : (q : Int) ≤ (ln : Int) := by omega
  have hqc : (ln : Int) ≤ (lc : Int) := by omega
  rw [← hq] at e1 HUD
  clear hq
  by_cases hcl : lc = q
  · subst hcl
    have h0 : ln - lc = 0 := by omega
    have HX : Hid (Us w la 0 (us.drop (ln - s))) := by have := HUD.out; unfold cutP41 at this; rw [if_pos rfl, h0] at this; rw [← HQ.out]; exact this
    go_wp2_with fail
    refine (Backward_any _ _ _ _).mono ?_
    rintro e w5 ⟨rfl, rfl⟩
    go_wp2_with fail
    have HB5 : Hid ((W3.alloc (.cells #[.slice la 0 0] 41)).heap[W3.heap.size]? = some (.cells #[.slice la 0 0] 41 (0, 0))) := heap_alloc_new W3 _
    have HG5 : Hid (Gr w (W3.alloc (.cells #[.slice la 0 0] 41))) := HG3.out.alloc _
    have HZ6 : Hid (Mz (W3.alloc (.cells #[.slice la 0 0] 41)) w.heap.size z (.slice a2 mn c2) g3 c3 hs m) := HZ5.out.kept fun k o t f e => ((Gr.refl W3).alloc _).block _ (gs e).1
    have HB6 : Hid ((W3.alloc (.cells #[.slice la 0 0] 41)).heap[w.heap.size + 1]? = some (.cells #[.slice none 0 0, .slice none 0 0] 34 (0, 0))) := Hr.heap_of_gr ((Gr.refl W3).alloc _) HB3.out
    generalize hW6 : W3.alloc (.cells #[.slice la 0 0] 41) = W6 at *
    have hw6 : w.heap.size ≤ W6.heap.size := HG5.out.size
    clear hW6
    refine (wpIn_wide (n := 9)).1 ?_
    refine wpIn_rangeFunc_ownH (F := Fence.wide) (n := 9) rfl (by omega) (gf := 72) (lb := #[.pointer (some ⟨W3.heap.size, 0, none⟩)]) rfl trivial (enters_of Tryd.func72 (by kernel_rfl) rfl)
      (bwd_stops (c := hn) (mn := mn) HX.out (by omega) HFU.out (9 - 1) W3.heap.size W6 HG5.out HB5.out) Kr.trans (kr_b hw6) (Below.refl _ _) (fun _ => rfl)
      (fun pre W => (Mz W w.heap.size z (.slice a2 mn c2) g3 c3 ((pre.map Yv.u).foldl back1 (hs, m)).1 ((pre.map Yv.u).foldl back1 (hs, m)).2 ∧ W.heap[w.heap.size + 1]? = some (.cells #[.slice none 0 0, .slice none 0 0] 34 (0, 0))) ∧ Below w.heap.size w W)
      (fun _ _ _ => False)
      (OwnFrom.and (fun s X X' row h hg hr => ⟨h.1.kept (kept_cells hg hr), (kept_cells hg hr _ _ _ _ h.2).trans h.2⟩) (ownFrom_below (Nat.le_refl _) hw6))
      (fun _ _ _ _ _ h _ _ => h)
      ⟨⟨HZ6.out, HB6.out⟩, HG5.out⟩
      (fun y a' W => ∃ Bx, W.heap[Bx]? = some (.cells y.x.toArray 86 (0, 0)) ∧ a' = { tmps := #[.agg #[.slice ma mn mc, .slice (some ⟨hb, ho, none⟩) hn hc], .slice la ln lc, .int .i64 s, .pointer (some ⟨w.heap.size, 0, none⟩), undef, undef, .pointer (some ⟨(w.heap.size + 1), 0, none⟩), .int .i64 0, .pointer (some ⟨z, 0, none⟩), undef, .pointer (some ⟨Bx, 0, none⟩), .agg #[.slice ma mn mc, .slice (some ⟨hb, ho, none⟩) hn hc], .bool true, .bool false, .bool false, .agg #[.slice ma mn mc, .slice (some ⟨hb, ho, none⟩) hn hc], .slice la ln lc, .bool true, .bool false, .bool false, undef, .int .i64 s, .bool (decide ((s : Int) < 0)), .bool (decide ((s : Int) < 0)), .int .i64 s, .slice la ln lc, .int .i64 ln, .bool false, .bool (decide ((s : Int) < 0)), undef, .pointer (some ⟨w.heap.size, 0, none⟩), .slice ma mn mc, .slice a2 mn c2, .pointer (some ⟨w.heap.size, 1, none⟩), .slice (some ⟨hb, ho, none⟩) hn hc, .slice (some ⟨g3, 0, none⟩) hn c3, .agg #[.slice a2 mn c2, .slice (some ⟨g3, 0, none⟩) hn c3], .slice la ln lc, .slice la ln lc, .int .i64 ln, .int .i64 s, .int .i64 lc, .slice la 0 0, .func (.func 72) #[] #[.pointer (some ⟨W3.heap.size, 0, none⟩)], .int .i64 (y.1.1 : Int), .agg y.x.toArray, undef, undef, undef], defers := [] })
      (fun y a' _ X X' row h hg hr => by obtain ⟨Bx, h1, h2⟩ := h; exact ⟨Bx, (kept_cells hg hr _ _ _ _ h1).trans h1, h2⟩)
      ?assign ?body ?done ?stop
    case assign =>
      rintro l pre y W K ⟨⟨Z7, B7⟩, L7⟩ hK
      have HXL : Hid (y.x.length = 41) := y.2.1.len
      have HXA : Hid (y.x.toArray.size = 41) := by unfold Hid; simp [HXL.out]
      have HX1 : Hid (y.x.toArray.all (·.oneCell') = true) := y.2.1.one
      unfold Yv.enc
      have G7 : ∀ Y : Array Value, Gr W ((W.alloc (.cells Y 86)).setRow W.heap.size y.x.toArray) := fun Y => gr_setRow ((Gr.refl _).alloc _) (Nat.le_refl _) _
      have HG7 : Hid _ := G7
      have HK : Hid _ := hK
      have HZ7 : Hid (Mz W w.heap.size z (.slice a2 mn c2) g3 c3 ((pre.map Yv.u).foldl back1 (hs, m)).1 ((pre.map Yv.u).foldl back1 (hs, m)).2) := Z7
      have HB7 : Hid (W.heap[w.heap.size + 1]? = some (.cells #[.slice none 0 0, .slice none 0 0] 34 (0, 0))) := B7
      have HL7 : Hid (Below w.heap.size w W) := L7
      have hwl := L7.size
      clear hK Z7 B7 L7 G7
      gi_wp2_with (refine wpListIn_store_row' rfl 86 _ _ rfl W.heap.size y.x.toArray rfl rfl 86 _ (heap_alloc_new W _) (by rw [HXA.out]; exact iU) (by rw [HXA.out]; rfl) HX1.out ?_)
      exact HK.out _ _ ((Th.ofGr (n := w.heap.size) (HG7.out _) hwl).keeps) ((Th.ofGr (HG7.out _) hwl).kr) ⟨⟨HZ7.out.kept fun k o t f e => (HG7.out _).block _ (gs e).1, Hr.heap_of_gr (HG7.out _) HB7.out⟩, HL7.out.trans (Below.mono (HG7.out _) hwl)⟩ ⟨W.heap.size, srh (heap_alloc_new W _), rfl⟩
    case body =>
      rintro l pre y a' W hl hr ⟨⟨Z7, B7⟩, L7⟩ ⟨Bx, hBx, rfl⟩ hlt
      dsimp only
      have hfl := folds_len (pre.map Yv.u) (hs, m) HHL.out HML.out (fun u hu => by
        obtain ⟨y', _, rfl⟩ := List.mem_map.1 hu
        obtain ⟨_, _, _, _, _, _, _, ok, _⟩ := y'.2.1
        exact ⟨y'.2.2, ok.f0⟩)
      have HXL : Hid (y.x.length = 41) := y.2.1.len
      have RG : Hid (W.rangeAt Bx 0 y.x) := fun i v hi => by rw [Nat.zero_add, cr hBx, List.getElem?_toArray]; exact hi
      have HTB : Hid (Calls Tryd.prog 39 #[.pointer (some ⟨z, 0, none⟩), .agg y.x.toArray] W fun e w' => e = .returned (.tuple #[]) ∧ Mz w' w.heap.size z (.slice a2 mn c2) g3 c3 (((pre ++ [y]).map Yv.u).foldl back1 (hs, m)).1 (((pre ++ [y]).map Yv.u).foldl back1 (hs, m)).2 ∧ Th w.heap.size W w') := by
        have := takeBack_any y.2.1 L7 Z7 hfl.1 n4 hfl.2 m4 y.2.2
        have e : ((pre ++ [y]).map Yv.u).foldl back1 (hs, m) = back1 ((pre.map Yv.u).foldl back1 (hs, m)) y.u := by rw [List.map_append, List.foldl_append]; rfl
        rw [e]
        exact this
      have HB7 : Hid (W.heap[w.heap.size + 1]? = some (.cells #[.slice none 0 0, .slice none 0 0] 34 (0, 0))) := B7
      have HL7 : Hid (Below w.heap.size w W) := L7
      clear Z7 B7 L7 hfl hBx hr hlt
      gi_wp2_with (first
        | (refine wpListIn_load_mid rfl 86 _ rfl Bx 0 rfl y.x _ ?r1 Tryd.underlying86 rfl (by rw [HXL.out]; exact iU) ?_; (case r1 => exact RG.out))
        | (refine ⟨trivial, ?_⟩; gi_at_call 39; refine (CallsIn.inRound l (callsIn_wide.2 HTB.out)).mono ?_; rintro e w8 ⟨rfl, Z8, T8⟩))
      exact ⟨T8.keeps, T8.kr, ⟨Z8, T8.row HB7.out (by decide) (by decide)⟩, HL7.out.trans T8.below⟩
    case done =>
      rintro D ys W hD hys ⟨⟨Z7, B7⟩, L7⟩ hK
      rw [hys, backs_rev] at Z7
      have hfl : (backs (hs, m) (us.drop (ln - s))).1.length = hn ∧ (backs (hs, m) (us.drop (ln - s))).2.length = mn := by
        rw [← backs_rev]
        refine folds_len _ (hs, m) HHL.out HML.out (fun u hu => ?_)
        rw [← hys] at hu
        obtain ⟨y', _, rfl⟩ := List.mem_map.1 hu
        obtain ⟨_, _, _, _, _, _, _, ok, _⟩ := y'.2.1
        exact ⟨y'.2.2, ok.f0⟩
      have HZ7 : Hid (Mz W w.heap.size z (.slice a2 mn c2) g3 c3 (backs (hs, m) (us.drop (ln - s))).1 (backs (hs, m) (us.drop (ln - s))).2) := Z7
      have HFL : Hid _ := hfl
      generalize hbk : (backs (hs, m) (us.drop (ln - s))) = bk at *
      have HB7 : Hid (W.heap[w.heap.size + 1]? = some (.cells #[.slice none 0 0, .slice none 0 0] 34 (0, 0))) := B7
      have kz : W.heap[z]? = some (.cells #[.slice a2 mn c2, .slice (some ⟨g3, 0, none⟩) hn c3] 34 (0, 0)) := by have := Z7.blk; rw [hfl.1] at this; exact this
      have HKz : Hid _ := kz
      have HL7 : Hid (Gr w W) := L7
      have HKD : Hid (W.heap[D]? = some (.deferred (some []))) := hK
      clear Z7 B7 L7 hK kz hfl hys
      go_wp2_with (first
        | (refine wpList_load_row rfl 34 _ rfl z rfl 34 #[.slice a2 mn c2, .slice (some ⟨g3, 0, none⟩) hn c3] (0, 0) _ ?yy1 Tryd.underlying34 rfl iMc ?_; (case yy1 => exact HKz.out))
        | (refine wpList_store_row rfl 34 _ _ rfl (w.heap.size + 1) #[.slice a2 mn c2, .slice (some ⟨g3, 0, none⟩) hn c3] rfl rfl 34 #[.slice none 0 0, .slice none 0 0] ?yy2 iMc rfl (by kernel_rfl) ?_; (case yy2 => exact HB7.out)))
      have hDr : D ≠ w.heap.size + 1 := by have := (gs HB6.out).1; omega
      have HK9 : Hid ((W.setRow (w.heap.size + 1) #[.slice a2 mn c2, .slice (some ⟨g3, 0, none⟩) hn c3]).heap[D]? = some (.deferred (some []))) := (sro hDr).trans HKD.out
      have H9b : Hid ((W.setRow (w.heap.size + 1) #[.slice a2 mn c2, .slice (some ⟨g3, 0, none⟩) hn c3]).heap[w.heap.size + 1]? = some (.cells #[.slice a2 mn c2, .slice (some ⟨g3, 0, none⟩) hn c3] 34 (0, 0))) := srh HB7.out
      have H9 : Hid (Hc.Own (W.setRow (w.heap.size + 1) #[.slice a2 mn c2, .slice (some ⟨g3, 0, none⟩) hn c3]) w.heap.size (.slice a2 mn c2) bk.2 ∧ HRow (W.setRow (w.heap.size + 1) #[.slice a2 mn c2, .slice (some ⟨g3, 0, none⟩) hn c3]) g3 bk.1) := ⟨HZ7.out.mem.to fun k o f e => sro (ne_of_types e HB7.out (by decide)), HZ7.out.row.to fun k o f e => sro (ne_of_types e HB7.out (by decide))⟩
      have HG9 : Hid (Gr w (W.setRow (w.heap.size + 1) #[.slice a2 mn c2, .slice (some ⟨g3, 0, none⟩) hn c3])) := gr_setRow HL7.out (Nat.le_succ _) _
      have HBk : Hid (bk = backs (hs, m) (us.drop (ln - s))) := by unfold Hid; exact hbk.symm
      rw [hbk]
      generalize W.setRow (w.heap.size + 1) #[.slice a2 mn c2, .slice (some ⟨g3, 0, none⟩) hn c3] = W9 at *
      have kc := kept_cells (B := 0) (grownBy_putObj' W9 D (.deferred none)) (fun r e => by cases e; exact ⟨Nat.zero_le _, _, HK9.out, rfl⟩)
      refine ⟨by simp, .inl ⟨D, _, rfl, run_takeDeferred HK9.out, ?_⟩⟩
      refine ⟨_, Hr.results_cell_tmp' Tryd.results17 _ _ _ _ _ (0, 0) _ _ rfl rfl ((kc _ _ _ _ H9b.out).trans H9b.out) Tryd.underlying34 rfl iMc, _, rfl, ?_, Below.trans HG9.out (belowK_b (w := w) (Nat.le_refl _) W9 D _ _ (by omega) HK9.out rfl rfl)⟩
      obtain ⟨l1, l2⟩ := HFL.out
      have O10 := H9.out.1.to (w' := W9.putObj D (.deferred none)) fun k o f e => kc k o _ f e
      have R10 := H9.out.2.to (w' := W9.putObj D (.deferred none)) fun k o f e => kc k o _ f e
      obtain ⟨ao', cap', e', M10⟩ := O10.mem
      rw [l2] at e' M10
      injection e' with e1' e2' e3'
      subst e1'
      exact ⟨_, _, _, _, rfl, M10, own_cap (O10.base (w' := W9) (Nat.zero_le _)), R10.hs l1⟩
    case stop =>
      rintro D c pre W _ _ h _
      exact h.elim
  · have HX : Hid (Us w (la.map fun x => x.add (q * 41)) (ln - q) (us.drop (ln - s))) := by have := HUD.out; unfold cutP41 at this; rw [if_neg hcl] at this; rw [← HQ.out]; exact this
    go_wp2_with fail
    refine (Backward_any _ _ _ _).mono ?_
    rintro e w5 ⟨rfl, rfl⟩
    go_wp2_with fail
    have HB5 : Hid ((W3.alloc (.cells #[.slice (la.map fun x => x.add (q * 41)) (ln - q) (lc - q)] 41)).heap[W3.heap.size]? = some (.cells #[.slice (la.map fun x => x.add (q * 41)) (ln - q) (lc - q)] 41 (0, 0))) := heap_alloc_new W3 _
    have HG5 : Hid (Gr w (W3.alloc (.cells #[.slice (la.map fun x => x.add (q * 41)) (ln - q) (lc - q)] 41))) := HG3.out.alloc _
    have HZ6 : Hid (Mz (W3.alloc (.cells #[.slice (la.map fun x => x.add (q * 41)) (ln - q) (lc - q)] 41)) w.heap.size z (.slice a2 mn c2) g3 c3 hs m) := HZ5.out.kept fun k o t f e => ((Gr.refl W3).alloc _).block _ (gs e).1
    have HB6 : Hid ((W3.alloc (.cells #[.slice (la.map fun x => x.add (q * 41)) (ln - q) (lc - q)] 41)).heap[w.heap.size + 1]? = some (.cells #[.slice none 0 0, .slice none 0 0] 34 (0, 0))) := Hr.heap_of_gr ((Gr.refl W3).alloc _) HB3.out
    generalize hW6 : W3.alloc (.cells #[.slice (la.map fun x => x.add (q * 41)) (ln - q) (lc - q)] 41) = W6 at *
    have hw6 : w.heap.size ≤ W6.heap.size := HG5.out.size
    clear hW6
    refine (wpIn_wide (n := 9)).1 ?_
    refine wpIn_rangeFunc_ownH (F := Fence.wide) (n := 9) rfl (by omega) (gf := 72) (lb := #[.pointer (some ⟨W3.heap.size, 0, none⟩)]) rfl trivial (enters_of Tryd.func72 (by kernel_rfl) rfl)
      (bwd_stops (c := hn) (mn := mn) HX.out (by omega) HFU.out (9 - 1) W3.heap.size W6 HG5.out HB5.out) Kr.trans (kr_b hw6) (Below.refl _ _) (fun _ => rfl)
      (fun pre W => (Mz W w.heap.size z (.slice a2 mn c2) g3 c3 ((pre.map Yv.u).foldl back1 (hs, m)).1 ((pre.map Yv.u).foldl back1 (hs, m)).2 ∧ W.heap[w.heap.size + 1]? = some (.cells #[.slice none 0 0, .slice none 0 0] 34 (0, 0))) ∧ Below w.heap.size w W)
      (fun _ _ _ => False)
      (OwnFrom.and (fun s X X' row h hg hr => ⟨h.1.kept (kept_cells hg hr), (kept_cells hg hr _ _ _ _ h.2).trans h.2⟩) (ownFrom_below (Nat.le_refl _) hw6))
      (fun _ _ _ _ _ h _ _ => h)
      ⟨⟨HZ6.out, HB6.out⟩, HG5.out⟩
      (fun y a' W => ∃ Bx, W.heap[Bx]? = some (.cells y.x.toArray 86 (0, 0)) ∧ a' = { tmps := #[.agg #[.slice ma mn mc, .slice (some ⟨hb, ho, none⟩) hn hc], .slice la ln lc, .int .i64 s, .pointer (some ⟨w.heap.size, 0, none⟩), undef, undef, .pointer (some ⟨(w.heap.size + 1), 0, none⟩), .int .i64 0, .pointer (some ⟨z, 0, none⟩), undef, .pointer (some ⟨Bx, 0, none⟩), .agg #[.slice ma mn mc, .slice (some ⟨hb, ho, none⟩) hn hc], .bool true, .bool false, .bool false, .agg #[.slice ma mn mc, .slice (some ⟨hb, ho, none⟩) hn hc], .slice la ln lc, .bool true, .bool false, .bool false, undef, .int .i64 s, .bool (decide ((s : Int) < 0)), .bool (decide ((s : Int) < 0)), .int .i64 s, .slice la ln lc, .int .i64 ln, .bool false, .bool (decide ((s : Int) < 0)), undef, .pointer (some ⟨w.heap.size, 0, none⟩), .slice ma mn mc, .slice a2 mn c2, .pointer (some ⟨w.heap.size, 1, none⟩), .slice (some ⟨hb, ho, none⟩) hn hc, .slice (some ⟨g3, 0, none⟩) hn c3, .agg #[.slice a2 mn c2, .slice (some ⟨g3, 0, none⟩) hn c3], .slice la ln lc, .slice la ln lc, .int .i64 ln, .int .i64 s, .int .i64 q, .slice (la.map fun x => x.add (q * 41)) (ln - q) (lc - q), .func (.func 72) #[] #[.pointer (some ⟨W3.heap.size, 0, none⟩)], .int .i64 (y.1.1 : Int), .agg y.x.toArray, undef, undef, undef], defers := [] })
      (fun y a' _ X X' row h hg hr => by obtain ⟨Bx, h1, h2⟩ := h; exact ⟨Bx, (kept_cells hg hr _ _ _ _ h1).trans h1, h2⟩)
      ?assign ?body ?done ?stop
    case assign =>
      rintro l pre y W K ⟨⟨Z7, B7⟩, L7⟩ hK
      have HXL : Hid (y.x.length = 41) := y.2.1.len
      have HXA : Hid (y.x.toArray.size = 41) := by unfold Hid; simp [HXL.out]
      have HX1 : Hid (y.x.toArray.all (·.oneCell') = true) := y.2.1.one
      unfold Yv.enc
      have G7 : ∀ Y : Array Value, Gr W ((W.alloc (.cells Y 86)).setRow W.heap.size y.x.toArray) := fun Y => gr_setRow ((Gr.refl _).alloc _) (Nat.le_refl _) _
      have HG7 : Hid _ := G7
      have HK : Hid _ := hK
      have HZ7 : Hid (Mz W w.heap.size z (.slice a2 mn c2) g3 c3 ((pre.map Yv.u).foldl back1 (hs, m)).1 ((pre.map Yv.u).foldl back1 (hs, m)).2) := Z7
      have HB7 : Hid (W.heap[w.heap.size + 1]? = some (.cells #[.slice none 0 0, .slice none 0 0] 34 (0, 0))) := B7
      have HL7 : Hid (Below w.heap.size w W) := L7
      have hwl := L7.size
      clear hK Z7 B7 L7 G7
      gi_wp2_with (refine wpListIn_store_row' rfl 86 _ _ rfl W.heap.size y.x.toArray rfl rfl 86 _ (heap_alloc_new W _) (by rw [HXA.out]; exact iU) (by rw [HXA.out]; rfl) HX1.out ?_)
      exact HK.out _ _ ((Th.ofGr (n := w.heap.size) (HG7.out _) hwl).keeps) ((Th.ofGr (HG7.out _) hwl).kr) ⟨⟨HZ7.out.kept fun k o t f e => (HG7.out _).block _ (gs e).1, Hr.heap_of_gr (HG7.out _) HB7.out⟩, HL7.out.trans (Below.mono (HG7.out _) hwl)⟩ ⟨W.heap.size, srh (heap_alloc_new W _), rfl⟩
    case body =>
      rintro l pre y a' W hl hr ⟨⟨Z7, B7⟩, L7⟩ ⟨Bx, hBx, rfl⟩ hlt
      dsimp only
      have hfl := folds_len (pre.map Yv.u) (hs, m) HHL.out HML.out (fun u hu => by
        obtain ⟨y', _, rfl⟩ := List.mem_map.1 hu
        obtain ⟨_, _, _, _, _, _, _, ok, _⟩ := y'.2.1
        exact ⟨y'.2.2, ok.f0⟩)
      have HXL : Hid (y.x.length = 41) := y.2.1.len
      have RG : Hid (W.rangeAt Bx 0 y.x) := fun i v hi => by rw [Nat.zero_add, cr hBx, List.getElem?_toArray]; exact hi
      have HTB : Hid (Calls Tryd.prog 39 #[.pointer (some ⟨z, 0, none⟩), .agg y.x.toArray] W fun e w' => e = .returned (.tuple #[]) ∧ Mz w' w.heap.size z (.slice a2 mn c2) g3 c3 (((pre ++ [y]).map Yv.u).foldl back1 (hs, m)).1 (((pre ++ [y]).map Yv.u).foldl back1 (hs, m)).2 ∧ Th w.heap.size W w') := by
        have := takeBack_any y.2.1 L7 Z7 hfl.1 n4 hfl.2 m4 y.2.2
        have e : ((pre ++ [y]).map Yv.u).foldl back1 (hs, m) = back1 ((pre.map Yv.u).foldl back1 (hs, m)) y.u := by rw [List.map_append, List.foldl_append]; rfl
        rw [e]
        exact this
      have HB7 : Hid (W.heap[w.heap.size + 1]? = some (.cells #[.slice none 0 0, .slice none 0 0] 34 (0, 0))) := B7
      have HL7 : Hid (Below w.heap.size w W) := L7
      clear Z7 B7 L7 hfl hBx hr hlt
      gi_wp2_with (first
        | (refine wpListIn_load_mid rfl 86 _ rfl Bx 0 rfl y.x _ ?r1 Tryd.underlying86 rfl (by rw [HXL.out]; exact iU) ?_; (case r1 => exact RG.out))
        | (refine ⟨trivial, ?_⟩; gi_at_call 39; refine (CallsIn.inRound l (callsIn_wide.2 HTB.out)).mono ?_; rintro e w8 ⟨rfl, Z8, T8⟩))
      exact ⟨T8.keeps, T8.kr, ⟨Z8, T8.row HB7.out (by decide) (by decide)⟩, HL7.out.trans T8.below⟩
    case done =>
      rintro D ys W hD hys ⟨⟨Z7, B7⟩, L7⟩ hK
      rw [hys, backs_rev] at Z7
      have hfl : (backs (hs, m) (us.drop (ln - s))).1.length = hn ∧ (backs (hs, m) (us.drop (ln - s))).2.length = mn := by
        rw [← backs_rev]
        refine folds_len _ (hs, m) HHL.out HML.out (fun u hu => ?_)
        rw [← hys] at hu
        obtain ⟨y', _, rfl⟩ := List.mem_map.1 hu
        obtain ⟨_, _, _, _, _, _, _, ok, _⟩ := y'.2.1
        exact ⟨y'.2.2, ok.f0⟩
      have HZ7 : Hid (Mz W w.heap.size z (.slice a2 mn c2) g3 c3 (backs (hs, m) (us.drop (ln - s))).1 (backs (hs, m) (us.drop (ln - s))).2) := Z7
      have HFL : Hid _ := hfl
      generalize hbk : (backs (hs, m) (us.drop (ln - s))) = bk at *
      have HB7 : Hid (W.heap[w.heap.size + 1]? = some (.cells #[.slice none 0 0, .slice none 0 0] 34 (0, 0))) := B7
      have kz : W.heap[z]? = some (.cells #[.slice a2 mn c2, .slice (some ⟨g3, 0, none⟩) hn c3] 34 (0, 0)) := by have := Z7.blk; rw [hfl.1] at this; exact this
      have HKz : Hid _ := kz
      have HL7 : Hid (Gr w W) := L7
      have HKD : Hid (W.heap[D]? = some (.deferred (some []))) := hK
      clear Z7 B7 L7 hK kz hfl hys
      go_wp2_with (first
        | (refine wpList_load_row rfl 34 _ rfl z rfl 34 #[.slice a2 mn c2, .slice (some ⟨g3, 0, none⟩) hn c3] (0, 0) _ ?yy1 Tryd.underlying34 rfl iMc ?_; (case yy1 => exact HKz.out))
        | (refine wpList_store_row rfl 34 _ _ rfl (w.heap.size + 1) #[.slice a2 mn c2, .slice (some ⟨g3, 0, none⟩) hn c3] rfl rfl 34 #[.slice none 0 0, .slice none 0 0] ?yy2 iMc rfl (by kernel_rfl) ?_; (case yy2 => exact HB7.out)))
      have hDr : D ≠ w.heap.size + 1 := by have := (gs HB6.out).1; omega
      have HK9 : Hid ((W.setRow (w.heap.size + 1) #[.slice a2 mn c2, .slice (some ⟨g3, 0, none⟩) hn c3]).heap[D]? = some (.deferred (some []))) := (sro hDr).trans HKD.out
      have H9b : Hid ((W.setRow (w.heap.size + 1) #[.slice a2 mn c2, .slice (some ⟨g3, 0, none⟩) hn c3]).heap[w.heap.size + 1]? = some (.cells #[.slice a2 mn c2, .slice (some ⟨g3, 0, none⟩) hn c3] 34 (0, 0))) := srh HB7.out
      have H9 : Hid (Hc.Own (W.setRow (w.heap.size + 1) #[.slice a2 mn c2, .slice (some ⟨g3, 0, none⟩) hn c3]) w.heap.size (.slice a2 mn c2) bk.2 ∧ HRow (W.setRow (w.heap.size + 1) #[.slice a2 mn c2, .slice (some ⟨g3, 0, none⟩) hn c3]) g3 bk.1) := ⟨HZ7.out.mem.to fun k o f e => sro (ne_of_types e HB7.out (by decide)), HZ7.out.row.to fun k o f e => sro (ne_of_types e HB7.out (by decide))⟩
      have HG9 : Hid (Gr w (W.setRow (w.heap.size + 1) #[.slice a2 mn c2, .slice (some ⟨g3, 0, none⟩) hn c3])) := gr_setRow HL7.out (Nat.le_succ _) _
      have HBk : Hid (bk = backs (hs, m) (us.drop (ln - s))) := by unfold Hid; exact hbk.symm
      rw [hbk]
      generalize W.setRow (w.heap.size + 1) #[.slice a2 mn c2, .slice (some ⟨g3, 0, none⟩) hn c3] = W9 at *
      have kc := kept_cells (B := 0) (grownBy_putObj' W9 D (.deferred none)) (fun r e => by cases e; exact ⟨Nat.zero_le _, _, HK9.out, rfl⟩)
      refine ⟨by simp, .inl ⟨D, _, rfl, run_takeDeferred HK9.out, ?_⟩⟩
      refine ⟨_, Hr.results_cell_tmp' Tryd.results17 _ _ _ _ _ (0, 0) _ _ rfl rfl ((kc _ _ _ _ H9b.out).trans H9b.out) Tryd.underlying34 rfl iMc, _, rfl, ?_, Below.trans HG9.out (belowK_b (w := w) (Nat.le_refl _) W9 D _ _ (by omega) HK9.out rfl rfl)⟩
      obtain ⟨l1, l2⟩ := HFL.out
      have O10 := H9.out.1.to (w' := W9.putObj D (.deferred none)) fun k o f e => kc k o _ f e
      have R10 := H9.out.2.to (w' := W9.putObj D (.deferred none)) fun k o f e => kc k o _ f e
      obtain ⟨ao', cap', e', M10⟩ := O10.mem
      rw [l2] at e' M10
      injection e' with e1' e2' e3'
      subst e1'
      exact ⟨_, _, _, _, rfl, M10, own_cap (O10.base (w' := W9) (Nat.zero_le _)), R10.hs l1⟩
    case stop =>
      rintro D c pre W _ _ h _
      exact h.elim
end Go.Proofs.YtdiofidmlgliiaaDoor.Ud
/-
  What ferrybridgeref12.Machines answers, of two machines that are the same.
-/
namespace Go.Proofs.YtdiofidmlgliiaaDoor.Ud
open Go.ChangeShapes Go.WideShapes Go.ChangeAt Go.RowKit Mm Hh Hc Mc
set_option linter.unusedVariables false
set_option linter.unusedSimpArgs false

/-- A machine that is read; of a slice that is nil no more is asked than that it reads as nothing. -/
def Mw (w : World) (v : Value) (c mn : Nat) (hs : List Hv) (m : List UInt8) : Prop := ∃ ma mc ha hc, v = .agg #[.slice ma mn mc, .slice ha c hc] ∧ Mem w ma mn m ∧ Hs w ha c hs
theorem Mv.mw {w : World} {v : Value} {c mn : Nat} {hs : List Hv} {m : List UInt8} (h : Mv w v c mn hs m) : Mw w v c mn hs m := by
  obtain ⟨ma, mc, ha, hc, e, h1, _, h3⟩ := h
  exact ⟨ma, mc, ha, hc, e, h1, h3⟩
theorem Mw.of {w w' : World} {v : Value} {c mn : Nat} {hs : List Hv} {m : List UInt8} (h : Mw w v c mn hs m) (G : Gr w w') : Mw w' v c mn hs m := by
  obtain ⟨ma, mc, ha, hc, e, h1, h3⟩ := h
  exact ⟨ma, mc, ha, hc, e, h1.of G, h3.of G⟩
theorem mw_zero (w : World) : Mw w (.agg #[.slice none 0 0, .slice none 0 0]) 0 0 [] [] := ⟨none, 0, none, 0, rfl, ⟨rfl, fun _ => rfl, fun ad e => by cases e⟩, ⟨rfl, fun h hm => (by cases hm), fun h => absurd h (by omega)⟩⟩
set_option maxHeartbeats 2000000 in
set_option maxRecDepth 100000 in
theorem Machines_same {w : World} {a b : Value} {c mn : Nat} {hs : List Hv} {m : List UInt8} (A : Mw w a c mn hs m) (B : Mw w b c mn hs m) (hc4 : c ≤ 4) :
    Calls Tryd.prog 19 #[a, b] w fun e w' => e = .returned (.bool true) ∧ Gr w w' := by
  obtain ⟨a1, c1, a2, c2, rfl, A1, A2⟩ := A
  obtain ⟨b1, d1, b2, d2, rfl, B1, B2⟩ := B
  have HS : Hid (∀ W : World, Gr w W → Calls Tryd.prog 13 #[.agg #[.slice a1 mn c1, .slice a2 c c2, .slice none 0 0, .int .i64 0], .agg #[.slice b1 mn d1, .slice b2 c d2, .slice none 0 0, .int .i64 0]] W fun e w' => e = .returned (.bool true) ∧ Gr W w') := fun W G =>
    Same_w (S := ⟨hs, m, [], 0⟩) ⟨a1, c1, a2, c2, none, 0, rfl, A1.of G, A2.of G, ⟨rfl, fun _ => rfl, fun ad e => by cases e⟩⟩ ⟨b1, d1, b2, d2, none, 0, rfl, B1.of G, B2.of G, ⟨rfl, fun _ => rfl, fun ad e => by cases e⟩⟩ (by simp) hc4
  clear A1 A2 B1 B2
  go_enter Tryd.func19, Tryd.ntmps19
  go_wp2_with fail
  refine (HS.out _ (((Gr.refl _).alloc _).alloc _)).mono ?_
  rintro e w1 ⟨rfl, G1⟩
  have HG1 : Hid (Gr w w1) := (((Gr.refl _).alloc _).alloc _).trans G1
  clear G1
  go_wp2_with fail
  go_ret
  exact ⟨rfl, HG1.out⟩
end Go.Proofs.YtdiofidmlgliiaaDoor.Ud
/-
  The walk of the law UndoTakes: of every machine, script and number of steps it answers true.
-/
namespace Go.Proofs.YtdiofidmlgliiaaDoor.undoTakes
open Go.ChangeShapes Go.WideShapes Go.ChangeAt Go.RowKit Mm Hh Hc Mc Ud
set_option linter.unusedVariables false
set_option linter.unusedSimpArgs false

variable {ma ha pa : Option Addr} {hn pn : Nat} {m : List UInt8} {hs : List Hv} {ps : List (Int × Int)} {w : World}
set_option maxHeartbeats 2000000 in
set_option maxRecDepth 100000 in
theorem walk_no (mc hc pc : Nat) (mn : Nat) (hmn : m.length = mn) (H : Hs w ha hn hs) (P : Ps w pa pn ps) (b1 : mn ≤ 140737488351232) (b2 : hn ≤ 140737488351232) (b3 : pn ≤ 140737488351232) (hno : ¬ wrong m hs ps = 0) (c : Int) :
    Calls Tryd.prog 6 #[.agg #[.slice ma mn mc, .slice ha hn hc], .slice pa pn pc, .int .u16 c] w fun e w' => e = .returned (.bool true) ∧ Gr w w' := by
  have HWr : Hid (∀ W : World, Gr w W → _) := fun W G => Wrong_any (ma := ma) (fun h o W => rmay_any o W) mc hc pc mn hmn (H.of G) (P.of G) b1 b2 b3
  clear H P hmn
  generalize wrong m hs ps = E at *
  have hE : (E != 0) = true := by simpa using hno
  have hE2 : (E == 0) = false := by simpa using hno
  clear hno
  go_enter Tryd.func6, Tryd.ntmps6
  go_wp2_with fail
  refine (HWr.out _ ((Gr.refl _).alloc _)).mono ?_
  rintro e w1 ⟨rfl, G1⟩
  have HG1 : Hid (Gr w w1) := ((Gr.refl _).alloc _).trans G1
  clear G1 HWr
  go_wp2_with fail
  go_ret
  exact ⟨rfl, HG1.out⟩

set_option maxHeartbeats 4000000 in
set_option maxRecDepth 100000 in
theorem walk_yes (mc hc pc : Nat) (mn : Nat) (T : TT w w.heap.size) (M : Mem w ma mn m) (hcap : ma = none → mc = 0) (H : Hs w ha hn hs) (P : Ps w pa pn ps) (hy : wrong m hs ps = 0) {c : Int} (c0 : 0 ≤ c) (c1 : c ≤ 65535) :
    Calls Tryd.prog 6 #[.agg #[.slice ma mn mc, .slice ha hn hc], .slice pa pn pc, .int .u16 c] w fun e w' => e = .returned (.bool true) ∧ Gr w w' := by
  obtain ⟨b1, b2, b4, hmay, b3, hpk⟩ := wrong_ok hy
  have hml := M.len
  have hhl := H.len
  have hpl := P.len
  have HWr : Hid (∀ W : World, Gr w W → Calls Tryd.prog 10 #[.agg #[.slice ma mn mc, .slice ha hn hc], .slice pa pn pc] W fun e w' => e = .returned (.int .i64 0) ∧ Gr W w') := fun W G => (Wrong_any (fun h o W => rmay_any o W) mc hc pc mn hml (H.of G) (P.of G) (by omega) (by omega) (by omega)).mono fun e w' h => ⟨by rw [h.1, hy], h.2⟩
  have HWk : Hid (∀ W : World, Gr w W → _) := fun W G => work_any pc (P.of G) (by omega) (fun p hp => ⟨(hpk p hp).2.2.1, (hpk p hp).2.2.2⟩)
  have F0 : Fit ⟨hs, m, [], 0⟩ hn mn := ⟨hhl, hml, fun h hm => ⟨H.ok h hm, hmay h hm⟩⟩
  have LV : Live ⟨hs, m, [], 0⟩ (trP ⟨hs, m, [], 0⟩ (nums ps)) := trP_live _ _ (fun q hq => by
    obtain ⟨r, hr, rfl⟩ := List.mem_map.1 hq
    have := hpk r hr
    show r.1.toNat < hs.length
    omega)
  have Fs0 : Fit (play ⟨hs, m, [], 0⟩ (nums ps)) hn mn := by rw [play_dos]; exact dos_fit LV F0
  have m4 : mn ≤ 4096 := by omega
  have hst : (play ⟨hs, m, [], 0⟩ (nums ps)).steps ≤ 200000 := by have := (few_nums hy H.ok).1.2; omega
  have hul : (uns ⟨hs, m, [], 0⟩ (trP ⟨hs, m, [], 0⟩ (nums ps))).length = (play ⟨hs, m, [], 0⟩ (nums ps)).steps := by have := uns_steps ⟨hs, m, [], 0⟩ (nums ps); rw [← this]; simp
  have htl : (trP ⟨hs, m, [], 0⟩ (nums ps)).length = (play ⟨hs, m, [], 0⟩ (nums ps)).steps := by rw [play_dos, dos_steps]; simp
  have HU : Hid (∀ W : World, Gr w W → Calls Tryd.prog 12 #[.agg #[.slice ma mn mc, .slice ha hn hc], .slice pa pn pc] W fun e w' => ∃ v ua uc, e = .returned (.tuple #[v, .slice ua (play ⟨hs, m, [], 0⟩ (nums ps)).steps uc, .int .i64 0]) ∧ Shn w' v hn mn (play ⟨hs, m, [], 0⟩ (nums ps)) ∧ Us w' ua (play ⟨hs, m, [], 0⟩ (nums ps)).steps (uns ⟨hs, m, [], 0⟩ (trP ⟨hs, m, [], 0⟩ (nums ps))) ∧ (play ⟨hs, m, [], 0⟩ (nums ps)).steps ≤ uc ∧ Gr W w') := fun W G =>
    (URun_yes mc hc pc mn (T.grow G) (M.of G) hcap (H.of G) (P.of G) hy).mono fun e w' ⟨v, ua, un, uc, h1, h2, h3, h4, h5⟩ => by
      obtain rfl : (play ⟨hs, m, [], 0⟩ (nums ps)).steps = un := hul.symm.trans h3.len
      exact ⟨v, ua, uc, h1, h2, h3, h4, h5⟩
  generalize hL : (play ⟨hs, m, [], 0⟩ (nums ps)).steps = L at *
  obtain ⟨n, hn0⟩ : ∃ n : Nat, c % ((L : Int) + 1) = n := ⟨(c % ((L : Int) + 1)).toNat, by have := Int.emod_nonneg c (show ((L : Int) + 1) ≠ 0 by omega); omega⟩
  have hnL : n ≤ L := by have := Int.emod_lt_of_pos c (show (0 : Int) < (L : Int) + 1 by omega); omega
  have hsub : (L : Int) - c % ((L : Int) + 1) = ((L - n : Nat) : Int) := by omega
  have HCt : Hid (∀ W : World, Gr w W → Calls Tryd.prog 18 #[.agg #[.slice ma mn mc, .slice ha hn hc], .slice pa pn pc, .int .i64 ((L : Int) - c % ((L : Int) + 1))] W fun e w' => ∃ v, e = .returned v ∧ Shw w' v hn mn (dos ⟨hs, m, [], 0⟩ ((trP ⟨hs, m, [], 0⟩ (nums ps)).take (L - n))) ∧ Gr W w') := fun W G => by
    rw [hsub]
    exact Cut_any mc hc pc mn (M.of G) hcap (H.of G) (P.of G) hy (L - n) (by omega) (by omega)
  have hbk : bkE mn (play ⟨hs, m, [], 0⟩ (nums ps)).hs (uns ⟨hs, m, [], 0⟩ (trP ⟨hs, m, [], 0⟩ (nums ps))) (n : Int) = 0 := by
    unfold bkE
    rw [Fs0.len]
    have h1 : mayM mn (play ⟨hs, m, [], 0⟩ (nums ps)).hs = true := by
      unfold mayM
      rw [Fs0.len, decide_eq_true (by omega)]
      exact List.all_eq_true.2 fun h hm => (Fs0.ok h hm).2
    have h2 : (uns ⟨hs, m, [], 0⟩ (trP ⟨hs, m, [], 0⟩ (nums ps))).all (fitU hn mn) = true := List.all_eq_true.2 fun u hu => (uns_fit m4 _ _ F0 LV u hu).1
    rw [if_neg (by rw [h1]; simp), if_neg (by rw [h2]; simp), if_neg (by omega)]
  have hba := backs_cut F0 LV (L - n) (by omega)
  rw [← play_dos] at hba
  have HBk : Hid (∀ (W : World) (s1 s2 ua : Option Addr) (d1 d2 uc : Nat), Mem W s1 mn (play ⟨hs, m, [], 0⟩ (nums ps)).m → (s1 = none → d1 = 0) → Hs W s2 hn (play ⟨hs, m, [], 0⟩ (nums ps)).hs → Us W ua L (uns ⟨hs, m, [], 0⟩ (trP ⟨hs, m, [], 0⟩ (nums ps))) → L ≤ uc → Calls Tryd.prog 17 #[.agg #[.slice s1 mn d1, .slice s2 hn d2], .slice ua L uc, .int .i64 (c % ((L : Int) + 1))] W fun e w' => ∃ v, e = .returned (.tuple #[v, .int .i64 0]) ∧ Mv w' v hn mn (dos ⟨hs, m, [], 0⟩ ((trP ⟨hs, m, [], 0⟩ (nums ps)).take (L - n))).hs (dos ⟨hs, m, [], 0⟩ ((trP ⟨hs, m, [], 0⟩ (nums ps)).take (L - n))).m ∧ Gr W w') := fun W s1 s2 ua d1 d2 uc A1 A2 A3 A4 A5 => by
    have := UBack_yes (st := (n : Int)) (lc := uc) (mc := d1) (hc := d2) A1 A2 A3 A4 (by omega) A5 hbk
    rw [Int.toNat_natCast, hba, ← hn0] at this
    exact this
  have HSt : Hid ((play ⟨hs, m, [], 0⟩ (nums ps)).steps = L) := hL
  have cc0 : 0 ≤ c % ((L : Int) + 1) := by omega
  have cc1 : c % ((L : Int) + 1) ≤ L := by omega
  have c4 : hn ≤ 4 := by omega
  have l4 : L ≤ 200000 := hst
  clear H P M T hy hcap hmay hpk F0 LV Fs0 hml hhl hpl b1 b2 b4 b3 hba hbk hsub hn0 hnL hst hul htl hL
  generalize play ⟨hs, m, [], 0⟩ (nums ps) = S at *
  generalize uns ⟨hs, m, [], 0⟩ (trP ⟨hs, m, [], 0⟩ (nums ps)) = us at *
  generalize dos ⟨hs, m, [], 0⟩ ((trP ⟨hs, m, [], 0⟩ (nums ps)).take (L - n)) = D at *
  go_enter Tryd.func6, Tryd.ntmps6
  go_wp2_with fail
  refine (HWr.out _ ((Gr.refl _).alloc _)).mono ?_
  rintro e w1 ⟨rfl, G1⟩
  have HG1 : Hid (Gr w w1) := ((Gr.refl _).alloc _).trans G1
  have HB1 : Hid (w1.heap[w.heap.size]? = some (.cells #[.slice ma mn mc, .slice ha hn hc] 34 (0, 0))) := Hr.heap_of_gr G1 (heap_alloc_new w _)
  clear G1 HWr
  go_wp2_with fail
  refine (HWk.out _ HG1.out).mono ?_
  rintro e w2 ⟨z, rfl, G2⟩
  have HG2 : Hid (Gr w w2) := HG1.out.trans G2
  have HB2 : Hid (w2.heap[w.heap.size]? = some (.cells #[.slice ma mn mc, .slice ha hn hc] 34 (0, 0))) := Hr.heap_of_gr G2 HB1.out
  have x0 := cr0 HB2.out
  have x1 := cr1 HB2.out
  clear G2 HWk HG1 HB1
  by_cases hz : 600 < z
  · go_wp2_with fail
    go_ret
    exact ⟨rfl, HG2.out⟩
  · go_wp2_with fail
    refine (HU.out _ HG2.out).mono ?_
    rintro e w3 ⟨v, ua, uc, rfl, S3, U3, hu3, G3⟩
    have HU3 : Hid (Us w3 ua L us) := U3
    obtain ⟨s1, d1, s2, d2, s3, d3, rfl, hM3, hn3, hH3, _⟩ := S3
    have HM3 : Hid (Mem w3 s1 mn S.m ∧ (s1 = none → d1 = 0) ∧ Hs w3 s2 hn S.hs) := ⟨hM3, hn3, hH3⟩
    have HG3 : Hid (Gr w w3) := HG2.out.trans G3
    have HB3 : Hid (w3.heap[w.heap.size]? = some (.cells #[.slice ma mn mc, .slice ha hn hc] 34 (0, 0))) := Hr.heap_of_gr G3 HB2.out
    have hl3 : w.heap.size < w3.heap.size := (gs HB3.out).1
    clear x0 x1 G3 HG2 HU HB2 U3 hM3 hn3 hH3
    rw [HSt.out]
    have hLL : ((L : Int) == (L : Int)) = true := by simp
    have hLn : ((L : Int) != (L : Int)) = false := by simp
    go_wp2_with fail
    refine (HBk.out _ _ _ _ _ _ _ (HM3.out.1.of ((Gr.refl _).alloc _)) HM3.out.2.1 (HM3.out.2.2.of ((Gr.refl _).alloc _)) (HU3.out.of ((Gr.refl _).alloc _)) hu3).mono ?_
    rintro e w4 ⟨v, rfl, V4, G4⟩
    have HV4 : Hid (Mv w4 v hn mn D.hs D.m) := V4
    obtain ⟨v1, g1, v2, g2, rfl, _⟩ := V4
    have HG34 : Hid (Gr w3 w4) := ((Gr.refl w3).alloc _).trans G4
    have HB4 : Hid (w4.heap[w.heap.size]? = some (.cells #[.slice ma mn mc, .slice ha hn hc] 34 (0, 0))) := Hr.heap_of_gr HG34.out HB3.out
    have hl4 : w.heap.size < w4.heap.size := (gs HB4.out).1
    clear G4 HBk
    have x0 := cr0 HB4.out
    have x1 := cr1 HB4.out
    go_wp2_with fail
    refine (HCt.out _ ((HG3.out.trans HG34.out).alloc _)).mono ?_
    rintro e w5 ⟨v, rfl, S5, G5⟩
    obtain ⟨t1, f1, t2, f2, t3, f3, rfl, hM5, hH5, _⟩ := S5
    have HM5 : Hid (Mem w5 t1 mn D.m ∧ Hs w5 t2 hn D.hs) := ⟨hM5, hH5⟩
    have HG45 : Hid (Gr w4 w5) := ((Gr.refl w4).alloc _).trans G5
    have HD5 : Hid (w5.heap[w4.heap.size]? = some (.cells #[.slice v1 mn g1, .slice v2 hn g2] 34 (0, 0))) := Hr.heap_of_gr G5 (heap_alloc_new w4 _)
    have hl5 : w4.heap.size < w5.heap.size := (gs HD5.out).1
    have HGa : Hid (Gr w w5) := HG3.out.trans (HG34.out.trans HG45.out)
    clear x0 x1 G5 HCt hM5 hH5
    have y0 := cr0 HD5.out
    have y1 := cr1 HD5.out
    go_wp2_with fail
    refine (Machines_same ((HV4.out.mw.of HG45.out).of ((Gr.refl _).alloc _)) ⟨t1, f1, t2, f2, rfl, HM5.out.1.of ((Gr.refl _).alloc _), HM5.out.2.of ((Gr.refl _).alloc _)⟩ c4).mono ?_
    rintro e w6 ⟨rfl, G6⟩
    have HG6 : Hid (Gr w w6) := (HGa.out.alloc _).trans G6
    clear G6 y0 y1
    go_wp2_with fail
    go_ret
    exact ⟨rfl, HG6.out⟩
end Go.Proofs.YtdiofidmlgliiaaDoor.undoTakes
/-
  The cells of a hart, and of harts and picks in slices, that are handed in: opened.
-/
namespace Go.Proofs.YtdiofidmlgliiaaDoor.Mc
open Go.ChangeShapes Go.WideShapes Go.ChangeAt Go.RowKit Mm Hh
set_option linter.unusedVariables false
set_option linter.unusedSimpArgs false

variable {α H : Type} {l : List Value} {v : Value} {n : Int} {enc : TypeId × Value → H} {W w : World} {b0 fuel len cap : Nat} {sp : Nat → Bool} {held : Bool} {x : DataW H × List MemPlace} {a : Addr} {ao : Option Addr} {d : DataW H} {p : List MemPlace}
theorem c34 : Tryd.prog.cellsOf 70 = 37 := by kernel_rfl
theorem c32 : Tryd.prog.cellsOf 68 = 32 := by kernel_rfl
theorem c22 : Tryd.prog.cellsOf 59 = 1 := by kernel_rfl
theorem c4 : Tryd.prog.cellsOf 4 = 1 := by kernel_rfl
theorem c3 : Tryd.prog.cellsOf 3 = 1 := by kernel_rfl
theorem list6 {l : List α} (h : l.length = 6) : ∃ a b c d e f, l = [a, b, c, d, e, f] := by
  match l, h with
  | [a, b, c, d, e, f], _ => exact ⟨a, b, c, d, e, f, rfl⟩
theorem cut_one {k : Nat} (h : (l.drop k).take 1 = [v]) : l[k]? = some v := by
  have := congrArg (fun x => x[0]?) h
  simpa using this
theorem u32_bd (h : (Lit.int .u32 n).wf = true) : 0 ≤ n ∧ n < 4294967296 := by
  have : 0 ≤ n ∧ n ≤ 4294967295 := by simpa [Lit.wf, IntKind.min, IntKind.max, IntKind.signed, IntKind.bits] using h
  omega
set_option maxRecDepth 100000 in
theorem hart_cells
    (hf : DataW.trod enc Tryd.prog W b0 sp held fuel 70 l = some x) : ∃ hh : Hv, l = hL hh ∧ hh.Ok := by
  obtain ⟨xs, m, rfl, hx, hcl, hlen, hel⟩ := DataW.trod_struct Tryd.underlying70 hf
  obtain ⟨y0, y1, y2, y3, y4, y5, rfl⟩ := list6 (l := xs) hlen
  clear hf hlen hx
  have k0 : DataW.trod enc Tryd.prog W b0 sp held m 68 ((l.drop 0).take (Tryd.prog.cellsOf 68)) = some y0 := hel 0 _ rfl
  have k1 : DataW.trod enc Tryd.prog W b0 sp held m 59 ((l.drop 32).take (Tryd.prog.cellsOf 59)) = some y1 := hel 1 _ rfl
  have k2 : DataW.trod enc Tryd.prog W b0 sp held m 4 ((l.drop 33).take (Tryd.prog.cellsOf 4)) = some y2 := hel 2 _ rfl
  have k3 : DataW.trod enc Tryd.prog W b0 sp held m 59 ((l.drop 34).take (Tryd.prog.cellsOf 59)) = some y3 := hel 3 _ rfl
  have k4 : DataW.trod enc Tryd.prog W b0 sp held m 3 ((l.drop 35).take (Tryd.prog.cellsOf 3)) = some y4 := hel 4 _ rfl
  have k5 : DataW.trod enc Tryd.prog W b0 sp held m 3 ((l.drop 36).take (Tryd.prog.cellsOf 3)) = some y5 := hel 5 _ rfl
  clear hel
  have hl : l.length = 37 := by rw [hcl, c34]
  obtain ⟨pc, e1, _, w1⟩ := DataW.trod_int Tryd.underlying59 k1
  obtain ⟨hd, e2, _⟩ := DataW.trod_bool Tryd.underlying4 k2
  obtain ⟨ha, e3, _, w3⟩ := DataW.trod_int Tryd.underlying59 k3
  obtain ⟨st, e4, _, _⟩ := DataW.trod_int Tryd.underlying3 k4
  obtain ⟨ca, e5, _, _⟩ := DataW.trod_int Tryd.underlying3 k5
  obtain ⟨zs, m2, rfl, _, _, hzl, hze⟩ := DataW.trod_array Tryd.underlying68 k0
  clear k0 k1 k2 k3 k4 k5
  rw [c22] at e1 e3
  rw [c4] at e2
  rw [c3] at e4 e5
  have q1 := cut_one e1
  have q2 := cut_one e2
  have q3 := cut_one e3
  have q4 := cut_one e4
  have q5 := cut_one e5
  have qr : ∀ i, i < 32 → ∃ n, l[i]? = some (.int .u32 n) ∧ 0 ≤ n ∧ n < 4294967296 := fun i hi => by
    have ki := hze i hi
    rw [List.getElem?_eq_getElem (by omega)] at ki
    obtain ⟨n, en, _, wn⟩ := DataW.trod_int Tryd.underlying59 ki
    rw [c22, c32] at en
    refine ⟨n, ?_, u32_bd wn⟩
    have := congrArg (fun x => x[0]?) en
    simp only [List.getElem?_take, List.getElem?_drop] at this
    rw [if_pos (by omega), if_pos (by omega)] at this
    simpa using this
  clear hze e1 e2 e3 e4 e5
  have qn : ∀ i, i < 32 → l[i]? = some (.int .u32 (intOf (l.getD i undef))) ∧ 0 ≤ intOf (l.getD i undef) ∧ intOf (l.getD i undef) < 4294967296 := fun i hi => by
    obtain ⟨n, en, b⟩ := qr i hi
    simp only [List.getD, en, Option.getD_some, intOf]
    exact ⟨trivial, b⟩
  refine ⟨⟨(List.range 32).map fun i => intOf (l.getD i undef), pc, hd, ha, st, ca⟩, ?_, ?_⟩
  · have : l = hL ⟨(List.range 32).map fun i => intOf (l.getD i undef), pc, hd, ha, st, ca⟩ := by
      apply List.ext_getElem?
      intro i
      unfold hL
      by_cases hi : i < 32
      · rw [List.getElem?_append_left (by simpa using hi), (qn i hi).1]
        simp [hi]
      · rw [List.getElem?_append_right (by simp; omega)]
        simp only [List.length_map, List.length_range]
        by_cases h37 : i < 37
        · have : i = 32 ∨ i = 33 ∨ i = 34 ∨ i = 35 ∨ i = 36 := by omega
          rcases this with rfl | rfl | rfl | rfl | rfl
          · exact q1
          · exact q2
          · exact q3
          · exact q4
          · exact q5
        · rw [List.getElem?_eq_none (by omega), List.getElem?_eq_none (by simp; omega)]
    exact this
  · refine ⟨by simp, fun i => ?_, (u32_bd w1).1, (u32_bd w1).2, (u32_bd w3).1, (u32_bd w3).2⟩
    unfold rg
    simp only [List.getD, List.getElem?_map]
    by_cases hi : i < 32
    · rw [List.getElem?_eq_getElem (by simpa using hi)]
      simp only [List.getElem_range, Option.map_some, Option.getD_some]
      exact (qn i hi).2
    · rw [List.getElem?_eq_none (by simp; omega)]
      simp


theorem c62 : Tryd.prog.cellsOf 56 = 2 := by kernel_rfl
theorem list2 {l : List α} (h : l.length = 2) : ∃ a b, l = [a, b] := by
  match l, h with
  | [a, b], _ => exact ⟨a, b, rfl⟩
theorem i64_bd (h : (Lit.int .i64 n).wf = true) : -9223372036854775808 ≤ n ∧ n ≤ 9223372036854775807 := by
  simpa [Lit.wf, IntKind.min, IntKind.max, IntKind.signed, IntKind.bits] using h
set_option maxRecDepth 100000 in
theorem pick_cells
    (hf : DataW.trod enc Tryd.prog W b0 sp held fuel 56 l = some x) : ∃ p : Int × Int, l = [.int .i64 p.1, .int .i64 p.2] ∧ -9223372036854775808 ≤ p.1 ∧ p.1 ≤ 9223372036854775807 ∧ -9223372036854775808 ≤ p.2 ∧ p.2 ≤ 9223372036854775807 := by
  obtain ⟨xs, m, rfl, hx, hcl, hlen, hel⟩ := DataW.trod_struct Tryd.underlying56 hf
  obtain ⟨y0, y1, rfl⟩ := list2 (l := xs) hlen
  have k0 : DataW.trod enc Tryd.prog W b0 sp held m 3 ((l.drop 0).take (Tryd.prog.cellsOf 3)) = some y0 := hel 0 _ rfl
  have k1 : DataW.trod enc Tryd.prog W b0 sp held m 3 ((l.drop 1).take (Tryd.prog.cellsOf 3)) = some y1 := hel 1 _ rfl
  rw [c62] at hcl
  obtain ⟨a, b, rfl⟩ := list2 hcl
  obtain ⟨p, e0, _, w0⟩ := DataW.trod_int Tryd.underlying3 k0
  obtain ⟨q, e1, _, w1⟩ := DataW.trod_int Tryd.underlying3 k1
  rw [c3] at e0 e1
  simp at e0 e1
  subst e0 e1
  exact ⟨(p, q), rfl, (i64_bd w0).1, (i64_bd w0).2, (i64_bd w1).1, (i64_bd w1).2⟩

/-- Cells from an address on, one by one. -/
theorem cells_each {n : Nat} {cs : List Value} (h : w.cells? 0 a n = some cs) : cs.length = n ∧ ∀ j, j < n → w.cell? (a.add j) = cs[j]? := by
  obtain ⟨_, hl, hc⟩ := World.cells?_some h
  exact ⟨hl, hc⟩
theorem spot_none (h : w.cell? (a.add 0) = some v) : a.spot = none := by simpa [Addr.add] using World.cell?_spot h
/-- An argument of type []api.Hart, opened. -/
theorem open_harts
    (hf : DataW.trod enc Tryd.prog W 0 (fun _ => true) true fuel 32 (Value.slice ao len cap).cells.toList = some (d, p)) : ∃ hs : List Hv, Hs W ao len hs ∧ (ao = none → cap = 0) ∧ (d = .nil ∧ len = 0 ∨ ∃ el sp, d = .slice el sp ∧ el.length = len) := by
  rcases Deep.open_slice Tryd.underlying32 hf with ⟨hcs, hx⟩ | ⟨a, len', cap', m, n, D, Pl, hcs, hb, hl, hm, em, hx, hel⟩
  · simp [Value.cells] at hcs
    obtain ⟨rfl, rfl, rfl⟩ := hcs
    exact ⟨[], ⟨rfl, fun h hm => (by cases hm), fun h => absurd h (by omega)⟩, fun _ => rfl, .inl ⟨by injection hx, rfl⟩⟩
  · simp [Value.cells] at hcs
    obtain ⟨rfl, rfl, rfl⟩ := hcs
    have em2 : m = cap := by simpa using em
    have hex : ∀ i, i < len → ∃ h : Hv, h.Ok ∧ ∀ j v, (hL h)[j]? = some v → W.cell? (a.add (i * 37 + j)) = some v := fun i hi => by
      obtain ⟨cs', hc, ht⟩ := hel i (by omega)
      obtain ⟨hh, rfl, ok⟩ := hart_cells ht
      rw [c34] at hc
      obtain ⟨_, hc⟩ := cells_each hc
      refine ⟨hh, ok, fun j v hv => ?_⟩
      have hj : j < 37 := by have := (List.getElem?_eq_some_iff.1 hv).1; rwa [hL_len ok] at this
      have := hc j hj
      rw [Deep.add_add] at this
      rw [this]
      exact hv
    obtain ⟨f, hf2⟩ := @Deep.choose_lt Hv ⟨hN⟩ len _ hex
    refine ⟨(List.range len).map f, ⟨by simp, fun h hm => ?_, fun hn => ?_⟩, fun e => (by cases e), .inr ⟨_, _, by injection hx, by simp⟩⟩
    · obtain ⟨i, hi, rfl⟩ := List.mem_map.1 hm
      exact (hf2 i (List.mem_range.1 hi)).1
    · obtain ⟨b, o, s⟩ := a
      have c0 := (hf2 0 hn).2 0 _ (hL_reg (hf2 0 hn).1 (by omega))
      have hs : s = none := spot_none (by simpa using c0)
      subst hs
      have hb : b < W.heap.size := by simpa [Addr.add] using World.block_lt_of_cell? W _ c0
      refine ⟨b, o, rfl, hb, fun i h hi j v hv => ?_⟩
      rw [List.getElem?_map] at hi
      by_cases hl2 : i < len
      · rw [List.getElem?_eq_getElem (by simpa using hl2)] at hi
        simp at hi
        subst hi
        have := (hf2 i hl2).2 j v hv
        rw [add_at] at this
        rw [Nat.add_assoc]
        exact this
      · rw [List.getElem?_eq_none (by simp; omega)] at hi
        cases hi
/-- An argument of type []api.Pick, opened. -/
theorem open_picks
    (hf : DataW.trod enc Tryd.prog W 0 (fun _ => true) true fuel 35 (Value.slice ao len cap).cells.toList = some (d, p)) :
    ∃ ps : List (Int × Int), Ps W ao len ps ∧ (ao = none → cap = 0) ∧ (len ≤ cap ∧ cap ≤ maxLen) ∧ (d = .nil ∧ len = 0 ∨ ∃ el sp, d = .slice el sp ∧ el.length = len) ∧ ∀ p ∈ ps, -9223372036854775808 ≤ p.1 ∧ p.1 ≤ 9223372036854775807 ∧ -9223372036854775808 ≤ p.2 ∧ p.2 ≤ 9223372036854775807 := by
  rcases Deep.open_slice Tryd.underlying35 hf with ⟨hcs, hx⟩ | ⟨a, len', cap', m, n, D, Pl, hcs, hb, hl, hm, em, hx, hel⟩
  · simp [Value.cells] at hcs
    obtain ⟨rfl, rfl, rfl⟩ := hcs
    exact ⟨[], ⟨rfl, fun h => absurd h (by omega)⟩, fun _ => rfl, ⟨Nat.le_refl _, Nat.zero_le _⟩, .inl ⟨by injection hx, rfl⟩, fun h hm => (by cases hm)⟩
  · simp [Value.cells] at hcs
    obtain ⟨rfl, rfl, rfl⟩ := hcs
    have em2 : m = cap := by simpa using em
    have hex : ∀ i, i < len → ∃ q : Int × Int, (-9223372036854775808 ≤ q.1 ∧ q.1 ≤ 9223372036854775807 ∧ -9223372036854775808 ≤ q.2 ∧ q.2 ≤ 9223372036854775807) ∧ W.cell? (a.add (i * 2)) = some (.int .i64 q.1) ∧ W.cell? (a.add (i * 2 + 1)) = some (.int .i64 q.2) := fun i hi => by
      obtain ⟨cs', hc, ht⟩ := hel i (by omega)
      obtain ⟨q, rfl, bd⟩ := pick_cells ht
      rw [c62] at hc
      obtain ⟨_, hc⟩ := cells_each hc
      have h0 := hc 0 (by omega)
      have h1 := hc 1 (by omega)
      rw [Deep.add_add] at h0 h1
      exact ⟨q, bd, h0, h1⟩
    obtain ⟨f, hf2⟩ := @Deep.choose_lt (Int × Int) ⟨(0, 0)⟩ len _ hex
    refine ⟨(List.range len).map f, ⟨by simp, fun hn => ?_⟩, fun e => (by cases e), ⟨hl, hm⟩, .inr ⟨_, _, by injection hx, by simp⟩, fun h hm => ?_⟩
    · obtain ⟨b, o, s⟩ := a
      have c0 := (hf2 0 hn).2.1
      have hs : s = none := spot_none (by simpa using c0)
      subst hs
      have hb : b < W.heap.size := by simpa [Addr.add] using World.block_lt_of_cell? W _ c0
      refine ⟨b, o, rfl, hb, fun i h hi => ?_⟩
      rw [List.getElem?_map] at hi
      by_cases hl2 : i < len
      · rw [List.getElem?_eq_getElem (by simpa using hl2)] at hi
        simp at hi
        subst hi
        obtain ⟨_, q0, q1⟩ := hf2 i hl2
        rw [add_at] at q0 q1
        exact ⟨q0, by rw [Nat.add_assoc]; exact q1⟩
      · rw [List.getElem?_eq_none (by simp; omega)] at hi
        cases hi
    · obtain ⟨i, hi, rfl⟩ := List.mem_map.1 hm
      exact (hf2 i (List.mem_range.1 hi)).1
end Go.Proofs.YtdiofidmlgliiaaDoor.Mc
/-
  A machine and a script that are handed in, opened; how many harts, bytes and picks there can be.
-/
namespace Go.Proofs.YtdiofidmlgliiaaDoor.Mc
open Go.ChangeShapes Go.WideShapes Go.ChangeAt Go.RowKit Mm Hh
set_option linter.unusedVariables false
set_option linter.unusedSimpArgs false

variable {H : Type} {enc : TypeId × Value → H} {W : World} {fuel base : Nat} {d : DataW H} {p : List MemPlace} {v : Value} {ts : List TypeId} {ds : List (DataW H)}
theorem cM : Tryd.prog.cellsOf 34 = 2 := by kernel_rfl
theorem cB : Tryd.prog.cellsOf 31 = 1 := by kernel_rfl
theorem cH : Tryd.prog.cellsOf 32 = 1 := by kernel_rfl
theorem byH : Tryd.prog.bytesOf 70 = 160 := by kernel_rfl
theorem byP : Tryd.prog.bytesOf 56 = 16 := by kernel_rfl
/-- A machine that is handed in. -/
structure Mg (W : World) (v : Value) (ma : Option Addr) (mn mc : Nat) (ha : Option Addr) (hn hc : Nat) (m : List UInt8) (hs : List Hv) : Prop where
  eq : v = .agg #[.slice ma mn mc, .slice ha hn hc]
  mem : Mem W ma mn m
  cap : ma = none → mc = 0
  harts : Hs W ha hn hs
  b1 : mn ≤ 140737488351232
  b2 : hn ≤ 140737488351232
theorem one_slice {t e : TypeId} {l : List Value} {k : Nat} {x : DataW H × List MemPlace} (hu : Tryd.prog.underlying t = some (.slice e)) (h : DataW.trod enc Tryd.prog W 0 (fun _ => true) true fuel t ((l.drop k).take 1) = some x) : ∃ ao n c, l[k]? = some (.slice ao n c) ∧ (l.drop k).take 1 = (Value.slice ao n c).cells.toList := by
  rcases Deep.open_slice hu h with ⟨hcs, _⟩ | ⟨a, len, cap, _, _, _, _, hcs, _⟩
  · exact ⟨none, 0, 0, cut_one hcs, hcs⟩
  · exact ⟨some a, len, cap, cut_one hcs, hcs⟩
theorem mem_cap {ao : Option Addr} {len cap : Nat}
    (hf : DataW.trod enc Tryd.prog W 0 (fun _ => true) true fuel 31 (Value.slice ao len cap).cells.toList = some (d, p)) : ao = none → cap = 0 := by
  rcases open_ints Tryd.underlying31 Tryd.underlying5 cells5 hf with ⟨hcs, _⟩ | ⟨a, len', cap', zs, hcs, _⟩
  · simp [Value.cells] at hcs
    exact fun _ => hcs.2.2
  · simp [Value.cells] at hcs
    intro h
    rw [h] at hcs
    cases hcs.1
set_option maxRecDepth 100000 in
theorem open_machine (hv : Value.okWide Tryd.prog W .any base 34 v) (h : DataW.Trod enc Tryd.prog W 0 (fun _ => true) true 34 v d p)
    (hsz : (DataW.weightsEach Tryd.prog ts ds).all (· ≤ reachBytes) = true) (ht : ts[0]? = some 34) (hd : ds[0]? = some d) : ∃ ma mn mc ha hn hc m hs, Mg W v ma mn mc ha hn hc m hs := by
  obtain ⟨cs, rfl, hcs⟩ := okWide_struct Tryd.underlying34 hv
  rw [cM] at hcs
  obtain ⟨l⟩ := cs
  obtain ⟨fuel, hf⟩ := h
  obtain ⟨xs, n, rfl, hx, _, hlen, hel⟩ := DataW.trod_struct Tryd.underlying34 hf
  obtain ⟨y0, y1, rfl⟩ := list2 (l := xs) hlen
  have k0 : DataW.trod enc Tryd.prog W 0 (fun _ => true) true n 31 ((l.drop 0).take (Tryd.prog.cellsOf 31)) = some y0 := hel 0 _ rfl
  have k1 : DataW.trod enc Tryd.prog W 0 (fun _ => true) true n 32 ((l.drop 1).take (Tryd.prog.cellsOf 32)) = some y1 := hel 1 _ rfl
  clear hf hel hv
  rw [cB] at k0
  rw [cH] at k1
  obtain ⟨ma, mn, mc, e0, q0⟩ := one_slice Tryd.underlying31 k0
  obtain ⟨ha, hn, hc, e1, q1⟩ := one_slice Tryd.underlying32 k1
  rw [q0] at k0
  rw [q1] at k1
  obtain ⟨d0, p0⟩ := y0
  obtain ⟨d1, p1⟩ := y1
  obtain ⟨m, M, hm⟩ := open_mem k0
  obtain ⟨hs, H2, _, hh⟩ := open_harts k1
  have ed : d = .agg [d0, d1] := by injection hx
  subst ed
  have hw := DataW.weights_mem_each (P := Tryd.prog) ht hd
  have hin : (DataW.weightsEach Tryd.prog [31, 32] [d0, d1]).all (· ≤ reachBytes) = true := by
    rw [List.all_eq_true]
    intro z hz
    refine List.all_eq_true.1 hsz z (hw z ?_)
    unfold DataW.weights
    rw [Tryd.underlying34]
    exact hz
  have ll : l = [.slice ma mn mc, .slice ha hn hc] := by
    obtain ⟨a, b, rfl⟩ := list2 (l := l) (by simpa using hcs)
    simp at e0 e1
    rw [e0, e1]
  refine ⟨ma, mn, mc, ha, hn, hc, m, hs, by rw [ll], M, mem_cap k0, H2, ?_, ?_⟩
  · rcases hm with ⟨_, h⟩ | ⟨zs, sp, h, hz⟩
    · rw [h]; decide
    · have := sized_slice hin (j := 0) (t := 31) (e := 5) rfl (by rw [h]; rfl) Tryd.underlying31
      rw [bytes5] at this
      simp only [lits, List.length_map, hz, reachBytes] at this
      omega
  · rcases hh with ⟨_, h⟩ | ⟨zs, sp, h, hz⟩
    · rw [h]; decide
    · have := sized_slice hin (j := 1) (t := 32) (e := 70) rfl (by rw [h]; rfl) Tryd.underlying32
      rw [byH] at this
      simp only [hz, reachBytes] at this
      omega
set_option maxRecDepth 100000 in
/-- A script that is handed in. -/
theorem open_script (hv : Value.okWide Tryd.prog W .any base 35 v) (h : DataW.Trod enc Tryd.prog W 0 (fun _ => true) true 35 v d p)
    (hsz : (DataW.weightsEach Tryd.prog ts ds).all (· ≤ reachBytes) = true) (j : Nat) (ht : ts[j]? = some 35) (hd : ds[j]? = some d) : ∃ pa pn pc ps, v = .slice pa pn pc ∧ Ps W pa pn ps ∧ (pa = none → pc = 0) ∧ pn ≤ pc ∧ pc ≤ maxLen ∧ pn ≤ 8796093022208 ∧ (d = .nil ∧ pn = 0 ∨ ∃ el sp, d = .slice el sp ∧ el.length = pn) := by
  obtain ⟨pa, pn, pc, rfl⟩ := okWide_slice Tryd.underlying35 hv
  obtain ⟨fa, hfa⟩ := h
  obtain ⟨ps, P, c0, ⟨c1, c2⟩, hd2, _⟩ := open_picks hfa
  refine ⟨pa, pn, pc, ps, rfl, P, c0, c1, c2, ?_, hd2⟩
  rcases hd2 with ⟨_, h⟩ | ⟨zs, sp, h, hz⟩
  · omega
  · have := sized_slice hsz (j := j) (t := 35) (e := 56) ht (by rw [hd, h]) Tryd.underlying35
    rw [byP] at this
    simp only [hz, reachBytes] at this
    omega
end Go.Proofs.YtdiofidmlgliiaaDoor.Mc
