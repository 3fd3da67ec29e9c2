/-
  The walk of the law MachineSplits: of every machine and two scripts (that together are not too many picks for any memory) it answers true.
-/
import Derived.Test.YtfolphjampklpaaDoorMk
namespace Go.Proofs.YtfolphjampklpaaDoor.machineSplits
open Go.ChangeShapes Go.WideShapes Go.ChangeAt Go.RowKit Mm Hh Hc Mc
set_option linter.unusedVariables false
set_option linter.unusedSimpArgs false

theorem wrong_app {m : List UInt8} {hs : List Hv} {a b : List (Int × Int)} (h : wrong m hs (a ++ b) = 0) : wrong m hs a = 0 := by
  obtain ⟨h1, h2, h3, h4, h5, h6⟩ := wrong_ok h
  rw [List.length_append] at h5
  exact wrong_zero h (by omega) fun p hp => h6 p (List.mem_append_left _ hp)
theorem play_two (m : List UInt8) (hs : List Hv) (a b : List (Int × Int)) : play ⟨hs, m, [], 0⟩ (nums (a ++ b)) = Mc.ahead (play ⟨hs, m, [], 0⟩ (nums a)).out (play ⟨hs, m, [], 0⟩ (nums a)).steps (play ⟨(play ⟨hs, m, [], 0⟩ (nums a)).hs, (play ⟨hs, m, [], 0⟩ (nums a)).m, [], 0⟩ (nums b)) := by
  unfold nums
  rw [List.map_append, play_app]
  generalize play ⟨hs, m, [], 0⟩ (a.map fun p => (p.1.toNat, p.2.toNat)) = S
  rw [← play_ahead]
  congr 1
  unfold Mc.ahead
  simp
theorem wrong_two {m : List UInt8} {hs : List Hv} {a b : List (Int × Int)} (ok : ∀ h ∈ hs, h.Ok) (h : wrong m hs (a ++ b) = 0) : wrong (play ⟨hs, m, [], 0⟩ (nums a)).m (play ⟨hs, m, [], 0⟩ (nums a)).hs b = 0 := by
  obtain ⟨h1, h2, h3, h4, h5, h6⟩ := wrong_ok h
  have f := (few_nums (wrong_app h) ok).2
  generalize play ⟨hs, m, [], 0⟩ (nums a) = S at f
  rw [List.length_append] at h5
  unfold wrong
  rw [if_neg (by rw [f.mem, f.len]; omega), if_neg (by simpa using fun q hq => (f.ok q hq).2), if_neg (by omega), if_neg]
  rw [f.len]
  simpa [pickOk] using fun x y hxy => h6 (x, y) (List.mem_append_right _ hxy)
theorem made2 (w : World) (a : Obj) (e sz : Nat) : ((w.alloc a).alloc (.cells #[] e)).ownsRow w.heap.size e sz (.slice (some ⟨w.heap.size + 1, 0, none⟩) 0 0) 0 [] := by
  have h := heap_alloc_new (w.alloc a) (.cells #[] e)
  have q : (w.alloc a).heap.size = w.heap.size + 1 := by simp
  rw [q] at h
  exact ⟨by simp, .inr ⟨_, 0, #[], rfl, by omega, h, Nat.le_refl _, Nat.zero_le _, by simp, by simp⟩⟩
theorem ps_src {w : World} {pa : Option Addr} {n c : Nat} {ps : List (Int × Int)} (h : Ps w pa n ps) (hc : pa = none → c = 0) : Src w (.slice pa n c) n 2 (pC ps) := by
  have hl := h.len
  cases pa with
  | none =>
    obtain rfl := hc rfl
    have : n = 0 := by
      cases n with
      | zero => rfl
      | succ n => obtain ⟨_, _, e, _⟩ := h.spot (by omega); cases e
    subst this
    obtain rfl : ps = [] := List.eq_nil_of_length_eq_zero hl
    exact .inl ⟨rfl, rfl, rfl⟩
  | some ad =>
    by_cases h0 : n = 0
    · subst h0
      obtain rfl : ps = [] := List.eq_nil_of_length_eq_zero hl
      exact .inr ⟨ad, c, rfl, rfl, fun j u hj => by simp [pC] at hj⟩
    · obtain ⟨b, o, e, _⟩ := h.spot (by omega)
      injection e with e
      subst e
      have := h.src 0 n c (by omega)
      rwa [Nat.zero_mul, Nat.add_zero, List.drop_zero, List.take_of_length_le (by omega)] at this

set_option maxHeartbeats 4000000 in
set_option maxRecDepth 100000 in
theorem walk_no {ma ha aa ba : Option Addr} {hn an bn : Nat} (mc hc ac bc : Nat) {m : List UInt8} {hs : List Hv} {us vs : List (Int × Int)} {w : World} (mn : Nat) (T : TT w w.heap.size) (M : Mem w ma mn m) (hcap : ma = none → mc = 0) (H : Hs w ha hn hs) (A : Ps w aa an us) (B : Ps w ba bn vs) (hac : aa = none → ac = 0) (hbc : ba = none → bc = 0) (b1 : mn ≤ 140737488351232) (b2 : hn ≤ 140737488351232) (b3 : an + bn ≤ 8796093022208) (hno : ¬ wrong m hs (us ++ vs) = 0) :
    Calls Tryd.prog 9 #[.agg #[.slice ma mn mc, .slice ha hn hc], .slice aa an ac, .slice ba bn bc] w fun e w' => e = .returned (.bool true) ∧ Gr w w' := by
  have HR1 : Hid (∀ W : World, Gr w W → Calls Tryd.prog 22 #[.agg #[.slice ma mn mc, .slice ha hn hc], .slice aa an ac] W fun e w' => ∃ s1 n1 d1 s2 n2 d2 s3 n3 d3 st, e = .returned (.tuple #[.agg #[.slice s1 n1 d1, .slice s2 n2 d2, .slice s3 n3 d3, .int .i64 st], .int .i64 (wrong m hs us)]) ∧ Gr W w') := fun W G => by
    by_cases hy : wrong m hs us = 0
    · refine (Run_yes mc hc ac mn (T.grow G) (M.of G) hcap (H.of G) (A.of G) hy).mono ?_
      rintro e w' ⟨v, rfl, ⟨a1, c1, a2, c2, a3, c3, rfl, _⟩, g⟩
      rw [hy]
      exact ⟨_, _, _, _, _, _, _, _, _, _, rfl, g⟩
    · refine (Run_no mc hc ac mn M.len (H.of G) (A.of G) b1 b2 (by omega) hy).mono ?_
      rintro e w' ⟨rfl, g⟩
      exact ⟨_, _, _, _, _, _, _, _, _, _, rfl, g⟩
  have HR2 : Hid (∀ (W : World) (pa : Option Addr) (pc : Nat), Gr w W → Ps W pa (an + bn) (us ++ vs) → Calls Tryd.prog 22 #[.agg #[.slice ma mn mc, .slice ha hn hc], .slice pa (an + bn) pc] W fun e w' => e = .returned (.tuple #[.agg #[.slice none 0 0, .slice none 0 0, .slice none 0 0, .int .i64 0], .int .i64 (wrong m hs (us ++ vs))]) ∧ Gr W w') := fun W pa pc G P => Run_no mc hc pc mn M.len (H.of G) P b1 b2 (by omega) hno
  have HSA : Hid (∀ W : World, Gr w W → Src W (.slice aa an ac) an 2 (pC us)) := fun W G => ps_src (A.of G) hac
  have HSB : Hid (∀ W : World, Gr w W → Src W (.slice ba bn bc) bn 2 (pC vs)) := fun W G => ps_src (B.of G) hbc
  have HLN : Hid ((us ++ vs).length = an + bn) := by unfold Hid; rw [List.length_append, A.len, B.len]
  have HPC : Hid (pC us ++ pC vs = pC (us ++ vs)) := (pC_app us vs).symm
  have hb4 : an ≤ 8796093022208 := by omega
  obtain ⟨i0, hi0, hz0, hz1, hz2⟩ := info_parts infoP
  clear M H A B T hcap hac hbc
  generalize hqs : us ++ vs = qs at *
  clear hqs
  generalize wrong m hs us = E1 at *
  generalize wrong m hs qs = E2 at *
  have hE : (E2 != 0) = true := by simpa using hno
  have hE1 : (E2 == 0) = false := by simpa using hno
  clear hno
  go_enter Tryd.func9, Tryd.ntmps9
  go_wp2_with fail
  refine (HR1.out _ ((Gr.refl _).alloc _)).mono ?_
  rintro e w1 ⟨s1, n1, d1, s2, n2, d2, s3, n3, d3, st, rfl, G1⟩
  have HG1 : Hid (Gr w w1) := ((Gr.refl _).alloc _).trans G1
  have HB : Hid (w1.heap[w.heap.size]? = some (.cells #[.slice ma mn mc, .slice ha hn hc] 48 (0, 0))) := Hr.heap_of_gr G1 (heap_alloc_new w _)
  have hlt : w.heap.size < w1.heap.size := (Array.getElem?_eq_some_iff.1 HB.out).1
  have HSh : Hid (∀ X : Obj, Gr w1 ((w1.alloc X).alloc (.cells #[] 97))) := fun X => Gr.alloc (Gr.alloc (Gr.refl _) _) _
  clear G1 HR1
  go_wp2_with (first
    | (at_builtin; refine wpList_append_src (base := w1.heap.size) (n := 0) (m := an) rfl (.tmp 20) (.tmp 21) rfl Tryd.underlying49 hi0 hz0 hz1 hz2 rfl (by decide) rfl rfl (made2 w1 _ _ 2) (HSA.out _ (HG1.out.trans (HSh.out _))) (pC_one _) (by unfold maxLen; omega) (by omega) (by simp; omega) ?_; intro v2 w2 hown hgrow; have HO2 : Hid (w2.ownsRow w1.heap.size 97 2 v2 an (pC us)) := (by unfold Hid; rw [Nat.zero_add, List.nil_append] at hown; exact hown); have HG2 : Hid (Gr w1 w2) := (HSh.out _).grown hgrow (fun b e => by injection e with e; have e2 : w1.heap.size + 1 = b := e; omega); obtain ⟨v2a, v2c, rfl⟩ := (owns_cells HO2.out).2.2; clear hown hgrow)
    | (at_builtin; refine wpList_append_src (base := w1.heap.size) (n := an) (m := bn) rfl (.tmp 22) (.tmp 23) rfl Tryd.underlying49 hi0 hz0 hz1 hz2 rfl (by decide) rfl rfl HO2.out (HSB.out _ (HG1.out.trans HG2.out)) (pC_one _) (by unfold maxLen; omega) (by omega) (by have := HG2.out.size; omega) ?_; intro v4 w4 hown hgrow; have hown2 := hown; rw [HPC.out] at hown2; obtain ⟨v4a, v4c, rfl, P4⟩ := Ps.own hown2 HLN.out; have HP4 : Hid (Ps w4 v4a (an + bn) qs) := P4; have HG4 : Hid (Gr w1 w4) := HG2.out.grown hgrow (fun b e => (HO2.out.lt b e).1); have x0 : w4.cell? ⟨w.heap.size, 0, none⟩ = some (.slice ma mn mc) := cell_of_row _ _ _ _ _ _ (Hr.heap_of_gr HG4.out HB.out); have x1 : w4.cell? ⟨w.heap.size, 1, none⟩ = some (.slice ha hn hc) := cell_of_row _ _ _ _ _ _ (Hr.heap_of_gr HG4.out HB.out); clear hown hown2 hgrow P4 HO2))
  refine (HR2.out _ _ _ (HG1.out.trans HG4.out) HP4.out).mono ?_
  rintro e w5 ⟨rfl, G5⟩
  have HG5 : Hid (Gr w w5) := HG1.out.trans (HG4.out.trans G5)
  clear G5 HR2 x0 x1
  cases hE0 : (E1 != 0) with
  | true =>
    have hE2 : (E1 == 0) = false := by simpa using hE0
    go_wp2_with fail
    go_ret
    exact ⟨rfl, HG5.out.alloc _⟩
  | false =>
    have hE2 : (E1 == 0) = true := by simpa using hE0
    go_wp2_with fail
    go_ret
    exact ⟨rfl, HG5.out.alloc _⟩

theorem wm_src {w : World} {oa : Option Addr} {n c : Nat} {os : List Int} (h : Wm w oa n os) (hc : oa = none → c = 0) : Src w (.slice oa n c) n 1 (os.map (Value.int .u32)) := by
  have hl := h.len
  cases oa with
  | none =>
    obtain rfl := hc rfl
    obtain rfl := h.nil rfl
    obtain rfl : os = [] := List.eq_nil_of_length_eq_zero hl
    exact .inl ⟨rfl, rfl, rfl⟩
  | some ad =>
    refine .inr ⟨ad, c, rfl, by simp [hl], fun j u hj => ?_⟩
    have hj2 : j < n := by have := (List.getElem?_eq_some_iff.1 hj).1; simpa [hl] using this
    rw [h.cell ad rfl j hj2]
    rw [List.getElem?_map, List.getElem?_eq_getElem (by omega)] at hj
    simpa [List.getD, List.getElem?_eq_getElem (show j < os.length by omega)] using hj
theorem made2d (w : World) (a : Obj) (e sz : Nat) : ((w.alloc a).alloc (.cells #[] e)).drew.ownsRow w.heap.size e sz (.slice (some ⟨w.heap.size + 1, 0, none⟩) 0 0) 0 [] := owns_gr (made2 w a e sz) (Gr.drew (Gr.refl _))
set_option maxHeartbeats 4000000 in
set_option maxRecDepth 100000 in
theorem walk_yes {ma ha aa ba : Option Addr} {hn an bn : Nat} (mc hc ac bc : Nat) {m : List UInt8} {hs : List Hv} {us vs : List (Int × Int)} {w : World} (mn : Nat) (T : TT w w.heap.size) (M : Mem w ma mn m) (hcap : ma = none → mc = 0) (H : Hs w ha hn hs) (A : Ps w aa an us) (B : Ps w ba bn vs) (hac : aa = none → ac = 0) (hbc : ba = none → bc = 0) (hy : wrong m hs (us ++ vs) = 0) :
    Calls Tryd.prog 9 #[.agg #[.slice ma mn mc, .slice ha hn hc], .slice aa an ac, .slice ba bn bc] w fun e w' => e = .returned (.bool true) ∧ Gr w w' := by
  have hya := wrong_app hy
  obtain ⟨b1, b2, b4, _, b5, _⟩ := wrong_ok hy
  have hml := M.len
  have hhl := H.len
  have hal := A.len
  have hbl := B.len
  rw [List.length_append] at b5
  have HR1 : Hid (∀ W : World, Gr w W → Calls Tryd.prog 22 #[.agg #[.slice ma mn mc, .slice ha hn hc], .slice aa an ac] W fun e w' => ∃ v, e = .returned (.tuple #[v, .int .i64 0]) ∧ Shn w' v hn mn (play ⟨hs, m, [], 0⟩ (nums us)) ∧ Gr W w') := fun W G => Run_yes mc hc ac mn (T.grow G) (M.of G) hcap (H.of G) (A.of G) hya
  have HR2 : Hid (∀ (W : World) (pa : Option Addr) (pc : Nat), Gr w W → Ps W pa (an + bn) (us ++ vs) → Calls Tryd.prog 22 #[.agg #[.slice ma mn mc, .slice ha hn hc], .slice pa (an + bn) pc] W fun e w' => ∃ v, e = .returned (.tuple #[v, .int .i64 0]) ∧ Shn w' v hn mn (play ⟨hs, m, [], 0⟩ (nums (us ++ vs))) ∧ Gr W w') := fun W pa pc G P => Run_yes mc hc pc mn (T.grow G) (M.of G) hcap (H.of G) P hy
  have HR3 : Hid (∀ (W : World) (xa ya : Option Addr) (xc yc : Nat), Gr w W → Mem W xa mn (play ⟨hs, m, [], 0⟩ (nums us)).m → (xa = none → xc = 0) → Hs W ya hn (play ⟨hs, m, [], 0⟩ (nums us)).hs → Calls Tryd.prog 22 #[.agg #[.slice xa mn xc, .slice ya hn yc], .slice ba bn bc] W fun e w' => ∃ v, e = .returned (.tuple #[v, .int .i64 0]) ∧ Shn w' v hn mn (play ⟨(play ⟨hs, m, [], 0⟩ (nums us)).hs, (play ⟨hs, m, [], 0⟩ (nums us)).m, [], 0⟩ (nums vs)) ∧ Gr W w') := fun W xa ya xc yc G MM hc2 HH => Run_yes xc yc bc mn (T.grow G) MM hc2 HH (B.of G) (wrong_two H.ok hy)
  have HPT := play_two m hs us vs
  have F1 := few_nums hya H.ok
  have F2 := few_nums (wrong_two H.ok hy) (fun h hm => (F1.2.ok h hm).1)
  have HSA : Hid (∀ W : World, Gr w W → Src W (.slice aa an ac) an 2 (pC us)) := fun W G => ps_src (A.of G) hac
  have HSB : Hid (∀ W : World, Gr w W → Src W (.slice ba bn bc) bn 2 (pC vs)) := fun W G => ps_src (B.of G) hbc
  have HLN : Hid ((us ++ vs).length = an + bn) := by unfold Hid; rw [List.length_append, hal, hbl]
  have HPC : Hid (pC us ++ pC vs = pC (us ++ vs)) := (pC_app us vs).symm
  obtain ⟨i0, hi0, hz0, hz1, hz2⟩ := info_parts infoP
  obtain ⟨j0, hj0, jz0, jz1, jz2⟩ := info_parts infoW
  have ha3 : an ≤ 300 := by omega
  have hb3 : bn ≤ 300 := by omega
  have hn4 : hn ≤ 4 := by omega
  have hn1 : (0 : Int) < hn := by omega
  clear M H A B T hcap hac hbc hy hya b1 b2 b4 b5 hml hhl hal hbl
  generalize us ++ vs = qs at *
  generalize play ⟨hs, m, [], 0⟩ (nums us) = S at *
  generalize hTT : play ⟨S.hs, S.m, [], 0⟩ (nums vs) = U at *
  generalize play ⟨hs, m, [], 0⟩ (nums qs) = X at *
  clear hTT
  subst HPT
  have s1 : S.steps ≤ 120000 := F1.1.2
  have s2 : S.out.length ≤ 120000 := Nat.le_trans F1.1.1 F1.1.2
  have u1 : U.steps ≤ 120000 := F2.1.2
  have u2 : U.out.length ≤ 120000 := Nat.le_trans F2.1.1 F2.1.2
  clear F1 F2
  go_enter Tryd.func9, Tryd.ntmps9
  go_wp2_with fail
  refine (HR1.out _ ((Gr.refl _).alloc _)).mono ?_
  rintro e w1 ⟨v, rfl, ⟨s1, d1, s2, d2, s3, d3, rfl, hM1, hC1, hH1, hW1, hC3⟩, G1⟩
  have HM1 : Hid (Mem w1 s1 mn S.m) := hM1
  have HC1 : Hid (s1 = none → d1 = 0) := hC1
  have HH1 : Hid (Hs w1 s2 hn S.hs) := hH1
  have HW1 : Hid (Wm w1 s3 S.out.length S.out) := hW1
  have HC3 : Hid (s3 = none → d3 = 0) := hC3
  have HG1 : Hid (Gr w w1) := ((Gr.refl _).alloc _).trans G1
  have HB : Hid (w1.heap[w.heap.size]? = some (.cells #[.slice ma mn mc, .slice ha hn hc] 48 (0, 0))) := Hr.heap_of_gr G1 (heap_alloc_new w _)
  have hlt : w.heap.size < w1.heap.size := (Array.getElem?_eq_some_iff.1 HB.out).1
  have HSh : Hid (∀ X : Obj, Gr w1 ((w1.alloc X).alloc (.cells #[] 97))) := fun X => Gr.alloc (Gr.alloc (Gr.refl _) _) _
  clear G1 HR1 hM1 hC1 hH1 hW1 hC3
  go_wp2_with (first
    | (at_builtin; refine wpList_append_src (base := w1.heap.size) (n := 0) (m := an) rfl (.tmp 20) (.tmp 21) rfl Tryd.underlying49 hi0 hz0 hz1 hz2 rfl (by decide) rfl rfl (made2 w1 _ _ 2) (HSA.out _ (HG1.out.trans (HSh.out _))) (pC_one _) (by unfold maxLen; omega) (by omega) (by simp; omega) ?_; intro v2 w2 hown hgrow; have HO2 : Hid (w2.ownsRow w1.heap.size 97 2 v2 an (pC us)) := (by unfold Hid; rw [Nat.zero_add, List.nil_append] at hown; exact hown); have HG2 : Hid (Gr w1 w2) := (HSh.out _).grown hgrow (fun b e => by injection e with e; have e2 : w1.heap.size + 1 = b := e; omega); have HX2 : Hid (w2.heap[w1.heap.size]? = some (.cells #[.slice s1 mn d1, .slice s2 hn d2, .slice s3 S.out.length d3, .int .i64 S.steps] 53 (0, 0))) := (hgrow.block w1.heap.size (by simp; omega) (fun e => by injection e with e; have e2 : w1.heap.size = w1.heap.size + 1 := e; omega)).trans (heap_alloc2_old w1 _ _); obtain ⟨v2a, v2c, rfl⟩ := (owns_cells HO2.out).2.2; clear hown hgrow)
    | (at_builtin; refine wpList_append_src (base := w1.heap.size) (n := an) (m := bn) rfl (.tmp 22) (.tmp 23) rfl Tryd.underlying49 hi0 hz0 hz1 hz2 rfl (by decide) rfl rfl HO2.out (HSB.out _ (HG1.out.trans HG2.out)) (pC_one _) (by unfold maxLen; omega) (by omega) (by have := HG2.out.size; omega) ?_; intro v4 w4 hown hgrow; have hown2 := hown; rw [HPC.out] at hown2; obtain ⟨v4a, v4c, rfl, P4⟩ := Ps.own hown2 HLN.out; have HP4 : Hid (Ps w4 v4a (an + bn) qs) := P4; have HG4 : Hid (Gr w1 w4) := HG2.out.grown hgrow (fun b e => (HO2.out.lt b e).1); have HX4 : Hid (w4.heap[w1.heap.size]? = some (.cells #[.slice s1 mn d1, .slice s2 hn d2, .slice s3 S.out.length d3, .int .i64 S.steps] 53 (0, 0))) := (grown_keep HO2.out hgrow (by decide) HX2.out).trans HX2.out; have x0 : w4.cell? ⟨w.heap.size, 0, none⟩ = some (.slice ma mn mc) := cell_of_row _ _ _ _ _ _ (Hr.heap_of_gr HG4.out HB.out); have x1 : w4.cell? ⟨w.heap.size, 1, none⟩ = some (.slice ha hn hc) := cell_of_row _ _ _ _ _ _ (Hr.heap_of_gr HG4.out HB.out); clear hown hown2 hgrow P4 HO2 HX2))
  refine (HR2.out _ _ _ (HG1.out.trans HG4.out) HP4.out).mono ?_
  rintro e w5 ⟨vx, rfl, SX, G5⟩
  have HSX : Hid (Shn w5 vx hn mn (Mc.ahead S.out S.steps U)) := SX
  obtain ⟨y1, q1, y2, q2, y3, q3, rfl, _⟩ := SX
  have HG5 : Hid (Gr w1 w5) := HG4.out.trans G5
  have HX5 : Hid (w5.heap[w1.heap.size]? = some (.cells #[.slice s1 mn d1, .slice s2 hn d2, .slice s3 S.out.length d3, .int .i64 S.steps] 53 (0, 0))) := Hr.heap_of_gr G5 HX4.out
  have z0 : w5.cell? ⟨w1.heap.size, 0, none⟩ = some (.slice s1 mn d1) := cell_of_row _ _ _ _ _ _ HX5.out
  have z1 : w5.cell? ⟨w1.heap.size, 1, none⟩ = some (.slice s2 hn d2) := cell_of_row _ _ _ _ _ _ HX5.out
  have hlt5 : w1.heap.size < w5.heap.size := (Array.getElem?_eq_some_iff.1 HX5.out).1
  clear G5 HR2 x0 x1 HX4 HG4 HP4
  go_wp2_with fail
  refine (HR3.out _ _ _ _ _ (HG1.out.trans (HG5.out.alloc _)) (HM1.out.of (HG5.out.alloc _)) HC1.out (HH1.out.of (HG5.out.alloc _))).mono ?_
  rintro e w6 ⟨vt, rfl, ⟨t1, f1, t2, f2, t3, f3, rfl, hM6, hC6, hH6, hW6, hC7⟩, G6⟩
  have HM6 : Hid (Mem w6 t1 mn U.m) := hM6
  have HC6 : Hid (t1 = none → f1 = 0) := hC6
  have HH6 : Hid (Hs w6 t2 hn U.hs) := hH6
  have HW6 : Hid (Wm w6 t3 U.out.length U.out) := hW6
  have HC7 : Hid (t3 = none → f3 = 0) := hC7
  have HG6 : Hid (Gr w1 w6) := (HG5.out.alloc _).trans G6
  have HX6 : Hid (w6.heap[w1.heap.size]? = some (.cells #[.slice s1 mn d1, .slice s2 hn d2, .slice s3 S.out.length d3, .int .i64 S.steps] 53 (0, 0))) := Hr.heap_of_gr (((Gr.refl _).alloc _).trans G6) HX5.out
  have HY6 : Hid (w6.heap[w5.heap.size]? = some (.cells #[.slice y1 mn q1, .slice y2 hn q2, .slice y3 (Mc.ahead S.out S.steps U).out.length q3, .int .i64 (Mc.ahead S.out S.steps U).steps] 53 (0, 0))) := Hr.heap_of_gr G6 (heap_alloc_new w5 _)
  have HSX6 : Hid (Shn w6 (.agg #[.slice y1 mn q1, .slice y2 hn q2, .slice y3 (Mc.ahead S.out S.steps U).out.length q3, .int .i64 (Mc.ahead S.out S.steps U).steps]) hn mn (Mc.ahead S.out S.steps U)) := HSX.out.of (((Gr.refl _).alloc _).trans G6)
  have z2 : w6.cell? ⟨w1.heap.size, 2, none⟩ = some (.slice s3 S.out.length d3) := cell_of_row _ _ _ _ _ _ HX6.out
  have z3 : w6.cell? ⟨w1.heap.size, 3, none⟩ = some (.int .i64 S.steps) := cell_of_row _ _ _ _ _ _ HX6.out
  have hlt6 : w1.heap.size < w6.heap.size := (Array.getElem?_eq_some_iff.1 HX6.out).1
  clear G6 HR3 hM6 hC6 hH6 hW6 hC7 z0 z1 HX5 HSX HM1 HC1 HH1
  go_wp2_with fail
  have G7 : Gr w6 (w6.alloc (.cells #[.slice t1 mn f1, .slice t2 hn f2, .slice t3 U.out.length f3, .int .i64 (S.steps + U.steps)] 53)) := (Gr.refl _).alloc _
  have X7 := heap_alloc_new w6 (.cells #[.slice t1 mn f1, .slice t2 hn f2, .slice t3 U.out.length f3, .int .i64 (S.steps + U.steps)] 53)
  generalize w6.alloc (.cells #[.slice t1 mn f1, .slice t2 hn f2, .slice t3 U.out.length f3, .int .i64 (S.steps + U.steps)] 53) = w7 at *
  have HG7 : Hid (Gr w6 w7) := G7
  have HX7 : Hid (w7.heap[w6.heap.size]? = some (.cells #[.slice t1 mn f1, .slice t2 hn f2, .slice t3 U.out.length f3, .int .i64 (S.steps + U.steps)] 53 (0, 0))) := X7
  have k2 : w7.cell? ⟨w1.heap.size, 2, none⟩ = some (.slice s3 S.out.length d3) := (G7.cell _ (by exact hlt6)).trans z2
  have k5 : w7.cell? ⟨w6.heap.size, 2, none⟩ = some (.slice t3 U.out.length f3) := cell_of_row _ _ _ _ _ _ X7
  have hlt7 : w6.heap.size < w7.heap.size := (Array.getElem?_eq_some_iff.1 X7).1
  have hlt8 : w1.heap.size < w7.heap.size := by omega
  clear G7 X7 z2 z3 HX6
  go_region_law (first
    | (refine step_append_src (base := w7.heap.size) (n := 0) (m := S.out.length) rfl (.tmp 58) (.tmp 60) rfl Tryd.underlying37 hj0 jz0 jz1 jz2 rfl (by decide) (by simp [Act.eval, Act.put]) (by simp [Act.eval, Act.put]) (owns_gr (World.ownsRow_made w7 #[] 0 (Nat.le_refl _) (by decide) rfl) (by repeat (first | exact Gr.refl _ | refine Gr.drew ?_))) (wm_src (HW1.out.of (HG6.out.trans (HG7.out.trans (by repeat (first | exact Gr.refl _ | refine Gr.drew ?_ | refine Gr.alloc ?_ _))))) HC3.out) (words_one _) (by unfold maxLen; omega) (by omega) (by simp) ?_; intro v8 w8 hown hgrow; have HO8 : Hid (w8.ownsRow w7.heap.size 22 1 v8 S.out.length (S.out.map (Value.int .u32))) := (by unfold Hid; rw [Nat.zero_add, List.nil_append] at hown; exact hown); have HG8 : Hid (Gr w7 w8) := Gr.grown (by repeat (first | exact Gr.refl _ | refine Gr.drew ?_ | refine Gr.alloc ?_ _)) hgrow (fun b e => by injection e with e; have e2 : w7.heap.size = b := e; omega); obtain ⟨v8a, v8c, rfl⟩ := (owns_cells HO8.out).2.2; have k8 : w8.cell? ⟨w6.heap.size, 2, none⟩ = some (.slice t3 U.out.length f3) := (HG8.out.cell _ (by exact hlt7)).trans k5; clear hown hgrow)
    | (refine step_append_src (base := w7.heap.size) (n := S.out.length) (m := U.out.length) rfl (.tmp 61) (.tmp 63) rfl Tryd.underlying37 hj0 jz0 jz1 jz2 rfl (by decide) (by simp [Act.eval, Act.put]) (by simp [Act.eval, Act.put]) (owns_gr HO8.out (by repeat (first | exact Gr.refl _ | refine Gr.drew ?_))) (wm_src (HW6.out.of (HG7.out.trans (HG8.out.trans (by repeat (first | exact Gr.refl _ | refine Gr.drew ?_))))) HC7.out) (words_one _) (by unfold maxLen; omega) (by omega) (by have := HG8.out.size; simp; omega) ?_; intro v9 w9 hown hgrow; have HO9 : Hid (w9.ownsRow w7.heap.size 22 1 v9 (S.out.length + U.out.length) ((S.out ++ U.out).map (Value.int .u32))) := (by unfold Hid; rw [List.map_append]; exact hown); have HG9 : Hid (Gr w7 w9) := Gr.grown (by repeat (first | exact HG8.out | refine Gr.drew ?_)) hgrow (fun b e => (HO8.out.lt b e).1); obtain ⟨v9a, v9c, rfl⟩ := (owns_cells HO9.out).2.2; have k9 : w9.cell? ⟨w6.heap.size, 2, none⟩ = some (.slice t3 U.out.length f3) := (HG9.out.cell _ (by exact hlt7)).trans k5; have f9 : w9.frozen? ⟨w6.heap.size, 2, none⟩ = false := frozen_of_row _ _ _ _ _ (Hr.heap_of_gr HG9.out HX7.out); clear hown hgrow))
  all_goals
    have hb9 := Hr.heap_of_gr HG9.out HX7.out
    have GA : Gr w6 (w9.setCell ⟨w6.heap.size, 2, none⟩ (.slice v9a (S.out.length + U.out.length) v9c)) := (HG7.out.trans HG9.out).setCell (Nat.le_refl _) _
    have ne : ∀ (t k : Nat) (q : Array Value) (f : Nat × Nat), t ≠ 53 → w9.heap[k]? = some (.cells q t f) → (w9.setCell ⟨w6.heap.size, 2, none⟩ (.slice v9a (S.out.length + U.out.length) v9c)).heap[k]? = w9.heap[k]? := fun t k q f ht hk => heap_setCell_other _ _ _ _ (by exact ne_of_types hk hb9 ht)
    have OA := owns_to HO9.out (fun k q f hk => ne _ k q f (by decide) hk)
    have XA : (w9.setCell ⟨w6.heap.size, 2, none⟩ (.slice v9a (S.out.length + U.out.length) v9c)).heap[w6.heap.size]? = some (.cells #[.slice t1 mn f1, .slice t2 hn f2, .slice v9a (S.out.length + U.out.length) v9c, .int .i64 (S.steps + U.steps)] 53 (0, 0)) := by rw [heap_setCell_same _ _ _ _ _ _ hb9]; rfl
    have YA : (w9.setCell ⟨w6.heap.size, 2, none⟩ (.slice v9a (S.out.length + U.out.length) v9c)).heap[w5.heap.size]? = some (.cells #[.slice y1 mn q1, .slice y2 hn q2, .slice y3 (Mc.ahead S.out S.steps U).out.length q3, .int .i64 (Mc.ahead S.out S.steps U).steps] 53 (0, 0)) := Hr.heap_of_gr GA HY6.out
    clear ne hb9
    generalize w9.setCell ⟨w6.heap.size, 2, none⟩ (.slice v9a (S.out.length + U.out.length) v9c) = wa at *
    have HGA : Hid (Gr w wa) := HG1.out.trans (HG6.out.trans GA)
    have HSXA : Hid (Shn wa (.agg #[.slice y1 mn q1, .slice y2 hn q2, .slice y3 (Mc.ahead S.out S.steps U).out.length q3, .int .i64 (Mc.ahead S.out S.steps U).steps]) hn mn (Mc.ahead S.out S.steps U)) := HSX6.out.of GA
    have HSTA : Hid (Shn wa (.agg #[.slice t1 mn f1, .slice t2 hn f2, .slice v9a (S.out.length + U.out.length) v9c, .int .i64 (S.steps + U.steps)]) hn mn (Mc.ahead S.out S.steps U)) := by
      obtain ⟨_, _, ew, WO⟩ := wm_own (os := S.out ++ U.out) (by rw [List.length_append]) OA
      injection ew with e1 e2 e3
      subst e1
      have el : (Mc.ahead S.out S.steps U).out.length = S.out.length + U.out.length := by unfold Mc.ahead; rw [List.length_append]
      refine ⟨t1, f1, t2, f2, v9a, v9c, ?_, HM6.out.of GA, HC6.out, HH6.out.of GA, ?_, owns_cap OA⟩
      · rw [el]
        have : ((Mc.ahead S.out S.steps U).steps : Int) = (S.steps : Int) + U.steps := by show ((S.steps + U.steps : Nat) : Int) = _; omega
        rw [this]
      · rw [el]; exact WO
    have HFO : Hid ((Mc.ahead S.out S.steps U).out.length ≤ 1000000) := by unfold Hid; show (S.out ++ U.out).length ≤ _; rw [List.length_append]; omega
    have p0 : wa.cell? ⟨w6.heap.size, 0, none⟩ = some (.slice t1 mn f1) := cell_of_row _ _ _ _ _ _ XA
    have p1 : wa.cell? ⟨w6.heap.size, 1, none⟩ = some (.slice t2 hn f2) := cell_of_row _ _ _ _ _ _ XA
    have p2 : wa.cell? ⟨w6.heap.size, 2, none⟩ = some (.slice v9a (S.out.length + U.out.length) v9c) := cell_of_row _ _ _ _ _ _ XA
    have p3 : wa.cell? ⟨w6.heap.size, 3, none⟩ = some (.int .i64 (S.steps + U.steps)) := cell_of_row _ _ _ _ _ _ XA
    have r0 : wa.cell? ⟨w5.heap.size, 0, none⟩ = some (.slice y1 mn q1) := cell_of_row _ _ _ _ _ _ YA
    have r1 : wa.cell? ⟨w5.heap.size, 1, none⟩ = some (.slice y2 hn q2) := cell_of_row _ _ _ _ _ _ YA
    have r2 : wa.cell? ⟨w5.heap.size, 2, none⟩ = some (.slice y3 (Mc.ahead S.out S.steps U).out.length q3) := cell_of_row _ _ _ _ _ _ YA
    have r3 : wa.cell? ⟨w5.heap.size, 3, none⟩ = some (.int .i64 (Mc.ahead S.out S.steps U).steps) := cell_of_row _ _ _ _ _ _ YA
    have HYA : Hid (wa.heap[w5.heap.size]? = some (.cells #[.slice y1 mn q1, .slice y2 hn q2, .slice y3 (Mc.ahead S.out S.steps U).out.length q3, .int .i64 (Mc.ahead S.out S.steps U).steps] 53 (0, 0))) := YA
    clear GA OA XA YA HO9 HG9 HO8 HG8 k8 k9 f9 k2 k5 HX7 HG7 HSX6 HY6 HM6 HC6 HH6 HW6 HC7
    generalize Mc.ahead S.out S.steps U = X at *
    go_wp2_with fail
    refine (Same_any HSXA.out HSTA.out HFO.out hn4).mono ?_
    rintro e wb ⟨rfl, GB⟩
    have HGB : Hid (Gr w wb) := HGA.out.trans GB
    have r4 : wb.cell? ⟨w5.heap.size, 1, none⟩ = some (.slice y2 hn q2) := cell_of_row _ _ _ _ _ _ (Hr.heap_of_gr GB HYA.out)
    clear GB p0 p1 p2 p3 r0 r1 r2 r3 HYA HSXA HSTA HGA
    go_wp2_with fail
    go_ret
    exact ⟨Mc.ret_bool (decide_eq_true (by omega)), HGB.out⟩
end Go.Proofs.YtfolphjampklpaaDoor.machineSplits
