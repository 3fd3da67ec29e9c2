/-
  The walk of the law MachineTurns: of every machine, script, place and cut it answers true.
-/
import Derived.Test.YtfolphjampklpabDoorMk
namespace Go.Proofs.YtfolphjampklpabDoor.machineTurns
open Go.ChangeShapes Go.WideShapes Go.ChangeAt Go.RowKit Mm Hh Hc Mc
set_option linter.unusedVariables false
set_option linter.unusedSimpArgs false

set_option maxHeartbeats 2000000 in
set_option maxRecDepth 100000 in
theorem walk_no {ma ha pa : Option Addr} {hn pn : Nat} (mc hc pc : Nat) {m : List UInt8} {hs : List Hv} {ps : List (Int × Int)} {w : World} (mn : Nat) (hmn : m.length = mn) (H : Hs w ha hn hs) (P : Ps w pa pn ps) (b1 : mn ≤ 140737488351232) (b2 : hn ≤ 140737488351232) (b3 : pn ≤ 140737488351232) (hno : ¬ wrong m hs ps = 0) (a c : Int) :
    Calls Tryd.prog 3 #[.agg #[.slice ma mn mc, .slice ha hn hc], .slice pa pn pc, .int .u8 a, .int .u16 c] w fun e w' => e = .returned (.bool true) ∧ Gr w w' := by
  have HR : Hid (∀ W : World, Gr w W → Calls Tryd.prog 5 #[.agg #[.slice ma mn mc, .slice ha hn hc], .slice pa pn pc] W fun e w' => e = .returned (.tuple #[.agg #[.slice none 0 0, .slice none 0 0, .slice none 0 0, .int .i64 0], .int .i64 (wrong m hs ps)]) ∧ Gr W w') := fun W G => Run_no mc hc pc mn hmn (H.of G) (P.of G) b1 b2 b3 hno
  clear H P hmn
  generalize wrong m hs ps = E at *
  have hE : (E != 0) = true := by simpa using hno
  clear hno
  go_enter Tryd.func3, Tryd.ntmps3
  go_wp2_with fail
  refine (HR.out _ ((Gr.refl _).alloc _)).mono ?_
  rintro e w1 ⟨rfl, G1⟩
  have HG1 : Hid (Gr w w1) := ((Gr.refl _).alloc _).trans G1
  clear G1 HR
  go_wp2_with fail
  go_ret
  exact ⟨rfl, HG1.out.alloc _⟩

set_option maxHeartbeats 2000000 in
set_option maxRecDepth 100000 in
theorem walk_short {ma ha pa : Option Addr} {hn pn : Nat} (mc hc pc : Nat) {m : List UInt8} {hs : List Hv} {ps : List (Int × Int)} {w : World} (mn : Nat) (T : TT w w.heap.size) (M : Mem w ma mn m) (hcap : ma = none → mc = 0) (H : Hs w ha hn hs) (P : Ps w pa pn ps) (hy : wrong m hs ps = 0) (hp : pn = 0 ∨ 300 ≤ pn) (a c : Int) :
    Calls Tryd.prog 3 #[.agg #[.slice ma mn mc, .slice ha hn hc], .slice pa pn pc, .int .u8 a, .int .u16 c] w fun e w' => e = .returned (.bool true) ∧ Gr w w' := by
  have HR : Hid (∀ W : World, Gr w W → Calls Tryd.prog 5 #[.agg #[.slice ma mn mc, .slice ha hn hc], .slice pa pn pc] W fun e w' => ∃ v, e = .returned (.tuple #[v, .int .i64 0]) ∧ Shn w' v hn mn (play ⟨hs, m, [], 0⟩ (nums ps)) ∧ Gr W w') := fun W G => Run_yes mc hc pc mn (T.grow G) (M.of G) hcap (H.of G) (P.of G) hy
  obtain ⟨b1, b2, b4, _, b3, _⟩ := wrong_ok hy
  have hl := H.len
  have hpl := P.len
  have h1 : (hn : Int) ≠ 0 := by omega
  have hne : ((hn : Int) != (hn : Int)) = false := by simp
  have c4 : hn ≤ 4 := by omega
  have p4 : pn ≤ 300 := by omega
  have hn1 : 1 ≤ hn := by omega
  clear H P M T hy hcap hl hpl b1 b2 b4 b3
  go_enter Tryd.func3, Tryd.ntmps3
  go_wp2_with fail
  refine (HR.out _ ((Gr.refl _).alloc _)).mono ?_
  rintro e w1 ⟨v, rfl, S1, G1⟩
  obtain ⟨a1, c1, a2, c2, a3, c3, rfl, _⟩ := S1
  have HG1 : Hid (Gr w w1) := ((Gr.refl _).alloc _).trans G1
  have HB : Hid (w1.heap[w.heap.size]? = some (.cells #[.slice ma mn mc, .slice ha hn hc] 25 (0, 0))) := Hr.heap_of_gr G1 (heap_alloc_new w _)
  have k1 : w1.cell? ⟨w.heap.size, 1, none⟩ = some (.slice ha hn hc) := cell_of_row _ _ _ _ _ _ HB.out
  have hlt : w.heap.size < w1.heap.size := (Array.getElem?_eq_some_iff.1 HB.out).1
  clear G1 HR
  rcases hp with rfl | hp
  · go_wp2_with fail
    go_ret
    exact ⟨rfl, HG1.out.alloc _⟩
  · have hp0 : ¬ (pn : Int) = 0 := by omega
    go_wp2_with fail
    go_ret
    exact ⟨rfl, HG1.out.alloc _⟩

theorem heap3m (w : World) (a : Obj) (A : Array Value) (t : Nat) (c : Obj) : (((w.alloc a).alloc (.cells A t)).alloc c).heap[w.heap.size + 1]? = some (.cells A t (0, 0)) := Hr.heap_of_gr (Gr.alloc (Gr.refl _) _) (heap_alloc2_new w _ _)
theorem heap3o (w : World) (A : Array Value) (t : Nat) (b c : Obj) : (((w.alloc (.cells A t)).alloc b).alloc c).heap[w.heap.size]? = some (.cells A t (0, 0)) := Hr.heap_of_gr (Gr.alloc (Gr.refl _) _) (heap_alloc2_old w _ _)
theorem made3 (w : World) (a b : Obj) (e sz : Nat) : (((w.alloc a).alloc b).alloc (.cells #[] e)).ownsRow w.heap.size e sz (.slice (some ⟨w.heap.size + 1 + 1, 0, none⟩) 0 0) 0 [] := by
  have h := heap_alloc_new ((w.alloc a).alloc b) (.cells #[] e)
  have q : ((w.alloc a).alloc b).heap.size = w.heap.size + 1 + 1 := by simp
  rw [q] at h
  exact ⟨by simp, .inr ⟨_, 0, #[], rfl, by omega, h, Nat.le_refl _, Nat.zero_le _, by simp, by simp⟩⟩
set_option maxHeartbeats 4000000 in
set_option maxRecDepth 100000 in
theorem walk_yes {ma ha : Option Addr} {b' o' hn pn : Nat} (mc hc pc : Nat) {m : List UInt8} {hs : List Hv} {ps : List (Int × Int)} {w : World} (mn : Nat) (T : TT w w.heap.size) (M : Mem w ma mn m) (hcap : ma = none → mc = 0) (H : Hs w ha hn hs) (P : Ps w (some ⟨b', o', none⟩) pn ps) (hpc : pn ≤ pc) (hpm : pc ≤ maxLen) (hy : wrong m hs ps = 0) (hp0 : 0 < pn) (hp3 : pn < 300) {a c : Int} (a0 : 0 ≤ a) (a1 : a ≤ 255) (c0 : 0 ≤ c) (c1 : c ≤ 65535) :
    Calls Tryd.prog 3 #[.agg #[.slice ma mn mc, .slice ha hn hc], .slice (some ⟨b', o', none⟩) pn pc, .int .u8 a, .int .u16 c] w fun e w' => e = .returned (.bool true) ∧ Gr w w' := by
  have HR : Hid (∀ W : World, Gr w W → Calls Tryd.prog 5 #[.agg #[.slice ma mn mc, .slice ha hn hc], .slice (some ⟨b', o', none⟩) pn pc] W fun e w' => ∃ v, e = .returned (.tuple #[v, .int .i64 0]) ∧ Shn w' v hn mn (play ⟨hs, m, [], 0⟩ (nums ps)) ∧ Gr W w') := fun W G => Run_yes mc hc pc mn (T.grow G) (M.of G) hcap (H.of G) (P.of G) hy
  obtain ⟨b1, b2, b4, _, b3, hpk⟩ := wrong_ok hy
  have hl := H.len
  have hpl := P.len
  have hml := M.len
  obtain ⟨k, hk⟩ : ∃ k : Nat, a % (pn : Int) = k := ⟨(a % (pn : Int)).toNat, by have := Int.emod_nonneg a (show (pn : Int) ≠ 0 by omega); omega⟩
  have hkp : k < pn := by have := Int.emod_lt_of_pos a (show (0 : Int) < pn by omega); omega
  obtain ⟨p, hp⟩ : ∃ p, ps[k]? = some p := ⟨_, List.getElem?_eq_getElem (by omega)⟩
  obtain ⟨p0, p1, p2, p3⟩ := hpk p (List.mem_of_getElem? hp)
  obtain ⟨b'', o'', e, hbw, hcell⟩ := P.spot hp0
  obtain ⟨rfl, rfl⟩ : b' = b'' ∧ o' = o'' := by injection e with e; injection e with e1 e2; exact ⟨e1, e2⟩
  obtain ⟨q0, q1⟩ := hcell k p hp
  obtain ⟨st, hst⟩ := Int.eq_ofNat_of_zero_le p2
  obtain ⟨n, hn0⟩ : ∃ n : Nat, c % ((st : Int) + 1) = n := ⟨(c % ((st : Int) + 1)).toNat, by have := Int.emod_nonneg c (show ((st : Int) + 1) ≠ 0 by omega); omega⟩
  have hns : n ≤ st := by have := Int.emod_lt_of_pos c (show (0 : Int) < (st : Int) + 1 by omega); omega
  have hs2 : p.2 = (n + (st - n) : Nat) := by rw [hst]; omega
  have hsub : ((st - n : Nat) : Int) = (st : Int) - n := by omega
  have HC2 : Hid (pC (ps.take k) ++ [.int .i64 p.1, .int .i64 (c % ((st : Int) + 1)), .int .i64 p.1, .int .i64 ((st : Int) - c % ((st : Int) + 1))] ++ pC (ps.drop (k + 1)) = pC (cut2 ps k p.1 n (st - n : Nat))) := by
    unfold Hid cut2
    rw [pC_app, pC_app, hsub, hn0]
    rfl
  have HWR : Hid (wrong m hs (cut2 ps k p.1 n (st - n : Nat)) = 0) := cut2_wrong hy (by omega) hp hs2
  have HPL : Hid (play ⟨hs, m, [], 0⟩ (nums (cut2 ps k p.1 n (st - n : Nat))) = play ⟨hs, m, [], 0⟩ (nums ps)) := cut2_play hp hs2 _
  have HLN : Hid ((cut2 ps k p.1 n (st - n : Nat)).length = pn + 1) := by unfold Hid; rw [cut2_len (by omega), hpl]
  have HR2 : Hid (∀ (W : World) (ao : Option Addr) (cap : Nat), Gr w W → Ps W ao (pn + 1) (cut2 ps k p.1 n (st - n : Nat)) → Calls Tryd.prog 5 #[.agg #[.slice ma mn mc, .slice ha hn hc], .slice ao (pn + 1) cap] W fun e w' => ∃ v, e = .returned (.tuple #[v, .int .i64 0]) ∧ Shn w' v hn mn (play ⟨hs, m, [], 0⟩ (nums ps)) ∧ Gr W w') := fun W ao cap G P2 => by
    have := Run_yes mc hc cap mn (T.grow G) (M.of G) hcap (H.of G) P2 HWR.out
    rw [HPL.out] at this
    exact this
  have HFew := (few_nums hy H.ok).1
  have HFO : Hid ((play ⟨hs, m, [], 0⟩ (nums ps)).out.length ≤ 1000000) := by have := HFew.1; have := HFew.2; unfold Hid; omega
  have HSR1 : Hid (∀ (W : World) (c : Nat), Gr w W → Src W (.slice (some ⟨b', o', none⟩) k c) k 2 (pC (ps.take k))) := fun W c G => by
    have := (P.of G).src 0 k c (by omega)
    rwa [Nat.zero_mul, Nat.add_zero, List.drop_zero] at this
  have HSR3 : Hid (∀ (W : World) (c : Nat), Gr w W → Src W (.slice (if pc = k + 1 then some ⟨b', o', none⟩ else some ⟨b', o' + (k + 1) * 2, none⟩) (pn - (k + 1)) c) (pn - (k + 1)) 2 (pC (ps.drop (k + 1)))) := fun W c G => by
    by_cases e : pc = k + 1
    · rw [if_pos e, show pn - (k + 1) = 0 by omega, List.drop_eq_nil_of_le (by omega)]
      exact .inr ⟨_, c, rfl, rfl, fun j u hj => by simp [pC] at hj⟩
    · rw [if_neg e]
      have := (P.of G).src (k + 1) (pn - (k + 1)) c (by omega)
      rwa [List.take_of_length_le (by rw [List.length_drop]; omega)] at this
  have HTL : Hid ((ps.take k).length = k) := by unfold Hid; rw [List.length_take]; omega
  have h1 : ((hn : Int) == 0) = false := by simp; omega
  have hne : ((hn : Int) != (hn : Int)) = false := by simp
  have hpn0 : ((pn : Int) == 0) = false := by simp; omega
  have hpn1 : ¬ (pn : Int) = 0 := by omega
  have c4 : hn ≤ 4 := by omega
  have st4 : st ≤ 400 := by omega
  rw [hst] at q1
  have cc0 : 0 ≤ c % ((st : Int) + 1) := by omega
  have cc1 : c % ((st : Int) + 1) ≤ st := by omega
  clear hn0
  clear H P M T hy hcap hl hpl hml b1 b2 b4 b3 hpk hp hcell p2 p3 hst hs2 hsub HFew e
  unfold maxLen at hpm
  obtain ⟨ph, pst⟩ := p
  simp only at *
  generalize play ⟨hs, m, [], 0⟩ (nums ps) = S at *
  generalize cut2 ps k ph n (st - n : Nat) = qs at *
  obtain ⟨i0, hi0, hz0, hz1, hz2⟩ := info_parts infoP
  go_enter Tryd.func3, Tryd.ntmps3
  go_wp2_with fail
  refine (HR.out _ ((Gr.refl _).alloc _)).mono ?_
  rintro e w1 ⟨v, rfl, S1, G1⟩
  have HS1 : Hid (Shn w1 v hn mn S) := S1
  obtain ⟨s1, d1, s2, d2, s3, d3, rfl, _⟩ := S1
  have HG1 : Hid (Gr w w1) := ((Gr.refl _).alloc _).trans G1
  have HB : Hid (w1.heap[w.heap.size]? = some (.cells #[.slice ma mn mc, .slice ha hn hc] 25 (0, 0))) := Hr.heap_of_gr G1 (heap_alloc_new w _)
  have k1 : w1.cell? ⟨w.heap.size, 1, none⟩ = some (.slice ha hn hc) := cell_of_row _ _ _ _ _ _ HB.out
  have hlt : w.heap.size < w1.heap.size := (Array.getElem?_eq_some_iff.1 HB.out).1
  have r0 : w1.cell? ⟨b', o' + k * 2, none⟩ = some (.int .i64 ph) := (HG1.out.cell _ (by exact hbw)).trans q0
  have r1 : w1.cell? ⟨b', o' + k * 2 + 1, none⟩ = some (.int .i64 st) := (HG1.out.cell _ (by exact hbw)).trans q1
  have hbw1 : b' < w1.heap.size := Nat.lt_of_lt_of_le hbw HG1.out.size
  clear G1 HR q0 q1
  have HSh : Hid (∀ (X : Array Value) (Y : Obj), Gr w1 (((w1.alloc (.cells X 30)).alloc Y).alloc (.cells #[] 35))) := fun X Y => Gr.alloc (Gr.alloc (Gr.alloc (Gr.refl _) _) _) _
  have hg0 : w1.heap.size + 1 < w1.heap.size + 1 + 1 := by omega
  go_wp2_with (first
    | (at_builtin; refine wpList_append_src (base := w1.heap.size) rfl (.tmp 72) (.tmp 75) rfl Tryd.underlying26 hi0 hz0 hz1 hz2 rfl (by decide) rfl rfl (made3 w1 _ _ _ 2) (HSR1.out _ pc (HG1.out.trans (HSh.out _ _))) (pC_one _) (by unfold maxLen; omega) (by omega) (by simp; omega) ?_; intro v2 w2 hown hgrow; have HO2 : Hid (w2.ownsRow w1.heap.size 35 2 v2 k (pC (ps.take k))) := (by unfold Hid; rw [Nat.zero_add, List.nil_append] at hown; exact hown); have HG2 : Hid (Gr w1 w2) := (HSh.out _ _).grown hgrow (fun b e => by injection e with e; have e2 : w1.heap.size + 1 + 1 = b := e; omega); have HP2 : Hid (w2.heap[w1.heap.size + 1]? = some (.cells #[.int .i64 ph, .int .i64 st] 35 (0, 0))) := (hgrow.block (w1.heap.size + 1) (by simp) (fun e => by injection e with e; have e2 : w1.heap.size + 1 = w1.heap.size + 1 + 1 := e; omega)).trans (heap3m w1 _ _ _ _); have HS2 : Hid (w2.heap[w1.heap.size]? = some (.cells #[.slice s1 mn d1, .slice s2 hn d2, .slice s3 S.out.length d3, .int .i64 S.steps] 30 (0, 0))) := (hgrow.block w1.heap.size (by simp; omega) (fun e => by injection e with e; have e2 : w1.heap.size = w1.heap.size + 1 + 1 := e; omega)).trans (heap3o w1 _ _ _ _); obtain ⟨v2a, v2c, rfl⟩ := (owns_cells HO2.out).2.2; have y0 : w2.cell? ⟨w1.heap.size + 1, 0, none⟩ = some (.int .i64 ph) := cell_of_row _ _ _ _ _ _ HP2.out; have y1 : w2.cell? ⟨w1.heap.size + 1, 1, none⟩ = some (.int .i64 st) := cell_of_row _ _ _ _ _ _ HP2.out; clear hown hgrow)
    | (at_builtin; refine wpList_append_src (base := w1.heap.size) (n := k) (m := 2) rfl (.tmp 77) (.tmp 89) rfl Tryd.underlying26 hi0 hz0 hz1 hz2 rfl (by decide) rfl rfl (owns_gr HO2.out ((Gr.refl _).alloc _)) (src_lit w2 [.int .i64 ph, .int .i64 (c % ((st : Int) + 1)), .int .i64 ph, .int .i64 ((st : Int) - c % ((st : Int) + 1))] 35 2 2 2 rfl) (pC_one [(ph, c % ((st : Int) + 1)), (ph, (st : Int) - c % ((st : Int) + 1))]) (by unfold maxLen; omega) (by omega) (by have := HG2.out.size; simp; omega) ?_; intro v3 w3 hown hgrow; have HO3 : Hid (w3.ownsRow w1.heap.size 35 2 v3 (k + 2) (pC (ps.take k) ++ [.int .i64 ph, .int .i64 (c % ((st : Int) + 1)), .int .i64 ph, .int .i64 ((st : Int) - c % ((st : Int) + 1))])) := hown; have HG3 : Hid (Gr w1 w3) := (HG2.out.alloc _).grown hgrow (fun b e => (HO2.out.lt b e).1); have HS3 : Hid (w3.heap[w1.heap.size]? = some (.cells #[.slice s1 mn d1, .slice s2 hn d2, .slice s3 S.out.length d3, .int .i64 S.steps] 30 (0, 0))) := (grown_keep (owns_gr HO2.out ((Gr.refl _).alloc _)) hgrow (by decide) (Hr.heap_of_gr ((Gr.refl _).alloc _) HS2.out)).trans (Hr.heap_of_gr ((Gr.refl _).alloc _) HS2.out); obtain ⟨v3a, v3c, rfl⟩ := (owns_cells HO3.out).2.2; clear hown hgrow y0 y1 HS2 HP2)
    | (at_builtin; refine wpList_append_src (base := w1.heap.size) (n := k + 2) (m := pn - (k + 1)) rfl (.tmp 91) (.tmp 95) rfl Tryd.underlying26 hi0 hz0 hz1 hz2 rfl (by decide) rfl rfl HO3.out (HSR3.out _ _ (HG1.out.trans HG3.out)) (pC_one _) (by unfold maxLen; omega) (by omega) (by have := HG3.out.size; omega) ?_; intro v4 w4 hown hgrow; have hown2 := hown; rw [HC2.out, show k + 2 + (pn - (k + 1)) = pn + 1 by omega] at hown2; obtain ⟨v4a, v4c, rfl, P4⟩ := Ps.own hown2 HLN.out; have HP4 : Hid (Ps w4 v4a (pn + 1) qs) := P4; have HG4 : Hid (Gr w1 w4) := HG3.out.grown hgrow (fun b e => (HO3.out.lt b e).1); have HS4 : Hid (w4.heap[w1.heap.size]? = some (.cells #[.slice s1 mn d1, .slice s2 hn d2, .slice s3 S.out.length d3, .int .i64 S.steps] 30 (0, 0))) := (grown_keep HO3.out hgrow (by decide) HS3.out).trans HS3.out; have x0 : w4.cell? ⟨w.heap.size, 0, none⟩ = some (.slice ma mn mc) := cell_of_row _ _ _ _ _ _ (Hr.heap_of_gr HG4.out HB.out); have x1 : w4.cell? ⟨w.heap.size, 1, none⟩ = some (.slice ha hn hc) := cell_of_row _ _ _ _ _ _ (Hr.heap_of_gr HG4.out HB.out); clear hown hown2 hgrow P4 HS3 HO3 HO2))
  all_goals
    refine (HR2.out _ _ _ (HG1.out.trans HG4.out) HP4.out).mono ?_
    rintro e w5 ⟨v, rfl, S5, G5⟩
    have HS5 : Hid (Shn w5 v hn mn S) := S5
    obtain ⟨t1, f1, t2, f2, t3, f3, rfl, _⟩ := S5
    have HG5 : Hid (Gr w1 w5) := HG4.out.trans G5
    have HSw : Hid (w5.heap[w1.heap.size]? = some (.cells #[.slice s1 mn d1, .slice s2 hn d2, .slice s3 S.out.length d3, .int .i64 S.steps] 30 (0, 0))) := Hr.heap_of_gr G5 HS4.out
    have z0 : w5.cell? ⟨w1.heap.size, 0, none⟩ = some (.slice s1 mn d1) := cell_of_row _ _ _ _ _ _ HSw.out
    have z1 : w5.cell? ⟨w1.heap.size, 1, none⟩ = some (.slice s2 hn d2) := cell_of_row _ _ _ _ _ _ HSw.out
    have z2 : w5.cell? ⟨w1.heap.size, 2, none⟩ = some (.slice s3 S.out.length d3) := cell_of_row _ _ _ _ _ _ HSw.out
    have z3 : w5.cell? ⟨w1.heap.size, 3, none⟩ = some (.int .i64 S.steps) := cell_of_row _ _ _ _ _ _ HSw.out
    have hlt5 : w1.heap.size < w5.heap.size := (Array.getElem?_eq_some_iff.1 HSw.out).1
    clear G5 HR2 x0 x1 HS4 HG4 HP4 k1
    go_wp2_with fail
    refine (Same_any ((HS1.out.of HG5.out).of ((Gr.refl _).alloc _)) (HS5.out.of ((Gr.refl _).alloc _)) HFO.out c4).mono ?_
    rintro e w6 ⟨rfl, G6⟩
    have HG6 : Hid (Gr w w6) := HG1.out.trans (HG5.out.trans (((Gr.refl _).alloc _).trans G6))
    clear G6 z0 z1 z2 z3
    go_wp2_with fail
    go_ret
    exact ⟨rfl, HG6.out⟩
end Go.Proofs.YtfolphjampklpabDoor.machineTurns
