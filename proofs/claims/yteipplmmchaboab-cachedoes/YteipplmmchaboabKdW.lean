/-
  The walk of the law CacheDoes, given what package cache answers: it answers true.
-/
import Derived.Test.YteipplmmchaboabKr1
import Derived.Test.YteipplmmchaboabKr4
import Derived.Test.YteipplmmchaboabKd
import Derived.Deep.RegionHeld3
namespace Go.Proofs.Yteipplmmchaboab.Kc
open Go.ChangeShapes Go.WideShapes Go.ChangeAt Go.RowKit Mm Ts Hc
set_option linter.unusedVariables false
set_option linter.unusedSimpArgs false

set_option maxHeartbeats 8000000 in
set_option maxRecDepth 100000 in
theorem cdoes_any {w : World} (rm : Int) {room pu sl pc f t : Int} {ao : Option Addr} {n cap : Nat} {bs : List Bv} {b0 : Bv} {va : Option Addr} {vn vc : Nat} (B : Bs w ao n bs) (hn : n * 32 ≤ 140737488351232) (hs : -9223372036854775808 ≤ sl ∧ sl ≤ 9223372036854775807) (hf : 0 ≤ f ∧ f < 4294967296) (ht : 0 ≤ t ∧ t < 4294967296) (hb : Bc w b0 (.int .u32 b0.pc) (.slice va vn vc)) (hvn : vn ≤ 140737488351232)
    (New0 : ∀ W : World, Gr w W → Calls Try.prog 6 #[.int .i64 rm] W fun e w' => ∃ a c, e = .returned (.tuple #[.agg #[.int .i64 (if 0 ≤ rm ∧ rm ≤ 64 then rm else 0), .slice a 0 c, .int .i64 0, .int .i64 0], .int .i64 (if 0 ≤ rm ∧ rm ≤ 64 then 0 else 3)]) ∧ Gr W w')
    (Find0 : ∀ W : World, Gr w W → Calls Try.prog 8 #[.agg #[.int .i64 room, .slice ao n cap, .int .i64 pu, .int .i64 sl], .int .u32 pc] W fun e w' => ∃ x y, e = .returned (.tuple #[.agg #[x, y], .bool (decide (0 ≤ place pc bs 0))]) ∧ Bc w' (fnd pc bs) x y ∧ Gr W w')
    (Stale0 : ∀ W : World, Gr w W → Calls Try.prog 11 #[.agg #[.int .i64 room, .slice ao n cap, .int .i64 pu, .int .i64 sl], .agg #[.int .u32 f, .int .u32 t]] W fun e w' => ∃ a m c, e = .returned (.agg #[.int .i64 room, .slice a m c, .int .i64 pu, .int .i64 (cntS f t sl bs)]) ∧ Bs w' a m (keepL f t bs) ∧ Gr W w')
    (Bad0 : ∀ W : World, Gr w W → (vn < 1 ∨ 16 < vn) → Calls Try.prog 13 #[.agg #[.int .i64 room, .slice ao n cap, .int .i64 pu, .int .i64 sl], .agg #[.int .u32 b0.pc, .slice va vn vc]] W fun e w' => ∃ a c, e = .returned (.tuple #[.agg #[.int .i64 0, .slice a 0 c, .int .i64 0, .int .i64 0], .int .i64 2]) ∧ Gr W w')
    (Put0 : ∀ W : World, Gr w W → (1 ≤ vn ∧ vn ≤ 16) → Calls Try.prog 13 #[.agg #[.int .i64 room, .slice ao n cap, .int .i64 pu, .int .i64 sl], .agg #[.int .u32 b0.pc, .slice va vn vc]] W fun e w' => ∃ a m c, e = .returned (.tuple #[.agg #[.int .i64 room, .slice a m c, .int .i64 (putP room pu bs b0), .int .i64 sl], .int .i64 0]) ∧ Bs w' a m (putL room bs b0) ∧ Gr W w') :
    Calls Try.prog 3 #[.int .i64 rm, .agg #[.int .i64 room, .slice ao n cap, .int .i64 pu, .int .i64 sl], .agg #[.int .u32 b0.pc, .slice va vn vc], .int .u32 pc, .agg #[.int .u32 f, .int .u32 t]] w fun e w' => e = .returned (.bool true) ∧ Gr w w' := by
  have NEW : Hid (∀ W : World, Gr w W → Calls Try.prog 6 #[.int .i64 rm] W fun e w' => ∃ a c, e = .returned (.tuple #[.agg #[.int .i64 (if 0 ≤ rm ∧ rm ≤ 64 then rm else 0), .slice a 0 c, .int .i64 0, .int .i64 0], .int .i64 (if 0 ≤ rm ∧ rm ≤ 64 then 0 else 3)]) ∧ Gr W w') := New0
  have FIND : Hid (∀ W : World, Gr w W → Calls Try.prog 8 #[.agg #[.int .i64 room, .slice ao n cap, .int .i64 pu, .int .i64 sl], .int .u32 pc] W fun e w' => ∃ x y, e = .returned (.tuple #[.agg #[x, y], .bool (decide (0 ≤ place pc bs 0))]) ∧ Bc w' (fnd pc bs) x y ∧ Gr W w') := Find0
  have STALE : Hid (∀ W : World, Gr w W → Calls Try.prog 11 #[.agg #[.int .i64 room, .slice ao n cap, .int .i64 pu, .int .i64 sl], .agg #[.int .u32 f, .int .u32 t]] W fun e w' => ∃ a m c, e = .returned (.agg #[.int .i64 room, .slice a m c, .int .i64 pu, .int .i64 (cntS f t sl bs)]) ∧ Bs w' a m (keepL f t bs) ∧ Gr W w') := Stale0
  have BAD : Hid (∀ W : World, Gr w W → (vn < 1 ∨ 16 < vn) → Calls Try.prog 13 #[.agg #[.int .i64 room, .slice ao n cap, .int .i64 pu, .int .i64 sl], .agg #[.int .u32 b0.pc, .slice va vn vc]] W fun e w' => ∃ a c, e = .returned (.tuple #[.agg #[.int .i64 0, .slice a 0 c, .int .i64 0, .int .i64 0], .int .i64 2]) ∧ Gr W w') := Bad0
  have PUT : Hid (∀ W : World, Gr w W → (1 ≤ vn ∧ vn ≤ 16) → Calls Try.prog 13 #[.agg #[.int .i64 room, .slice ao n cap, .int .i64 pu, .int .i64 sl], .agg #[.int .u32 b0.pc, .slice va vn vc]] W fun e w' => ∃ a m c, e = .returned (.tuple #[.agg #[.int .i64 room, .slice a m c, .int .i64 (putP room pu bs b0), .int .i64 sl], .int .i64 0]) ∧ Bs w' a m (putL room bs b0) ∧ Gr W w') := Put0
  have hnb : n ≤ 140737488351232 := by omega
  have SAM : Hid (∀ (W : World) (l : List Bv) (a1 a2 : Option Addr) (m1 m2 c1 c2 : Nat) (x y z : Int), Bs W a1 m1 l → Bs W a2 m2 l → l.length ≤ 140737488351232 → Calls Try.prog 7 #[.agg #[.int .i64 x, .slice a1 m1 c1, .int .i64 y, .int .i64 z], .agg #[.int .i64 x, .slice a2 m2 c2, .int .i64 y, .int .i64 z]] W fun e w' => e = .returned (.bool true) ∧ Gr W w') := fun W l a1 a2 m1 m2 c1 c2 x y z h1 h2 hl => by
    obtain rfl := h1.len
    obtain rfl := h2.len
    exact Same9 c1 c2 h1 h2 hl x y z
  have PLC : Hid (∀ W : World, Gr w W → Calls Try.prog 9 #[.slice ao n cap, .int .u32 pc] W fun e w' => e = .returned (.int .i64 (place pc bs 0)) ∧ Gr W w') := fun W G => Place_any cap (B.of G) hnb pc
  have RST : Hid (∀ W : World, Gr w W → Calls Try.prog 12 #[.agg #[.int .i64 room, .slice ao n cap, .int .i64 pu, .int .i64 sl], .agg #[.int .u32 f, .int .u32 t]] W fun e w' => ∃ a m c, e = .returned (.agg #[.int .i64 room, .slice a m c, .int .i64 pu, .int .i64 (cntS f t sl bs)]) ∧ Bs w' a m (keepL f t bs) ∧ Gr W w') := fun W G => by
    refine (Stale_any cap (B.of G) hn room pu sl hs hf ht).mono ?_
    rintro e w' ⟨V, rfl, O, G'⟩
    obtain ⟨a, m, c, rfl, X⟩ := O.bs
    exact ⟨a, m, c, rfl, X, G'⟩
  have RPU : Hid (∀ W : World, Gr w W → Calls Try.prog 14 #[.agg #[.int .i64 room, .slice ao n cap, .int .i64 pu, .int .i64 sl], .agg #[.int .u32 b0.pc, .slice va vn vc]] W fun e w' => ∃ a m c, e = .returned (.agg #[.int .i64 room, .slice a m c, .int .i64 (putP room pu bs b0), .int .i64 sl]) ∧ Bs w' a m (putL room bs b0) ∧ Gr W w') := fun W G => Put_any cap (B.of G) hn room pu sl (hb.of G)
  have SIX : Hid (∀ (W : World) (b : Bv) (x1 y1 x2 y2 : Value), Bc W b x1 y1 → Bc W b x2 y2 → Calls Try.prog 10 #[.agg #[x1, y1], .agg #[x2, y2]] W fun e w' => e = .returned (.bool true) ∧ Gr W w') := fun W b x1 y1 x2 y2 h1 h2 => Same6 h1 h2
  have HLk : Hid ((keepL f t bs).length ≤ 140737488351232) := by
    have := keep_len f t bs bs.length
    rw [List.take_length] at this
    have := B.len
    unfold Hid
    omega
  have HLp : Hid ((putL room bs b0).length ≤ 140737488351232) := by
    have h1 := rm_len (place b0.pc bs 0) bs 0
    have := B.len
    unfold Hid putL
    split
    · rw [List.length_drop, List.length_append]; simp; omega
    · rw [List.length_append]; simp; omega
  have HPB : Hid (place pc bs 0 = -1 ∨ ∃ (j : Nat) (x : Bv), place pc bs 0 = (j : Int) ∧ j < n ∧ bs[j]? = some x ∧ fnd pc bs = x) := by
    rcases place_bd pc bs 0 with h | ⟨j, x, h, hx⟩
    · exact .inl h
    · rw [Nat.zero_add] at h
      refine .inr ⟨j, x, h, by rw [← B.len]; exact (List.getElem?_eq_some_iff.1 hx).1, hx, ?_⟩
      unfold fnd
      rw [h, if_pos (by omega), Int.toNat_natCast, List.getD, hx]
      rfl
  have HFN : Hid (place pc bs 0 = -1 → fnd pc bs = ⟨0, []⟩) := fun h => by unfold fnd; rw [h, if_neg (by omega)]
  have HBs : Hid (∀ W : World, Gr w W → Bs W ao n bs) := fun W G => B.of G
  have HX : Hid (∀ W : World, Gr (((w.alloc (.cells #[.int .i64 room, .slice ao n cap, .int .i64 pu, .int .i64 sl] 24)).alloc (.cells #[.int .u32 b0.pc, .slice va vn vc] 28)).alloc (.cells #[.int .u32 f, .int .u32 t] 30)) W → (Gr w W ∧ w.heap.size + 1 + 1 < W.heap.size) ∧ W.cell? ⟨w.heap.size, 0, none⟩ = some (.int .i64 room) ∧ W.cell? ⟨w.heap.size, 1, none⟩ = some (.slice ao n cap) ∧ W.cell? ⟨w.heap.size, 2, none⟩ = some (.int .i64 pu) ∧ W.cell? ⟨w.heap.size, 3, none⟩ = some (.int .i64 sl) ∧ W.cell? ⟨w.heap.size + 1, 0, none⟩ = some (.int .u32 b0.pc) ∧ W.cell? ⟨w.heap.size + 1, 1, none⟩ = some (.slice va vn vc) ∧ W.cell? ⟨w.heap.size + 1 + 1, 0, none⟩ = some (.int .u32 f) ∧ W.cell? ⟨w.heap.size + 1 + 1, 1, none⟩ = some (.int .u32 t)) := fun W G => by
    have B1 := up_h ((((Gr.refl _).alloc _).alloc _).trans G) (heap_alloc_new w (.cells #[.int .i64 room, .slice ao n cap, .int .i64 pu, .int .i64 sl] 24))
    have B2 := up_h (((Gr.refl _).alloc _).trans G) (heap_alloc_new (w.alloc (.cells #[.int .i64 room, .slice ao n cap, .int .i64 pu, .int .i64 sl] 24)) (.cells #[.int .u32 b0.pc, .slice va vn vc] 28))
    have B3 := up_h G (heap_alloc_new ((w.alloc (.cells #[.int .i64 room, .slice ao n cap, .int .i64 pu, .int .i64 sl] 24)).alloc (.cells #[.int .u32 b0.pc, .slice va vn vc] 28)) (.cells #[.int .u32 f, .int .u32 t] 30))
    rw [World.size_alloc] at B2 B3
    rw [World.size_alloc] at B3
    exact ⟨⟨((((Gr.refl w).alloc _).alloc _).alloc _).trans G, (Array.getElem?_eq_some_iff.1 B3).1⟩, cell_of_row _ _ _ _ _ _ B1, cell_of_row _ _ _ _ _ _ B1, cell_of_row _ _ _ _ _ _ B1, cell_of_row _ _ _ _ _ _ B1, cell_of_row _ _ _ _ _ _ B2, cell_of_row _ _ _ _ _ _ B2, cell_of_row _ _ _ _ _ _ B3, cell_of_row _ _ _ _ _ _ B3⟩
  clear New0 Find0 Stale0 Bad0 Put0 B hb hs hf ht
  generalize cntS f t sl bs = cn at *
  generalize keepL f t bs = KL at *
  generalize putL room bs b0 = PL at *
  generalize putP room pu bs b0 = pp at *
  generalize fnd pc bs = fb at *
  generalize place pc bs 0 = K at *
  generalize hbp : b0.pc = bp at *
  clear hbp
  have HRM : Hid ((rm < 0 ∨ 64 < rm) ∨ (0 ≤ rm ∧ rm ≤ 64)) := by unfold Hid; omega
  rcases HPB.out with hK | ⟨j, xb, hK, hj, hxb, hfx⟩
  · have hfb := HFN.out hK
    subst hfb
    have hd : decide (0 ≤ K) = false := decide_eq_false (by omega)
    have hd2 : decide (K < 0) = true := decide_eq_true (by omega)
    clear hK
    have FIND2 : Hid (∀ W : World, Gr w W → Calls Try.prog 8 #[.agg #[.int .i64 room, .slice ao n cap, .int .i64 pu, .int .i64 sl], .int .u32 pc] W fun e w' => ∃ x y, e = .returned (.tuple #[.agg #[x, y], .bool false]) ∧ Bc w' ⟨0, []⟩ x y ∧ Gr W w') := fun W G => by have := FIND.out W G; rwa [hd] at this
    have PLC2 : Hid (∀ W : World, Gr w W → Calls Try.prog 9 #[.slice ao n cap, .int .u32 pc] W fun e w' => e = .returned (.int .i64 K) ∧ Gr W w') := PLC
    have HE : Hid (∀ W : World, Bc W ⟨0, []⟩ (.int .u32 0) (.slice none 0 0)) := fun W => ⟨rfl, ⟨by decide, by decide⟩, none, 0, 0, rfl, ⟨rfl, fun i h => (by cases h), fun h => absurd h (by omega)⟩, by decide⟩
    clear FIND PLC HPB HFN
    rcases HRM.out with hr | ⟨hr0, hr1⟩
    · have NEW2 : Hid (∀ W : World, Gr w W → Calls Try.prog 6 #[.int .i64 rm] W fun e w' => ∃ a c, e = .returned (.tuple #[.agg #[.int .i64 0, .slice a 0 c, .int .i64 0, .int .i64 0], .int .i64 3]) ∧ Gr W w') := fun W G => by have := NEW.out W G; rwa [if_neg (by omega), if_neg (by omega)] at this
      clear NEW
      rcases hr with hr | hr
      all_goals
        go_enter Try.func3, Try.ntmps3
        go_wp2_with fail
        refine (NEW2.out _ ((((Gr.refl w).alloc _).alloc _).alloc _)).mono ?_
        rintro e w1 ⟨a1, c1, rfl, G1⟩
        have HG1 : Hid (Gr (((w.alloc (.cells #[.int .i64 room, .slice ao n cap, .int .i64 pu, .int .i64 sl] 24)).alloc (.cells #[.int .u32 bp, .slice va vn vc] 28)).alloc (.cells #[.int .u32 f, .int .u32 t] 30)) w1) := G1
        clear G1 NEW2
        go_wp2_with fail
        refine (SAM.out _ [] a1 none 0 0 c1 0 0 0 0 (bs_nil _ _) (bs_nil _ _) (by simp)).mono ?_
        rintro e w2 ⟨rfl, G2⟩
        have HG2 : Hid (Gr (((w.alloc (.cells #[.int .i64 room, .slice ao n cap, .int .i64 pu, .int .i64 sl] 24)).alloc (.cells #[.int .u32 bp, .slice va vn vc] 28)).alloc (.cells #[.int .u32 f, .int .u32 t] 30)) w2) := Gr.trans (by repeat (first | exact HG1.out | refine Gr.alloc ?_ _)) G2
        clear G2 HG1
        obtain ⟨⟨gw2, hl2⟩, x0, x1, x2, x3, y0, y1, z0, z1⟩ := HX.out _ HG2.out
        have hl2a : w.heap.size < w2.heap.size := by omega
        have hl2b : w.heap.size + 1 < w2.heap.size := by omega
        have HW2 : Hid (Gr w w2) := gw2
        clear gw2
        go_wp2_with fail
        refine (FIND2.out _ (by repeat (first | exact HW2.out | refine Gr.alloc ?_ _))).mono ?_
        rintro e w3 ⟨x, y, rfl, BC3, G3⟩
        have HG3 : Hid (Gr (((w.alloc (.cells #[.int .i64 room, .slice ao n cap, .int .i64 pu, .int .i64 sl] 24)).alloc (.cells #[.int .u32 bp, .slice va vn vc] 28)).alloc (.cells #[.int .u32 f, .int .u32 t] 30)) w3) := Gr.trans (by repeat (first | exact HG2.out | refine Gr.alloc ?_ _)) G3
        have HBC : Hid (∀ W : World, Gr w3 W → Bc W ⟨0, []⟩ x y) := fun W G => BC3.of G
        obtain ⟨rfl, _, fa, fn, fc, rfl, _, _⟩ := BC3
        clear G3 HG2 HW2 FIND2 x0 x1 x2 x3 y0 y1 z0 z1
        obtain ⟨⟨gw3, hl3⟩, x0, x1, x2, x3, y0, y1, z0, z1⟩ := HX.out _ HG3.out
        have hl3a : w.heap.size < w3.heap.size := by omega
        have hl3b : w.heap.size + 1 < w3.heap.size := by omega
        have HW3 : Hid (Gr w w3) := gw3
        clear gw3
        go_wp2_with fail
        refine (PLC2.out _ (by repeat (first | exact HW3.out | refine Gr.alloc ?_ _))).mono ?_
        rintro e w4 ⟨rfl, G4⟩
        have HG4 : Hid (Gr (((w.alloc (.cells #[.int .i64 room, .slice ao n cap, .int .i64 pu, .int .i64 sl] 24)).alloc (.cells #[.int .u32 bp, .slice va vn vc] 28)).alloc (.cells #[.int .u32 f, .int .u32 t] 30)) w4) := Gr.trans (by repeat (first | exact HG3.out | refine Gr.alloc ?_ _)) G4
        have HBF : Hid (w4.heap[w3.heap.size]? = some (.cells #[.int .u32 0, .slice fa fn fc] 28 (0, 0))) := up_h G4 (heap_alloc_new w3 _)
        have HB4 : Hid (∀ W : World, Gr w4 W → Bc W ⟨0, []⟩ (.int .u32 0) (.slice fa fn fc)) := fun W G => HBC.out W ((((Gr.refl _).alloc _).trans G4).trans G)
        clear G4 HG3 HW3 PLC2 HBC x0 x1 x2 x3 y0 y1 z0 z1
        obtain ⟨⟨gw4, hl4⟩, x0, x1, x2, x3, y0, y1, z0, z1⟩ := HX.out _ HG4.out
        have hl4a : w.heap.size < w4.heap.size := by omega
        have hl4b : w.heap.size + 1 < w4.heap.size := by omega
        have HW4 : Hid (Gr w w4) := gw4
        clear gw4
        have f0 : w4.cell? ⟨w3.heap.size, 0, none⟩ = some (.int .u32 0) := cell_of_row _ _ _ _ _ _ HBF.out
        have f1 : w4.cell? ⟨w3.heap.size, 1, none⟩ = some (.slice fa fn fc) := cell_of_row _ _ _ _ _ _ HBF.out
        go_wp2_with fail
        refine wp_region_held_drew (S := fun W => Gr w4 W) (by kernel_rfl) (Gr.refl w4).drew (fun hHeld => ?_)
        have HS0 : Hid _ := hHeld
        clear hHeld
        refine wpAnyH_take (i := 0) (v := .bool false) rfl (by kernel_rfl) (by kernel_rfl) (by kernel_rfl) (fun _ _ _ h => h) (Or.inl ⟨by rfl, fun W hW => by go_simp⟩) HS0.out ?_
        simp only [List.getElem_toArray, List.getElem_cons_succ, List.getElem_cons_zero, Act.put, List.setIfInBounds_toArray, List.set_cons_zero, List.set_cons_succ]
        refine wpAnyH_take (i := 1) (v := .int .i64 K) rfl (by kernel_rfl) (by kernel_rfl) (by kernel_rfl) (fun _ _ _ h => h) (Or.inl ⟨by rfl, fun W hW => by go_simp⟩) HS0.out ?_
        simp only [List.getElem_toArray, List.getElem_cons_succ, List.getElem_cons_zero, Act.put, List.setIfInBounds_toArray, List.set_cons_zero, List.set_cons_succ]
        refine wpAnyH_take (i := 2) (v := .bool false) rfl (by kernel_rfl) (by kernel_rfl) (by kernel_rfl) (fun _ _ _ h => h) (Or.inl ⟨by rfl, fun W hW => by go_simp⟩) HS0.out ?_
        simp only [List.getElem_toArray, List.getElem_cons_succ, List.getElem_cons_zero, Act.put, List.setIfInBounds_toArray, List.set_cons_zero, List.set_cons_succ]
        refine wpAnyH_take (i := 3) (v := .bool false) rfl (by kernel_rfl) (by kernel_rfl) (by kernel_rfl) (fun _ _ _ h => h) (Or.inl ⟨by rfl, fun W hW => by go_simp⟩) HS0.out ?_
        simp only [List.getElem_toArray, List.getElem_cons_succ, List.getElem_cons_zero, Act.put, List.setIfInBounds_toArray, List.set_cons_zero, List.set_cons_succ]
        refine wpAnyH_take (i := 4) (v := .bool false) rfl (by kernel_rfl) (by kernel_rfl) (by kernel_rfl) (fun _ _ _ h => h) (Or.inl ⟨by rfl, fun W hW => by go_simp⟩) HS0.out ?_
        simp only [List.getElem_toArray, List.getElem_cons_succ, List.getElem_cons_zero, Act.put, List.setIfInBounds_toArray, List.set_cons_zero, List.set_cons_succ]
        refine wpAnyH_take (i := 5) (v := .int .i64 K) rfl (by kernel_rfl) (by kernel_rfl) (by kernel_rfl) (fun _ _ _ h => h) (Or.inl ⟨by rfl, fun W hW => by go_simp⟩) HS0.out ?_
        simp only [List.getElem_toArray, List.getElem_cons_succ, List.getElem_cons_zero, Act.put, List.setIfInBounds_toArray, List.set_cons_zero, List.set_cons_succ]
        refine wpAnyH_take (i := 6) (v := .bool false) rfl (by kernel_rfl) (by kernel_rfl) (by kernel_rfl) (fun _ _ _ h => h) (Or.inl ⟨by rfl, fun W hW => by go_simp⟩) HS0.out ?_
        simp only [List.getElem_toArray, List.getElem_cons_succ, List.getElem_cons_zero, Act.put, List.setIfInBounds_toArray, List.set_cons_zero, List.set_cons_succ]
        refine wpAnyH_take (i := 7) (v := .bool false) rfl (by kernel_rfl) (by kernel_rfl) (by kernel_rfl) (fun _ _ _ h => h) (Or.inl ⟨by rfl, fun W hW => by go_simp⟩) HS0.out ?_
        simp only [List.getElem_toArray, List.getElem_cons_succ, List.getElem_cons_zero, Act.put, List.setIfInBounds_toArray, List.set_cons_zero, List.set_cons_succ]
        refine wpAnyH_take (i := 8) (v := undef) rfl (by kernel_rfl) (by kernel_rfl) (by kernel_rfl) (fun _ _ _ h => h) (Or.inr ⟨by rfl, rfl⟩) HS0.out ?_
        simp only [List.getElem_toArray, List.getElem_cons_succ, List.getElem_cons_zero, Act.put, List.setIfInBounds_toArray, List.set_cons_zero, List.set_cons_succ]
        refine wpAnyH_take (i := 9) (v := undef) rfl (by kernel_rfl) (by kernel_rfl) (by kernel_rfl) (fun _ _ _ h => h) (Or.inr ⟨by rfl, rfl⟩) HS0.out ?_
        simp only [List.getElem_toArray, List.getElem_cons_succ, List.getElem_cons_zero, Act.put, List.setIfInBounds_toArray, List.set_cons_zero, List.set_cons_succ]
        refine wpAnyH_take (i := 10) (v := undef) rfl (by kernel_rfl) (by kernel_rfl) (by kernel_rfl) (fun _ _ _ h => h) (Or.inr ⟨by rfl, rfl⟩) HS0.out ?_
        simp only [List.getElem_toArray, List.getElem_cons_succ, List.getElem_cons_zero, Act.put, List.setIfInBounds_toArray, List.set_cons_zero, List.set_cons_succ]
        refine wpAnyH_take (i := 11) (v := undef) rfl (by kernel_rfl) (by kernel_rfl) (by kernel_rfl) (fun _ _ _ h => h) (Or.inr ⟨by rfl, rfl⟩) HS0.out ?_
        simp only [List.getElem_toArray, List.getElem_cons_succ, List.getElem_cons_zero, Act.put, List.setIfInBounds_toArray, List.set_cons_zero, List.set_cons_succ]
        refine wpAnyH_take (i := 12) (v := undef) rfl (by kernel_rfl) (by kernel_rfl) (by kernel_rfl) (fun _ _ _ h => h) (Or.inr ⟨by rfl, rfl⟩) HS0.out ?_
        simp only [List.getElem_toArray, List.getElem_cons_succ, List.getElem_cons_zero, Act.put, List.setIfInBounds_toArray, List.set_cons_zero, List.set_cons_succ]
        refine wpAnyH_take (i := 13) (v := undef) rfl (by kernel_rfl) (by kernel_rfl) (by kernel_rfl) (fun _ _ _ h => h) (Or.inr ⟨by rfl, rfl⟩) HS0.out ?_
        simp only [List.getElem_toArray, List.getElem_cons_succ, List.getElem_cons_zero, Act.put, List.setIfInBounds_toArray, List.set_cons_zero, List.set_cons_succ]
        refine wpAnyH_take (i := 14) (v := undef) rfl (by kernel_rfl) (by kernel_rfl) (by kernel_rfl) (fun _ _ _ h => h) (Or.inr ⟨by rfl, rfl⟩) HS0.out ?_
        simp only [List.getElem_toArray, List.getElem_cons_succ, List.getElem_cons_zero, Act.put, List.setIfInBounds_toArray, List.set_cons_zero, List.set_cons_succ]
        refine wpAnyH_take (i := 15) (v := undef) rfl (by kernel_rfl) (by kernel_rfl) (by kernel_rfl) (fun _ _ _ h => h) (Or.inr ⟨by rfl, rfl⟩) HS0.out ?_
        simp only [List.getElem_toArray, List.getElem_cons_succ, List.getElem_cons_zero, Act.put, List.setIfInBounds_toArray, List.set_cons_zero, List.set_cons_succ]
        refine wpAnyH_take (i := 16) (v := .bool false) rfl (by kernel_rfl) (by kernel_rfl) (by kernel_rfl) (fun _ _ _ h => h) (Or.inl ⟨by rfl, fun W hW => by go_simp⟩) HS0.out ?_
        simp only [List.getElem_toArray, List.getElem_cons_succ, List.getElem_cons_zero, Act.put, List.setIfInBounds_toArray, List.set_cons_zero, List.set_cons_succ]
        refine wpAnyH_take (i := 17) (v := .bool false) rfl (by kernel_rfl) (by kernel_rfl) (by kernel_rfl) (fun _ _ _ h => h) (Or.inl ⟨by rfl, fun W hW => by go_simp⟩) HS0.out ?_
        simp only [List.getElem_toArray, List.getElem_cons_succ, List.getElem_cons_zero, Act.put, List.setIfInBounds_toArray, List.set_cons_zero, List.set_cons_succ]
        refine wpAnyH_take (i := 18) (v := .bool false) rfl (by kernel_rfl) (by kernel_rfl) (by kernel_rfl) (fun _ _ _ h => h) (Or.inl ⟨by rfl, fun W hW => by go_simp⟩) HS0.out ?_
        simp only [List.getElem_toArray, List.getElem_cons_succ, List.getElem_cons_zero, Act.put, List.setIfInBounds_toArray, List.set_cons_zero, List.set_cons_succ]
        refine wpAnyH_take (i := 19) (v := .int .i64 K) rfl (by kernel_rfl) (by kernel_rfl) (by kernel_rfl) (fun _ _ _ h => h) (Or.inl ⟨by rfl, fun W hW => by go_simp⟩) HS0.out ?_
        simp only [List.getElem_toArray, List.getElem_cons_succ, List.getElem_cons_zero, Act.put, List.setIfInBounds_toArray, List.set_cons_zero, List.set_cons_succ]
        refine wpAnyH_take (i := 20) (v := .bool true) rfl (by kernel_rfl) (by kernel_rfl) (by kernel_rfl) (fun _ _ _ h => h) (Or.inl ⟨by rfl, fun W hW => by go_simp⟩) HS0.out ?_
        simp only [List.getElem_toArray, List.getElem_cons_succ, List.getElem_cons_zero, Act.put, List.setIfInBounds_toArray, List.set_cons_zero, List.set_cons_succ]
        refine wpAnyH_take (i := 21) (v := .bool true) rfl (by kernel_rfl) (by kernel_rfl) (by kernel_rfl) (fun _ _ _ h => h) (Or.inl ⟨by rfl, fun W hW => by go_simp⟩) HS0.out ?_
        simp only [List.getElem_toArray, List.getElem_cons_succ, List.getElem_cons_zero, Act.put, List.setIfInBounds_toArray, List.set_cons_zero, List.set_cons_succ]
        refine wpAnyH_take (i := 22) (v := .agg #[.int .u32 0, .slice fa fn fc]) rfl (by kernel_rfl) (by kernel_rfl) (by kernel_rfl) (fun _ _ _ h => h) (Or.inl ⟨by rfl, fun W hW => by have f0' := (hW.cell _ (by exact lt_cell f0)).trans f0; have f1' := (hW.cell _ (by exact lt_cell f1)).trans f1; go_simp⟩) HS0.out ?_
        simp only [List.getElem_toArray, List.getElem_cons_succ, List.getElem_cons_zero, Act.put, List.setIfInBounds_toArray, List.set_cons_zero, List.set_cons_succ]
        refine wpAnyH_take (i := 23) (v := .agg #[.int .u32 0, .slice none 0 0]) rfl (by kernel_rfl) (by kernel_rfl) (by kernel_rfl) (fun _ _ _ h => h) (Or.inl ⟨by rfl, fun W hW => by go_simp⟩) HS0.out ?_
        simp only [List.getElem_toArray, List.getElem_cons_succ, List.getElem_cons_zero, Act.put, List.setIfInBounds_toArray, List.set_cons_zero, List.set_cons_succ]
        refine wpAnyH_ready (rs := [24]) (by kernel_rfl) (by simp) ?_
        refine AllReadyH.cons rfl (fun K hK => ?_) AllReadyH.nil
        go_simp
        refine (SIX.out _ ⟨0, []⟩ (.int .u32 0) (.slice fa fn fc) (.int .u32 0) (.slice none 0 0) (HB4.out _ (Gr.refl _).drew) (HE.out _)).mono ?_
        rintro e w5 ⟨rfl, G5⟩
        have HG45 : Hid (Gr w4 w5) := (Gr.refl w4).drew.trans G5
        have HG5 : Hid (Gr (((w.alloc (.cells #[.int .i64 room, .slice ao n cap, .int .i64 pu, .int .i64 sl] 24)).alloc (.cells #[.int .u32 bp, .slice va vn vc] 28)).alloc (.cells #[.int .u32 f, .int .u32 t] 30)) w5) := HG4.out.trans HG45.out
        refine hK.out _ _ HG45.out (fun hx => ?_)
        clear hK K hx G5
        have HS0 : Hid (Gr w4 w5) := HG45.out
        refine wpAnyH_take (i := 25) (v := .bool false) rfl (by kernel_rfl) (by kernel_rfl) (by kernel_rfl) (fun _ _ _ h => h) (Or.inl ⟨by rfl, fun W hW => by go_simp⟩) HS0.out ?_
        simp only [List.getElem_toArray, List.getElem_cons_succ, List.getElem_cons_zero, Act.put, List.setIfInBounds_toArray, List.set_cons_zero, List.set_cons_succ]
        refine wpAnyH_take (i := 26) (v := .bool false) rfl (by kernel_rfl) (by kernel_rfl) (by kernel_rfl) (fun _ _ _ h => h) (Or.inl ⟨by rfl, fun W hW => by go_simp⟩) HS0.out ?_
        simp only [List.getElem_toArray, List.getElem_cons_succ, List.getElem_cons_zero, Act.put, List.setIfInBounds_toArray, List.set_cons_zero, List.set_cons_succ]
        refine wpAnyH_take (i := 27) (v := .bool false) rfl (by kernel_rfl) (by kernel_rfl) (by kernel_rfl) (fun _ _ _ h => h) (Or.inl ⟨by rfl, fun W hW => by go_simp⟩) HS0.out ?_
        simp only [List.getElem_toArray, List.getElem_cons_succ, List.getElem_cons_zero, Act.put, List.setIfInBounds_toArray, List.set_cons_zero, List.set_cons_succ]
        refine wpAnyH_done (by kernel_rfl) ?_ _
        clear HS0
        clear f0 f1 HB4 HBF HG4 HW4 HG45 x0 x1 x2 x3 y0 y1 z0 z1
        obtain ⟨⟨gw5, hl5⟩, x0, x1, x2, x3, y0, y1, z0, z1⟩ := HX.out _ HG5.out
        have hl5a : w.heap.size < w5.heap.size := by omega
        have hl5b : w.heap.size + 1 < w5.heap.size := by omega
        have HW5 : Hid (Gr w w5) := gw5
        clear gw5
        go_wp2_with fail
        refine (STALE.out _ HW5.out).mono ?_
        rintro e w6 ⟨a6, m6, c6, rfl, B6, G6⟩
        have HG6 : Hid (Gr (((w.alloc (.cells #[.int .i64 room, .slice ao n cap, .int .i64 pu, .int .i64 sl] 24)).alloc (.cells #[.int .u32 bp, .slice va vn vc] 28)).alloc (.cells #[.int .u32 f, .int .u32 t] 30)) w6) := HG5.out.trans G6
        have HB6 : Hid (∀ W : World, Gr w6 W → Bs W a6 m6 KL) := fun W G => B6.of G
        clear G6 B6 HG5 HW5 STALE x0 x1 x2 x3 y0 y1 z0 z1
        obtain ⟨⟨gw6, hl6⟩, x0, x1, x2, x3, y0, y1, z0, z1⟩ := HX.out _ HG6.out
        have hl6a : w.heap.size < w6.heap.size := by omega
        have hl6b : w.heap.size + 1 < w6.heap.size := by omega
        have HW6 : Hid (Gr w w6) := gw6
        clear gw6
        go_wp2_with fail
        refine (RST.out _ (by repeat (first | exact HW6.out | refine Gr.alloc ?_ _))).mono ?_
        rintro e w7 ⟨a7, m7, c7, rfl, B7, G7⟩
        have HG7 : Hid (Gr (((w.alloc (.cells #[.int .i64 room, .slice ao n cap, .int .i64 pu, .int .i64 sl] 24)).alloc (.cells #[.int .u32 bp, .slice va vn vc] 28)).alloc (.cells #[.int .u32 f, .int .u32 t] 30)) w7) := Gr.trans (by repeat (first | exact HG6.out | refine Gr.alloc ?_ _)) G7
        have HS7 : Hid (w7.heap[w6.heap.size]? = some (.cells #[.int .i64 room, .slice a6 m6 c6, .int .i64 pu, .int .i64 cn] 24 (0, 0))) := up_h G7 (heap_alloc_new w6 _)
        have s0 : w7.cell? ⟨w6.heap.size, 0, none⟩ = some (.int .i64 room) := cell_of_row _ _ _ _ _ _ HS7.out
        have s1 : w7.cell? ⟨w6.heap.size, 1, none⟩ = some (.slice a6 m6 c6) := cell_of_row _ _ _ _ _ _ HS7.out
        have s2 : w7.cell? ⟨w6.heap.size, 2, none⟩ = some (.int .i64 pu) := cell_of_row _ _ _ _ _ _ HS7.out
        have s3 : w7.cell? ⟨w6.heap.size, 3, none⟩ = some (.int .i64 cn) := cell_of_row _ _ _ _ _ _ HS7.out
        have hs7 : w6.heap.size < w7.heap.size := (Array.getElem?_eq_some_iff.1 HS7.out).1
        have HB7 : Hid (∀ W : World, Gr w7 W → Bs W a6 m6 KL ∧ Bs W a7 m7 KL) := fun W G => ⟨HB6.out W ((((Gr.refl _).alloc _).trans G7).trans G), B7.of G⟩
        clear G7 B7 HB6 HG6 HW6 RST HS7 x0 x1 x2 x3 y0 y1 z0 z1
        obtain ⟨⟨gw7, hl7⟩, x0, x1, x2, x3, y0, y1, z0, z1⟩ := HX.out _ HG7.out
        have hl7a : w.heap.size < w7.heap.size := by omega
        have hl7b : w.heap.size + 1 < w7.heap.size := by omega
        have HW7 : Hid (Gr w w7) := gw7
        clear gw7
        go_wp2_with fail
        refine (SAM.out _ KL a6 a7 m6 m7 c6 c7 room pu cn (HB7.out _ (by repeat (first | exact Gr.refl w7 | refine Gr.alloc ?_ _))).1 (HB7.out _ (by repeat (first | exact Gr.refl w7 | refine Gr.alloc ?_ _))).2 HLk.out).mono ?_
        rintro e w8 ⟨rfl, G8⟩
        have HG8 : Hid (Gr (((w.alloc (.cells #[.int .i64 room, .slice ao n cap, .int .i64 pu, .int .i64 sl] 24)).alloc (.cells #[.int .u32 bp, .slice va vn vc] 28)).alloc (.cells #[.int .u32 f, .int .u32 t] 30)) w8) := Gr.trans (by repeat (first | exact HG7.out | refine Gr.alloc ?_ _)) G8
        clear G8 HB7 HG7 HW7 s0 s1 s2 s3 x0 x1 x2 x3 y0 y1 z0 z1
        obtain ⟨⟨gw8, hl8⟩, x0, x1, x2, x3, y0, y1, z0, z1⟩ := HX.out _ HG8.out
        have hl8a : w.heap.size < w8.heap.size := by omega
        have hl8b : w.heap.size + 1 < w8.heap.size := by omega
        have HW8 : Hid (Gr w w8) := gw8
        clear gw8
        go_wp2_with fail
        by_cases hv : 1 ≤ vn ∧ vn ≤ 16
        · obtain ⟨hv0, hv1⟩ := hv
          refine (PUT.out _ HW8.out ⟨hv0, hv1⟩).mono ?_
          rintro e w9 ⟨a9, m9, c9, rfl, B9, G9⟩
          have HG9 : Hid (Gr (((w.alloc (.cells #[.int .i64 room, .slice ao n cap, .int .i64 pu, .int .i64 sl] 24)).alloc (.cells #[.int .u32 bp, .slice va vn vc] 28)).alloc (.cells #[.int .u32 f, .int .u32 t] 30)) w9) := HG8.out.trans G9
          have HB9 : Hid (∀ W : World, Gr w9 W → Bs W a9 m9 PL) := fun W G => B9.of G
          clear G9 B9 HG8 HW8 PUT BAD x0 x1 x2 x3 y0 y1 z0 z1
          obtain ⟨⟨gw9, hl9⟩, x0, x1, x2, x3, y0, y1, z0, z1⟩ := HX.out _ HG9.out
          have hl9a : w.heap.size < w9.heap.size := by omega
          have hl9b : w.heap.size + 1 < w9.heap.size := by omega
          have HW9 : Hid (Gr w w9) := gw9
          clear gw9
          go_wp2_with fail
          refine (RPU.out _ (by repeat (first | exact HW9.out | refine Gr.alloc ?_ _))).mono ?_
          rintro e w10 ⟨a10, m10, c10, rfl, B10, G10⟩
          have HG10 : Hid (Gr (((w.alloc (.cells #[.int .i64 room, .slice ao n cap, .int .i64 pu, .int .i64 sl] 24)).alloc (.cells #[.int .u32 bp, .slice va vn vc] 28)).alloc (.cells #[.int .u32 f, .int .u32 t] 30)) w10) := Gr.trans (by repeat (first | exact HG9.out | refine Gr.alloc ?_ _)) G10
          have HS10 : Hid (w10.heap[w9.heap.size]? = some (.cells #[.int .i64 room, .slice a9 m9 c9, .int .i64 pp, .int .i64 sl] 24 (0, 0))) := up_h G10 (heap_alloc_new w9 _)
          have s0 : w10.cell? ⟨w9.heap.size, 0, none⟩ = some (.int .i64 room) := cell_of_row _ _ _ _ _ _ HS10.out
          have s1 : w10.cell? ⟨w9.heap.size, 1, none⟩ = some (.slice a9 m9 c9) := cell_of_row _ _ _ _ _ _ HS10.out
          have s2 : w10.cell? ⟨w9.heap.size, 2, none⟩ = some (.int .i64 pp) := cell_of_row _ _ _ _ _ _ HS10.out
          have s3 : w10.cell? ⟨w9.heap.size, 3, none⟩ = some (.int .i64 sl) := cell_of_row _ _ _ _ _ _ HS10.out
          have hs10 : w9.heap.size < w10.heap.size := (Array.getElem?_eq_some_iff.1 HS10.out).1
          have HB10 : Hid (∀ W : World, Gr w10 W → Bs W a9 m9 PL ∧ Bs W a10 m10 PL) := fun W G => ⟨HB9.out W ((((Gr.refl _).alloc _).trans G10).trans G), B10.of G⟩
          clear G10 B10 HB9 HG9 HW9 RPU HS10 x0 x1 x2 x3 y0 y1 z0 z1
          obtain ⟨⟨gw10, hl10⟩, x0, x1, x2, x3, y0, y1, z0, z1⟩ := HX.out _ HG10.out
          have hl10a : w.heap.size < w10.heap.size := by omega
          have hl10b : w.heap.size + 1 < w10.heap.size := by omega
          have HW10 : Hid (Gr w w10) := gw10
          clear gw10
          go_wp2_with fail
          refine (SAM.out _ PL a9 a10 m9 m10 c9 c10 room pp sl (HB10.out _ (by repeat (first | exact Gr.refl w10 | refine Gr.alloc ?_ _))).1 (HB10.out _ (by repeat (first | exact Gr.refl w10 | refine Gr.alloc ?_ _))).2 HLp.out).mono ?_
          rintro e w11 ⟨rfl, G11⟩
          have HG11 : Hid (Gr w w11) := Gr.trans (by repeat (first | exact HW10.out | refine Gr.alloc ?_ _)) G11
          clear G11 HB10 HG10 HW10 s0 s1 s2 s3 x0 x1 x2 x3 y0 y1 z0 z1
          go_wp2_with fail
          go_ret
          exact ⟨rfl, HG11.out⟩
        · have hv' : vn < 1 ∨ 16 < vn := by omega
          refine (BAD.out _ HW8.out hv').mono ?_
          rintro e w9 ⟨a9, c9, rfl, G9⟩
          have HG9 : Hid (Gr (((w.alloc (.cells #[.int .i64 room, .slice ao n cap, .int .i64 pu, .int .i64 sl] 24)).alloc (.cells #[.int .u32 bp, .slice va vn vc] 28)).alloc (.cells #[.int .u32 f, .int .u32 t] 30)) w9) := HG8.out.trans G9
          clear G9 HG8 HW8 PUT BAD hv x0 x1 x2 x3 y0 y1 z0 z1
          obtain ⟨⟨gw9, hl9⟩, x0, x1, x2, x3, y0, y1, z0, z1⟩ := HX.out _ HG9.out
          have hl9a : w.heap.size < w9.heap.size := by omega
          have hl9b : w.heap.size + 1 < w9.heap.size := by omega
          have HW9 : Hid (Gr w w9) := gw9
          clear gw9
          rcases hv' with hv | hv
          all_goals
            go_wp2_with fail
            refine (SAM.out _ [] a9 none 0 0 c9 0 0 0 0 (bs_nil _ _) (bs_nil _ _) (by simp)).mono ?_
            rintro e w10 ⟨rfl, G10⟩
            have HG10 : Hid (Gr w w10) := Gr.trans (by repeat (first | exact HW9.out | refine Gr.alloc ?_ _)) G10
            clear G10 HG9 HW9 x0 x1 x2 x3 y0 y1 z0 z1
            go_wp2_with fail
            go_ret
            exact ⟨rfl, HG10.out⟩

    · have NEW2 : Hid (∀ W : World, Gr w W → Calls Try.prog 6 #[.int .i64 rm] W fun e w' => ∃ a c, e = .returned (.tuple #[.agg #[.int .i64 rm, .slice a 0 c, .int .i64 0, .int .i64 0], .int .i64 0]) ∧ Gr W w') := fun W G => by have := NEW.out W G; rwa [if_pos ⟨hr0, hr1⟩, if_pos ⟨hr0, hr1⟩] at this
      clear NEW
      go_enter Try.func3, Try.ntmps3
      go_wp2_with fail
      refine (NEW2.out _ ((((Gr.refl w).alloc _).alloc _).alloc _)).mono ?_
      rintro e w1 ⟨a1, c1, rfl, G1⟩
      have HG1 : Hid (Gr (((w.alloc (.cells #[.int .i64 room, .slice ao n cap, .int .i64 pu, .int .i64 sl] 24)).alloc (.cells #[.int .u32 bp, .slice va vn vc] 28)).alloc (.cells #[.int .u32 f, .int .u32 t] 30)) w1) := G1
      clear G1 NEW2
      go_wp2_with fail
      refine (SAM.out _ [] a1 none 0 0 c1 0 rm 0 0 (bs_nil _ _) (bs_nil _ _) (by simp)).mono ?_
      rintro e w2 ⟨rfl, G2⟩
      have HG2 : Hid (Gr (((w.alloc (.cells #[.int .i64 room, .slice ao n cap, .int .i64 pu, .int .i64 sl] 24)).alloc (.cells #[.int .u32 bp, .slice va vn vc] 28)).alloc (.cells #[.int .u32 f, .int .u32 t] 30)) w2) := Gr.trans (by repeat (first | exact HG1.out | refine Gr.alloc ?_ _)) G2
      clear G2 HG1
      obtain ⟨⟨gw2, hl2⟩, x0, x1, x2, x3, y0, y1, z0, z1⟩ := HX.out _ HG2.out
      have hl2a : w.heap.size < w2.heap.size := by omega
      have hl2b : w.heap.size + 1 < w2.heap.size := by omega
      have HW2 : Hid (Gr w w2) := gw2
      clear gw2
      go_wp2_with fail
      refine (FIND2.out _ (by repeat (first | exact HW2.out | refine Gr.alloc ?_ _))).mono ?_
      rintro e w3 ⟨x, y, rfl, BC3, G3⟩
      have HG3 : Hid (Gr (((w.alloc (.cells #[.int .i64 room, .slice ao n cap, .int .i64 pu, .int .i64 sl] 24)).alloc (.cells #[.int .u32 bp, .slice va vn vc] 28)).alloc (.cells #[.int .u32 f, .int .u32 t] 30)) w3) := Gr.trans (by repeat (first | exact HG2.out | refine Gr.alloc ?_ _)) G3
      have HBC : Hid (∀ W : World, Gr w3 W → Bc W ⟨0, []⟩ x y) := fun W G => BC3.of G
      obtain ⟨rfl, _, fa, fn, fc, rfl, _, _⟩ := BC3
      clear G3 HG2 HW2 FIND2 x0 x1 x2 x3 y0 y1 z0 z1
      obtain ⟨⟨gw3, hl3⟩, x0, x1, x2, x3, y0, y1, z0, z1⟩ := HX.out _ HG3.out
      have hl3a : w.heap.size < w3.heap.size := by omega
      have hl3b : w.heap.size + 1 < w3.heap.size := by omega
      have HW3 : Hid (Gr w w3) := gw3
      clear gw3
      go_wp2_with fail
      refine (PLC2.out _ (by repeat (first | exact HW3.out | refine Gr.alloc ?_ _))).mono ?_
      rintro e w4 ⟨rfl, G4⟩
      have HG4 : Hid (Gr (((w.alloc (.cells #[.int .i64 room, .slice ao n cap, .int .i64 pu, .int .i64 sl] 24)).alloc (.cells #[.int .u32 bp, .slice va vn vc] 28)).alloc (.cells #[.int .u32 f, .int .u32 t] 30)) w4) := Gr.trans (by repeat (first | exact HG3.out | refine Gr.alloc ?_ _)) G4
      have HBF : Hid (w4.heap[w3.heap.size]? = some (.cells #[.int .u32 0, .slice fa fn fc] 28 (0, 0))) := up_h G4 (heap_alloc_new w3 _)
      have HB4 : Hid (∀ W : World, Gr w4 W → Bc W ⟨0, []⟩ (.int .u32 0) (.slice fa fn fc)) := fun W G => HBC.out W ((((Gr.refl _).alloc _).trans G4).trans G)
      clear G4 HG3 HW3 PLC2 HBC x0 x1 x2 x3 y0 y1 z0 z1
      obtain ⟨⟨gw4, hl4⟩, x0, x1, x2, x3, y0, y1, z0, z1⟩ := HX.out _ HG4.out
      have hl4a : w.heap.size < w4.heap.size := by omega
      have hl4b : w.heap.size + 1 < w4.heap.size := by omega
      have HW4 : Hid (Gr w w4) := gw4
      clear gw4
      have f0 : w4.cell? ⟨w3.heap.size, 0, none⟩ = some (.int .u32 0) := cell_of_row _ _ _ _ _ _ HBF.out
      have f1 : w4.cell? ⟨w3.heap.size, 1, none⟩ = some (.slice fa fn fc) := cell_of_row _ _ _ _ _ _ HBF.out
      go_wp2_with fail
      refine wp_region_held_drew (S := fun W => Gr w4 W) (by kernel_rfl) (Gr.refl w4).drew (fun hHeld => ?_)
      have HS0 : Hid _ := hHeld
      clear hHeld
      refine wpAnyH_take (i := 0) (v := .bool false) rfl (by kernel_rfl) (by kernel_rfl) (by kernel_rfl) (fun _ _ _ h => h) (Or.inl ⟨by rfl, fun W hW => by go_simp⟩) HS0.out ?_
      simp only [List.getElem_toArray, List.getElem_cons_succ, List.getElem_cons_zero, Act.put, List.setIfInBounds_toArray, List.set_cons_zero, List.set_cons_succ]
      refine wpAnyH_take (i := 1) (v := .int .i64 K) rfl (by kernel_rfl) (by kernel_rfl) (by kernel_rfl) (fun _ _ _ h => h) (Or.inl ⟨by rfl, fun W hW => by go_simp⟩) HS0.out ?_
      simp only [List.getElem_toArray, List.getElem_cons_succ, List.getElem_cons_zero, Act.put, List.setIfInBounds_toArray, List.set_cons_zero, List.set_cons_succ]
      refine wpAnyH_take (i := 2) (v := .bool false) rfl (by kernel_rfl) (by kernel_rfl) (by kernel_rfl) (fun _ _ _ h => h) (Or.inl ⟨by rfl, fun W hW => by go_simp⟩) HS0.out ?_
      simp only [List.getElem_toArray, List.getElem_cons_succ, List.getElem_cons_zero, Act.put, List.setIfInBounds_toArray, List.set_cons_zero, List.set_cons_succ]
      refine wpAnyH_take (i := 3) (v := .bool false) rfl (by kernel_rfl) (by kernel_rfl) (by kernel_rfl) (fun _ _ _ h => h) (Or.inl ⟨by rfl, fun W hW => by go_simp⟩) HS0.out ?_
      simp only [List.getElem_toArray, List.getElem_cons_succ, List.getElem_cons_zero, Act.put, List.setIfInBounds_toArray, List.set_cons_zero, List.set_cons_succ]
      refine wpAnyH_take (i := 4) (v := .bool false) rfl (by kernel_rfl) (by kernel_rfl) (by kernel_rfl) (fun _ _ _ h => h) (Or.inl ⟨by rfl, fun W hW => by go_simp⟩) HS0.out ?_
      simp only [List.getElem_toArray, List.getElem_cons_succ, List.getElem_cons_zero, Act.put, List.setIfInBounds_toArray, List.set_cons_zero, List.set_cons_succ]
      refine wpAnyH_take (i := 5) (v := .int .i64 K) rfl (by kernel_rfl) (by kernel_rfl) (by kernel_rfl) (fun _ _ _ h => h) (Or.inl ⟨by rfl, fun W hW => by go_simp⟩) HS0.out ?_
      simp only [List.getElem_toArray, List.getElem_cons_succ, List.getElem_cons_zero, Act.put, List.setIfInBounds_toArray, List.set_cons_zero, List.set_cons_succ]
      refine wpAnyH_take (i := 6) (v := .bool false) rfl (by kernel_rfl) (by kernel_rfl) (by kernel_rfl) (fun _ _ _ h => h) (Or.inl ⟨by rfl, fun W hW => by go_simp⟩) HS0.out ?_
      simp only [List.getElem_toArray, List.getElem_cons_succ, List.getElem_cons_zero, Act.put, List.setIfInBounds_toArray, List.set_cons_zero, List.set_cons_succ]
      refine wpAnyH_take (i := 7) (v := .bool false) rfl (by kernel_rfl) (by kernel_rfl) (by kernel_rfl) (fun _ _ _ h => h) (Or.inl ⟨by rfl, fun W hW => by go_simp⟩) HS0.out ?_
      simp only [List.getElem_toArray, List.getElem_cons_succ, List.getElem_cons_zero, Act.put, List.setIfInBounds_toArray, List.set_cons_zero, List.set_cons_succ]
      refine wpAnyH_take (i := 8) (v := undef) rfl (by kernel_rfl) (by kernel_rfl) (by kernel_rfl) (fun _ _ _ h => h) (Or.inr ⟨by rfl, rfl⟩) HS0.out ?_
      simp only [List.getElem_toArray, List.getElem_cons_succ, List.getElem_cons_zero, Act.put, List.setIfInBounds_toArray, List.set_cons_zero, List.set_cons_succ]
      refine wpAnyH_take (i := 9) (v := undef) rfl (by kernel_rfl) (by kernel_rfl) (by kernel_rfl) (fun _ _ _ h => h) (Or.inr ⟨by rfl, rfl⟩) HS0.out ?_
      simp only [List.getElem_toArray, List.getElem_cons_succ, List.getElem_cons_zero, Act.put, List.setIfInBounds_toArray, List.set_cons_zero, List.set_cons_succ]
      refine wpAnyH_take (i := 10) (v := undef) rfl (by kernel_rfl) (by kernel_rfl) (by kernel_rfl) (fun _ _ _ h => h) (Or.inr ⟨by rfl, rfl⟩) HS0.out ?_
      simp only [List.getElem_toArray, List.getElem_cons_succ, List.getElem_cons_zero, Act.put, List.setIfInBounds_toArray, List.set_cons_zero, List.set_cons_succ]
      refine wpAnyH_take (i := 11) (v := undef) rfl (by kernel_rfl) (by kernel_rfl) (by kernel_rfl) (fun _ _ _ h => h) (Or.inr ⟨by rfl, rfl⟩) HS0.out ?_
      simp only [List.getElem_toArray, List.getElem_cons_succ, List.getElem_cons_zero, Act.put, List.setIfInBounds_toArray, List.set_cons_zero, List.set_cons_succ]
      refine wpAnyH_take (i := 12) (v := undef) rfl (by kernel_rfl) (by kernel_rfl) (by kernel_rfl) (fun _ _ _ h => h) (Or.inr ⟨by rfl, rfl⟩) HS0.out ?_
      simp only [List.getElem_toArray, List.getElem_cons_succ, List.getElem_cons_zero, Act.put, List.setIfInBounds_toArray, List.set_cons_zero, List.set_cons_succ]
      refine wpAnyH_take (i := 13) (v := undef) rfl (by kernel_rfl) (by kernel_rfl) (by kernel_rfl) (fun _ _ _ h => h) (Or.inr ⟨by rfl, rfl⟩) HS0.out ?_
      simp only [List.getElem_toArray, List.getElem_cons_succ, List.getElem_cons_zero, Act.put, List.setIfInBounds_toArray, List.set_cons_zero, List.set_cons_succ]
      refine wpAnyH_take (i := 14) (v := undef) rfl (by kernel_rfl) (by kernel_rfl) (by kernel_rfl) (fun _ _ _ h => h) (Or.inr ⟨by rfl, rfl⟩) HS0.out ?_
      simp only [List.getElem_toArray, List.getElem_cons_succ, List.getElem_cons_zero, Act.put, List.setIfInBounds_toArray, List.set_cons_zero, List.set_cons_succ]
      refine wpAnyH_take (i := 15) (v := undef) rfl (by kernel_rfl) (by kernel_rfl) (by kernel_rfl) (fun _ _ _ h => h) (Or.inr ⟨by rfl, rfl⟩) HS0.out ?_
      simp only [List.getElem_toArray, List.getElem_cons_succ, List.getElem_cons_zero, Act.put, List.setIfInBounds_toArray, List.set_cons_zero, List.set_cons_succ]
      refine wpAnyH_take (i := 16) (v := .bool false) rfl (by kernel_rfl) (by kernel_rfl) (by kernel_rfl) (fun _ _ _ h => h) (Or.inl ⟨by rfl, fun W hW => by go_simp⟩) HS0.out ?_
      simp only [List.getElem_toArray, List.getElem_cons_succ, List.getElem_cons_zero, Act.put, List.setIfInBounds_toArray, List.set_cons_zero, List.set_cons_succ]
      refine wpAnyH_take (i := 17) (v := .bool false) rfl (by kernel_rfl) (by kernel_rfl) (by kernel_rfl) (fun _ _ _ h => h) (Or.inl ⟨by rfl, fun W hW => by go_simp⟩) HS0.out ?_
      simp only [List.getElem_toArray, List.getElem_cons_succ, List.getElem_cons_zero, Act.put, List.setIfInBounds_toArray, List.set_cons_zero, List.set_cons_succ]
      refine wpAnyH_take (i := 18) (v := .bool false) rfl (by kernel_rfl) (by kernel_rfl) (by kernel_rfl) (fun _ _ _ h => h) (Or.inl ⟨by rfl, fun W hW => by go_simp⟩) HS0.out ?_
      simp only [List.getElem_toArray, List.getElem_cons_succ, List.getElem_cons_zero, Act.put, List.setIfInBounds_toArray, List.set_cons_zero, List.set_cons_succ]
      refine wpAnyH_take (i := 19) (v := .int .i64 K) rfl (by kernel_rfl) (by kernel_rfl) (by kernel_rfl) (fun _ _ _ h => h) (Or.inl ⟨by rfl, fun W hW => by go_simp⟩) HS0.out ?_
      simp only [List.getElem_toArray, List.getElem_cons_succ, List.getElem_cons_zero, Act.put, List.setIfInBounds_toArray, List.set_cons_zero, List.set_cons_succ]
      refine wpAnyH_take (i := 20) (v := .bool true) rfl (by kernel_rfl) (by kernel_rfl) (by kernel_rfl) (fun _ _ _ h => h) (Or.inl ⟨by rfl, fun W hW => by go_simp⟩) HS0.out ?_
      simp only [List.getElem_toArray, List.getElem_cons_succ, List.getElem_cons_zero, Act.put, List.setIfInBounds_toArray, List.set_cons_zero, List.set_cons_succ]
      refine wpAnyH_take (i := 21) (v := .bool true) rfl (by kernel_rfl) (by kernel_rfl) (by kernel_rfl) (fun _ _ _ h => h) (Or.inl ⟨by rfl, fun W hW => by go_simp⟩) HS0.out ?_
      simp only [List.getElem_toArray, List.getElem_cons_succ, List.getElem_cons_zero, Act.put, List.setIfInBounds_toArray, List.set_cons_zero, List.set_cons_succ]
      refine wpAnyH_take (i := 22) (v := .agg #[.int .u32 0, .slice fa fn fc]) rfl (by kernel_rfl) (by kernel_rfl) (by kernel_rfl) (fun _ _ _ h => h) (Or.inl ⟨by rfl, fun W hW => by have f0' := (hW.cell _ (by exact lt_cell f0)).trans f0; have f1' := (hW.cell _ (by exact lt_cell f1)).trans f1; go_simp⟩) HS0.out ?_
      simp only [List.getElem_toArray, List.getElem_cons_succ, List.getElem_cons_zero, Act.put, List.setIfInBounds_toArray, List.set_cons_zero, List.set_cons_succ]
      refine wpAnyH_take (i := 23) (v := .agg #[.int .u32 0, .slice none 0 0]) rfl (by kernel_rfl) (by kernel_rfl) (by kernel_rfl) (fun _ _ _ h => h) (Or.inl ⟨by rfl, fun W hW => by go_simp⟩) HS0.out ?_
      simp only [List.getElem_toArray, List.getElem_cons_succ, List.getElem_cons_zero, Act.put, List.setIfInBounds_toArray, List.set_cons_zero, List.set_cons_succ]
      refine wpAnyH_ready (rs := [24]) (by kernel_rfl) (by simp) ?_
      refine AllReadyH.cons rfl (fun K hK => ?_) AllReadyH.nil
      go_simp
      refine (SIX.out _ ⟨0, []⟩ (.int .u32 0) (.slice fa fn fc) (.int .u32 0) (.slice none 0 0) (HB4.out _ (Gr.refl _).drew) (HE.out _)).mono ?_
      rintro e w5 ⟨rfl, G5⟩
      have HG45 : Hid (Gr w4 w5) := (Gr.refl w4).drew.trans G5
      have HG5 : Hid (Gr (((w.alloc (.cells #[.int .i64 room, .slice ao n cap, .int .i64 pu, .int .i64 sl] 24)).alloc (.cells #[.int .u32 bp, .slice va vn vc] 28)).alloc (.cells #[.int .u32 f, .int .u32 t] 30)) w5) := HG4.out.trans HG45.out
      refine hK.out _ _ HG45.out (fun hx => ?_)
      clear hK K hx G5
      have HS0 : Hid (Gr w4 w5) := HG45.out
      refine wpAnyH_take (i := 25) (v := .bool false) rfl (by kernel_rfl) (by kernel_rfl) (by kernel_rfl) (fun _ _ _ h => h) (Or.inl ⟨by rfl, fun W hW => by go_simp⟩) HS0.out ?_
      simp only [List.getElem_toArray, List.getElem_cons_succ, List.getElem_cons_zero, Act.put, List.setIfInBounds_toArray, List.set_cons_zero, List.set_cons_succ]
      refine wpAnyH_take (i := 26) (v := .bool false) rfl (by kernel_rfl) (by kernel_rfl) (by kernel_rfl) (fun _ _ _ h => h) (Or.inl ⟨by rfl, fun W hW => by go_simp⟩) HS0.out ?_
      simp only [List.getElem_toArray, List.getElem_cons_succ, List.getElem_cons_zero, Act.put, List.setIfInBounds_toArray, List.set_cons_zero, List.set_cons_succ]
      refine wpAnyH_take (i := 27) (v := .bool false) rfl (by kernel_rfl) (by kernel_rfl) (by kernel_rfl) (fun _ _ _ h => h) (Or.inl ⟨by rfl, fun W hW => by go_simp⟩) HS0.out ?_
      simp only [List.getElem_toArray, List.getElem_cons_succ, List.getElem_cons_zero, Act.put, List.setIfInBounds_toArray, List.set_cons_zero, List.set_cons_succ]
      refine wpAnyH_done (by kernel_rfl) ?_ _
      clear HS0
      clear f0 f1 HB4 HBF HG4 HW4 HG45 x0 x1 x2 x3 y0 y1 z0 z1
      obtain ⟨⟨gw5, hl5⟩, x0, x1, x2, x3, y0, y1, z0, z1⟩ := HX.out _ HG5.out
      have hl5a : w.heap.size < w5.heap.size := by omega
      have hl5b : w.heap.size + 1 < w5.heap.size := by omega
      have HW5 : Hid (Gr w w5) := gw5
      clear gw5
      go_wp2_with fail
      refine (STALE.out _ HW5.out).mono ?_
      rintro e w6 ⟨a6, m6, c6, rfl, B6, G6⟩
      have HG6 : Hid (Gr (((w.alloc (.cells #[.int .i64 room, .slice ao n cap, .int .i64 pu, .int .i64 sl] 24)).alloc (.cells #[.int .u32 bp, .slice va vn vc] 28)).alloc (.cells #[.int .u32 f, .int .u32 t] 30)) w6) := HG5.out.trans G6
      have HB6 : Hid (∀ W : World, Gr w6 W → Bs W a6 m6 KL) := fun W G => B6.of G
      clear G6 B6 HG5 HW5 STALE x0 x1 x2 x3 y0 y1 z0 z1
      obtain ⟨⟨gw6, hl6⟩, x0, x1, x2, x3, y0, y1, z0, z1⟩ := HX.out _ HG6.out
      have hl6a : w.heap.size < w6.heap.size := by omega
      have hl6b : w.heap.size + 1 < w6.heap.size := by omega
      have HW6 : Hid (Gr w w6) := gw6
      clear gw6
      go_wp2_with fail
      refine (RST.out _ (by repeat (first | exact HW6.out | refine Gr.alloc ?_ _))).mono ?_
      rintro e w7 ⟨a7, m7, c7, rfl, B7, G7⟩
      have HG7 : Hid (Gr (((w.alloc (.cells #[.int .i64 room, .slice ao n cap, .int .i64 pu, .int .i64 sl] 24)).alloc (.cells #[.int .u32 bp, .slice va vn vc] 28)).alloc (.cells #[.int .u32 f, .int .u32 t] 30)) w7) := Gr.trans (by repeat (first | exact HG6.out | refine Gr.alloc ?_ _)) G7
      have HS7 : Hid (w7.heap[w6.heap.size]? = some (.cells #[.int .i64 room, .slice a6 m6 c6, .int .i64 pu, .int .i64 cn] 24 (0, 0))) := up_h G7 (heap_alloc_new w6 _)
      have s0 : w7.cell? ⟨w6.heap.size, 0, none⟩ = some (.int .i64 room) := cell_of_row _ _ _ _ _ _ HS7.out
      have s1 : w7.cell? ⟨w6.heap.size, 1, none⟩ = some (.slice a6 m6 c6) := cell_of_row _ _ _ _ _ _ HS7.out
      have s2 : w7.cell? ⟨w6.heap.size, 2, none⟩ = some (.int .i64 pu) := cell_of_row _ _ _ _ _ _ HS7.out
      have s3 : w7.cell? ⟨w6.heap.size, 3, none⟩ = some (.int .i64 cn) := cell_of_row _ _ _ _ _ _ HS7.out
      have hs7 : w6.heap.size < w7.heap.size := (Array.getElem?_eq_some_iff.1 HS7.out).1
      have HB7 : Hid (∀ W : World, Gr w7 W → Bs W a6 m6 KL ∧ Bs W a7 m7 KL) := fun W G => ⟨HB6.out W ((((Gr.refl _).alloc _).trans G7).trans G), B7.of G⟩
      clear G7 B7 HB6 HG6 HW6 RST HS7 x0 x1 x2 x3 y0 y1 z0 z1
      obtain ⟨⟨gw7, hl7⟩, x0, x1, x2, x3, y0, y1, z0, z1⟩ := HX.out _ HG7.out
      have hl7a : w.heap.size < w7.heap.size := by omega
      have hl7b : w.heap.size + 1 < w7.heap.size := by omega
      have HW7 : Hid (Gr w w7) := gw7
      clear gw7
      go_wp2_with fail
      refine (SAM.out _ KL a6 a7 m6 m7 c6 c7 room pu cn (HB7.out _ (by repeat (first | exact Gr.refl w7 | refine Gr.alloc ?_ _))).1 (HB7.out _ (by repeat (first | exact Gr.refl w7 | refine Gr.alloc ?_ _))).2 HLk.out).mono ?_
      rintro e w8 ⟨rfl, G8⟩
      have HG8 : Hid (Gr (((w.alloc (.cells #[.int .i64 room, .slice ao n cap, .int .i64 pu, .int .i64 sl] 24)).alloc (.cells #[.int .u32 bp, .slice va vn vc] 28)).alloc (.cells #[.int .u32 f, .int .u32 t] 30)) w8) := Gr.trans (by repeat (first | exact HG7.out | refine Gr.alloc ?_ _)) G8
      clear G8 HB7 HG7 HW7 s0 s1 s2 s3 x0 x1 x2 x3 y0 y1 z0 z1
      obtain ⟨⟨gw8, hl8⟩, x0, x1, x2, x3, y0, y1, z0, z1⟩ := HX.out _ HG8.out
      have hl8a : w.heap.size < w8.heap.size := by omega
      have hl8b : w.heap.size + 1 < w8.heap.size := by omega
      have HW8 : Hid (Gr w w8) := gw8
      clear gw8
      go_wp2_with fail
      by_cases hv : 1 ≤ vn ∧ vn ≤ 16
      · obtain ⟨hv0, hv1⟩ := hv
        refine (PUT.out _ HW8.out ⟨hv0, hv1⟩).mono ?_
        rintro e w9 ⟨a9, m9, c9, rfl, B9, G9⟩
        have HG9 : Hid (Gr (((w.alloc (.cells #[.int .i64 room, .slice ao n cap, .int .i64 pu, .int .i64 sl] 24)).alloc (.cells #[.int .u32 bp, .slice va vn vc] 28)).alloc (.cells #[.int .u32 f, .int .u32 t] 30)) w9) := HG8.out.trans G9
        have HB9 : Hid (∀ W : World, Gr w9 W → Bs W a9 m9 PL) := fun W G => B9.of G
        clear G9 B9 HG8 HW8 PUT BAD x0 x1 x2 x3 y0 y1 z0 z1
        obtain ⟨⟨gw9, hl9⟩, x0, x1, x2, x3, y0, y1, z0, z1⟩ := HX.out _ HG9.out
        have hl9a : w.heap.size < w9.heap.size := by omega
        have hl9b : w.heap.size + 1 < w9.heap.size := by omega
        have HW9 : Hid (Gr w w9) := gw9
        clear gw9
        go_wp2_with fail
        refine (RPU.out _ (by repeat (first | exact HW9.out | refine Gr.alloc ?_ _))).mono ?_
        rintro e w10 ⟨a10, m10, c10, rfl, B10, G10⟩
        have HG10 : Hid (Gr (((w.alloc (.cells #[.int .i64 room, .slice ao n cap, .int .i64 pu, .int .i64 sl] 24)).alloc (.cells #[.int .u32 bp, .slice va vn vc] 28)).alloc (.cells #[.int .u32 f, .int .u32 t] 30)) w10) := Gr.trans (by repeat (first | exact HG9.out | refine Gr.alloc ?_ _)) G10
        have HS10 : Hid (w10.heap[w9.heap.size]? = some (.cells #[.int .i64 room, .slice a9 m9 c9, .int .i64 pp, .int .i64 sl] 24 (0, 0))) := up_h G10 (heap_alloc_new w9 _)
        have s0 : w10.cell? ⟨w9.heap.size, 0, none⟩ = some (.int .i64 room) := cell_of_row _ _ _ _ _ _ HS10.out
        have s1 : w10.cell? ⟨w9.heap.size, 1, none⟩ = some (.slice a9 m9 c9) := cell_of_row _ _ _ _ _ _ HS10.out
        have s2 : w10.cell? ⟨w9.heap.size, 2, none⟩ = some (.int .i64 pp) := cell_of_row _ _ _ _ _ _ HS10.out
        have s3 : w10.cell? ⟨w9.heap.size, 3, none⟩ = some (.int .i64 sl) := cell_of_row _ _ _ _ _ _ HS10.out
        have hs10 : w9.heap.size < w10.heap.size := (Array.getElem?_eq_some_iff.1 HS10.out).1
        have HB10 : Hid (∀ W : World, Gr w10 W → Bs W a9 m9 PL ∧ Bs W a10 m10 PL) := fun W G => ⟨HB9.out W ((((Gr.refl _).alloc _).trans G10).trans G), B10.of G⟩
        clear G10 B10 HB9 HG9 HW9 RPU HS10 x0 x1 x2 x3 y0 y1 z0 z1
        obtain ⟨⟨gw10, hl10⟩, x0, x1, x2, x3, y0, y1, z0, z1⟩ := HX.out _ HG10.out
        have hl10a : w.heap.size < w10.heap.size := by omega
        have hl10b : w.heap.size + 1 < w10.heap.size := by omega
        have HW10 : Hid (Gr w w10) := gw10
        clear gw10
        go_wp2_with fail
        refine (SAM.out _ PL a9 a10 m9 m10 c9 c10 room pp sl (HB10.out _ (by repeat (first | exact Gr.refl w10 | refine Gr.alloc ?_ _))).1 (HB10.out _ (by repeat (first | exact Gr.refl w10 | refine Gr.alloc ?_ _))).2 HLp.out).mono ?_
        rintro e w11 ⟨rfl, G11⟩
        have HG11 : Hid (Gr w w11) := Gr.trans (by repeat (first | exact HW10.out | refine Gr.alloc ?_ _)) G11
        clear G11 HB10 HG10 HW10 s0 s1 s2 s3 x0 x1 x2 x3 y0 y1 z0 z1
        go_wp2_with fail
        go_ret
        exact ⟨rfl, HG11.out⟩
      · have hv' : vn < 1 ∨ 16 < vn := by omega
        refine (BAD.out _ HW8.out hv').mono ?_
        rintro e w9 ⟨a9, c9, rfl, G9⟩
        have HG9 : Hid (Gr (((w.alloc (.cells #[.int .i64 room, .slice ao n cap, .int .i64 pu, .int .i64 sl] 24)).alloc (.cells #[.int .u32 bp, .slice va vn vc] 28)).alloc (.cells #[.int .u32 f, .int .u32 t] 30)) w9) := HG8.out.trans G9
        clear G9 HG8 HW8 PUT BAD hv x0 x1 x2 x3 y0 y1 z0 z1
        obtain ⟨⟨gw9, hl9⟩, x0, x1, x2, x3, y0, y1, z0, z1⟩ := HX.out _ HG9.out
        have hl9a : w.heap.size < w9.heap.size := by omega
        have hl9b : w.heap.size + 1 < w9.heap.size := by omega
        have HW9 : Hid (Gr w w9) := gw9
        clear gw9
        rcases hv' with hv | hv
        all_goals
          go_wp2_with fail
          refine (SAM.out _ [] a9 none 0 0 c9 0 0 0 0 (bs_nil _ _) (bs_nil _ _) (by simp)).mono ?_
          rintro e w10 ⟨rfl, G10⟩
          have HG10 : Hid (Gr w w10) := Gr.trans (by repeat (first | exact HW9.out | refine Gr.alloc ?_ _)) G10
          clear G10 HG9 HW9 x0 x1 x2 x3 y0 y1 z0 z1
          go_wp2_with fail
          go_ret
          exact ⟨rfl, HG10.out⟩


  · subst hK hfx
    obtain ⟨bb, oo, rfl, _, _⟩ := (HBs.out w (Gr.refl w)).spot (by omega)
    have FIND2 : Hid (∀ W : World, Gr w W → Calls Try.prog 8 #[.agg #[.int .i64 room, .slice (some ⟨bb, oo, none⟩) n cap, .int .i64 pu, .int .i64 sl], .int .u32 pc] W fun e w' => ∃ x y, e = .returned (.tuple #[.agg #[x, y], .bool true]) ∧ Bc w' fb x y ∧ Gr W w') := fun W G => by have := FIND.out W G; rwa [decide_eq_true (by omega)] at this
    have PLC2 : Hid (∀ W : World, Gr w W → Calls Try.prog 9 #[.slice (some ⟨bb, oo, none⟩) n cap, .int .u32 pc] W fun e w' => e = .returned (.int .i64 (j : Int)) ∧ Gr W w') := PLC
    have HXB : Hid (bs[j]? = some fb) := hxb
    have hd : decide (0 ≤ (j : Int)) = true := decide_eq_true (by omega)
    have hd2 : decide ((j : Int) < 0) = false := decide_eq_false (by omega)
    have hj0 : (0 : Int) ≤ (j : Int) := by omega
    have hj1 : (j : Int) < (n : Int) := by omega
    clear FIND PLC HPB HFN hxb
    rcases HRM.out with hr | ⟨hr0, hr1⟩
    · have NEW2 : Hid (∀ W : World, Gr w W → Calls Try.prog 6 #[.int .i64 rm] W fun e w' => ∃ a c, e = .returned (.tuple #[.agg #[.int .i64 0, .slice a 0 c, .int .i64 0, .int .i64 0], .int .i64 3]) ∧ Gr W w') := fun W G => by have := NEW.out W G; rwa [if_neg (by omega), if_neg (by omega)] at this
      clear NEW
      rcases hr with hr | hr
      all_goals
        go_enter Try.func3, Try.ntmps3
        go_wp2_with fail
        refine (NEW2.out _ ((((Gr.refl w).alloc _).alloc _).alloc _)).mono ?_
        rintro e w1 ⟨a1, c1, rfl, G1⟩
        have HG1 : Hid (Gr (((w.alloc (.cells #[.int .i64 room, .slice (some ⟨bb, oo, none⟩) n cap, .int .i64 pu, .int .i64 sl] 24)).alloc (.cells #[.int .u32 bp, .slice va vn vc] 28)).alloc (.cells #[.int .u32 f, .int .u32 t] 30)) w1) := G1
        clear G1 NEW2
        go_wp2_with fail
        refine (SAM.out _ [] a1 none 0 0 c1 0 0 0 0 (bs_nil _ _) (bs_nil _ _) (by simp)).mono ?_
        rintro e w2 ⟨rfl, G2⟩
        have HG2 : Hid (Gr (((w.alloc (.cells #[.int .i64 room, .slice (some ⟨bb, oo, none⟩) n cap, .int .i64 pu, .int .i64 sl] 24)).alloc (.cells #[.int .u32 bp, .slice va vn vc] 28)).alloc (.cells #[.int .u32 f, .int .u32 t] 30)) w2) := Gr.trans (by repeat (first | exact HG1.out | refine Gr.alloc ?_ _)) G2
        clear G2 HG1
        obtain ⟨⟨gw2, hl2⟩, x0, x1, x2, x3, y0, y1, z0, z1⟩ := HX.out _ HG2.out
        have hl2a : w.heap.size < w2.heap.size := by omega
        have hl2b : w.heap.size + 1 < w2.heap.size := by omega
        have HW2 : Hid (Gr w w2) := gw2
        clear gw2
        go_wp2_with fail
        refine (FIND2.out _ (by repeat (first | exact HW2.out | refine Gr.alloc ?_ _))).mono ?_
        rintro e w3 ⟨x, y, rfl, BC3, G3⟩
        have HG3 : Hid (Gr (((w.alloc (.cells #[.int .i64 room, .slice (some ⟨bb, oo, none⟩) n cap, .int .i64 pu, .int .i64 sl] 24)).alloc (.cells #[.int .u32 bp, .slice va vn vc] 28)).alloc (.cells #[.int .u32 f, .int .u32 t] 30)) w3) := Gr.trans (by repeat (first | exact HG2.out | refine Gr.alloc ?_ _)) G3
        have HBC : Hid (∀ W : World, Gr w3 W → Bc W fb x y) := fun W G => BC3.of G
        obtain ⟨rfl, _, fa, fn, fc, rfl, _, _⟩ := BC3
        clear G3 HG2 HW2 FIND2 x0 x1 x2 x3 y0 y1 z0 z1
        obtain ⟨⟨gw3, hl3⟩, x0, x1, x2, x3, y0, y1, z0, z1⟩ := HX.out _ HG3.out
        have hl3a : w.heap.size < w3.heap.size := by omega
        have hl3b : w.heap.size + 1 < w3.heap.size := by omega
        have HW3 : Hid (Gr w w3) := gw3
        clear gw3
        go_wp2_with fail
        refine (PLC2.out _ (by repeat (first | exact HW3.out | refine Gr.alloc ?_ _))).mono ?_
        rintro e w4 ⟨rfl, G4⟩
        have HG4 : Hid (Gr (((w.alloc (.cells #[.int .i64 room, .slice (some ⟨bb, oo, none⟩) n cap, .int .i64 pu, .int .i64 sl] 24)).alloc (.cells #[.int .u32 bp, .slice va vn vc] 28)).alloc (.cells #[.int .u32 f, .int .u32 t] 30)) w4) := Gr.trans (by repeat (first | exact HG3.out | refine Gr.alloc ?_ _)) G4
        have HBF : Hid (w4.heap[w3.heap.size]? = some (.cells #[.int .u32 fb.pc, .slice fa fn fc] 28 (0, 0))) := up_h G4 (heap_alloc_new w3 _)
        have HB4 : Hid (∀ W : World, Gr w4 W → Bc W fb (.int .u32 fb.pc) (.slice fa fn fc)) := fun W G => HBC.out W ((((Gr.refl _).alloc _).trans G4).trans G)
        clear G4 HG3 HW3 PLC2 HBC x0 x1 x2 x3 y0 y1 z0 z1
        obtain ⟨⟨gw4, hl4⟩, x0, x1, x2, x3, y0, y1, z0, z1⟩ := HX.out _ HG4.out
        have hl4a : w.heap.size < w4.heap.size := by omega
        have hl4b : w.heap.size + 1 < w4.heap.size := by omega
        have HW4 : Hid (Gr w w4) := gw4
        clear gw4
        have f0 : w4.cell? ⟨w3.heap.size, 0, none⟩ = some (.int .u32 fb.pc) := cell_of_row _ _ _ _ _ _ HBF.out
        have f1 : w4.cell? ⟨w3.heap.size, 1, none⟩ = some (.slice fa fn fc) := cell_of_row _ _ _ _ _ _ HBF.out
        go_wp2_with fail
        obtain ⟨bb', oo', e', hbb, hcl⟩ := (HBs.out w4 HW4.out).spot (by omega)
        injection e' with e'
        injection e' with e1 e2
        subst e1 e2
        obtain ⟨u, v, g0, g1, BQ⟩ := hcl j fb HXB.out
        have HQ : Hid (∀ W : World, Gr w4 W → Bc W fb u v) := fun W G => BQ.of G
        obtain ⟨rfl, _, ga, gn, gc, rfl, _, _⟩ := BQ
        clear hcl
        refine wp_region_held_drew (S := fun W => Gr w4 W) (by kernel_rfl) (Gr.refl w4).drew (fun hHeld => ?_)
        have HS0 : Hid _ := hHeld
        clear hHeld
        refine wpAnyH_take (i := 0) (v := .bool true) rfl (by kernel_rfl) (by kernel_rfl) (by kernel_rfl) (fun _ _ _ h => h) (Or.inl ⟨by rfl, fun W hW => by go_simp⟩) HS0.out ?_
        simp only [List.getElem_toArray, List.getElem_cons_succ, List.getElem_cons_zero, Act.put, List.setIfInBounds_toArray, List.set_cons_zero, List.set_cons_succ]
        refine wpAnyH_take (i := 1) (v := .int .i64 j) rfl (by kernel_rfl) (by kernel_rfl) (by kernel_rfl) (fun _ _ _ h => h) (Or.inl ⟨by rfl, fun W hW => by go_simp⟩) HS0.out ?_
        simp only [List.getElem_toArray, List.getElem_cons_succ, List.getElem_cons_zero, Act.put, List.setIfInBounds_toArray, List.set_cons_zero, List.set_cons_succ]
        refine wpAnyH_take (i := 2) (v := .bool true) rfl (by kernel_rfl) (by kernel_rfl) (by kernel_rfl) (fun _ _ _ h => h) (Or.inl ⟨by rfl, fun W hW => by go_simp⟩) HS0.out ?_
        simp only [List.getElem_toArray, List.getElem_cons_succ, List.getElem_cons_zero, Act.put, List.setIfInBounds_toArray, List.set_cons_zero, List.set_cons_succ]
        refine wpAnyH_take (i := 3) (v := .bool false) rfl (by kernel_rfl) (by kernel_rfl) (by kernel_rfl) (fun _ _ _ h => h) (Or.inl ⟨by rfl, fun W hW => by go_simp⟩) HS0.out ?_
        simp only [List.getElem_toArray, List.getElem_cons_succ, List.getElem_cons_zero, Act.put, List.setIfInBounds_toArray, List.set_cons_zero, List.set_cons_succ]
        refine wpAnyH_take (i := 4) (v := .bool false) rfl (by kernel_rfl) (by kernel_rfl) (by kernel_rfl) (fun _ _ _ h => h) (Or.inl ⟨by rfl, fun W hW => by go_simp⟩) HS0.out ?_
        simp only [List.getElem_toArray, List.getElem_cons_succ, List.getElem_cons_zero, Act.put, List.setIfInBounds_toArray, List.set_cons_zero, List.set_cons_succ]
        refine wpAnyH_take (i := 5) (v := .int .i64 j) rfl (by kernel_rfl) (by kernel_rfl) (by kernel_rfl) (fun _ _ _ h => h) (Or.inl ⟨by rfl, fun W hW => by go_simp⟩) HS0.out ?_
        simp only [List.getElem_toArray, List.getElem_cons_succ, List.getElem_cons_zero, Act.put, List.setIfInBounds_toArray, List.set_cons_zero, List.set_cons_succ]
        refine wpAnyH_take (i := 6) (v := .bool true) rfl (by kernel_rfl) (by kernel_rfl) (by kernel_rfl) (fun _ _ _ h => h) (Or.inl ⟨by rfl, fun W hW => by go_simp⟩) HS0.out ?_
        simp only [List.getElem_toArray, List.getElem_cons_succ, List.getElem_cons_zero, Act.put, List.setIfInBounds_toArray, List.set_cons_zero, List.set_cons_succ]
        refine wpAnyH_take (i := 7) (v := .bool true) rfl (by kernel_rfl) (by kernel_rfl) (by kernel_rfl) (fun _ _ _ h => h) (Or.inl ⟨by rfl, fun W hW => by go_simp⟩) HS0.out ?_
        simp only [List.getElem_toArray, List.getElem_cons_succ, List.getElem_cons_zero, Act.put, List.setIfInBounds_toArray, List.set_cons_zero, List.set_cons_succ]
        refine wpAnyH_take (i := 8) (v := .agg #[.int .u32 fb.pc, .slice fa fn fc]) rfl (by kernel_rfl) (by kernel_rfl) (by kernel_rfl) (fun _ _ _ h => h) (Or.inl ⟨by rfl, fun W hW => by have f0' := (hW.cell _ (by exact lt_cell f0)).trans f0; have f1' := (hW.cell _ (by exact lt_cell f1)).trans f1; go_simp⟩) HS0.out ?_
        simp only [List.getElem_toArray, List.getElem_cons_succ, List.getElem_cons_zero, Act.put, List.setIfInBounds_toArray, List.set_cons_zero, List.set_cons_succ]
        refine wpAnyH_take (i := 9) (v := .pointer (some ⟨w.heap.size, 1, none⟩)) rfl (by kernel_rfl) (by kernel_rfl) (by kernel_rfl) (fun _ _ _ h => h) (Or.inl ⟨by rfl, fun W hW => by go_simp⟩) HS0.out ?_
        simp only [List.getElem_toArray, List.getElem_cons_succ, List.getElem_cons_zero, Act.put, List.setIfInBounds_toArray, List.set_cons_zero, List.set_cons_succ]
        refine wpAnyH_take (i := 10) (v := .slice (some ⟨bb, oo, none⟩) n cap) rfl (by kernel_rfl) (by kernel_rfl) (by kernel_rfl) (fun _ _ _ h => h) (Or.inl ⟨by rfl, fun W hW => by have x1' := (hW.cell _ (by exact lt_cell x1)).trans x1; go_simp⟩) HS0.out ?_
        simp only [List.getElem_toArray, List.getElem_cons_succ, List.getElem_cons_zero, Act.put, List.setIfInBounds_toArray, List.set_cons_zero, List.set_cons_succ]
        refine wpAnyH_take (i := 11) (v := .int .i64 j) rfl (by kernel_rfl) (by kernel_rfl) (by kernel_rfl) (fun _ _ _ h => h) (Or.inl ⟨by rfl, fun W hW => by go_simp⟩) HS0.out ?_
        simp only [List.getElem_toArray, List.getElem_cons_succ, List.getElem_cons_zero, Act.put, List.setIfInBounds_toArray, List.set_cons_zero, List.set_cons_succ]
        refine wpAnyH_take (i := 12) (v := .pointer (some ⟨bb, oo + j * 2, none⟩)) rfl (by kernel_rfl) (by kernel_rfl) (by kernel_rfl) (fun _ _ _ h => h) (Or.inl ⟨by rfl, fun W hW => by go_simp⟩) HS0.out ?_
        simp only [List.getElem_toArray, List.getElem_cons_succ, List.getElem_cons_zero, Act.put, List.setIfInBounds_toArray, List.set_cons_zero, List.set_cons_succ]
        refine wpAnyH_take (i := 13) (v := .agg #[.int .u32 fb.pc, .slice ga gn gc]) rfl (by kernel_rfl) (by kernel_rfl) (by kernel_rfl) (fun _ _ _ h => h) (Or.inl ⟨by rfl, fun W hW => by have g0' := (hW.cell _ (by exact lt_cell g0)).trans g0; have g1' := (hW.cell _ (by exact lt_cell g1)).trans g1; go_simp⟩) HS0.out ?_
        simp only [List.getElem_toArray, List.getElem_cons_succ, List.getElem_cons_zero, Act.put, List.setIfInBounds_toArray, List.set_cons_zero, List.set_cons_succ]
        refine wpAnyH_ready (rs := [14]) (by kernel_rfl) (by simp) ?_
        refine AllReadyH.cons rfl (fun K hK => ?_) AllReadyH.nil
        go_simp
        refine (SIX.out _ fb (.int .u32 fb.pc) (.slice fa fn fc) (.int .u32 fb.pc) (.slice ga gn gc) (HB4.out _ (Gr.refl _).drew) (HQ.out _ (Gr.refl _).drew)).mono ?_
        rintro e w5 ⟨rfl, G5⟩
        have HG45 : Hid (Gr w4 w5) := (Gr.refl w4).drew.trans G5
        have HG5 : Hid (Gr (((w.alloc (.cells #[.int .i64 room, .slice (some ⟨bb, oo, none⟩) n cap, .int .i64 pu, .int .i64 sl] 24)).alloc (.cells #[.int .u32 bp, .slice va vn vc] 28)).alloc (.cells #[.int .u32 f, .int .u32 t] 30)) w5) := HG4.out.trans HG45.out
        refine hK.out _ _ HG45.out (fun hx => ?_)
        clear hK K hx G5
        have HS0 : Hid (Gr w4 w5) := HG45.out
        refine wpAnyH_take (i := 15) (v := .bool false) rfl (by kernel_rfl) (by kernel_rfl) (by kernel_rfl) (fun _ _ _ h => h) (Or.inl ⟨by rfl, fun W hW => by go_simp⟩) HS0.out ?_
        simp only [List.getElem_toArray, List.getElem_cons_succ, List.getElem_cons_zero, Act.put, List.setIfInBounds_toArray, List.set_cons_zero, List.set_cons_succ]
        refine wpAnyH_take (i := 16) (v := .bool false) rfl (by kernel_rfl) (by kernel_rfl) (by kernel_rfl) (fun _ _ _ h => h) (Or.inl ⟨by rfl, fun W hW => by go_simp⟩) HS0.out ?_
        simp only [List.getElem_toArray, List.getElem_cons_succ, List.getElem_cons_zero, Act.put, List.setIfInBounds_toArray, List.set_cons_zero, List.set_cons_succ]
        refine wpAnyH_take (i := 17) (v := .bool false) rfl (by kernel_rfl) (by kernel_rfl) (by kernel_rfl) (fun _ _ _ h => h) (Or.inl ⟨by rfl, fun W hW => by go_simp⟩) HS0.out ?_
        simp only [List.getElem_toArray, List.getElem_cons_succ, List.getElem_cons_zero, Act.put, List.setIfInBounds_toArray, List.set_cons_zero, List.set_cons_succ]
        refine wpAnyH_take (i := 18) (v := .bool false) rfl (by kernel_rfl) (by kernel_rfl) (by kernel_rfl) (fun _ _ _ h => h) (Or.inl ⟨by rfl, fun W hW => by go_simp⟩) HS0.out ?_
        simp only [List.getElem_toArray, List.getElem_cons_succ, List.getElem_cons_zero, Act.put, List.setIfInBounds_toArray, List.set_cons_zero, List.set_cons_succ]
        refine wpAnyH_take (i := 19) (v := .int .i64 j) rfl (by kernel_rfl) (by kernel_rfl) (by kernel_rfl) (fun _ _ _ h => h) (Or.inl ⟨by rfl, fun W hW => by go_simp⟩) HS0.out ?_
        simp only [List.getElem_toArray, List.getElem_cons_succ, List.getElem_cons_zero, Act.put, List.setIfInBounds_toArray, List.set_cons_zero, List.set_cons_succ]
        refine wpAnyH_take (i := 20) (v := .bool false) rfl (by kernel_rfl) (by kernel_rfl) (by kernel_rfl) (fun _ _ _ h => h) (Or.inl ⟨by rfl, fun W hW => by go_simp⟩) HS0.out ?_
        simp only [List.getElem_toArray, List.getElem_cons_succ, List.getElem_cons_zero, Act.put, List.setIfInBounds_toArray, List.set_cons_zero, List.set_cons_succ]
        refine wpAnyH_take (i := 21) (v := .bool false) rfl (by kernel_rfl) (by kernel_rfl) (by kernel_rfl) (fun _ _ _ h => h) (Or.inl ⟨by rfl, fun W hW => by go_simp⟩) HS0.out ?_
        simp only [List.getElem_toArray, List.getElem_cons_succ, List.getElem_cons_zero, Act.put, List.setIfInBounds_toArray, List.set_cons_zero, List.set_cons_succ]
        refine wpAnyH_take (i := 22) (v := undef) rfl (by kernel_rfl) (by kernel_rfl) (by kernel_rfl) (fun _ _ _ h => h) (Or.inr ⟨by rfl, rfl⟩) HS0.out ?_
        simp only [List.getElem_toArray, List.getElem_cons_succ, List.getElem_cons_zero, Act.put, List.setIfInBounds_toArray, List.set_cons_zero, List.set_cons_succ]
        refine wpAnyH_take (i := 23) (v := undef) rfl (by kernel_rfl) (by kernel_rfl) (by kernel_rfl) (fun _ _ _ h => h) (Or.inr ⟨by rfl, rfl⟩) HS0.out ?_
        simp only [List.getElem_toArray, List.getElem_cons_succ, List.getElem_cons_zero, Act.put, List.setIfInBounds_toArray, List.set_cons_zero, List.set_cons_succ]
        refine wpAnyH_take (i := 24) (v := undef) rfl (by kernel_rfl) (by kernel_rfl) (by kernel_rfl) (fun _ _ _ h => h) (Or.inr ⟨by rfl, rfl⟩) HS0.out ?_
        simp only [List.getElem_toArray, List.getElem_cons_succ, List.getElem_cons_zero, Act.put, List.setIfInBounds_toArray, List.set_cons_zero, List.set_cons_succ]
        refine wpAnyH_take (i := 25) (v := undef) rfl (by kernel_rfl) (by kernel_rfl) (by kernel_rfl) (fun _ _ _ h => h) (Or.inr ⟨by rfl, rfl⟩) HS0.out ?_
        simp only [List.getElem_toArray, List.getElem_cons_succ, List.getElem_cons_zero, Act.put, List.setIfInBounds_toArray, List.set_cons_zero, List.set_cons_succ]
        refine wpAnyH_take (i := 26) (v := .bool false) rfl (by kernel_rfl) (by kernel_rfl) (by kernel_rfl) (fun _ _ _ h => h) (Or.inl ⟨by rfl, fun W hW => by go_simp⟩) HS0.out ?_
        simp only [List.getElem_toArray, List.getElem_cons_succ, List.getElem_cons_zero, Act.put, List.setIfInBounds_toArray, List.set_cons_zero, List.set_cons_succ]
        refine wpAnyH_take (i := 27) (v := .bool false) rfl (by kernel_rfl) (by kernel_rfl) (by kernel_rfl) (fun _ _ _ h => h) (Or.inl ⟨by rfl, fun W hW => by go_simp⟩) HS0.out ?_
        simp only [List.getElem_toArray, List.getElem_cons_succ, List.getElem_cons_zero, Act.put, List.setIfInBounds_toArray, List.set_cons_zero, List.set_cons_succ]
        refine wpAnyH_done (by kernel_rfl) ?_ _
        clear HS0
        clear g0 g1 HQ hbb
        clear f0 f1 HB4 HBF HG4 HW4 HG45 x0 x1 x2 x3 y0 y1 z0 z1
        obtain ⟨⟨gw5, hl5⟩, x0, x1, x2, x3, y0, y1, z0, z1⟩ := HX.out _ HG5.out
        have hl5a : w.heap.size < w5.heap.size := by omega
        have hl5b : w.heap.size + 1 < w5.heap.size := by omega
        have HW5 : Hid (Gr w w5) := gw5
        clear gw5
        go_wp2_with fail
        refine (STALE.out _ HW5.out).mono ?_
        rintro e w6 ⟨a6, m6, c6, rfl, B6, G6⟩
        have HG6 : Hid (Gr (((w.alloc (.cells #[.int .i64 room, .slice (some ⟨bb, oo, none⟩) n cap, .int .i64 pu, .int .i64 sl] 24)).alloc (.cells #[.int .u32 bp, .slice va vn vc] 28)).alloc (.cells #[.int .u32 f, .int .u32 t] 30)) w6) := HG5.out.trans G6
        have HB6 : Hid (∀ W : World, Gr w6 W → Bs W a6 m6 KL) := fun W G => B6.of G
        clear G6 B6 HG5 HW5 STALE x0 x1 x2 x3 y0 y1 z0 z1
        obtain ⟨⟨gw6, hl6⟩, x0, x1, x2, x3, y0, y1, z0, z1⟩ := HX.out _ HG6.out
        have hl6a : w.heap.size < w6.heap.size := by omega
        have hl6b : w.heap.size + 1 < w6.heap.size := by omega
        have HW6 : Hid (Gr w w6) := gw6
        clear gw6
        go_wp2_with fail
        refine (RST.out _ (by repeat (first | exact HW6.out | refine Gr.alloc ?_ _))).mono ?_
        rintro e w7 ⟨a7, m7, c7, rfl, B7, G7⟩
        have HG7 : Hid (Gr (((w.alloc (.cells #[.int .i64 room, .slice (some ⟨bb, oo, none⟩) n cap, .int .i64 pu, .int .i64 sl] 24)).alloc (.cells #[.int .u32 bp, .slice va vn vc] 28)).alloc (.cells #[.int .u32 f, .int .u32 t] 30)) w7) := Gr.trans (by repeat (first | exact HG6.out | refine Gr.alloc ?_ _)) G7
        have HS7 : Hid (w7.heap[w6.heap.size]? = some (.cells #[.int .i64 room, .slice a6 m6 c6, .int .i64 pu, .int .i64 cn] 24 (0, 0))) := up_h G7 (heap_alloc_new w6 _)
        have s0 : w7.cell? ⟨w6.heap.size, 0, none⟩ = some (.int .i64 room) := cell_of_row _ _ _ _ _ _ HS7.out
        have s1 : w7.cell? ⟨w6.heap.size, 1, none⟩ = some (.slice a6 m6 c6) := cell_of_row _ _ _ _ _ _ HS7.out
        have s2 : w7.cell? ⟨w6.heap.size, 2, none⟩ = some (.int .i64 pu) := cell_of_row _ _ _ _ _ _ HS7.out
        have s3 : w7.cell? ⟨w6.heap.size, 3, none⟩ = some (.int .i64 cn) := cell_of_row _ _ _ _ _ _ HS7.out
        have hs7 : w6.heap.size < w7.heap.size := (Array.getElem?_eq_some_iff.1 HS7.out).1
        have HB7 : Hid (∀ W : World, Gr w7 W → Bs W a6 m6 KL ∧ Bs W a7 m7 KL) := fun W G => ⟨HB6.out W ((((Gr.refl _).alloc _).trans G7).trans G), B7.of G⟩
        clear G7 B7 HB6 HG6 HW6 RST HS7 x0 x1 x2 x3 y0 y1 z0 z1
        obtain ⟨⟨gw7, hl7⟩, x0, x1, x2, x3, y0, y1, z0, z1⟩ := HX.out _ HG7.out
        have hl7a : w.heap.size < w7.heap.size := by omega
        have hl7b : w.heap.size + 1 < w7.heap.size := by omega
        have HW7 : Hid (Gr w w7) := gw7
        clear gw7
        go_wp2_with fail
        refine (SAM.out _ KL a6 a7 m6 m7 c6 c7 room pu cn (HB7.out _ (by repeat (first | exact Gr.refl w7 | refine Gr.alloc ?_ _))).1 (HB7.out _ (by repeat (first | exact Gr.refl w7 | refine Gr.alloc ?_ _))).2 HLk.out).mono ?_
        rintro e w8 ⟨rfl, G8⟩
        have HG8 : Hid (Gr (((w.alloc (.cells #[.int .i64 room, .slice (some ⟨bb, oo, none⟩) n cap, .int .i64 pu, .int .i64 sl] 24)).alloc (.cells #[.int .u32 bp, .slice va vn vc] 28)).alloc (.cells #[.int .u32 f, .int .u32 t] 30)) w8) := Gr.trans (by repeat (first | exact HG7.out | refine Gr.alloc ?_ _)) G8
        clear G8 HB7 HG7 HW7 s0 s1 s2 s3 x0 x1 x2 x3 y0 y1 z0 z1
        obtain ⟨⟨gw8, hl8⟩, x0, x1, x2, x3, y0, y1, z0, z1⟩ := HX.out _ HG8.out
        have hl8a : w.heap.size < w8.heap.size := by omega
        have hl8b : w.heap.size + 1 < w8.heap.size := by omega
        have HW8 : Hid (Gr w w8) := gw8
        clear gw8
        go_wp2_with fail
        by_cases hv : 1 ≤ vn ∧ vn ≤ 16
        · obtain ⟨hv0, hv1⟩ := hv
          refine (PUT.out _ HW8.out ⟨hv0, hv1⟩).mono ?_
          rintro e w9 ⟨a9, m9, c9, rfl, B9, G9⟩
          have HG9 : Hid (Gr (((w.alloc (.cells #[.int .i64 room, .slice (some ⟨bb, oo, none⟩) n cap, .int .i64 pu, .int .i64 sl] 24)).alloc (.cells #[.int .u32 bp, .slice va vn vc] 28)).alloc (.cells #[.int .u32 f, .int .u32 t] 30)) w9) := HG8.out.trans G9
          have HB9 : Hid (∀ W : World, Gr w9 W → Bs W a9 m9 PL) := fun W G => B9.of G
          clear G9 B9 HG8 HW8 PUT BAD x0 x1 x2 x3 y0 y1 z0 z1
          obtain ⟨⟨gw9, hl9⟩, x0, x1, x2, x3, y0, y1, z0, z1⟩ := HX.out _ HG9.out
          have hl9a : w.heap.size < w9.heap.size := by omega
          have hl9b : w.heap.size + 1 < w9.heap.size := by omega
          have HW9 : Hid (Gr w w9) := gw9
          clear gw9
          go_wp2_with fail
          refine (RPU.out _ (by repeat (first | exact HW9.out | refine Gr.alloc ?_ _))).mono ?_
          rintro e w10 ⟨a10, m10, c10, rfl, B10, G10⟩
          have HG10 : Hid (Gr (((w.alloc (.cells #[.int .i64 room, .slice (some ⟨bb, oo, none⟩) n cap, .int .i64 pu, .int .i64 sl] 24)).alloc (.cells #[.int .u32 bp, .slice va vn vc] 28)).alloc (.cells #[.int .u32 f, .int .u32 t] 30)) w10) := Gr.trans (by repeat (first | exact HG9.out | refine Gr.alloc ?_ _)) G10
          have HS10 : Hid (w10.heap[w9.heap.size]? = some (.cells #[.int .i64 room, .slice a9 m9 c9, .int .i64 pp, .int .i64 sl] 24 (0, 0))) := up_h G10 (heap_alloc_new w9 _)
          have s0 : w10.cell? ⟨w9.heap.size, 0, none⟩ = some (.int .i64 room) := cell_of_row _ _ _ _ _ _ HS10.out
          have s1 : w10.cell? ⟨w9.heap.size, 1, none⟩ = some (.slice a9 m9 c9) := cell_of_row _ _ _ _ _ _ HS10.out
          have s2 : w10.cell? ⟨w9.heap.size, 2, none⟩ = some (.int .i64 pp) := cell_of_row _ _ _ _ _ _ HS10.out
          have s3 : w10.cell? ⟨w9.heap.size, 3, none⟩ = some (.int .i64 sl) := cell_of_row _ _ _ _ _ _ HS10.out
          have hs10 : w9.heap.size < w10.heap.size := (Array.getElem?_eq_some_iff.1 HS10.out).1
          have HB10 : Hid (∀ W : World, Gr w10 W → Bs W a9 m9 PL ∧ Bs W a10 m10 PL) := fun W G => ⟨HB9.out W ((((Gr.refl _).alloc _).trans G10).trans G), B10.of G⟩
          clear G10 B10 HB9 HG9 HW9 RPU HS10 x0 x1 x2 x3 y0 y1 z0 z1
          obtain ⟨⟨gw10, hl10⟩, x0, x1, x2, x3, y0, y1, z0, z1⟩ := HX.out _ HG10.out
          have hl10a : w.heap.size < w10.heap.size := by omega
          have hl10b : w.heap.size + 1 < w10.heap.size := by omega
          have HW10 : Hid (Gr w w10) := gw10
          clear gw10
          go_wp2_with fail
          refine (SAM.out _ PL a9 a10 m9 m10 c9 c10 room pp sl (HB10.out _ (by repeat (first | exact Gr.refl w10 | refine Gr.alloc ?_ _))).1 (HB10.out _ (by repeat (first | exact Gr.refl w10 | refine Gr.alloc ?_ _))).2 HLp.out).mono ?_
          rintro e w11 ⟨rfl, G11⟩
          have HG11 : Hid (Gr w w11) := Gr.trans (by repeat (first | exact HW10.out | refine Gr.alloc ?_ _)) G11
          clear G11 HB10 HG10 HW10 s0 s1 s2 s3 x0 x1 x2 x3 y0 y1 z0 z1
          go_wp2_with fail
          go_ret
          exact ⟨rfl, HG11.out⟩
        · have hv' : vn < 1 ∨ 16 < vn := by omega
          refine (BAD.out _ HW8.out hv').mono ?_
          rintro e w9 ⟨a9, c9, rfl, G9⟩
          have HG9 : Hid (Gr (((w.alloc (.cells #[.int .i64 room, .slice (some ⟨bb, oo, none⟩) n cap, .int .i64 pu, .int .i64 sl] 24)).alloc (.cells #[.int .u32 bp, .slice va vn vc] 28)).alloc (.cells #[.int .u32 f, .int .u32 t] 30)) w9) := HG8.out.trans G9
          clear G9 HG8 HW8 PUT BAD hv x0 x1 x2 x3 y0 y1 z0 z1
          obtain ⟨⟨gw9, hl9⟩, x0, x1, x2, x3, y0, y1, z0, z1⟩ := HX.out _ HG9.out
          have hl9a : w.heap.size < w9.heap.size := by omega
          have hl9b : w.heap.size + 1 < w9.heap.size := by omega
          have HW9 : Hid (Gr w w9) := gw9
          clear gw9
          rcases hv' with hv | hv
          all_goals
            go_wp2_with fail
            refine (SAM.out _ [] a9 none 0 0 c9 0 0 0 0 (bs_nil _ _) (bs_nil _ _) (by simp)).mono ?_
            rintro e w10 ⟨rfl, G10⟩
            have HG10 : Hid (Gr w w10) := Gr.trans (by repeat (first | exact HW9.out | refine Gr.alloc ?_ _)) G10
            clear G10 HG9 HW9 x0 x1 x2 x3 y0 y1 z0 z1
            go_wp2_with fail
            go_ret
            exact ⟨rfl, HG10.out⟩

    · have NEW2 : Hid (∀ W : World, Gr w W → Calls Try.prog 6 #[.int .i64 rm] W fun e w' => ∃ a c, e = .returned (.tuple #[.agg #[.int .i64 rm, .slice a 0 c, .int .i64 0, .int .i64 0], .int .i64 0]) ∧ Gr W w') := fun W G => by have := NEW.out W G; rwa [if_pos ⟨hr0, hr1⟩, if_pos ⟨hr0, hr1⟩] at this
      clear NEW
      go_enter Try.func3, Try.ntmps3
      go_wp2_with fail
      refine (NEW2.out _ ((((Gr.refl w).alloc _).alloc _).alloc _)).mono ?_
      rintro e w1 ⟨a1, c1, rfl, G1⟩
      have HG1 : Hid (Gr (((w.alloc (.cells #[.int .i64 room, .slice (some ⟨bb, oo, none⟩) n cap, .int .i64 pu, .int .i64 sl] 24)).alloc (.cells #[.int .u32 bp, .slice va vn vc] 28)).alloc (.cells #[.int .u32 f, .int .u32 t] 30)) w1) := G1
      clear G1 NEW2
      go_wp2_with fail
      refine (SAM.out _ [] a1 none 0 0 c1 0 rm 0 0 (bs_nil _ _) (bs_nil _ _) (by simp)).mono ?_
      rintro e w2 ⟨rfl, G2⟩
      have HG2 : Hid (Gr (((w.alloc (.cells #[.int .i64 room, .slice (some ⟨bb, oo, none⟩) n cap, .int .i64 pu, .int .i64 sl] 24)).alloc (.cells #[.int .u32 bp, .slice va vn vc] 28)).alloc (.cells #[.int .u32 f, .int .u32 t] 30)) w2) := Gr.trans (by repeat (first | exact HG1.out | refine Gr.alloc ?_ _)) G2
      clear G2 HG1
      obtain ⟨⟨gw2, hl2⟩, x0, x1, x2, x3, y0, y1, z0, z1⟩ := HX.out _ HG2.out
      have hl2a : w.heap.size < w2.heap.size := by omega
      have hl2b : w.heap.size + 1 < w2.heap.size := by omega
      have HW2 : Hid (Gr w w2) := gw2
      clear gw2
      go_wp2_with fail
      refine (FIND2.out _ (by repeat (first | exact HW2.out | refine Gr.alloc ?_ _))).mono ?_
      rintro e w3 ⟨x, y, rfl, BC3, G3⟩
      have HG3 : Hid (Gr (((w.alloc (.cells #[.int .i64 room, .slice (some ⟨bb, oo, none⟩) n cap, .int .i64 pu, .int .i64 sl] 24)).alloc (.cells #[.int .u32 bp, .slice va vn vc] 28)).alloc (.cells #[.int .u32 f, .int .u32 t] 30)) w3) := Gr.trans (by repeat (first | exact HG2.out | refine Gr.alloc ?_ _)) G3
      have HBC : Hid (∀ W : World, Gr w3 W → Bc W fb x y) := fun W G => BC3.of G
      obtain ⟨rfl, _, fa, fn, fc, rfl, _, _⟩ := BC3
      clear G3 HG2 HW2 FIND2 x0 x1 x2 x3 y0 y1 z0 z1
      obtain ⟨⟨gw3, hl3⟩, x0, x1, x2, x3, y0, y1, z0, z1⟩ := HX.out _ HG3.out
      have hl3a : w.heap.size < w3.heap.size := by omega
      have hl3b : w.heap.size + 1 < w3.heap.size := by omega
      have HW3 : Hid (Gr w w3) := gw3
      clear gw3
      go_wp2_with fail
      refine (PLC2.out _ (by repeat (first | exact HW3.out | refine Gr.alloc ?_ _))).mono ?_
      rintro e w4 ⟨rfl, G4⟩
      have HG4 : Hid (Gr (((w.alloc (.cells #[.int .i64 room, .slice (some ⟨bb, oo, none⟩) n cap, .int .i64 pu, .int .i64 sl] 24)).alloc (.cells #[.int .u32 bp, .slice va vn vc] 28)).alloc (.cells #[.int .u32 f, .int .u32 t] 30)) w4) := Gr.trans (by repeat (first | exact HG3.out | refine Gr.alloc ?_ _)) G4
      have HBF : Hid (w4.heap[w3.heap.size]? = some (.cells #[.int .u32 fb.pc, .slice fa fn fc] 28 (0, 0))) := up_h G4 (heap_alloc_new w3 _)
      have HB4 : Hid (∀ W : World, Gr w4 W → Bc W fb (.int .u32 fb.pc) (.slice fa fn fc)) := fun W G => HBC.out W ((((Gr.refl _).alloc _).trans G4).trans G)
      clear G4 HG3 HW3 PLC2 HBC x0 x1 x2 x3 y0 y1 z0 z1
      obtain ⟨⟨gw4, hl4⟩, x0, x1, x2, x3, y0, y1, z0, z1⟩ := HX.out _ HG4.out
      have hl4a : w.heap.size < w4.heap.size := by omega
      have hl4b : w.heap.size + 1 < w4.heap.size := by omega
      have HW4 : Hid (Gr w w4) := gw4
      clear gw4
      have f0 : w4.cell? ⟨w3.heap.size, 0, none⟩ = some (.int .u32 fb.pc) := cell_of_row _ _ _ _ _ _ HBF.out
      have f1 : w4.cell? ⟨w3.heap.size, 1, none⟩ = some (.slice fa fn fc) := cell_of_row _ _ _ _ _ _ HBF.out
      go_wp2_with fail
      obtain ⟨bb', oo', e', hbb, hcl⟩ := (HBs.out w4 HW4.out).spot (by omega)
      injection e' with e'
      injection e' with e1 e2
      subst e1 e2
      obtain ⟨u, v, g0, g1, BQ⟩ := hcl j fb HXB.out
      have HQ : Hid (∀ W : World, Gr w4 W → Bc W fb u v) := fun W G => BQ.of G
      obtain ⟨rfl, _, ga, gn, gc, rfl, _, _⟩ := BQ
      clear hcl
      refine wp_region_held_drew (S := fun W => Gr w4 W) (by kernel_rfl) (Gr.refl w4).drew (fun hHeld => ?_)
      have HS0 : Hid _ := hHeld
      clear hHeld
      refine wpAnyH_take (i := 0) (v := .bool true) rfl (by kernel_rfl) (by kernel_rfl) (by kernel_rfl) (fun _ _ _ h => h) (Or.inl ⟨by rfl, fun W hW => by go_simp⟩) HS0.out ?_
      simp only [List.getElem_toArray, List.getElem_cons_succ, List.getElem_cons_zero, Act.put, List.setIfInBounds_toArray, List.set_cons_zero, List.set_cons_succ]
      refine wpAnyH_take (i := 1) (v := .int .i64 j) rfl (by kernel_rfl) (by kernel_rfl) (by kernel_rfl) (fun _ _ _ h => h) (Or.inl ⟨by rfl, fun W hW => by go_simp⟩) HS0.out ?_
      simp only [List.getElem_toArray, List.getElem_cons_succ, List.getElem_cons_zero, Act.put, List.setIfInBounds_toArray, List.set_cons_zero, List.set_cons_succ]
      refine wpAnyH_take (i := 2) (v := .bool true) rfl (by kernel_rfl) (by kernel_rfl) (by kernel_rfl) (fun _ _ _ h => h) (Or.inl ⟨by rfl, fun W hW => by go_simp⟩) HS0.out ?_
      simp only [List.getElem_toArray, List.getElem_cons_succ, List.getElem_cons_zero, Act.put, List.setIfInBounds_toArray, List.set_cons_zero, List.set_cons_succ]
      refine wpAnyH_take (i := 3) (v := .bool false) rfl (by kernel_rfl) (by kernel_rfl) (by kernel_rfl) (fun _ _ _ h => h) (Or.inl ⟨by rfl, fun W hW => by go_simp⟩) HS0.out ?_
      simp only [List.getElem_toArray, List.getElem_cons_succ, List.getElem_cons_zero, Act.put, List.setIfInBounds_toArray, List.set_cons_zero, List.set_cons_succ]
      refine wpAnyH_take (i := 4) (v := .bool false) rfl (by kernel_rfl) (by kernel_rfl) (by kernel_rfl) (fun _ _ _ h => h) (Or.inl ⟨by rfl, fun W hW => by go_simp⟩) HS0.out ?_
      simp only [List.getElem_toArray, List.getElem_cons_succ, List.getElem_cons_zero, Act.put, List.setIfInBounds_toArray, List.set_cons_zero, List.set_cons_succ]
      refine wpAnyH_take (i := 5) (v := .int .i64 j) rfl (by kernel_rfl) (by kernel_rfl) (by kernel_rfl) (fun _ _ _ h => h) (Or.inl ⟨by rfl, fun W hW => by go_simp⟩) HS0.out ?_
      simp only [List.getElem_toArray, List.getElem_cons_succ, List.getElem_cons_zero, Act.put, List.setIfInBounds_toArray, List.set_cons_zero, List.set_cons_succ]
      refine wpAnyH_take (i := 6) (v := .bool true) rfl (by kernel_rfl) (by kernel_rfl) (by kernel_rfl) (fun _ _ _ h => h) (Or.inl ⟨by rfl, fun W hW => by go_simp⟩) HS0.out ?_
      simp only [List.getElem_toArray, List.getElem_cons_succ, List.getElem_cons_zero, Act.put, List.setIfInBounds_toArray, List.set_cons_zero, List.set_cons_succ]
      refine wpAnyH_take (i := 7) (v := .bool true) rfl (by kernel_rfl) (by kernel_rfl) (by kernel_rfl) (fun _ _ _ h => h) (Or.inl ⟨by rfl, fun W hW => by go_simp⟩) HS0.out ?_
      simp only [List.getElem_toArray, List.getElem_cons_succ, List.getElem_cons_zero, Act.put, List.setIfInBounds_toArray, List.set_cons_zero, List.set_cons_succ]
      refine wpAnyH_take (i := 8) (v := .agg #[.int .u32 fb.pc, .slice fa fn fc]) rfl (by kernel_rfl) (by kernel_rfl) (by kernel_rfl) (fun _ _ _ h => h) (Or.inl ⟨by rfl, fun W hW => by have f0' := (hW.cell _ (by exact lt_cell f0)).trans f0; have f1' := (hW.cell _ (by exact lt_cell f1)).trans f1; go_simp⟩) HS0.out ?_
      simp only [List.getElem_toArray, List.getElem_cons_succ, List.getElem_cons_zero, Act.put, List.setIfInBounds_toArray, List.set_cons_zero, List.set_cons_succ]
      refine wpAnyH_take (i := 9) (v := .pointer (some ⟨w.heap.size, 1, none⟩)) rfl (by kernel_rfl) (by kernel_rfl) (by kernel_rfl) (fun _ _ _ h => h) (Or.inl ⟨by rfl, fun W hW => by go_simp⟩) HS0.out ?_
      simp only [List.getElem_toArray, List.getElem_cons_succ, List.getElem_cons_zero, Act.put, List.setIfInBounds_toArray, List.set_cons_zero, List.set_cons_succ]
      refine wpAnyH_take (i := 10) (v := .slice (some ⟨bb, oo, none⟩) n cap) rfl (by kernel_rfl) (by kernel_rfl) (by kernel_rfl) (fun _ _ _ h => h) (Or.inl ⟨by rfl, fun W hW => by have x1' := (hW.cell _ (by exact lt_cell x1)).trans x1; go_simp⟩) HS0.out ?_
      simp only [List.getElem_toArray, List.getElem_cons_succ, List.getElem_cons_zero, Act.put, List.setIfInBounds_toArray, List.set_cons_zero, List.set_cons_succ]
      refine wpAnyH_take (i := 11) (v := .int .i64 j) rfl (by kernel_rfl) (by kernel_rfl) (by kernel_rfl) (fun _ _ _ h => h) (Or.inl ⟨by rfl, fun W hW => by go_simp⟩) HS0.out ?_
      simp only [List.getElem_toArray, List.getElem_cons_succ, List.getElem_cons_zero, Act.put, List.setIfInBounds_toArray, List.set_cons_zero, List.set_cons_succ]
      refine wpAnyH_take (i := 12) (v := .pointer (some ⟨bb, oo + j * 2, none⟩)) rfl (by kernel_rfl) (by kernel_rfl) (by kernel_rfl) (fun _ _ _ h => h) (Or.inl ⟨by rfl, fun W hW => by go_simp⟩) HS0.out ?_
      simp only [List.getElem_toArray, List.getElem_cons_succ, List.getElem_cons_zero, Act.put, List.setIfInBounds_toArray, List.set_cons_zero, List.set_cons_succ]
      refine wpAnyH_take (i := 13) (v := .agg #[.int .u32 fb.pc, .slice ga gn gc]) rfl (by kernel_rfl) (by kernel_rfl) (by kernel_rfl) (fun _ _ _ h => h) (Or.inl ⟨by rfl, fun W hW => by have g0' := (hW.cell _ (by exact lt_cell g0)).trans g0; have g1' := (hW.cell _ (by exact lt_cell g1)).trans g1; go_simp⟩) HS0.out ?_
      simp only [List.getElem_toArray, List.getElem_cons_succ, List.getElem_cons_zero, Act.put, List.setIfInBounds_toArray, List.set_cons_zero, List.set_cons_succ]
      refine wpAnyH_ready (rs := [14]) (by kernel_rfl) (by simp) ?_
      refine AllReadyH.cons rfl (fun K hK => ?_) AllReadyH.nil
      go_simp
      refine (SIX.out _ fb (.int .u32 fb.pc) (.slice fa fn fc) (.int .u32 fb.pc) (.slice ga gn gc) (HB4.out _ (Gr.refl _).drew) (HQ.out _ (Gr.refl _).drew)).mono ?_
      rintro e w5 ⟨rfl, G5⟩
      have HG45 : Hid (Gr w4 w5) := (Gr.refl w4).drew.trans G5
      have HG5 : Hid (Gr (((w.alloc (.cells #[.int .i64 room, .slice (some ⟨bb, oo, none⟩) n cap, .int .i64 pu, .int .i64 sl] 24)).alloc (.cells #[.int .u32 bp, .slice va vn vc] 28)).alloc (.cells #[.int .u32 f, .int .u32 t] 30)) w5) := HG4.out.trans HG45.out
      refine hK.out _ _ HG45.out (fun hx => ?_)
      clear hK K hx G5
      have HS0 : Hid (Gr w4 w5) := HG45.out
      refine wpAnyH_take (i := 15) (v := .bool false) rfl (by kernel_rfl) (by kernel_rfl) (by kernel_rfl) (fun _ _ _ h => h) (Or.inl ⟨by rfl, fun W hW => by go_simp⟩) HS0.out ?_
      simp only [List.getElem_toArray, List.getElem_cons_succ, List.getElem_cons_zero, Act.put, List.setIfInBounds_toArray, List.set_cons_zero, List.set_cons_succ]
      refine wpAnyH_take (i := 16) (v := .bool false) rfl (by kernel_rfl) (by kernel_rfl) (by kernel_rfl) (fun _ _ _ h => h) (Or.inl ⟨by rfl, fun W hW => by go_simp⟩) HS0.out ?_
      simp only [List.getElem_toArray, List.getElem_cons_succ, List.getElem_cons_zero, Act.put, List.setIfInBounds_toArray, List.set_cons_zero, List.set_cons_succ]
      refine wpAnyH_take (i := 17) (v := .bool false) rfl (by kernel_rfl) (by kernel_rfl) (by kernel_rfl) (fun _ _ _ h => h) (Or.inl ⟨by rfl, fun W hW => by go_simp⟩) HS0.out ?_
      simp only [List.getElem_toArray, List.getElem_cons_succ, List.getElem_cons_zero, Act.put, List.setIfInBounds_toArray, List.set_cons_zero, List.set_cons_succ]
      refine wpAnyH_take (i := 18) (v := .bool false) rfl (by kernel_rfl) (by kernel_rfl) (by kernel_rfl) (fun _ _ _ h => h) (Or.inl ⟨by rfl, fun W hW => by go_simp⟩) HS0.out ?_
      simp only [List.getElem_toArray, List.getElem_cons_succ, List.getElem_cons_zero, Act.put, List.setIfInBounds_toArray, List.set_cons_zero, List.set_cons_succ]
      refine wpAnyH_take (i := 19) (v := .int .i64 j) rfl (by kernel_rfl) (by kernel_rfl) (by kernel_rfl) (fun _ _ _ h => h) (Or.inl ⟨by rfl, fun W hW => by go_simp⟩) HS0.out ?_
      simp only [List.getElem_toArray, List.getElem_cons_succ, List.getElem_cons_zero, Act.put, List.setIfInBounds_toArray, List.set_cons_zero, List.set_cons_succ]
      refine wpAnyH_take (i := 20) (v := .bool false) rfl (by kernel_rfl) (by kernel_rfl) (by kernel_rfl) (fun _ _ _ h => h) (Or.inl ⟨by rfl, fun W hW => by go_simp⟩) HS0.out ?_
      simp only [List.getElem_toArray, List.getElem_cons_succ, List.getElem_cons_zero, Act.put, List.setIfInBounds_toArray, List.set_cons_zero, List.set_cons_succ]
      refine wpAnyH_take (i := 21) (v := .bool false) rfl (by kernel_rfl) (by kernel_rfl) (by kernel_rfl) (fun _ _ _ h => h) (Or.inl ⟨by rfl, fun W hW => by go_simp⟩) HS0.out ?_
      simp only [List.getElem_toArray, List.getElem_cons_succ, List.getElem_cons_zero, Act.put, List.setIfInBounds_toArray, List.set_cons_zero, List.set_cons_succ]
      refine wpAnyH_take (i := 22) (v := undef) rfl (by kernel_rfl) (by kernel_rfl) (by kernel_rfl) (fun _ _ _ h => h) (Or.inr ⟨by rfl, rfl⟩) HS0.out ?_
      simp only [List.getElem_toArray, List.getElem_cons_succ, List.getElem_cons_zero, Act.put, List.setIfInBounds_toArray, List.set_cons_zero, List.set_cons_succ]
      refine wpAnyH_take (i := 23) (v := undef) rfl (by kernel_rfl) (by kernel_rfl) (by kernel_rfl) (fun _ _ _ h => h) (Or.inr ⟨by rfl, rfl⟩) HS0.out ?_
      simp only [List.getElem_toArray, List.getElem_cons_succ, List.getElem_cons_zero, Act.put, List.setIfInBounds_toArray, List.set_cons_zero, List.set_cons_succ]
      refine wpAnyH_take (i := 24) (v := undef) rfl (by kernel_rfl) (by kernel_rfl) (by kernel_rfl) (fun _ _ _ h => h) (Or.inr ⟨by rfl, rfl⟩) HS0.out ?_
      simp only [List.getElem_toArray, List.getElem_cons_succ, List.getElem_cons_zero, Act.put, List.setIfInBounds_toArray, List.set_cons_zero, List.set_cons_succ]
      refine wpAnyH_take (i := 25) (v := undef) rfl (by kernel_rfl) (by kernel_rfl) (by kernel_rfl) (fun _ _ _ h => h) (Or.inr ⟨by rfl, rfl⟩) HS0.out ?_
      simp only [List.getElem_toArray, List.getElem_cons_succ, List.getElem_cons_zero, Act.put, List.setIfInBounds_toArray, List.set_cons_zero, List.set_cons_succ]
      refine wpAnyH_take (i := 26) (v := .bool false) rfl (by kernel_rfl) (by kernel_rfl) (by kernel_rfl) (fun _ _ _ h => h) (Or.inl ⟨by rfl, fun W hW => by go_simp⟩) HS0.out ?_
      simp only [List.getElem_toArray, List.getElem_cons_succ, List.getElem_cons_zero, Act.put, List.setIfInBounds_toArray, List.set_cons_zero, List.set_cons_succ]
      refine wpAnyH_take (i := 27) (v := .bool false) rfl (by kernel_rfl) (by kernel_rfl) (by kernel_rfl) (fun _ _ _ h => h) (Or.inl ⟨by rfl, fun W hW => by go_simp⟩) HS0.out ?_
      simp only [List.getElem_toArray, List.getElem_cons_succ, List.getElem_cons_zero, Act.put, List.setIfInBounds_toArray, List.set_cons_zero, List.set_cons_succ]
      refine wpAnyH_done (by kernel_rfl) ?_ _
      clear HS0
      clear g0 g1 HQ hbb
      clear f0 f1 HB4 HBF HG4 HW4 HG45 x0 x1 x2 x3 y0 y1 z0 z1
      obtain ⟨⟨gw5, hl5⟩, x0, x1, x2, x3, y0, y1, z0, z1⟩ := HX.out _ HG5.out
      have hl5a : w.heap.size < w5.heap.size := by omega
      have hl5b : w.heap.size + 1 < w5.heap.size := by omega
      have HW5 : Hid (Gr w w5) := gw5
      clear gw5
      go_wp2_with fail
      refine (STALE.out _ HW5.out).mono ?_
      rintro e w6 ⟨a6, m6, c6, rfl, B6, G6⟩
      have HG6 : Hid (Gr (((w.alloc (.cells #[.int .i64 room, .slice (some ⟨bb, oo, none⟩) n cap, .int .i64 pu, .int .i64 sl] 24)).alloc (.cells #[.int .u32 bp, .slice va vn vc] 28)).alloc (.cells #[.int .u32 f, .int .u32 t] 30)) w6) := HG5.out.trans G6
      have HB6 : Hid (∀ W : World, Gr w6 W → Bs W a6 m6 KL) := fun W G => B6.of G
      clear G6 B6 HG5 HW5 STALE x0 x1 x2 x3 y0 y1 z0 z1
      obtain ⟨⟨gw6, hl6⟩, x0, x1, x2, x3, y0, y1, z0, z1⟩ := HX.out _ HG6.out
      have hl6a : w.heap.size < w6.heap.size := by omega
      have hl6b : w.heap.size + 1 < w6.heap.size := by omega
      have HW6 : Hid (Gr w w6) := gw6
      clear gw6
      go_wp2_with fail
      refine (RST.out _ (by repeat (first | exact HW6.out | refine Gr.alloc ?_ _))).mono ?_
      rintro e w7 ⟨a7, m7, c7, rfl, B7, G7⟩
      have HG7 : Hid (Gr (((w.alloc (.cells #[.int .i64 room, .slice (some ⟨bb, oo, none⟩) n cap, .int .i64 pu, .int .i64 sl] 24)).alloc (.cells #[.int .u32 bp, .slice va vn vc] 28)).alloc (.cells #[.int .u32 f, .int .u32 t] 30)) w7) := Gr.trans (by repeat (first | exact HG6.out | refine Gr.alloc ?_ _)) G7
      have HS7 : Hid (w7.heap[w6.heap.size]? = some (.cells #[.int .i64 room, .slice a6 m6 c6, .int .i64 pu, .int .i64 cn] 24 (0, 0))) := up_h G7 (heap_alloc_new w6 _)
      have s0 : w7.cell? ⟨w6.heap.size, 0, none⟩ = some (.int .i64 room) := cell_of_row _ _ _ _ _ _ HS7.out
      have s1 : w7.cell? ⟨w6.heap.size, 1, none⟩ = some (.slice a6 m6 c6) := cell_of_row _ _ _ _ _ _ HS7.out
      have s2 : w7.cell? ⟨w6.heap.size, 2, none⟩ = some (.int .i64 pu) := cell_of_row _ _ _ _ _ _ HS7.out
      have s3 : w7.cell? ⟨w6.heap.size, 3, none⟩ = some (.int .i64 cn) := cell_of_row _ _ _ _ _ _ HS7.out
      have hs7 : w6.heap.size < w7.heap.size := (Array.getElem?_eq_some_iff.1 HS7.out).1
      have HB7 : Hid (∀ W : World, Gr w7 W → Bs W a6 m6 KL ∧ Bs W a7 m7 KL) := fun W G => ⟨HB6.out W ((((Gr.refl _).alloc _).trans G7).trans G), B7.of G⟩
      clear G7 B7 HB6 HG6 HW6 RST HS7 x0 x1 x2 x3 y0 y1 z0 z1
      obtain ⟨⟨gw7, hl7⟩, x0, x1, x2, x3, y0, y1, z0, z1⟩ := HX.out _ HG7.out
      have hl7a : w.heap.size < w7.heap.size := by omega
      have hl7b : w.heap.size + 1 < w7.heap.size := by omega
      have HW7 : Hid (Gr w w7) := gw7
      clear gw7
      go_wp2_with fail
      refine (SAM.out _ KL a6 a7 m6 m7 c6 c7 room pu cn (HB7.out _ (by repeat (first | exact Gr.refl w7 | refine Gr.alloc ?_ _))).1 (HB7.out _ (by repeat (first | exact Gr.refl w7 | refine Gr.alloc ?_ _))).2 HLk.out).mono ?_
      rintro e w8 ⟨rfl, G8⟩
      have HG8 : Hid (Gr (((w.alloc (.cells #[.int .i64 room, .slice (some ⟨bb, oo, none⟩) n cap, .int .i64 pu, .int .i64 sl] 24)).alloc (.cells #[.int .u32 bp, .slice va vn vc] 28)).alloc (.cells #[.int .u32 f, .int .u32 t] 30)) w8) := Gr.trans (by repeat (first | exact HG7.out | refine Gr.alloc ?_ _)) G8
      clear G8 HB7 HG7 HW7 s0 s1 s2 s3 x0 x1 x2 x3 y0 y1 z0 z1
      obtain ⟨⟨gw8, hl8⟩, x0, x1, x2, x3, y0, y1, z0, z1⟩ := HX.out _ HG8.out
      have hl8a : w.heap.size < w8.heap.size := by omega
      have hl8b : w.heap.size + 1 < w8.heap.size := by omega
      have HW8 : Hid (Gr w w8) := gw8
      clear gw8
      go_wp2_with fail
      by_cases hv : 1 ≤ vn ∧ vn ≤ 16
      · obtain ⟨hv0, hv1⟩ := hv
        refine (PUT.out _ HW8.out ⟨hv0, hv1⟩).mono ?_
        rintro e w9 ⟨a9, m9, c9, rfl, B9, G9⟩
        have HG9 : Hid (Gr (((w.alloc (.cells #[.int .i64 room, .slice (some ⟨bb, oo, none⟩) n cap, .int .i64 pu, .int .i64 sl] 24)).alloc (.cells #[.int .u32 bp, .slice va vn vc] 28)).alloc (.cells #[.int .u32 f, .int .u32 t] 30)) w9) := HG8.out.trans G9
        have HB9 : Hid (∀ W : World, Gr w9 W → Bs W a9 m9 PL) := fun W G => B9.of G
        clear G9 B9 HG8 HW8 PUT BAD x0 x1 x2 x3 y0 y1 z0 z1
        obtain ⟨⟨gw9, hl9⟩, x0, x1, x2, x3, y0, y1, z0, z1⟩ := HX.out _ HG9.out
        have hl9a : w.heap.size < w9.heap.size := by omega
        have hl9b : w.heap.size + 1 < w9.heap.size := by omega
        have HW9 : Hid (Gr w w9) := gw9
        clear gw9
        go_wp2_with fail
        refine (RPU.out _ (by repeat (first | exact HW9.out | refine Gr.alloc ?_ _))).mono ?_
        rintro e w10 ⟨a10, m10, c10, rfl, B10, G10⟩
        have HG10 : Hid (Gr (((w.alloc (.cells #[.int .i64 room, .slice (some ⟨bb, oo, none⟩) n cap, .int .i64 pu, .int .i64 sl] 24)).alloc (.cells #[.int .u32 bp, .slice va vn vc] 28)).alloc (.cells #[.int .u32 f, .int .u32 t] 30)) w10) := Gr.trans (by repeat (first | exact HG9.out | refine Gr.alloc ?_ _)) G10
        have HS10 : Hid (w10.heap[w9.heap.size]? = some (.cells #[.int .i64 room, .slice a9 m9 c9, .int .i64 pp, .int .i64 sl] 24 (0, 0))) := up_h G10 (heap_alloc_new w9 _)
        have s0 : w10.cell? ⟨w9.heap.size, 0, none⟩ = some (.int .i64 room) := cell_of_row _ _ _ _ _ _ HS10.out
        have s1 : w10.cell? ⟨w9.heap.size, 1, none⟩ = some (.slice a9 m9 c9) := cell_of_row _ _ _ _ _ _ HS10.out
        have s2 : w10.cell? ⟨w9.heap.size, 2, none⟩ = some (.int .i64 pp) := cell_of_row _ _ _ _ _ _ HS10.out
        have s3 : w10.cell? ⟨w9.heap.size, 3, none⟩ = some (.int .i64 sl) := cell_of_row _ _ _ _ _ _ HS10.out
        have hs10 : w9.heap.size < w10.heap.size := (Array.getElem?_eq_some_iff.1 HS10.out).1
        have HB10 : Hid (∀ W : World, Gr w10 W → Bs W a9 m9 PL ∧ Bs W a10 m10 PL) := fun W G => ⟨HB9.out W ((((Gr.refl _).alloc _).trans G10).trans G), B10.of G⟩
        clear G10 B10 HB9 HG9 HW9 RPU HS10 x0 x1 x2 x3 y0 y1 z0 z1
        obtain ⟨⟨gw10, hl10⟩, x0, x1, x2, x3, y0, y1, z0, z1⟩ := HX.out _ HG10.out
        have hl10a : w.heap.size < w10.heap.size := by omega
        have hl10b : w.heap.size + 1 < w10.heap.size := by omega
        have HW10 : Hid (Gr w w10) := gw10
        clear gw10
        go_wp2_with fail
        refine (SAM.out _ PL a9 a10 m9 m10 c9 c10 room pp sl (HB10.out _ (by repeat (first | exact Gr.refl w10 | refine Gr.alloc ?_ _))).1 (HB10.out _ (by repeat (first | exact Gr.refl w10 | refine Gr.alloc ?_ _))).2 HLp.out).mono ?_
        rintro e w11 ⟨rfl, G11⟩
        have HG11 : Hid (Gr w w11) := Gr.trans (by repeat (first | exact HW10.out | refine Gr.alloc ?_ _)) G11
        clear G11 HB10 HG10 HW10 s0 s1 s2 s3 x0 x1 x2 x3 y0 y1 z0 z1
        go_wp2_with fail
        go_ret
        exact ⟨rfl, HG11.out⟩
      · have hv' : vn < 1 ∨ 16 < vn := by omega
        refine (BAD.out _ HW8.out hv').mono ?_
        rintro e w9 ⟨a9, c9, rfl, G9⟩
        have HG9 : Hid (Gr (((w.alloc (.cells #[.int .i64 room, .slice (some ⟨bb, oo, none⟩) n cap, .int .i64 pu, .int .i64 sl] 24)).alloc (.cells #[.int .u32 bp, .slice va vn vc] 28)).alloc (.cells #[.int .u32 f, .int .u32 t] 30)) w9) := HG8.out.trans G9
        clear G9 HG8 HW8 PUT BAD hv x0 x1 x2 x3 y0 y1 z0 z1
        obtain ⟨⟨gw9, hl9⟩, x0, x1, x2, x3, y0, y1, z0, z1⟩ := HX.out _ HG9.out
        have hl9a : w.heap.size < w9.heap.size := by omega
        have hl9b : w.heap.size + 1 < w9.heap.size := by omega
        have HW9 : Hid (Gr w w9) := gw9
        clear gw9
        rcases hv' with hv | hv
        all_goals
          go_wp2_with fail
          refine (SAM.out _ [] a9 none 0 0 c9 0 0 0 0 (bs_nil _ _) (bs_nil _ _) (by simp)).mono ?_
          rintro e w10 ⟨rfl, G10⟩
          have HG10 : Hid (Gr w w10) := Gr.trans (by repeat (first | exact HW9.out | refine Gr.alloc ?_ _)) G10
          clear G10 HG9 HW9 x0 x1 x2 x3 y0 y1 z0 z1
          go_wp2_with fail
          go_ret
          exact ⟨rfl, HG10.out⟩


end Go.Proofs.Yteipplmmchaboab.Kc
