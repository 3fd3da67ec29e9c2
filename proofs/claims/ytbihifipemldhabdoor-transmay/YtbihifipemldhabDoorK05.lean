/-
  Tt, Rm6: texts of ours that lie in one file.
-/
import Derived.Test.YtbihifipemldhabDoorK04
import Derived.Test.YtbihifipemldhabDoorTabs
import Derived.Test.YtbihifipemldhabDoorBm2
import Derived.Test.YtbihifipemldhabDoorMemArgs
import Derived.LaidMore
import Derived.Test.YtbihifipemldhabDoorK01
/-
  The tables of packages decode and trans, out of the card's condition; the document's block, whatever the memory.
-/
namespace Go.Proofs.YtbihifipemldhabDoor.Ts
open Go.ChangeShapes Go.WideShapes Go.ChangeAt Go.RowKit Mm Hc Mi Bk
open Hh hiding Rn
set_option linter.unusedVariables false
set_option linter.unusedSimpArgs false

theorem gOpers : Tryd.prog.globalNamed "ferrybridge/trans.operations" = some 1 := by kernel_rfl
theorem tOpers : (Tryd.prog.globals[1]?).map (·.type) = some 144 := by kernel_rfl
theorem lookOpersT : (List.range 28).map (Dw.look Tryd.prog 3 144 (Rows.laid_ferrybridge_trans_operations (H := Unit))) = opersL.map fun n => some (.int .i64 n) := by kernel_rfl
def laidT {H : Type} : List (String × DataW H) := [("ferrybridge/decode.shapes", Rows.laid_ferrybridge_decode_shapes), ("ferrybridge/decode.uppers", Rows.laid_ferrybridge_decode_uppers), ("ferrybridge/trans.operations", Rows.laid_ferrybridge_trans_operations)]
/-- The condition gives the tables. -/
theorem tabsT {W : World} (h : laidMetH Tryd.prog [("ferrybridge/decode.shapes", Rows.laid_ferrybridge_decode_shapes), ("ferrybridge/decode.uppers", Rows.laid_ferrybridge_decode_uppers), ("ferrybridge/trans.operations", Rows.laid_ferrybridge_trans_operations)] W) : Dw.Tab W ∧ Tq W := by
  rw [MakeChecks.laidMetH_plain _ _ _ (by kernel_rfl)] at h
  obtain ⟨ps, ⟨g0, t0, cs0, f0, p0, q0, hg0, ht0, hv0, hd0, ⟨g1, t1, cs1, f1, p1, q1, hg1, ht1, hv1, hd1, ⟨g2, t2, cs2, f2, p2, q2, hg2, ht2, hv2, hd2, _, _⟩, _⟩, _⟩, _, _⟩ := h
  obtain rfl := Option.some.inj (Dw.gShapes.symm.trans hg0)
  obtain rfl := Option.some.inj (Dw.gUppers.symm.trans hg1)
  obtain rfl := Option.some.inj (gOpers.symm.trans hg2)
  obtain rfl := Option.some.inj (Dw.tShapes.symm.trans ht0)
  obtain rfl := Option.some.inj (Dw.tUppers.symm.trans ht1)
  obtain rfl := Option.some.inj (tOpers.symm.trans ht2)
  refine ⟨⟨fun i v hi => ?_, fun i n hi => ?_⟩, fun i n hi => ?_⟩
  · have := Dw.look_cell 5 hd0 (Dw.look_of Dw.lookShapes hi)
    rw [World.var?_cell hg0 hv0 i]; simpa using this
  · have := Dw.look_cell 3 hd1 (Dw.look_of (l := Dc.uppers.map fun n => .int .u32 n) (i := i) (v := .int .u32 n) (by rw [Dw.lookUppers]; simp [Function.comp_def]) (by simp [hi]))
    rw [World.var?_cell hg1 hv1 i]; simpa using this
  · have := Dw.look_cell 3 hd2 (Dw.look_of (l := opersL.map fun n => .int .i64 n) (i := i) (v := .int .i64 n) (by rw [lookOpersT]; simp [Function.comp_def]) (by simp [hi]))
    rw [World.var?_cell hg2 hv2 i]; simpa using this
/-- The door's own heap meets the condition: three closed facts. -/
theorem doorT (os : Os) (args : Array Value) : laidMetH Tryd.prog laidT ((World.doorLaid Tryd.prog 400 os).forCall (fun _ _ => 0) ⟨#[], args, []⟩).memory :=
  laidMetH_of_parts3 (fuel := 8) (laidMet_of_run' 8 (by kernel_rfl) (by kernel_rfl)) (by kernel_rfl) (by kernel_rfl)
theorem RMk_any {w : World} {ao : Option Addr} {n : Nat} (cap : Nat) {l : List UInt8} (pc : Int) (M : Mem w ao n l) (hn : n ≤ 140737488351232) (h0 : 0 ≤ pc) (h1 : pc < 4294967296) :
    Calls Tryd.prog 11 #[.slice ao n cap, .int .u32 pc] w fun e w' => ∃ sa sc, e = .returned (.agg #[.int .u32 (bkP n pc), .slice sa (bkX n l pc).length sc]) ∧ w'.ownsRow w.heap.size 63 5 (.slice sa (bkX n l pc).length sc) (bkX n l pc).length (blC (bkX n l pc)) ∧ Gr w w' := by
  by_cases h : n ≤ 4096
  · refine (RMake_yes cap pc M h h0 h1).mono ?_
    rintro e w' ⟨v, rfl, O, G⟩
    obtain ⟨sa, sc, rfl⟩ := shape_own O
    exact ⟨sa, sc, rfl, O, G⟩
  · refine (RMake_no ao cap l pc (by omega) hn).mono ?_
    rintro e w' ⟨v, rfl, O, G⟩
    obtain ⟨sa, sc, rfl⟩ := shape_own O
    exact ⟨sa, sc, rfl, O, G⟩
theorem bkX_words (n : Nat) (l : List UInt8) (pc : Int) : Words (bkX n l pc) ∧ (bkX n l pc).length ≤ 16 := by
  unfold bkX
  split
  · exact ⟨fun x h => (by cases h), by simp⟩
  · exact ⟨blk_words l pc, (blk_facts l pc 16 0).1⟩
theorem open_capT {H : Type} {enc : TypeId × Value → H} {W : World} {fuel : Nat} {ao : Option Addr} {len cap : Nat} {d : DataW H} {p : List MemPlace}
    (hf : DataW.trod enc Tryd.prog W 0 (fun _ => true) true fuel 22 (Value.slice ao len cap).cells.toList = some (d, p)) : ao = none → cap = 0 := by
  rcases open_ints Tryd.underlying22 Tryd.underlying5 cells5 hf with ⟨hcs, _⟩ | ⟨a, len', cap', zs, hcs, _⟩
  · simp [Value.cells] at hcs
    exact fun _ => hcs.2.2
  · simp [Value.cells] at hcs
    intro h
    rw [h] at hcs
    cases hcs.1
end Go.Proofs.YtbihifipemldhabDoor.Ts
/-
  Whether small steps may be, by the document: May.
-/
namespace Go.Proofs.YtbihifipemldhabDoor.Mi
open Go.ChangeShapes Go.WideShapes Go.ChangeAt Go.RowKit Mm Hh Hc
set_option linter.unusedVariables false
set_option linter.unusedSimpArgs false

set_option maxHeartbeats 4000000 in
set_option maxRecDepth 100000 in
theorem May_any {ao : Option Addr} {n : Nat} (cap : Nat) {code : List Mv} {w : World} (C : Cs w ao n code) (hn : n ≤ 140737488351232) :
    Calls Tryd.prog 14 #[.slice ao n cap] w fun e w' => e = .returned (.bool (mayC code)) ∧ Gr w w' := by
  have HL : Hid (code.length = n) := C.len
  have HM : Hid (mayC code = (decide (n ≤ 200) && code.all micOk)) := by unfold Hid mayC; rw [HL.out]
  by_cases c2 : 200 < n
  · have HE : Hid (mayC code = false) := by unfold Hid; rw [HM.out, decide_eq_false (by omega)]; rfl
    clear HM C
    go_enter Tryd.func14, Tryd.ntmps14
    go_wp2
    go_ret
    exact ⟨retB HE.out.symm, Gr.refl _⟩
  have HM2 : Hid (mayC code = code.all micOk) := by unfold Hid; rw [HM.out, decide_eq_true (by omega)]; rfl
  clear HM
  have HC : Hid (Cs w ao n code) := C
  clear C
  go_enter Tryd.func14, Tryd.ntmps14
  go_wp2
  go_loopw [3] (fun i wr => ∃ j : Nat, j ≤ n ∧ i = .int .i64 j ∧ (code.take j).all micOk = true ∧ Gr w wr) (fun i _ => n - (intOf i).toNat)
  case atStart => exact ⟨0, Nat.zero_le _, rfl, rfl, Gr.refl _⟩
  case round =>
    obtain ⟨j, hj, rfl, hall, G⟩ := hrel
    have HA : Hid ((code.take j).all micOk = true) := hall
    have HG : Hid (Gr w wr) := G
    clear hall G
    by_cases hlt : j < n
    · obtain ⟨c, hc⟩ : ∃ c, code[j]? = some c := ⟨_, List.getElem?_eq_getElem (by rw [HL.out]; exact hlt)⟩
      obtain ⟨b, o, rfl, hb, hcell⟩ := (HC.out.of HG.out).spot (by omega)
      obtain ⟨p0, p1, p2, p3, p4⟩ := hcell j c hc
      have hmem := List.mem_of_getElem? hc
      have HW : Hid (W c.n) := HC.out.wn c hmem
      have wo := HC.out.wo c hmem
      have Nm : Hid (∀ V : World, Calls Tryd.prog 33 #[.int .i64 c.op] V fun e w' => e = .returned (.int .i64 (named c.op)) ∧ w' = V) := fun V => named_any c.op V wo.1 wo.2
      have HNo : Hid (micOk c = false → mayC code = false) := fun h => by rw [HM2.out]; exact all_no hc h
      have HYes : Hid (micOk c = true → (code.take (j + 1)).all micOk = true) := fun h => by rw [all_take1 _ _ _ _ hc, HA.out, h]; rfl
      have N1 : Hid (named c.op < 0 → micOk c = false) := mic_no1
      have N2 : Hid (named c.op < 8 → ¬ c.n = 0 → micOk c = false) := mic_no2
      have R0 : Hid (regOk (decide (named c.op % 2 = 1)) c.d = false → micOk c = false) := mic_no3
      have R1 : Hid (regOk (decide (named c.op / 2 % 2 = 1)) c.a = false → micOk c = false) := mic_no4
      have R2 : Hid (regOk (decide (named c.op / 4 % 2 = 1)) c.b = false → micOk c = false) := mic_no5
      have Y : Hid (0 ≤ named c.op → (8 ≤ named c.op ∨ c.n = 0) → regOk (decide (named c.op % 2 = 1)) c.d = true → regOk (decide (named c.op / 2 % 2 = 1)) c.a = true → regOk (decide (named c.op / 4 % 2 = 1)) c.b = true → micOk c = true) := mic_yes
      clear hcell hc hmem wo HC HA
      have HK : Hid (0 ≤ named c.op → named c.op = 0 ∨ named c.op = 7 ∨ named c.op = 8 ∨ named c.op = 9 ∨ named c.op = 10 ∨ named c.op = 11 ∨ named c.op = 14) := named_vals
      obtain ⟨op, d, a, b2, nn⟩ := c
      simp only at *
      generalize micOk ⟨op, d, a, b2, nn⟩ = OKB at *
      generalize named op = K at *
      by_cases k0 : K < 0
      · go_wp2_with fail
        refine (Nm.out _).mono ?_
        rintro e w1 ⟨rfl, rfl⟩
        go_wp2
        go_ret
        exact ⟨retB (HNo.out (N1.out k0)).symm, HG.out.alloc _⟩
      have kv := HK.out (by omega)
      clear HK
      by_cases k8 : K < 8
      · by_cases hz : nn = 0
        · have YY : Hid (regOk (decide (K % 2 = 1)) d = true → regOk (decide (K / 2 % 2 = 1)) a = true → regOk (decide (K / 4 % 2 = 1)) b2 = true → OKB = true) := Y.out (by omega) (.inr hz)
          subst hz
          clear Y N1 N2
          go_wp2_with fail
          refine (Nm.out _).mono ?_
          rintro e w1 ⟨rfl, rfl⟩
          clear Nm p0 p1 p2 p3 p4
          go_wp2
          go_loopw [8, 7] (fun i bit wq => ∃ t : Nat, t ≤ 3 ∧ i = .int .i64 t ∧ bit = .int .i64 (pw t) ∧ (1 ≤ t → regOk (decide (K % 2 = 1)) d = true) ∧ (2 ≤ t → regOk (decide (K / 2 % 2 = 1)) a = true) ∧ (3 ≤ t → regOk (decide (K / 4 % 2 = 1)) b2 = true) ∧ wq.cell? ⟨wr.heap.size + 1, 0, none⟩ = some (.int .i64 d) ∧ wq.cell? ⟨wr.heap.size + 1, 1, none⟩ = some (.int .i64 a) ∧ wq.cell? ⟨wr.heap.size + 1, 2, none⟩ = some (.int .i64 b2) ∧ Gr w wq) (fun i _ _ => 3 - (intOf i).toNat)
          case atStart => exact ⟨0, by omega, rfl, rfl, by omega, by omega, by omega, by simp, by simp, by simp, (HG.out.alloc _).alloc _⟩
          case round =>
            obtain ⟨t, ht, rfl, rfl, g0, g1, g2, s0, s1, s2, Gq⟩ := hrel
            rename World => wq
            have HGr : Hid (Gr w wq) := Gq
            have G0 : Hid (1 ≤ t → regOk (decide (K % 2 = 1)) d = true) := g0
            have G1 : Hid (2 ≤ t → regOk (decide (K / 2 % 2 = 1)) a = true) := g1
            have G2 : Hid (3 ≤ t → regOk (decide (K / 4 % 2 = 1)) b2 = true) := g2
            clear g0 g1 g2 Gq
            have tv : t = 0 ∨ t = 1 ∨ t = 2 ∨ t = 3 := by omega
            rcases tv with rfl | rfl | rfl | rfl
            · rw [show pw 0 = (1 : Int) from rfl]
              by_cases hb1 : K % 2 = 1
              · have hd1 : decide (K % 2 = 1) = true := decide_eq_true hb1
                have f1 : K.tmod 2 = 1 := by rw [Int.tmod_eq_emod_of_nonneg (by omega)]; omega
                have f2 : (K.tdiv 1).tmod 2 = 1 := by rw [Int.tdiv_one]; exact f1
                by_cases x0 : d < 0
                · go_wp2
                  go_ret
                  exact ⟨retB (HNo.out (R0.out (reg_no (.inr (.inl x0))))).symm, HGr.out⟩
                by_cases x1 : 36 ≤ d
                · go_wp2
                  go_ret
                  exact ⟨retB (HNo.out (R0.out (reg_no (.inr (.inr x1))))).symm, HGr.out⟩
                go_wp2
                go_roundw
                case rel => exact ⟨1, by omega, by go_num, by go_num, (fun _ => reg_yes (.inl hd1) (by omega) (by omega)), (fun h => by omega), (fun h => by omega), s0, s1, s2, HGr.out⟩
                case measure => simp [intOf]
              · have hd1 : decide (K % 2 = 1) = false := decide_eq_false hb1
                have f1 : K.tmod 2 = 0 := by rw [Int.tmod_eq_emod_of_nonneg (by omega)]; omega
                have f2 : (K.tdiv 1).tmod 2 = 0 := by rw [Int.tdiv_one]; exact f1
                by_cases xz : d = 0
                · subst xz
                  go_wp2
                  go_roundw
                  case rel => exact ⟨1, by omega, by go_num, by go_num, (fun _ => reg_yes (.inr rfl) (by omega) (by omega)), (fun h => by omega), (fun h => by omega), s0, s1, s2, HGr.out⟩
                  case measure => simp [intOf]
                · have xb : (d == 0) = false := by simpa using xz
                  have xc : (d != 0) = true := by simpa using xz
                  go_wp2
                  go_ret
                  exact ⟨retB (HNo.out (R0.out (reg_no (.inl ⟨hd1, xz⟩)))).symm, HGr.out⟩
            · rw [show pw 1 = (2 : Int) from rfl]
              by_cases hb1 : K / 2 % 2 = 1
              · have hd1 : decide (K / 2 % 2 = 1) = true := decide_eq_true hb1
                have f1 : (K.tdiv 2).tmod 2 = 1 := by rw [Int.tdiv_eq_ediv_of_nonneg (by omega), Int.tmod_eq_emod_of_nonneg (by omega)]; omega
                by_cases x0 : a < 0
                · go_wp2
                  go_ret
                  exact ⟨retB (HNo.out (R1.out (reg_no (.inr (.inl x0))))).symm, HGr.out⟩
                by_cases x1 : 36 ≤ a
                · go_wp2
                  go_ret
                  exact ⟨retB (HNo.out (R1.out (reg_no (.inr (.inr x1))))).symm, HGr.out⟩
                go_wp2
                go_roundw
                case rel => exact ⟨2, by omega, by go_num, by go_num, (fun _ => G0.out (by omega)), (fun _ => reg_yes (.inl hd1) (by omega) (by omega)), (fun h => by omega), s0, s1, s2, HGr.out⟩
                case measure => simp [intOf]
              · have hd1 : decide (K / 2 % 2 = 1) = false := decide_eq_false hb1
                have f1 : (K.tdiv 2).tmod 2 = 0 := by rw [Int.tdiv_eq_ediv_of_nonneg (by omega), Int.tmod_eq_emod_of_nonneg (by omega)]; omega
                by_cases xz : a = 0
                · subst xz
                  go_wp2
                  go_roundw
                  case rel => exact ⟨2, by omega, by go_num, by go_num, (fun _ => G0.out (by omega)), (fun _ => reg_yes (.inr rfl) (by omega) (by omega)), (fun h => by omega), s0, s1, s2, HGr.out⟩
                  case measure => simp [intOf]
                · have xb : (a == 0) = false := by simpa using xz
                  have xc : (a != 0) = true := by simpa using xz
                  go_wp2
                  go_ret
                  exact ⟨retB (HNo.out (R1.out (reg_no (.inl ⟨hd1, xz⟩)))).symm, HGr.out⟩
            · rw [show pw 2 = (4 : Int) from rfl]
              by_cases hb1 : K / 4 % 2 = 1
              · have hd1 : decide (K / 4 % 2 = 1) = true := decide_eq_true hb1
                have f1 : (K.tdiv 4).tmod 2 = 1 := by rw [Int.tdiv_eq_ediv_of_nonneg (by omega), Int.tmod_eq_emod_of_nonneg (by omega)]; omega
                by_cases x0 : b2 < 0
                · go_wp2
                  go_ret
                  exact ⟨retB (HNo.out (R2.out (reg_no (.inr (.inl x0))))).symm, HGr.out⟩
                by_cases x1 : 36 ≤ b2
                · go_wp2
                  go_ret
                  exact ⟨retB (HNo.out (R2.out (reg_no (.inr (.inr x1))))).symm, HGr.out⟩
                go_wp2
                go_roundw
                case rel => exact ⟨3, by omega, by go_num, by go_num, (fun _ => G0.out (by omega)), (fun _ => G1.out (by omega)), (fun _ => reg_yes (.inl hd1) (by omega) (by omega)), s0, s1, s2, HGr.out⟩
                case measure => simp [intOf]
              · have hd1 : decide (K / 4 % 2 = 1) = false := decide_eq_false hb1
                have f1 : (K.tdiv 4).tmod 2 = 0 := by rw [Int.tdiv_eq_ediv_of_nonneg (by omega), Int.tmod_eq_emod_of_nonneg (by omega)]; omega
                by_cases xz : b2 = 0
                · subst xz
                  go_wp2
                  go_roundw
                  case rel => exact ⟨3, by omega, by go_num, by go_num, (fun _ => G0.out (by omega)), (fun _ => G1.out (by omega)), (fun _ => reg_yes (.inr rfl) (by omega) (by omega)), s0, s1, s2, HGr.out⟩
                  case measure => simp [intOf]
                · have xb : (b2 == 0) = false := by simpa using xz
                  have xc : (b2 != 0) = true := by simpa using xz
                  go_wp2
                  go_ret
                  exact ⟨retB (HNo.out (R2.out (reg_no (.inl ⟨hd1, xz⟩)))).symm, HGr.out⟩
            · go_wp2
              go_roundw
              case rel => exact ⟨j + 1, by omega, by go_num, HYes.out (YY.out (G0.out (by omega)) (G1.out (by omega)) (G2.out (by omega))), HGr.out⟩
              case measure => simp [intOf]; omega
        · have hzb : (nn == 0) = false := by simpa using hz
          have hzc : (nn != 0) = true := by simpa using hz
          go_wp2_with fail
          refine (Nm.out _).mono ?_
          rintro e w1 ⟨rfl, rfl⟩
          go_wp2
          go_ret
          exact ⟨retB (HNo.out (N2.out k8 hz)).symm, HG.out.alloc _⟩
      · have YY : Hid (regOk (decide (K % 2 = 1)) d = true → regOk (decide (K / 2 % 2 = 1)) a = true → regOk (decide (K / 4 % 2 = 1)) b2 = true → OKB = true) := Y.out (by omega) (.inl (by omega))
        clear Y N1 N2
        go_wp2_with fail
        refine (Nm.out _).mono ?_
        rintro e w1 ⟨rfl, rfl⟩
        clear Nm p0 p1 p2 p3 p4
        go_wp2
        go_loopw [8, 7] (fun i bit wq => ∃ t : Nat, t ≤ 3 ∧ i = .int .i64 t ∧ bit = .int .i64 (pw t) ∧ (1 ≤ t → regOk (decide (K % 2 = 1)) d = true) ∧ (2 ≤ t → regOk (decide (K / 2 % 2 = 1)) a = true) ∧ (3 ≤ t → regOk (decide (K / 4 % 2 = 1)) b2 = true) ∧ wq.cell? ⟨wr.heap.size + 1, 0, none⟩ = some (.int .i64 d) ∧ wq.cell? ⟨wr.heap.size + 1, 1, none⟩ = some (.int .i64 a) ∧ wq.cell? ⟨wr.heap.size + 1, 2, none⟩ = some (.int .i64 b2) ∧ Gr w wq) (fun i _ _ => 3 - (intOf i).toNat)
        case atStart => exact ⟨0, by omega, rfl, rfl, by omega, by omega, by omega, by simp, by simp, by simp, (HG.out.alloc _).alloc _⟩
        case round =>
          obtain ⟨t, ht, rfl, rfl, g0, g1, g2, s0, s1, s2, Gq⟩ := hrel
          rename World => wq
          have HGr : Hid (Gr w wq) := Gq
          have G0 : Hid (1 ≤ t → regOk (decide (K % 2 = 1)) d = true) := g0
          have G1 : Hid (2 ≤ t → regOk (decide (K / 2 % 2 = 1)) a = true) := g1
          have G2 : Hid (3 ≤ t → regOk (decide (K / 4 % 2 = 1)) b2 = true) := g2
          clear g0 g1 g2 Gq
          have tv : t = 0 ∨ t = 1 ∨ t = 2 ∨ t = 3 := by omega
          rcases tv with rfl | rfl | rfl | rfl
          · rw [show pw 0 = (1 : Int) from rfl]
            by_cases hb1 : K % 2 = 1
            · have hd1 : decide (K % 2 = 1) = true := decide_eq_true hb1
              have f1 : K.tmod 2 = 1 := by rw [Int.tmod_eq_emod_of_nonneg (by omega)]; omega
              have f2 : (K.tdiv 1).tmod 2 = 1 := by rw [Int.tdiv_one]; exact f1
              by_cases x0 : d < 0
              · go_wp2
                go_ret
                exact ⟨retB (HNo.out (R0.out (reg_no (.inr (.inl x0))))).symm, HGr.out⟩
              by_cases x1 : 36 ≤ d
              · go_wp2
                go_ret
                exact ⟨retB (HNo.out (R0.out (reg_no (.inr (.inr x1))))).symm, HGr.out⟩
              go_wp2
              go_roundw
              case rel => exact ⟨1, by omega, by go_num, by go_num, (fun _ => reg_yes (.inl hd1) (by omega) (by omega)), (fun h => by omega), (fun h => by omega), s0, s1, s2, HGr.out⟩
              case measure => simp [intOf]
            · have hd1 : decide (K % 2 = 1) = false := decide_eq_false hb1
              have f1 : K.tmod 2 = 0 := by rw [Int.tmod_eq_emod_of_nonneg (by omega)]; omega
              have f2 : (K.tdiv 1).tmod 2 = 0 := by rw [Int.tdiv_one]; exact f1
              by_cases xz : d = 0
              · subst xz
                go_wp2
                go_roundw
                case rel => exact ⟨1, by omega, by go_num, by go_num, (fun _ => reg_yes (.inr rfl) (by omega) (by omega)), (fun h => by omega), (fun h => by omega), s0, s1, s2, HGr.out⟩
                case measure => simp [intOf]
              · have xb : (d == 0) = false := by simpa using xz
                have xc : (d != 0) = true := by simpa using xz
                go_wp2
                go_ret
                exact ⟨retB (HNo.out (R0.out (reg_no (.inl ⟨hd1, xz⟩)))).symm, HGr.out⟩
          · rw [show pw 1 = (2 : Int) from rfl]
            by_cases hb1 : K / 2 % 2 = 1
            · have hd1 : decide (K / 2 % 2 = 1) = true := decide_eq_true hb1
              have f1 : (K.tdiv 2).tmod 2 = 1 := by rw [Int.tdiv_eq_ediv_of_nonneg (by omega), Int.tmod_eq_emod_of_nonneg (by omega)]; omega
              by_cases x0 : a < 0
              · go_wp2
                go_ret
                exact ⟨retB (HNo.out (R1.out (reg_no (.inr (.inl x0))))).symm, HGr.out⟩
              by_cases x1 : 36 ≤ a
              · go_wp2
                go_ret
                exact ⟨retB (HNo.out (R1.out (reg_no (.inr (.inr x1))))).symm, HGr.out⟩
              go_wp2
              go_roundw
              case rel => exact ⟨2, by omega, by go_num, by go_num, (fun _ => G0.out (by omega)), (fun _ => reg_yes (.inl hd1) (by omega) (by omega)), (fun h => by omega), s0, s1, s2, HGr.out⟩
              case measure => simp [intOf]
            · have hd1 : decide (K / 2 % 2 = 1) = false := decide_eq_false hb1
              have f1 : (K.tdiv 2).tmod 2 = 0 := by rw [Int.tdiv_eq_ediv_of_nonneg (by omega), Int.tmod_eq_emod_of_nonneg (by omega)]; omega
              by_cases xz : a = 0
              · subst xz
                go_wp2
                go_roundw
                case rel => exact ⟨2, by omega, by go_num, by go_num, (fun _ => G0.out (by omega)), (fun _ => reg_yes (.inr rfl) (by omega) (by omega)), (fun h => by omega), s0, s1, s2, HGr.out⟩
                case measure => simp [intOf]
              · have xb : (a == 0) = false := by simpa using xz
                have xc : (a != 0) = true := by simpa using xz
                go_wp2
                go_ret
                exact ⟨retB (HNo.out (R1.out (reg_no (.inl ⟨hd1, xz⟩)))).symm, HGr.out⟩
          · rw [show pw 2 = (4 : Int) from rfl]
            by_cases hb1 : K / 4 % 2 = 1
            · have hd1 : decide (K / 4 % 2 = 1) = true := decide_eq_true hb1
              have f1 : (K.tdiv 4).tmod 2 = 1 := by rw [Int.tdiv_eq_ediv_of_nonneg (by omega), Int.tmod_eq_emod_of_nonneg (by omega)]; omega
              by_cases x0 : b2 < 0
              · go_wp2
                go_ret
                exact ⟨retB (HNo.out (R2.out (reg_no (.inr (.inl x0))))).symm, HGr.out⟩
              by_cases x1 : 36 ≤ b2
              · go_wp2
                go_ret
                exact ⟨retB (HNo.out (R2.out (reg_no (.inr (.inr x1))))).symm, HGr.out⟩
              go_wp2
              go_roundw
              case rel => exact ⟨3, by omega, by go_num, by go_num, (fun _ => G0.out (by omega)), (fun _ => G1.out (by omega)), (fun _ => reg_yes (.inl hd1) (by omega) (by omega)), s0, s1, s2, HGr.out⟩
              case measure => simp [intOf]
            · have hd1 : decide (K / 4 % 2 = 1) = false := decide_eq_false hb1
              have f1 : (K.tdiv 4).tmod 2 = 0 := by rw [Int.tdiv_eq_ediv_of_nonneg (by omega), Int.tmod_eq_emod_of_nonneg (by omega)]; omega
              by_cases xz : b2 = 0
              · subst xz
                go_wp2
                go_roundw
                case rel => exact ⟨3, by omega, by go_num, by go_num, (fun _ => G0.out (by omega)), (fun _ => G1.out (by omega)), (fun _ => reg_yes (.inr rfl) (by omega) (by omega)), s0, s1, s2, HGr.out⟩
                case measure => simp [intOf]
              · have xb : (b2 == 0) = false := by simpa using xz
                have xc : (b2 != 0) = true := by simpa using xz
                go_wp2
                go_ret
                exact ⟨retB (HNo.out (R2.out (reg_no (.inl ⟨hd1, xz⟩)))).symm, HGr.out⟩
          · go_wp2
            go_roundw
            case rel => exact ⟨j + 1, by omega, by go_num, HYes.out (YY.out (G0.out (by omega)) (G1.out (by omega)) (G2.out (by omega))), HGr.out⟩
            case measure => simp [intOf]; omega
    · have HE : Hid (mayC code = true) := by
        have e : (code.take j).all micOk = true := HA.out
        rw [show j = n by omega, ← HL.out, List.take_length] at e
        unfold Hid; rw [HM2.out, e]
      go_wp2
      go_ret
      exact ⟨retB HE.out.symm, HG.out⟩
end Go.Proofs.YtbihifipemldhabDoor.Mi
