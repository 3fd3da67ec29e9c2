/-
  What package decode's Decode returns: of every word the instruction that 'Dc' tells, and whether it is one. Conditions: the tables hold what their initialisers lay ('Tab'); words are from 0 to 2^32 - 1.
-/
import Derived.Test.YtdiofidmlgliiaaDoorWalks3
namespace Go.Proofs.YtdiofidmlgliiaaDoor.Dw
open Go.ChangeShapes Go.WideShapes Go.ChangeAt Go.RowKit
set_option linter.unusedVariables false
set_option linter.unusedSimpArgs false

variable {a : Int}
/-- The instruction of a word; all 0, if it is none. -/
def decV (a : Int) : Value := insV (Dc.dop a) (Dc.rdF (Dc.frm (Dc.dop a)) a) (Dc.rs1F (Dc.frm (Dc.dop a)) a) (Dc.rs2F (Dc.frm (Dc.dop a)) a) (Dc.immF (Dc.frm (Dc.dop a)) a)
def decOk (a : Int) : Bool := decide (Dc.dop a ≠ 0)
theorem dec_none (h : Dc.dop a = 0) : decV a = insV 0 0 0 0 0 ∧ decOk a = false := by
  unfold decV decOk; rw [h]; exact ⟨rfl, rfl⟩
theorem dec_some {k : Int} (h : Dc.dop a = k) (hk : 1 ≤ k) : decV a = insV k (Dc.rdF (Dc.frm k) a) (Dc.rs1F (Dc.frm k) a) (Dc.rs2F (Dc.frm k) a) (Dc.immF (Dc.frm k) a) ∧ decOk a = true := by
  unfold decV decOk; rw [h]; exact ⟨rfl, by simp; omega⟩
theorem sp_bd (lo : Int) : (1 ≤ Dc.sp1 lo ∨ Dc.sp2 lo = -1) ∧ 0 ≤ Dc.sp1 lo ∧ Dc.sp1 lo ≤ 58 ∧ -1 ≤ Dc.sp2 lo ∧ Dc.sp2 lo ≤ 59 ∧ Dc.sp1 lo ≤ Dc.sp2 lo + 1 := by
  unfold Dc.sp1 Dc.sp2
  by_cases h1 : lo = 55
  · simp [h1]
  by_cases h2 : lo = 23
  · simp [h2]
  by_cases h3 : lo = 111
  · simp [h3]
  by_cases h4 : lo = 103
  · simp [h4]
  by_cases h5 : lo = 99
  · simp [h5]
  by_cases h6 : lo = 3
  · simp [h6]
  by_cases h7 : lo = 35
  · simp [h7]
  by_cases h8 : lo = 19
  · simp [h8]
  by_cases h9 : lo = 51
  · simp [h9]
  by_cases h10 : lo = 47
  · simp [h10]
  by_cases h11 : lo = 15
  · simp [h11]
  by_cases h12 : lo = 115
  · simp [h12]
  simp [h1, h2, h3, h4, h5, h6, h7, h8, h9, h10, h11, h12]
theorem mask_bd (f : Int) : 0 ≤ Dc.mask f ∧ Dc.mask f < 4294967296 := by
  unfold Dc.mask; repeat' split
  all_goals omega
theorem mask_cell {w : World} (T : Tab w) (f : Int) (h0 : 0 ≤ f) (h1 : f ≤ 9) : w.cell? ⟨2, f.toNat * 17, none⟩ = some (.int .u32 (Dc.mask f)) := by
  have h : f = 0 ∨ f = 1 ∨ f = 2 ∨ f = 3 ∨ f = 4 ∨ f = 5 ∨ f = 6 ∨ f = 7 ∨ f = 8 ∨ f = 9 := by omega
  rcases h with rfl | rfl | rfl | rfl | rfl | rfl | rfl | rfl | rfl | rfl
  · exact T.shapes 0 _ rfl
  · exact T.shapes 17 _ rfl
  · exact T.shapes 34 _ rfl
  · exact T.shapes 51 _ rfl
  · exact T.shapes 68 _ rfl
  · exact T.shapes 85 _ rfl
  · exact T.shapes 102 _ rfl
  · exact T.shapes 119 _ rfl
  · exact T.shapes 136 _ rfl
  · exact T.shapes 153 _ rfl
theorem raw_none {s1 s2 : Int} (h0 : 0 ≤ a) (h1 : a < 4294967296) (e1 : Dc.sp1 (a % 128) = s1) (e2 : Dc.sp2 (a % 128) = s2) (h : ∀ j, s1 ≤ j → j ≤ s2 → Dc.raw a ≠ j) : Dc.dop a = 0 := by
  have : Dc.raw a = 0 := by
    by_cases hr : Dc.raw a = 0
    · exact hr
    · have := Dc.raw_told h0 h1 hr
      exact absurd rfl (h (Dc.raw a) (by omega) (by omega))
  unfold Dc.dop; rw [this]; rfl
set_option maxHeartbeats 1000000 in
theorem Decode_any (a : Int) (w : World) (T : Tab w) (h0 : 0 ≤ a) (h1 : a < 4294967296) :
    Calls Tryd.prog 43 #[.int .u32 a] w fun e w' => e = .returned (.tuple #[decV a, .bool (decOk a)]) ∧ Gr w w' := by
  have hs := sp_bd (a % 128)
  go_enter Tryd.func43, Tryd.ntmps43
  go_wp2_with fail
  refine (span_any a _ h0 h1).mono ?_
  rintro e w' ⟨rfl, rfl⟩
  have E1 : Hid (Dc.sp1 (a % 128) = Dc.sp1 (a % 128)) := rfl
  have E2 : Hid (Dc.sp2 (a % 128) = Dc.sp2 (a % 128)) := rfl
  go_wp2_with fail
  generalize hs1 : Dc.sp1 (a % 128) = s1 at *
  generalize hs2 : Dc.sp2 (a % 128) = s2 at *
  have H1 : Hid (Dc.sp1 (a % 128) = s1) := hs1
  have H2 : Hid (Dc.sp2 (a % 128) = s2) := hs2
  clear hs1 hs2 E1 E2
  obtain ⟨p1, p2, p3, p4, p5, p6⟩ := hs
  go_loopw [6] (fun i wr => ∃ k : Int, i = .int .i64 k ∧ s1 ≤ k ∧ k ≤ s2 + 1 ∧ (∀ j, s1 ≤ j → j < k → Dc.raw a ≠ j) ∧ Gr (w.alloc (.cells #[.int .i64 0, .int .i64 0, .int .i64 0, .int .i64 0, .int .i32 0] 23)) wr) (fun i _ => (s2 + 1 - intOf i).toNat)
  case atStart => exact ⟨s1, rfl, by omega, by omega, fun j _ _ => by omega, Gr.refl _⟩
  case round =>
    obtain ⟨k, rfl, k1, k2, k3, g⟩ := hrel
    obtain ⟨f1, f2, f3⟩ := fresh_of g
    have r0 := f1 0 _ rfl
    have r1 := f1 1 _ rfl
    have r2 := f1 2 _ rfl
    have r3 := f1 3 _ rfl
    have r4 := f1 4 _ rfl
    have T1 := (T.of ((Gr.refl _).alloc _ _)).of g
    have G : Hid (Gr w wr) := ((Gr.refl _).alloc _ _).trans g
    have G1 : Hid (Gr (w.alloc (.cells #[.int .i64 0, .int .i64 0, .int .i64 0, .int .i64 0, .int .i32 0] 23)) wr) := g
    clear f1 g
    by_cases hk : k ≤ s2
    · have hfb := Dc.frm_bd k
      have hti := Dc.told_iff (w := a) (k := k) h0 h1 (by omega) (by omega)
      have hmb := mask_bd (Dc.frm k)
      have hb := bits_and_u32 a (Dc.mask (Dc.frm k)) h0 h1 hmb.1 hmb.2
      rw [← hb] at hti
      have HT : Hid (bits .and .u32 a (Dc.mask (Dc.frm k)) = Dc.tbits k ↔ Dc.raw a = k) := hti
      have K3 : Hid (∀ j, s1 ≤ j → j < k → Dc.raw a ≠ j) := k3
      clear hb hti hmb k3
      go_wp2_with fail
      refine (told_any k _ T1).mono ?_
      rintro e w2 ⟨rfl, g2⟩
      have m0 := mask_cell (T1.of g2) (Dc.frm k) hfb.1 hfb.2
      have G2 : Hid (Gr (w.alloc (.cells #[.int .i64 0, .int .i64 0, .int .i64 0, .int .i64 0, .int .i32 0] 23)) w2) := G1.out.trans g2
      have T2 := T1.of g2
      clear g2 r0 r1 r2 r3 r4 f2 f3 T1 G G1
      by_cases hr : Dc.raw a = k
      · have nb : (bits .and .u32 a (Dc.mask (Dc.frm k)) != Dc.tbits k) = false := by simp [HT.out.2 hr]
        have HR : Hid (Dc.raw a = k) := hr
        clear hr
        go_wp2_with fail
        refine (read_any (Dc.frm k) hfb.1 hfb.2 k a w2 T2 h0 h1).mono ?_
        rintro e w3 ⟨rfl, g3⟩
        unfold insV
        have g := G2.out.trans g3
        obtain ⟨f1, f2, f3⟩ := fresh_of g
        have r0 := f1 0 _ rfl
        have r1 := f1 1 _ rfl
        have r2 := f1 2 _ rfl
        have r3 := f1 3 _ rfl
        have r4 := f1 4 _ rfl
        have G : Hid (Gr w w3) := ((Gr.refl _).alloc _ _).trans g
        clear f1 g g3 G2 T2 m0 nb
        by_cases hk46 : k = 46
        · subst hk46
          by_cases hz : a / 1048576 % 32 = 0
          · obtain ⟨DV0, DO0⟩ := dec_some (a := a) (k := 46) (by unfold Dc.dop; rw [HR.out, if_neg (by omega)]) (by omega)
            have DV : Hid (decV a = _) := DV0
            have DO : Hid (decOk a = true) := DO0
            have hz' : Dc.rs2F (Dc.frm 46) a = 0 := hz
            clear DV0 DO0
            go_wp2_with fail
            refine bodyPost_ret (v := .tuple #[insV 46 (Dc.rdF (Dc.frm 46) a) (Dc.rs1F (Dc.frm 46) a) (Dc.rs2F (Dc.frm 46) a) (Dc.immF (Dc.frm 46) a), .bool true]) (by simp [results, Tryd.results43, go_sem, r0, r1, r2, r3, r4, f3, insV, hz']) rfl ⟨by rw [DV.out, DO.out], ?_⟩
            exact (((((G.out.setCell (by simp) _).setCell (by simp) _).setCell (by simp) _).setCell (by simp) _).setCell (by simp) _).alloc _ _
          · obtain ⟨DV0, DO0⟩ := dec_none (a := a) (by unfold Dc.dop; rw [HR.out, if_pos ⟨rfl, hz⟩])
            have DV : Hid (decV a = _) := DV0
            have DO : Hid (decOk a = false) := DO0
            have hz' : (Dc.rs2F (Dc.frm 46) a != 0) = true := by rw [show Dc.rs2F (Dc.frm 46) a = a / 1048576 % 32 from rfl]; simpa using hz
            clear DV0 DO0
            go_wp2_with fail
            refine bodyPost_ret (v := .tuple #[insV 0 0 0 0 0, .bool false]) (by simp [results, Tryd.results43, go_sem, r0, r1, r2, r3, r4, f3, insV]) rfl ⟨by rw [DV.out, DO.out], ?_⟩
            exact (((((G.out.setCell (by simp) _).setCell (by simp) _).setCell (by simp) _).setCell (by simp) _).setCell (by simp) _).alloc _ _
        · obtain ⟨DV0, DO0⟩ := dec_some (a := a) (k := k) (by unfold Dc.dop; rw [HR.out, if_neg (by omega)]) (by omega)
          have DV : Hid (decV a = _) := DV0
          have DO : Hid (decOk a = true) := DO0
          have b46 : (k == 46) = false := by simpa using hk46
          clear DV0 DO0
          go_wp2_with fail
          refine bodyPost_ret (v := .tuple #[insV k (Dc.rdF (Dc.frm k) a) (Dc.rs1F (Dc.frm k) a) (Dc.rs2F (Dc.frm k) a) (Dc.immF (Dc.frm k) a), .bool true]) (by simp [results, Tryd.results43, go_sem, r0, r1, r2, r3, r4, f3, insV]) rfl ⟨by rw [DV.out, DO.out], ?_⟩
          exact (((((G.out.setCell (by simp) _).setCell (by simp) _).setCell (by simp) _).setCell (by simp) _).setCell (by simp) _).alloc _ _
      · have nb : (bits .and .u32 a (Dc.mask (Dc.frm k)) != Dc.tbits k) = true := by simp; intro h; exact hr (HT.out.1 h)
        go_wp2_with fail
        refine ⟨⟨k + 1, rfl, by omega, by omega, fun j j1 j2 => ?_, G2.out⟩, by simp only [intOf]; omega⟩
        by_cases e : j = k
        · rw [e]; exact hr
        · exact K3.out j j1 (by omega)
    · obtain ⟨DV0, DO0⟩ := dec_none (raw_none h0 h1 H1.out H2.out fun j j1 j2 => k3 j j1 (by omega))
      have DV : Hid (decV a = _) := DV0
      have DO : Hid (decOk a = false) := DO0
      clear k3 DV0 DO0
      go_wp2
      refine bodyPost_ret (v := .tuple #[insV 0 0 0 0 0, .bool false]) (by simp [results, Tryd.results43, go_sem, r0, r1, r2, r3, r4, f3, insV]) rfl ⟨by rw [DV.out, DO.out], ?_⟩
      exact (((((G.out.setCell (by simp) _).setCell (by simp) _).setCell (by simp) _).setCell (by simp) _).setCell (by simp) _)
end Go.Proofs.YtdiofidmlgliiaaDoor.Dw
