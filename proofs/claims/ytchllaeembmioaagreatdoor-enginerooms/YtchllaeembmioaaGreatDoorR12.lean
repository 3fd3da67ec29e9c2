/-
  Walks4, Ref2c, Td, Mp, Mq: texts of ours that lie in one file.
-/
import Derived.Test.YtchllaeembmioaaGreatDoorR11
import Derived.Test.YtchllaeembmioaaGreatDoorR10
import Derived.Test.YtchllaeembmioaaGreatDoorR01
import Derived.Test.YtchllaeembmioaaGreatDoorR08
set_option linter.unusedVariables false
set_option linter.unusedSimpArgs false
set_option maxHeartbeats 8000000
set_option maxRecDepth 100000
namespace Go.Proofs.YtchllaeembmioaaGreatDoor.Dw
open Go.ChangeShapes Go.WideShapes Go.ChangeAt Go.RowKit

def decV (a : Int) : Value := insV (Dc.dop a) (Dc.rdF (Dc.frm (Dc.dop a)) a) (Dc.rs1F (Dc.frm (Dc.dop a)) a) (Dc.rs2F (Dc.frm (Dc.dop a)) a) (Dc.immF (Dc.frm (Dc.dop a)) a)
def decOk (a : Int) : Bool := decide (Dc.dop a ≠ 0)
theorem dec_none {a : Int} (h : Dc.dop a = 0) : decV a = insV 0 0 0 0 0 ∧ decOk a = false := by
  unfold decV decOk; rw [h]; exact ⟨rfl, rfl⟩
theorem dec_some {a k : Int} (h : Dc.dop a = k) (hk : 1 ≤ k) : decV a = insV k (Dc.rdF (Dc.frm k) a) (Dc.rs1F (Dc.frm k) a) (Dc.rs2F (Dc.frm k) a) (Dc.immF (Dc.frm k) a) ∧ decOk a = true := by
  unfold decV decOk; rw [h]; exact ⟨rfl, by simp; omega⟩
theorem sp_bd (lo : Int) : (1 ≤ Dc.sp1 lo ∨ Dc.sp2 lo = -1) ∧ 0 ≤ Dc.sp1 lo ∧ Dc.sp1 lo ≤ 58 ∧ -1 ≤ Dc.sp2 lo ∧ Dc.sp2 lo ≤ 59 ∧ Dc.sp1 lo ≤ Dc.sp2 lo + 1 := by
  unfold Dc.sp1 Dc.sp2
  by_cases h1 : lo = 55
  · simp [h1]
  by_cases h2 : lo = 23
  · simp [h2]
  by_cases h3 : lo = 111
  · simp [h3]
  by_cases h4 : lo = 103
  · simp [h4]
  by_cases h5 : lo = 99
  · simp [h5]
  by_cases h6 : lo = 3
  · simp [h6]
  by_cases h7 : lo = 35
  · simp [h7]
  by_cases h8 : lo = 19
  · simp [h8]
  by_cases h9 : lo = 51
  · simp [h9]
  by_cases h10 : lo = 47
  · simp [h10]
  by_cases h11 : lo = 15
  · simp [h11]
  by_cases h12 : lo = 115
  · simp [h12]
  simp [h1, h2, h3, h4, h5, h6, h7, h8, h9, h10, h11, h12]
theorem mask_bd (f : Int) : 0 ≤ Dc.mask f ∧ Dc.mask f < 4294967296 := by
  unfold Dc.mask; repeat' split
  all_goals omega
theorem mask_cell {w : World} (T : Tab w) (f : Int) (h0 : 0 ≤ f) (h1 : f ≤ 9) : w.cell? ⟨0, f.toNat * 17, none⟩ = some (.int .u32 (Dc.mask f)) := by
  have h : f = 0 ∨ f = 1 ∨ f = 2 ∨ f = 3 ∨ f = 4 ∨ f = 5 ∨ f = 6 ∨ f = 7 ∨ f = 8 ∨ f = 9 := by omega
  rcases h with rfl | rfl | rfl | rfl | rfl | rfl | rfl | rfl | rfl | rfl
  · exact T.shapes 0 _ rfl
  · exact T.shapes 17 _ rfl
  · exact T.shapes 34 _ rfl
  · exact T.shapes 51 _ rfl
  · exact T.shapes 68 _ rfl
  · exact T.shapes 85 _ rfl
  · exact T.shapes 102 _ rfl
  · exact T.shapes 119 _ rfl
  · exact T.shapes 136 _ rfl
  · exact T.shapes 153 _ rfl
theorem raw_none {a s1 s2 : Int} (h0 : 0 ≤ a) (h1 : a < 4294967296) (e1 : Dc.sp1 (a % 128) = s1) (e2 : Dc.sp2 (a % 128) = s2) (h : ∀ j, s1 ≤ j → j ≤ s2 → Dc.raw a ≠ j) : Dc.dop a = 0 := by
  have : Dc.raw a = 0 := by
    by_cases hr : Dc.raw a = 0
    · exact hr
    · have := Dc.raw_told h0 h1 hr
      exact absurd rfl (h (Dc.raw a) (by omega) (by omega))
  unfold Dc.dop; rw [this]; rfl
theorem Decode_any (a : Int) (w : World) (T : Tab w) (h0 : 0 ≤ a) (h1 : a < 4294967296) :
    Calls Tryz.prog 86 #[.int .u32 a] w fun e w' => e = .returned (.tuple #[decV a, .bool (decOk a)]) ∧ Gr w w' := by
  have hs := sp_bd (a % 128)
  go_enter Tryz.func86, Tryz.ntmps86
  go_wp2_with fail
  refine (span_any a _ h0 h1).mono ?_
  rintro e w' ⟨rfl, rfl⟩
  have E1 : Hid (Dc.sp1 (a % 128) = Dc.sp1 (a % 128)) := rfl
  have E2 : Hid (Dc.sp2 (a % 128) = Dc.sp2 (a % 128)) := rfl
  go_wp2_with fail
  generalize hs1 : Dc.sp1 (a % 128) = s1 at *
  generalize hs2 : Dc.sp2 (a % 128) = s2 at *
  have H1 : Hid (Dc.sp1 (a % 128) = s1) := hs1
  have H2 : Hid (Dc.sp2 (a % 128) = s2) := hs2
  clear hs1 hs2 E1 E2
  obtain ⟨p1, p2, p3, p4, p5, p6⟩ := hs
  go_loopw [6] (fun i wr => ∃ k : Int, i = .int .i64 k ∧ s1 ≤ k ∧ k ≤ s2 + 1 ∧ (∀ j, s1 ≤ j → j < k → Dc.raw a ≠ j) ∧ Gr (w.alloc (.cells #[.int .i64 0, .int .i64 0, .int .i64 0, .int .i64 0, .int .i32 0] 77)) wr) (fun i _ => (s2 + 1 - intOf i).toNat)
  case atStart => exact ⟨s1, rfl, by omega, by omega, fun j _ _ => by omega, Gr.refl _⟩
  case round =>
    obtain ⟨k, rfl, k1, k2, k3, g⟩ := hrel
    obtain ⟨f1, f2, f3⟩ := fresh_of g
    have r0 := f1 0 _ rfl
    have r1 := f1 1 _ rfl
    have r2 := f1 2 _ rfl
    have r3 := f1 3 _ rfl
    have r4 := f1 4 _ rfl
    have T1 := (T.of ((Gr.refl _).alloc _ _)).of g
    have G : Hid (Gr w wr) := ((Gr.refl _).alloc _ _).trans g
    have G1 : Hid (Gr (w.alloc (.cells #[.int .i64 0, .int .i64 0, .int .i64 0, .int .i64 0, .int .i32 0] 77)) wr) := g
    clear f1 g
    by_cases hk : k ≤ s2
    · have hfb := Dc.frm_bd k
      have hti := Dc.told_iff (w := a) (k := k) h0 h1 (by omega) (by omega)
      have hmb := mask_bd (Dc.frm k)
      have hb := bits_and_u32 a (Dc.mask (Dc.frm k)) h0 h1 hmb.1 hmb.2
      rw [← hb] at hti
      have HT : Hid (bits .and .u32 a (Dc.mask (Dc.frm k)) = Dc.tbits k ↔ Dc.raw a = k) := hti
      have K3 : Hid (∀ j, s1 ≤ j → j < k → Dc.raw a ≠ j) := k3
      clear hb hti hmb k3
      go_wp2_with fail
      refine (told_any k _ T1).mono ?_
      rintro e w2 ⟨rfl, g2⟩
      have m0 := mask_cell (T1.of g2) (Dc.frm k) hfb.1 hfb.2
      have G2 : Hid (Gr (w.alloc (.cells #[.int .i64 0, .int .i64 0, .int .i64 0, .int .i64 0, .int .i32 0] 77)) w2) := G1.out.trans g2
      have T2 := T1.of g2
      clear g2 r0 r1 r2 r3 r4 f2 f3 T1 G G1
      by_cases hr : Dc.raw a = k
      · have nb : (bits .and .u32 a (Dc.mask (Dc.frm k)) != Dc.tbits k) = false := by simp [HT.out.2 hr]
        have HR : Hid (Dc.raw a = k) := hr
        clear hr
        go_wp2_with fail
        refine (read_any (Dc.frm k) hfb.1 hfb.2 k a w2 T2 h0 h1).mono ?_
        rintro e w3 ⟨rfl, g3⟩
        unfold insV
        have g := G2.out.trans g3
        obtain ⟨f1, f2, f3⟩ := fresh_of g
        have r0 := f1 0 _ rfl
        have r1 := f1 1 _ rfl
        have r2 := f1 2 _ rfl
        have r3 := f1 3 _ rfl
        have r4 := f1 4 _ rfl
        have G : Hid (Gr w w3) := ((Gr.refl _).alloc _ _).trans g
        clear f1 g g3 G2 T2 m0 nb
        by_cases hk46 : k = 46
        · subst hk46
          by_cases hz : a / 1048576 % 32 = 0
          · obtain ⟨DV0, DO0⟩ := dec_some (a := a) (k := 46) (by unfold Dc.dop; rw [HR.out, if_neg (by omega)]) (by omega)
            have DV : Hid (decV a = _) := DV0
            have DO : Hid (decOk a = true) := DO0
            have hz' : Dc.rs2F (Dc.frm 46) a = 0 := hz
            clear DV0 DO0
            go_wp2_with fail
            refine bodyPost_ret (v := .tuple #[insV 46 (Dc.rdF (Dc.frm 46) a) (Dc.rs1F (Dc.frm 46) a) (Dc.rs2F (Dc.frm 46) a) (Dc.immF (Dc.frm 46) a), .bool true]) (by simp [results, Tryz.results86, go_sem, r0, r1, r2, r3, r4, f3, insV, hz']) rfl ⟨by rw [DV.out, DO.out], ?_⟩
            exact (((((G.out.setCell (by simp) _).setCell (by simp) _).setCell (by simp) _).setCell (by simp) _).setCell (by simp) _).alloc _ _
          · obtain ⟨DV0, DO0⟩ := dec_none (a := a) (by unfold Dc.dop; rw [HR.out, if_pos ⟨rfl, hz⟩])
            have DV : Hid (decV a = _) := DV0
            have DO : Hid (decOk a = false) := DO0
            have hz' : (Dc.rs2F (Dc.frm 46) a != 0) = true := by rw [show Dc.rs2F (Dc.frm 46) a = a / 1048576 % 32 from rfl]; simpa using hz
            clear DV0 DO0
            go_wp2_with fail
            refine bodyPost_ret (v := .tuple #[insV 0 0 0 0 0, .bool false]) (by simp [results, Tryz.results86, go_sem, r0, r1, r2, r3, r4, f3, insV]) rfl ⟨by rw [DV.out, DO.out], ?_⟩
            exact (((((G.out.setCell (by simp) _).setCell (by simp) _).setCell (by simp) _).setCell (by simp) _).setCell (by simp) _).alloc _ _
        · obtain ⟨DV0, DO0⟩ := dec_some (a := a) (k := k) (by unfold Dc.dop; rw [HR.out, if_neg (by omega)]) (by omega)
          have DV : Hid (decV a = _) := DV0
          have DO : Hid (decOk a = true) := DO0
          have b46 : (k == 46) = false := by simpa using hk46
          clear DV0 DO0
          go_wp2_with fail
          refine bodyPost_ret (v := .tuple #[insV k (Dc.rdF (Dc.frm k) a) (Dc.rs1F (Dc.frm k) a) (Dc.rs2F (Dc.frm k) a) (Dc.immF (Dc.frm k) a), .bool true]) (by simp [results, Tryz.results86, go_sem, r0, r1, r2, r3, r4, f3, insV]) rfl ⟨by rw [DV.out, DO.out], ?_⟩
          exact (((((G.out.setCell (by simp) _).setCell (by simp) _).setCell (by simp) _).setCell (by simp) _).setCell (by simp) _).alloc _ _
      · have nb : (bits .and .u32 a (Dc.mask (Dc.frm k)) != Dc.tbits k) = true := by simp; intro h; exact hr (HT.out.1 h)
        go_wp2_with fail
        refine ⟨⟨k + 1, rfl, by omega, by omega, fun j j1 j2 => ?_, G2.out⟩, by simp only [intOf]; omega⟩
        by_cases e : j = k
        · rw [e]; exact hr
        · exact K3.out j j1 (by omega)
    · obtain ⟨DV0, DO0⟩ := dec_none (raw_none h0 h1 H1.out H2.out fun j j1 j2 => k3 j j1 (by omega))
      have DV : Hid (decV a = _) := DV0
      have DO : Hid (decOk a = false) := DO0
      clear k3 DV0 DO0
      go_wp2
      refine bodyPost_ret (v := .tuple #[insV 0 0 0 0 0, .bool false]) (by simp [results, Tryz.results86, go_sem, r0, r1, r2, r3, r4, f3, insV]) rfl ⟨by rw [DV.out, DO.out], ?_⟩
      exact (((((G.out.setCell (by simp) _).setCell (by simp) _).setCell (by simp) _).setCell (by simp) _).setCell (by simp) _)
end Go.Proofs.YtchllaeembmioaaGreatDoor.Dw
namespace Go.Proofs.YtchllaeembmioaaGreatDoor.Re
open Go.ChangeShapes Go.WideShapes Go.ChangeAt Go.RowKit Dw

theorem dop_bd {a : Int} (h0 : 0 ≤ a) (h1 : a < 4294967296) : 0 ≤ Dc.dop a ∧ Dc.dop a ≤ 59 := by
  have := Dc.raw_bd h0 h1
  unfold Dc.dop; split <;> omega
end Go.Proofs.YtchllaeembmioaaGreatDoor.Re
namespace Go.Proofs.YtchllaeembmioaaGreatDoor.Ts
open Mm Wd Mi Bk
open Hh hiding Rn

def mdV (a : Int) (i : Iv) : List Mv :=
  if i.op = 1 then [⟨2, i.rd, 0, 0, lo i.im⟩] else if i.op = 2 then [⟨2, i.rd, 0, 0, lo (a + lo i.im)⟩]
  else if i.op = 3 then [⟨2, i.rd, 0, 0, lo (a + 4)⟩, ⟨3, 0, 0, 0, lo (a + lo i.im)⟩]
  else if i.op = 4 then [⟨528, 32, i.r1, 0, lo i.im⟩, ⟨2, i.rd, 0, 0, lo (a + 4)⟩, ⟨4, 0, 32, 0, 0⟩]
  else if 5 ≤ i.op ∧ i.op ≤ 10 then [⟨100 + i.op, 0, i.r1, i.r2, lo (a + lo i.im)⟩]
  else if 11 ≤ i.op ∧ i.op ≤ 15 then [⟨200 + i.op, i.rd, i.r1, 0, lo i.im⟩]
  else if 16 ≤ i.op ∧ i.op ≤ 18 then [⟨300 + i.op, 0, i.r1, i.r2, lo i.im⟩]
  else if i.op = 19 ∧ (i.r1 = 0 ∨ i.rd = 0) then [⟨2, i.rd, 0, 0, lo i.im⟩]
  else if 19 ≤ i.op ∧ i.op ≤ 27 then [⟨500 + opn i.op, i.rd, i.r1, 0, lo i.im⟩]
  else if 28 ≤ i.op ∧ i.op ≤ 45 then [⟨400 + i.op, i.rd, i.r1, i.r2, 0⟩]
  else if 46 ≤ i.op ∧ i.op ≤ 56 then [⟨600 + i.op, i.rd, i.r1, i.r2, 0⟩]
  else if i.op = 58 then [⟨5, 0, 0, 0, 0⟩] else if i.op = 59 then [⟨6, 0, 0, 0, 0⟩] else []
structure Iv.In (i : Iv) : Prop where
  o1 : 1 ≤ i.op
  o2 : i.op ≤ 59
  d0 : 0 ≤ i.rd
  d1 : i.rd < 32
  a0 : 0 ≤ i.r1
  a1 : i.r1 < 32
  b0 : 0 ≤ i.r2
  b1 : i.r2 < 32
theorem body_li {bf bt steps a op rd r1 r2 im : Int} (hd0 : 0 ≤ rd) (hr : rd < 32) (ho : op = 19) (h : r1 = 0 ∨ rd = 0) : BodyI bf bt steps a op rd r1 r2 im [⟨2, rd, 0, 0, lo im⟩] := fun q ov ok st z hh hl => by
  rw [one_run ov]
  have e : mic bf bt steps q ⟨2, rd, 0, 0, lo im⟩ = q.put rd (lo im) := by unfold mic; rw [if_neg (by simp), if_pos rfl]
  have hE : eff (q.h.go a) q.m op (rg q.h r1.toNat) (rg q.h r2.toNat) (lo im) = ⟨q.h.go a, q.m, [], [], some (alu 28 (rg q.h r1.toNat) (lo im))⟩ := by
    subst ho
    unfold eff
    rw [if_neg (by omega), if_neg (by omega), if_neg (by omega), if_neg (by omega), if_neg (by omega), if_pos (by omega)]
    rfl
  have e2 : q.put rd (lo im) = q.put rd (alu 28 (rg q.h r1.toNat) (lo im)) := by
    rcases h with rfl | rfl
    · have : alu 28 (rg q.h (0 : Int).toNat) (lo im) = lo im := by
        show alu 28 (rg q.h 0) (lo im) = lo im
        rw [z, alu_add, Int.zero_add]
        exact lo_id (W.lo _)
      rw [this]
    · rw [put_low q (by omega), put_low q (by omega)]
      rfl
  rw [e, e2]
  exact ⟨fit_put ok ov st hh hr (W.alu (ok.h.reg _) (W.lo _)) hE (by omega), over_no (op := op) (bf := bf) (bt := bt) (a := a) ov⟩
theorem body_md {bf bt steps a : Int} {i : Iv} (h : i.In) : BodyI bf bt steps a i.op i.rd i.r1 i.r2 i.im (mdV a i) := by
  obtain ⟨o1, o2, d0, d1, a0, a1, b0, b1⟩ := h
  unfold mdV
  by_cases h0 : i.op = 1
  · rw [if_pos h0]; exact body_lui d1 h0
  rw [if_neg h0]
  by_cases h1 : i.op = 2
  · rw [if_pos h1]; exact body_auipc d1 h1
  rw [if_neg h1]
  by_cases h2 : i.op = 3
  · rw [if_pos h2]; exact body_jal d1 h2
  rw [if_neg h2]
  by_cases h3 : i.op = 4
  · rw [if_pos h3]; exact body_jalr2 32 (by omega) (by omega) d1 a1 h3
  rw [if_neg h3]
  by_cases h4 : 5 ≤ i.op ∧ i.op ≤ 10
  · rw [if_pos h4]; exact body_if a1 b1 h4
  rw [if_neg h4]
  by_cases h5 : 11 ≤ i.op ∧ i.op ≤ 15
  · rw [if_pos h5]; exact body_ld d1 a1 h5
  rw [if_neg h5]
  by_cases h6 : 16 ≤ i.op ∧ i.op ≤ 18
  · rw [if_pos h6]; exact body_st a1 b1 h6
  rw [if_neg h6]
  by_cases h7 : i.op = 19 ∧ (i.r1 = 0 ∨ i.rd = 0)
  · rw [if_pos h7]; exact body_li d0 d1 h7.1 h7.2
  rw [if_neg h7]
  by_cases h8 : 19 ≤ i.op ∧ i.op ≤ 27
  · rw [if_pos h8]; exact body_aln d1 a1 h8
  rw [if_neg h8]
  by_cases h9 : 28 ≤ i.op ∧ i.op ≤ 45
  · rw [if_pos h9]; exact body_alu d1 a1 b1 h9
  rw [if_neg h9]
  by_cases h10 : 46 ≤ i.op ∧ i.op ≤ 56
  · rw [if_pos h10]; exact body_atom d1 a1 b1 h10
  rw [if_neg h10]
  by_cases h11 : i.op = 58
  · rw [if_pos h11]; exact body_call h11
  rw [if_neg h11]
  by_cases h12 : i.op = 59
  · rw [if_pos h12]; exact body_break h12
  rw [if_neg h12]
  exact body_fence (by omega)
theorem ok_of {i : Mv} {nm : Int} (hn : named i.op = nm) (h0 : 0 ≤ nm) (hN : 8 ≤ nm ∨ i.n = 0) (hd : (nm % 2 = 1 ∨ i.d = 0) ∧ 0 ≤ i.d ∧ i.d < 36) (ha : (nm / 2 % 2 = 1 ∨ i.a = 0) ∧ 0 ≤ i.a ∧ i.a < 36) (hb : (nm / 4 % 2 = 1 ∨ i.b = 0) ∧ 0 ≤ i.b ∧ i.b < 36) : micOk i = true := by
  unfold micOk regOk
  rw [hn]
  simp only [Bool.and_eq_true, decide_eq_true_eq]
  exact ⟨h0, hN, hd, ha, hb⟩
theorem nm_if {op : Int} (h : 5 ≤ op ∧ op ≤ 10) : named (100 + op) = 14 := by unfold named; rw [if_neg (by omega), if_neg (by omega), if_neg (by omega), if_neg (by omega), if_pos (by omega)]
theorem nm_ld {op : Int} (h : 11 ≤ op ∧ op ≤ 15) : named (200 + op) = 11 := by unfold named; rw [if_neg (by omega), if_neg (by omega), if_neg (by omega), if_neg (by omega), if_neg (by omega), if_pos (by omega)]
theorem nm_st {op : Int} (h : 16 ≤ op ∧ op ≤ 18) : named (300 + op) = 14 := by unfold named; rw [if_neg (by omega), if_neg (by omega), if_neg (by omega), if_neg (by omega), if_neg (by omega), if_neg (by omega), if_pos (by omega)]
theorem nm_alu {op : Int} (h : 28 ≤ op ∧ op ≤ 45) : named (400 + op) = 7 := by unfold named; rw [if_neg (by omega), if_neg (by omega), if_neg (by omega), if_neg (by omega), if_neg (by omega), if_neg (by omega), if_neg (by omega), if_pos (by omega)]
theorem nm_aln {op : Int} (h : 28 ≤ op ∧ op ≤ 45) : named (500 + op) = 11 := by unfold named; rw [if_neg (by omega), if_neg (by omega), if_neg (by omega), if_neg (by omega), if_neg (by omega), if_neg (by omega), if_neg (by omega), if_neg (by omega), if_pos (by omega)]
theorem nm_atm {op : Int} (h : 46 ≤ op ∧ op ≤ 56) : named (600 + op) = 7 := by unfold named; rw [if_neg (by omega), if_neg (by omega), if_neg (by omega), if_neg (by omega), if_neg (by omega), if_neg (by omega), if_neg (by omega), if_neg (by omega), if_neg (by omega), if_pos (by omega)]
theorem opn_bd (op : Int) : 28 ≤ opn op ∧ opn op ≤ 45 := by unfold opn; (repeat' split) <;> omega
def Mv.Fine (i : Mv) : Prop := micOk i = true ∧ W i.n ∧ (0 ≤ i.op ∧ i.op ≤ 700)
theorem one_mem {P : Mv → Prop} {y : Mv} (h : P y) : ∀ x ∈ [y], P x := fun x hx => by rw [List.mem_singleton] at hx; subst hx; exact h
theorem z1 : (0 : Int) ≤ 0 := by decide
theorem z2 : (0 : Int) < 36 := by decide
theorem z3 (n : Int) (h : (0 : Int) ≤ n) : 0 ≤ n := h
theorem z4 (n : Int) (h : n ≤ 700) : n ≤ 700 := h
theorem z5 : (32 : Int) < 36 := by decide
theorem set_fine {rd n : Int} (d0 : 0 ≤ rd) (d1 : rd < 32) (hn : W n) : Mv.Fine ⟨2, rd, 0, 0, n⟩ := ⟨ok_of (nm := 9) (by show named 2 = 9; decide) (by omega) (by left; omega) ⟨.inl (by decide), d0, by show rd < 36; omega⟩ ⟨.inr rfl, z1, z2⟩ ⟨.inr rfl, z1, z2⟩, hn, z3 2 (by decide), z4 2 (by decide)⟩
theorem md_fine {a : Int} {i : Iv} (h : i.In) : (∀ x ∈ mdV a i, Mv.Fine x) ∧ (mdV a i).length ≤ 3 := by
  obtain ⟨o1, o2, d0, d1, a0, a1, b0, b1⟩ := h
  have w0 : W 0 := by unfold W; omega
  have hop := opn_bd i.op
  have set_ : ∀ n, W n → Mv.Fine ⟨2, i.rd, 0, 0, n⟩ := fun n hn => set_fine d0 d1 hn
  unfold mdV
  by_cases h0 : i.op = 1
  · rw [if_pos h0]
    exact ⟨one_mem (set_ _ (W.lo _)), by simp⟩
  rw [if_neg h0]
  by_cases h1 : i.op = 2
  · rw [if_pos h1]
    exact ⟨one_mem (set_ _ (W.lo _)), by simp⟩
  rw [if_neg h1]
  by_cases h2 : i.op = 3
  · rw [if_pos h2]
    refine ⟨fun x hx => ?_, by simp⟩
    rcases List.mem_cons.1 hx with rfl | hx
    · exact set_ _ (W.lo _)
    · refine one_mem (P := Mv.Fine) ?_ x hx
      exact ⟨ok_of (nm := 8) (by show named 3 = 8; decide) (by omega) (by left; omega) ⟨.inr rfl, z1, z2⟩ ⟨.inr rfl, z1, z2⟩ ⟨.inr rfl, z1, z2⟩, W.lo _, z3 3 (by decide), z4 3 (by decide)⟩
  rw [if_neg h2]
  by_cases h3 : i.op = 4
  · rw [if_pos h3]
    refine ⟨fun x hx => ?_, by simp⟩
    rcases List.mem_cons.1 hx with rfl | hx
    · exact ⟨ok_of (nm := 11) (by show named 528 = 11; decide) (by omega) (by left; omega) ⟨.inl (by decide), z3 32 (by decide), z5⟩ ⟨.inl (by decide), a0, by show i.r1 < 36; omega⟩ ⟨.inr rfl, z1, z2⟩, W.lo _, z3 528 (by decide), z4 528 (by decide)⟩
    rcases List.mem_cons.1 hx with rfl | hx
    · exact set_ _ (W.lo _)
    · refine one_mem (P := Mv.Fine) ?_ x hx
      exact ⟨ok_of (nm := 10) (by show named 4 = 10; decide) (by omega) (by left; omega) ⟨.inr rfl, z1, z2⟩ ⟨.inl (by decide), z3 32 (by decide), z5⟩ ⟨.inr rfl, z1, z2⟩, w0, z3 4 (by decide), z4 4 (by decide)⟩
  rw [if_neg h3]
  by_cases h4 : 5 ≤ i.op ∧ i.op ≤ 10
  · rw [if_pos h4]
    exact ⟨one_mem ⟨ok_of (nm := 14) (nm_if h4) (by omega) (by left; omega) ⟨.inr rfl, z1, z2⟩ ⟨.inl (by decide), a0, by show i.r1 < 36; omega⟩ ⟨.inl (by decide), b0, by show i.r2 < 36; omega⟩, W.lo _, by show (0 : Int) ≤ 100 + i.op; omega, by show 100 + i.op ≤ 700; omega⟩, by simp⟩
  rw [if_neg h4]
  by_cases h5 : 11 ≤ i.op ∧ i.op ≤ 15
  · rw [if_pos h5]
    exact ⟨one_mem ⟨ok_of (nm := 11) (nm_ld h5) (by omega) (by left; omega) ⟨.inl (by decide), d0, by show i.rd < 36; omega⟩ ⟨.inl (by decide), a0, by show i.r1 < 36; omega⟩ ⟨.inr rfl, z1, z2⟩, W.lo _, by show (0 : Int) ≤ 200 + i.op; omega, by show 200 + i.op ≤ 700; omega⟩, by simp⟩
  rw [if_neg h5]
  by_cases h6 : 16 ≤ i.op ∧ i.op ≤ 18
  · rw [if_pos h6]
    exact ⟨one_mem ⟨ok_of (nm := 14) (nm_st h6) (by omega) (by left; omega) ⟨.inr rfl, z1, z2⟩ ⟨.inl (by decide), a0, by show i.r1 < 36; omega⟩ ⟨.inl (by decide), b0, by show i.r2 < 36; omega⟩, W.lo _, by show (0 : Int) ≤ 300 + i.op; omega, by show 300 + i.op ≤ 700; omega⟩, by simp⟩
  rw [if_neg h6]
  by_cases h7 : i.op = 19 ∧ (i.r1 = 0 ∨ i.rd = 0)
  · rw [if_pos h7]
    exact ⟨one_mem (set_ _ (W.lo _)), by simp⟩
  rw [if_neg h7]
  by_cases h8 : 19 ≤ i.op ∧ i.op ≤ 27
  · rw [if_pos h8]
    exact ⟨one_mem ⟨ok_of (nm := 11) (nm_aln hop) (by omega) (by left; omega) ⟨.inl (by decide), d0, by show i.rd < 36; omega⟩ ⟨.inl (by decide), a0, by show i.r1 < 36; omega⟩ ⟨.inr rfl, z1, z2⟩, W.lo _, by show (0 : Int) ≤ 500 + opn i.op; omega, by show 500 + opn i.op ≤ 700; omega⟩, by simp⟩
  rw [if_neg h8]
  by_cases h9 : 28 ≤ i.op ∧ i.op ≤ 45
  · rw [if_pos h9]
    exact ⟨one_mem ⟨ok_of (nm := 7) (nm_alu h9) (by omega) (by right; rfl) ⟨.inl (by decide), d0, by show i.rd < 36; omega⟩ ⟨.inl (by decide), a0, by show i.r1 < 36; omega⟩ ⟨.inl (by decide), b0, by show i.r2 < 36; omega⟩, w0, by show (0 : Int) ≤ 400 + i.op; omega, by show 400 + i.op ≤ 700; omega⟩, by simp⟩
  rw [if_neg h9]
  by_cases h10 : 46 ≤ i.op ∧ i.op ≤ 56
  · rw [if_pos h10]
    exact ⟨one_mem ⟨ok_of (nm := 7) (nm_atm h10) (by omega) (by right; rfl) ⟨.inl (by decide), d0, by show i.rd < 36; omega⟩ ⟨.inl (by decide), a0, by show i.r1 < 36; omega⟩ ⟨.inl (by decide), b0, by show i.r2 < 36; omega⟩, w0, by show (0 : Int) ≤ 600 + i.op; omega, by show 600 + i.op ≤ 700; omega⟩, by simp⟩
  rw [if_neg h10]
  by_cases h11 : i.op = 58
  · rw [if_pos h11]
    exact ⟨one_mem ⟨by decide, w0, by decide, by decide⟩, by simp⟩
  rw [if_neg h11]
  by_cases h12 : i.op = 59
  · rw [if_pos h12]
    exact ⟨one_mem ⟨by decide, w0, by decide, by decide⟩, by simp⟩
  rw [if_neg h12]
  exact ⟨fun x hx => (by cases hx), by simp⟩
def codeV (pc : Int) : List Iv → Nat → List Mv
  | [], _ => []
  | i :: is, k => ⟨1, 0, 0, 0, at4 pc k⟩ :: (mdV (at4 pc k) i ++ codeV pc is (k + 1))
theorem codeV_snoc (pc : Int) (i : Iv) : ∀ (is : List Iv) (k : Nat), codeV pc (is ++ [i]) k = codeV pc is k ++ (⟨1, 0, 0, 0, at4 pc (k + is.length)⟩ :: mdV (at4 pc (k + is.length)) i)
  | [], k => by simp [codeV]
  | j :: is, k => by
    show _ :: (_ ++ codeV pc (is ++ [i]) (k + 1)) = _
    rw [codeV_snoc pc i is (k + 1)]
    simp [codeV, show k + 1 + is.length = k + (is.length + 1) by omega]
theorem at_fine (a : Int) (h : W a) : Mv.Fine ⟨1, 0, 0, 0, a⟩ := ⟨ok_of (nm := 8) (by show named 1 = 8; decide) (by omega) (by left; omega) ⟨.inr rfl, z1, z2⟩ ⟨.inr rfl, z1, z2⟩ ⟨.inr rfl, z1, z2⟩, h, z3 1 (by decide), z4 1 (by decide)⟩
theorem codeV_fine (pc : Int) : ∀ (is : List Iv) (k : Nat), (∀ i ∈ is, i.In) → (∀ x ∈ codeV pc is k, Mv.Fine x) ∧ (codeV pc is k).length ≤ 4 * is.length
  | [], k, _ => ⟨fun x hx => (by cases hx), by simp [codeV]⟩
  | i :: is, k, h => by
    obtain ⟨m1, m2⟩ := md_fine (a := at4 pc k) (h i (by simp))
    obtain ⟨c1, c2⟩ := codeV_fine pc is (k + 1) (fun j hj => h j (by simp [hj]))
    refine ⟨fun x hx => ?_, ?_⟩
    · simp only [codeV, List.mem_cons, List.mem_append] at hx
      rcases hx with rfl | hx | hx
      · exact at_fine _ (at4_bd pc k)
      · exact m1 x hx
      · exact c1 x hx
    · simp only [codeV, List.length_cons, List.length_append]
      omega
theorem codeV_may (pc : Int) {is : List Iv} (h : ∀ i ∈ is, i.In) (hl : is.length ≤ 16) : mayC (codeV pc is 0) = true := by
  obtain ⟨c1, c2⟩ := codeV_fine pc is 0 h
  unfold mayC
  simp only [Bool.and_eq_true, decide_eq_true_eq, List.all_eq_true]
  exact ⟨by omega, fun x hx => (c1 x hx).1⟩
def ivX (x : Int) : Iv := ⟨Dc.dop x, Dc.rdF (Dc.frm (Dc.dop x)) x, Dc.rs1F (Dc.frm (Dc.dop x)) x, Dc.rs2F (Dc.frm (Dc.dop x)) x, Dc.immF (Dc.frm (Dc.dop x)) x⟩
theorem ivX_in {x : Int} (h0 : 0 ≤ x) (h1 : x < 4294967296) (hx : ¬ Dc.dop x = 0) : (ivX x).In := by
  have := Re.dop_bd h0 h1
  have a := rd_bd (Dc.frm (Dc.dop x)) x
  have b := rs1_bd (Dc.frm (Dc.dop x)) x
  have c := rs2_bd (Dc.frm (Dc.dop x)) x
  exact ⟨by show 1 ≤ Dc.dop x; omega, by show Dc.dop x ≤ 59; omega, a.1, a.2, b.1, b.2, c.1, c.2⟩
end Go.Proofs.YtchllaeembmioaaGreatDoor.Ts
namespace Go.Proofs.YtchllaeembmioaaGreatDoor.Mc
open Mm Hh

structure Sh where
  hs : List Hv
  m : List UInt8
  out : List Int
  steps : Nat
def hN : Hv := ⟨[], 0, false, 0, 1, 0⟩
def near (x f k : Int) : Bool := decide (0 < k ∧ f < x + 4 ∧ x < f + k)
def nearS (x : Int) (ss : List (Int × Int)) : Bool := ss.any fun p => near x p.1 p.2
def lose1 (ss : List (Int × Int)) (h : Hv) : Hv := if h.held = true ∧ nearS h.heldAt ss = true then h.hold false 0 else h
def lose (k : Nat) (ss : List (Int × Int)) (hs : List Hv) : List Hv := hs.mapIdx fun j h => if j = k then h else lose1 ss h
def at' (s : Sh) (k : Nat) : Hv := s.hs.getD k hN
def stepS (s : Sh) (k : Nat) : Sh := ⟨lose k (stp (at' s k) s.m).sto (s.hs.set k (stp (at' s k) s.m).h), (stp (at' s k) s.m).m, s.out ++ (stp (at' s k) s.m).out, s.steps + 1⟩
def runs (s : Sh) (k : Nat) : Nat → Sh
  | 0 => s
  | n + 1 => if (at' s k).state = 0 then runs (stepS s k) k n else s
def play (s : Sh) (sc : List (Nat × Nat)) : Sh := sc.foldl (fun s p => runs s p.1 p.2) s

theorem runs_stop {s : Sh} {k : Nat} (h : ¬ (at' s k).state = 0) : ∀ n, runs s k n = s
  | 0 => rfl
  | n + 1 => if_neg h
theorem runs_add (k b : Nat) : ∀ (a : Nat) (s : Sh), runs s k (a + b) = runs (runs s k a) k b
  | 0, s => by rw [Nat.zero_add]; rfl
  | a + 1, s => by
    have e1 : ∀ t, runs s k (t + 1) = if (at' s k).state = 0 then runs (stepS s k) k t else s := fun t => rfl
    rw [Nat.succ_add, e1, e1]
    split
    · rw [runs_add k b a]
    · rename_i h
      exact (runs_stop h b).symm
theorem play_app (s : Sh) (a b : List (Nat × Nat)) : play s (a ++ b) = play (play s a) b := List.foldl_append
theorem play_cons (s : Sh) (p : Nat × Nat) (r : List (Nat × Nat)) : play s (p :: r) = play (runs s p.1 p.2) r := rfl
structure Fit (s : Sh) (c n : Nat) : Prop where
  len : s.hs.length = c
  mem : s.m.length = n
  ok : ∀ h ∈ s.hs, h.Ok ∧ may h = true
theorem lose1_fit (ss : List (Int × Int)) {h : Hv} (o : h.Ok) (m : may h = true) : (lose1 ss h).Ok ∧ may (lose1 ss h) = true := by
  unfold lose1
  split
  · refine ⟨o.hold false (x := 0) (by omega) (by omega), ?_⟩
    simp only [may, decide_eq_true_eq] at m ⊢
    exact ⟨m.1, fun _ => rfl, m.2.2⟩
  · exact ⟨o, m⟩
theorem lose_len (k : Nat) (ss : List (Int × Int)) (hs : List Hv) : (lose k ss hs).length = hs.length := by simp [lose]
theorem lose_get (k : Nat) (ss : List (Int × Int)) (hs : List Hv) (j : Nat) : (lose k ss hs)[j]? = hs[j]?.map fun h => if j = k then h else lose1 ss h := by
  simp [lose, List.getElem?_mapIdx]
theorem mem_of_get {l : List Hv} {j : Nat} {h : Hv} (e : l[j]? = some h) : h ∈ l := List.mem_of_getElem? e
theorem step_fit {s : Sh} {c n k : Nat} (f : Fit s c n) (hk : k < c) (hr : (at' s k).state = 0) : Fit (stepS s k) c n := by
  have hl : k < s.hs.length := by rw [f.len]; exact hk
  have eh : s.hs[k]? = some (at' s k) := by unfold at'; rw [List.getElem?_eq_getElem hl]; simp [List.getD, hl]
  obtain ⟨ok, mk⟩ := f.ok _ (mem_of_get eh)
  have g := good_stp (rn_of mk hr) s.m
  have so := stp_ok ok s.m
  refine ⟨by simp [stepS, lose_len, f.len], by simp only [stepS]; rw [g.2.1, f.mem], fun h hm => ?_⟩
  obtain ⟨j, hj⟩ := List.getElem?_of_mem hm
  simp only [stepS] at hj
  rw [lose_get, List.getElem?_set] at hj
  by_cases e : k = j
  · subst e
    simp only [if_true, hl, Option.map_some] at hj
    obtain rfl := Option.some.inj hj
    exact ⟨so, g.1⟩
  · simp only [e, if_false] at hj
    cases hq : s.hs[j]? with
    | none => rw [hq] at hj; cases hj
    | some q =>
      rw [hq] at hj
      obtain ⟨a, b⟩ := f.ok q (mem_of_get hq)
      have e2 : ¬ j = k := fun x => e x.symm
      simp only [Option.map_some, e2, if_false] at hj
      obtain rfl := Option.some.inj hj
      exact lose1_fit _ a b
theorem runs_fit {c n k : Nat} (hk : k < c) : ∀ (t : Nat) {s : Sh}, Fit s c n → Fit (runs s k t) c n
  | 0, s, f => f
  | t + 1, s, f => by
    unfold runs
    split
    · exact runs_fit hk t (step_fit f hk (by assumption))
    · exact f
theorem play_fit {c n : Nat} : ∀ (sc : List (Nat × Nat)) {s : Sh}, (∀ p ∈ sc, p.1 < c) → Fit s c n → Fit (play s sc) c n
  | [], s, _, f => f
  | p :: r, s, h, f => by
    rw [play_cons]
    exact play_fit r (fun q hq => h q (by simp [hq])) (runs_fit (h p (by simp)) p.2 f)
end Go.Proofs.YtchllaeembmioaaGreatDoor.Mc
namespace Go.Proofs.YtchllaeembmioaaGreatDoor.Mc
open Mm Hh Wd

structure Wk where
  h : Hv
  m : List UInt8
  out : List Int
  sto : List (Int × Int)
  n : Nat
def wk1 (x : Wk) : Wk := ⟨(stp x.h x.m).h, (stp x.h x.m).m, x.out ++ (stp x.h x.m).out, x.sto ++ (stp x.h x.m).sto, x.n + 1⟩
def wk (x : Wk) : Nat → Wk
  | 0 => x
  | n + 1 => if x.h.state = 0 then wk (wk1 x) n else x
theorem wk_stop {x : Wk} (h : ¬ x.h.state = 0) : ∀ n, wk x n = x
  | 0 => rfl
  | n + 1 => if_neg h
theorem wk_go {x : Wk} (h : x.h.state = 0) (n : Nat) : wk x (n + 1) = wk (wk1 x) n := if_pos h
def tk (s : Sh) (k : Nat) (x : Wk) : Sh := ⟨(lose k x.sto s.hs).set k x.h, x.m, s.out ++ x.out, s.steps + x.n⟩
def w0 (s : Sh) (k : Nat) : Wk := ⟨at' s k, s.m, [], [], 0⟩
theorem lose1_nil (h : Hv) : lose1 [] h = h := by unfold lose1; rw [if_neg]; simp [nearS]
theorem lose1_app (a b : List (Int × Int)) (h : Hv) : lose1 (a ++ b) h = lose1 b (lose1 a h) := by
  unfold lose1
  have e : nearS h.heldAt (a ++ b) = (nearS h.heldAt a || nearS h.heldAt b) := by unfold nearS; rw [List.any_append]
  rw [e]
  by_cases hh : h.held = true
  · cases ha : nearS h.heldAt a with
    | true => simp [hh, Hv.hold]
    | false => simp [hh, ha]
  · simp [hh]
theorem lose_nil (k : Nat) (hs : List Hv) : lose k [] hs = hs := by
  apply List.ext_getElem?
  intro j
  rw [lose_get]
  cases hs[j]? with
  | none => rfl
  | some h => simp [lose1_nil]
theorem set_at (hs : List Hv) (k : Nat) : hs.set k (hs.getD k hN) = hs := by
  apply List.ext_getElem?
  intro j
  rw [List.getElem?_set]
  split
  · rename_i e
    subst e
    split
    · rename_i h
      simp [List.getD, List.getElem?_eq_getElem h]
    · rename_i h
      rw [List.getElem?_eq_none (by omega)]
  · rfl
theorem tk_w0 (s : Sh) (k : Nat) : tk s k (w0 s k) = s := by
  unfold tk w0 at'
  simp only [lose_nil, set_at, List.append_nil, Nat.add_zero]
theorem step_tk {s : Sh} {k : Nat} (hk : k < s.hs.length) (x : Wk) : stepS (tk s k x) k = tk s k (wk1 x) := by
  have e : at' (tk s k x) k = x.h := by
    unfold at' tk
    simp [List.getD, List.getElem?_set, lose_len, hk]
  unfold stepS
  rw [e]
  unfold tk wk1
  simp only [List.append_assoc, Nat.add_assoc]
  congr 1
  apply List.ext_getElem?
  intro j
  rw [lose_get, List.getElem?_set, List.getElem?_set, List.getElem?_set, lose_get, lose_get]
  by_cases e : k = j
  · subst e
    simp [lose_len, hk]
  · have e2 : ¬ j = k := fun q => e q.symm
    simp only [e, e2, if_false]
    cases s.hs[j]? with
    | none => rfl
    | some h => simp [lose1_app]
theorem runs_tk {s : Sh} {k : Nat} (hk : k < s.hs.length) : ∀ (n : Nat) (x : Wk), runs (tk s k x) k n = tk s k (wk x n)
  | 0, x => rfl
  | n + 1, x => by
    have e : at' (tk s k x) k = x.h := by
      unfold at' tk
      simp [List.getD, List.getElem?_set, lose_len, hk]
    unfold runs wk
    rw [e]
    split
    · rw [step_tk hk, runs_tk hk n]
    · rfl
theorem runs_wk {s : Sh} {k : Nat} (hk : k < s.hs.length) (n : Nat) : runs s k n = tk s k (wk (w0 s k) n) := by
  have := runs_tk hk n (w0 s k)
  rwa [tk_w0] at this

def StOk (l : List UInt8) (p : Int × Int) : Prop := 0 ≤ p.1 ∧ 0 < p.2 ∧ p.1 + p.2 ≤ l.length
theorem sto_st {l : List UInt8} {op a : Int} (ha : 0 ≤ a) (h : stOk l op a = true) : StOk l (a, (ssz op : Nat)) := by
  unfold stOk thr at h
  rw [decide_eq_true_eq] at h
  exact ⟨ha, by simpa using h.1, h.2.2⟩
theorem eff_sto {h : Hv} (o : h.Ok) (l : List UInt8) {op a b n : Int} (ha : W a) : ∀ p ∈ (eff h l op a b n).sto, StOk l p := by
  unfold eff
  intro p hp
  split at hp
  · simp at hp
  split at hp
  · simp at hp
  split at hp
  · simp at hp
  split at hp
  · unfold efLoad at hp; split at hp <;> simp at hp
  split at hp
  · unfold efStore at hp
    split at hp
    · simp at hp
      subst hp
      exact sto_st (W.lo _).1 (by assumption)
    · simp at hp
  split at hp
  · simp at hp
  split at hp
  · simp at hp
  split at hp
  · unfold efAtom at hp
    split at hp
    · unfold efLr at hp; split at hp <;> simp at hp
    split at hp
    · unfold efSc at hp
      split at hp
      · split at hp
        · simp at hp
          subst hp
          exact sto_st (op := 18) ha.1 (st_of_ld (by assumption))
        · simp at hp
      · simp at hp
    · unfold efAmo at hp
      split at hp
      · simp at hp
        subst hp
        exact sto_st (op := 18) ha.1 (st_of_ld (by assumption))
      · simp at hp
  split at hp
  · unfold efCall at hp
    split at hp
    · simp at hp
    · split at hp <;> simp at hp
  split at hp <;> simp at hp
theorem stp_sto {h : Hv} (o : h.Ok) (l : List UInt8) : (∀ p ∈ (stp h l).sto, StOk l p) ∧ (stp h l).sto.length ≤ 1 := by
  unfold stp insW ins
  split
  · split
    · exact ⟨fun p hp => by simp at hp, by simp⟩
    · exact ⟨eff_sto o l (W.reg o _), (eff_ok o l (W.reg o _) (W.reg o _) (W.lo _)).sto⟩
  · exact ⟨fun p hp => by simp at hp, by simp⟩

structure WOk (x : Wk) (n : Nat) : Prop where
  ok : x.h.Ok
  may : may x.h = true
  mem : x.m.length = n
  out : x.out.length ≤ x.n
  sto : x.sto.length ≤ x.n
  bd : ∀ p ∈ x.sto, 0 ≤ p.1 ∧ 0 < p.2 ∧ p.1 + p.2 ≤ n
theorem wk1_ok {x : Wk} {n : Nat} (o : WOk x n) (hr : x.h.state = 0) : WOk (wk1 x) n := by
  have g := good_stp (rn_of o.may hr) x.m
  have s := stp_sto o.ok x.m
  refine ⟨stp_ok o.ok x.m, g.1, g.2.1.trans o.mem, ?_, ?_, fun p hp => ?_⟩
  · have := g.2.2.2.1; have := o.out; simp only [wk1, List.length_append]; omega
  · have := s.2; have := o.sto; simp only [wk1, List.length_append]; omega
  · rcases List.mem_append.1 hp with h | h
    · exact o.bd p h
    · have := s.1 p h
      unfold StOk at this
      rwa [o.mem] at this
theorem w0_ok {s : Sh} {c n k : Nat} (f : Fit s c n) (hk : k < c) : WOk (w0 s k) n := by
  have hl : k < s.hs.length := by rw [f.len]; exact hk
  have eh : s.hs[k]? = some (at' s k) := by unfold at'; rw [List.getElem?_eq_getElem hl]; simp [List.getD, hl]
  obtain ⟨ok, mk⟩ := f.ok _ (mem_of_get eh)
  exact ⟨ok, mk, f.mem, Nat.le_refl _, Nat.le_refl _, fun p hp => by simp [w0] at hp⟩

def loses (k : Nat) (p : Int × Int) (j : Nat) (h : Hv) : Bool := decide (j ≠ k) && (h.held && near h.heldAt p.1 p.2)
def lostU (k : Nat) (p : Int × Int) (hs : List Hv) : Nat → List (Nat × Int)
  | 0 => []
  | j + 1 => lostU k p hs j ++ (if loses k p j (hs.getD j hN) = true then [(j, (hs.getD j hN).heldAt)] else [])
theorem lostU_len (k : Nat) (p : Int × Int) (hs : List Hv) : ∀ j, (lostU k p hs j).length ≤ j
  | 0 => Nat.le_refl _
  | j + 1 => by
    have := lostU_len k p hs j
    unfold lostU
    rw [List.length_append]
    split
    · simp; omega
    · simp; omega
theorem lostU_lt (k : Nat) (p : Int × Int) (hs : List Hv) : ∀ j, ∀ q ∈ lostU k p hs j, q.1 < j
  | 0, q, h => by simp [lostU] at h
  | j + 1, q, h => by
    unfold lostU at h
    rcases List.mem_append.1 h with h | h
    · have := lostU_lt k p hs j q h; omega
    · split at h
      · simp at h; subst h; simp
      · simp at h
def drops (hs : List Hv) (ls : List (Nat × Int)) : List Hv := ls.foldl (fun hs l => hs.set l.1 ((hs.getD l.1 hN).hold false 0)) hs
theorem drops_app (hs : List Hv) (a b : List (Nat × Int)) : drops hs (a ++ b) = drops (drops hs a) b := List.foldl_append
theorem drops_len : ∀ (ls : List (Nat × Int)) (hs : List Hv), (drops hs ls).length = hs.length
  | [], hs => rfl
  | l :: r, hs => by
    show (drops (hs.set l.1 _) r).length = _
    rw [drops_len r]; simp
theorem drops_lost (k : Nat) (p : Int × Int) (hs : List Hv) : ∀ j, j ≤ hs.length → ∀ i, (drops hs (lostU k p hs j))[i]? = if i < j then (lose k [p] hs)[i]? else hs[i]?
  | 0, _, i => by simp [lostU, drops]
  | j + 1, hj, i => by
    have ih := drops_lost k p hs j (by omega)
    have ej : (drops hs (lostU k p hs j)).getD j hN = hs.getD j hN := by
      simp only [List.getD]
      rw [ih j, if_neg (by omega)]
    have hjl : j < hs.length := by omega
    have eg : hs[j]? = some (hs.getD j hN) := by rw [List.getElem?_eq_getElem hjl]; simp [List.getD, hjl]
    have el : (lose k [p] hs)[j]? = some (if loses k p j (hs.getD j hN) = true then (hs.getD j hN).hold false 0 else hs.getD j hN) := by
      rw [lose_get, eg, Option.map_some]
      congr 1
      generalize hs.getD j hN = h
      unfold lose1 loses nearS
      by_cases e : j = k
      · simp [e]
      · simp [e]
    unfold lostU
    rw [drops_app]
    by_cases hl : loses k p j (hs.getD j hN) = true
    · rw [if_pos hl] at el ⊢
      show ((drops hs (lostU k p hs j)).set j (((drops hs (lostU k p hs j)).getD j hN).hold false 0))[i]? = _
      rw [ej, List.getElem?_set]
      by_cases e : j = i
      · subst e
        rw [if_pos rfl, if_pos (by rw [drops_len]; exact hjl), if_pos (by omega), el]
      · rw [if_neg e, ih i]
        by_cases h2 : i < j
        · rw [if_pos h2, if_pos (by omega)]
        · rw [if_neg h2, if_neg (by omega)]
    · rw [if_neg hl] at el ⊢
      show (drops hs (lostU k p hs j))[i]? = _
      rw [ih i]
      by_cases e : i = j
      · subst e
        rw [if_neg (by omega), if_pos (by omega), el, eg]
      · by_cases h2 : i < j
        · rw [if_pos h2, if_pos (by omega)]
        · rw [if_neg h2, if_neg (by omega)]
theorem drops_all (k : Nat) (p : Int × Int) (hs : List Hv) : drops hs (lostU k p hs hs.length) = lose k [p] hs := by
  apply List.ext_getElem?
  intro i
  rw [drops_lost k p hs _ (Nat.le_refl _) i]
  split
  · rfl
  · rename_i h
    rw [List.getElem?_eq_none (by omega), List.getElem?_eq_none (by rw [lose_len]; omega)]
theorem lose_app (k : Nat) (a b : List (Int × Int)) (hs : List Hv) : lose k (a ++ b) hs = lose k b (lose k a hs) := by
  apply List.ext_getElem?
  intro j
  rw [lose_get, lose_get, lose_get]
  cases hs[j]? with
  | none => rfl
  | some h =>
    simp only [Option.map_some]
    split
    · rfl
    · rw [lose1_app]
theorem meets_near {x f k n : Int} (hx0 : 0 ≤ x) (hx : x < 4294967296) (h0 : 0 ≤ f) (hk : 0 < k) (hf : f + k ≤ n) (hn : n ≤ 4096) : near x f k = (decide (x < f + k) && decide (f < x + 4)) := by
  unfold near
  by_cases a : x < f + k <;> by_cases b : f < x + 4 <;> simp [a, b, hk]
end Go.Proofs.YtchllaeembmioaaGreatDoor.Mc
