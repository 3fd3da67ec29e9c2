/-
  What ferrybridgeref4.Step answers, of every hart that runs and every memory: one step ('stp').
-/
import Derived.Test.YtfolphjampklpaaDoorRef4f1
import Derived.Test.YtfolphjampklpaaDoorRef4f2
import Derived.Test.YtfolphjampklpaaDoorRef4f3
import Derived.Test.YtfolphjampklpaaDoorRef4f4
import Derived.Test.YtfolphjampklpaaDoorRef4f5
import Derived.Test.YtfolphjampklpaaDoorRef2c
namespace Go.Proofs.YtfolphjampklpaaDoor.Hr
open Go.ChangeShapes Go.WideShapes Go.ChangeAt Go.RowKit Mm Hh
set_option linter.unusedVariables false
set_option linter.unusedSimpArgs false

theorem on_set {h : Hv} (hs : h.state = 0) (r : Nat) (x y : Int) : (h.set r x).on y = (h.set r x).go y := by
  unfold Hv.on; rw [if_pos]; unfold Hv.set; split <;> exact hs
theorem on_of {h : Hv} (hs : h.state = 0) (y : Int) : h.on y = h.go y := by unfold Hv.on; rw [if_pos hs]
theorem on_trap {h : Hv} (c y : Int) : (h.trap c).on y = h.trap c := if_neg (by show ¬ (2 : Int) = 0; omega)
theorem on_halt {h : Hv} (y : Int) : h.halt.on y = h.halt := if_neg (by show ¬ (1 : Int) = 0; omega)
theorem holds_no {op a b : Int} (h : ¬ (5 ≤ op ∧ op ≤ 10)) : Wd.holds op a b = false := by
  unfold Wd.holds
  repeat' (rw [if_neg (by omega)])
theorem nxt_plain {h : Hv} {op a b n : Int} (h3 : ¬ op = 3) (h4 : ¬ op = 4) (hb : ¬ (5 ≤ op ∧ op ≤ 10)) : nxt h op a b n = Wd.lo (h.pc + 4) := by
  unfold nxt; rw [if_neg h4, if_neg]; rw [holds_no hb]; simp [h3]

/-- An instruction, by its kind. -/
theorem rs_ins {h : Hv} {ao : Option Addr} {n cap : Nat} {l : List UInt8} {w : World} {x op rd : Int} {r1 r2 : Nat} {im : Int} (P : Pr h ao n cap l w x op rd r1 r2 im) (hs : h.state = 0) (h0 : 1 ≤ op) (h1 : op ≤ 59) :
    RStep h ao n cap w (ins h l op rd r1 r2 im) := by
  unfold ins eff
  simp only [Int.toNat_natCast]
  by_cases e1 : op = 1
  · have := rs_1 P e1
    rw [if_pos e1, nxt_plain (by omega) (by omega) (by omega)]
    unfold done Hv.put; simp only; rw [on_set hs]; exact this
  rw [if_neg e1]
  by_cases e2 : op = 2
  · have := rs_2 P e2
    rw [if_pos e2, nxt_plain (by omega) (by omega) (by omega)]
    unfold done Hv.put; simp only; rw [on_set hs]; exact this
  rw [if_neg e2]
  by_cases e3 : op = 3
  · have := rs_3 P e3
    rw [if_pos (.inl e3)]
    unfold done Hv.put nxt; simp only; rw [on_set hs, if_neg (by omega), if_pos (.inl e3)]; exact this
  by_cases e4 : op = 4
  · have := rs_4 P e4
    rw [if_pos (.inr e4)]
    unfold done Hv.put nxt; simp only; rw [on_set hs, if_pos e4]; exact this
  rw [if_neg (by omega)]
  by_cases eb : 5 ≤ op ∧ op ≤ 10
  · rw [if_neg (by omega), if_neg (by omega), if_neg (by omega), if_neg (by omega), if_neg (by omega), if_neg (by omega), if_neg (by omega)]
    unfold done Hv.put nxt; simp only
    rw [on_of hs, if_neg (by omega)]
    cases hb : Wd.holds op (rg h r1) (rg h r2) with
    | true => rw [if_pos (.inr rfl)]; exact rs_bry P eb hb
    | false => rw [if_neg (by simp [e3])]; exact rs_brn P eb hb
  rw [nxt_plain e3 e4 eb]
  by_cases el : 11 ≤ op ∧ op ≤ 15
  · rw [if_pos el]
    unfold efLoad
    cases hb : ldOk l op (Wd.lo (rg h r1 + Wd.lo im)) with
    | true => rw [if_pos rfl]; unfold done Hv.put; simp only; rw [on_set hs]; exact rs_loady P el hb
    | false => rw [if_neg (by simp)]; unfold done Hv.put; simp only; rw [on_trap]; exact rs_loadn P el hb
  rw [if_neg el]
  by_cases es : 16 ≤ op ∧ op ≤ 18
  · rw [if_pos es]
    unfold efStore
    cases hb : stOk l op (Wd.lo (rg h r1 + Wd.lo im)) with
    | true => rw [if_pos rfl]; unfold done Hv.put; simp only; rw [on_of hs]; exact rs_storey P es hb
    | false => rw [if_neg (by simp)]; unfold done Hv.put; simp only; rw [on_trap]; exact rs_storen P es hb
  rw [if_neg es]
  by_cases ei : 19 ≤ op ∧ op ≤ 27
  · rw [if_pos ei]; unfold done Hv.put; simp only; rw [on_set hs]; exact rs_alun P ei
  rw [if_neg ei]
  by_cases ea : 28 ≤ op ∧ op ≤ 45
  · rw [if_pos ea]; unfold done Hv.put; simp only; rw [on_set hs]; exact rs_alu P ea
  rw [if_neg ea]
  by_cases et : 46 ≤ op ∧ op ≤ 56
  · rw [if_pos et]
    unfold efAtom efLr efSc efAmo
    cases hb : ldOk l 13 (rg h r1) with
    | false =>
      have := rs_atf P et hb _ rfl
      by_cases k : op = 46
      · rw [if_pos k] at this ⊢; rw [if_neg (by simp)]; unfold done Hv.put; simp only; rw [on_trap]; exact this
      · rw [if_neg k] at this; rw [if_neg k]; simp only [Bool.false_eq_true, if_false, ite_self]; unfold done Hv.put; simp only; rw [on_trap]; exact this
    | true =>
      by_cases k : op = 46
      · rw [if_pos k, if_pos rfl]; unfold done Hv.put; simp only; rw [on_set (by exact hs)]; exact rs_atlr P k hb
      · rw [if_neg k]
        by_cases k2 : op = 47
        · rw [if_pos k2, if_pos rfl]
          by_cases mi : h.held = true ∧ h.heldAt = rg h r1
          · rw [if_pos mi]; unfold done Hv.put; simp only; rw [on_set (by exact hs)]; exact rs_atscy P k2 hb mi
          · rw [if_neg mi]; unfold done Hv.put; simp only; rw [on_set (by exact hs)]; exact rs_atscn P k2 hb mi
        · rw [if_neg k2, if_pos rfl]; unfold done Hv.put; simp only; rw [on_set hs]; exact rs_atamo P (by omega) hb
  rw [if_neg et]
  by_cases ec : op = 58
  · rw [if_pos ec]
    unfold efCall
    by_cases q0 : rg h 17 = 0
    · rw [if_pos q0]; unfold done Hv.put; simp only; rw [on_halt]; exact rs_callh P ec q0
    · by_cases q1 : rg h 17 = 1
      · rw [if_neg q0, if_pos q1]; unfold done Hv.put; simp only; rw [on_of hs]; exact rs_callo P ec q1
      · rw [if_neg q0, if_neg q1]; unfold done Hv.put; simp only; rw [on_trap]; exact rs_callt P ec ⟨q0, q1⟩
  rw [if_neg ec]
  by_cases ee : op = 59
  · rw [if_pos ee]; unfold done Hv.put; simp only; rw [on_trap]; exact rs_break P ee
  rw [if_neg ee]
  unfold done Hv.put; simp only; rw [on_of hs]; exact rs_fence P (by omega)

theorem r1_bd (f x : Int) : 0 ≤ Dc.rs1F f x ∧ Dc.rs1F f x < 32 := by unfold Dc.rs1F; split <;> omega
theorem r2_bd (f x : Int) : 0 ≤ Dc.rs2F f x ∧ Dc.rs2F f x < 32 := by unfold Dc.rs2F; split <;> omega
theorem rd_bd (f x : Int) : 0 ≤ Dc.rdF f x ∧ Dc.rdF f x < 32 := by unfold Dc.rdF; split <;> omega
theorem imm_bd {v : Int} (f : Int) (h0 : 0 ≤ v) (h1 : v < 4294967296) : -2147483648 ≤ Dc.immF f v ∧ Dc.immF f v < 2147483648 := by
  unfold Dc.immF Wd.sg Dc.sgn
  repeat' split
  all_goals omega
/-- A step of a hart that runs. -/
theorem rstep_any {h : Hv} {ao : Option Addr} {n cap : Nat} {l : List UInt8} {w : World} (o : h.Ok) (M : Mem w ao n l) (hn : n ≤ 140737488351232) (hs : h.state = 0) : RStep h ao n cap w (stp h l) := by
  unfold stp
  cases ok : ldOk l 13 h.pc with
  | false => rw [if_neg (by simp)]; exact rs_fetch o M hn ok
  | true =>
    rw [if_pos rfl]
    have wx := W.ldV l 13 h.pc
    have R := Re.RDecode_any (ldV l 13 h.pc) wx.1 wx.2
    unfold Re.RDec at R
    generalize hx : ldV l 13 h.pc = x at *
    unfold insW
    by_cases hd : Dc.dop x = 0
    · rw [if_pos hd]
      obtain ⟨d1, d2⟩ := Dw.dec_none hd
      refine rs_word o M hn ok fun W => ?_
      rw [hx]
      have := R W
      rw [d1, d2] at this
      exact this.mono fun e w' h => ⟨h.1, h.2.1⟩
    · rw [if_neg hd]
      have d2 : Dw.decOk x = true := by unfold Dw.decOk; simp [hd]
      have hb := Re.dop_bd wx.1 wx.2
      have ib := imm_bd (Dc.frm (Dc.dop x)) wx.1 wx.2
      have a1 := r1_bd (Dc.frm (Dc.dop x)) x
      have a2 := r2_bd (Dc.frm (Dc.dop x)) x
      obtain ⟨r1, e1⟩ := Int.eq_ofNat_of_zero_le a1.1
      obtain ⟨r2, e2⟩ := Int.eq_ofNat_of_zero_le a2.1
      rw [e1, e2]
      rw [e1] at a1
      rw [e2] at a2
      refine rs_ins (x := x) ⟨o, M, hn, ok, hx.symm, fun W => ?_, (rd_bd _ _).1, (rd_bd _ _).2, by omega, by omega, ib.1, ib.2⟩ hs (by omega) hb.2
      have := R W
      unfold Dw.decV Dw.insV at this
      rw [d2, e1, e2] at this
      exact this.mono fun e w' h => ⟨h.1, h.2.1⟩
end Go.Proofs.YtfolphjampklpaaDoor.Hr
