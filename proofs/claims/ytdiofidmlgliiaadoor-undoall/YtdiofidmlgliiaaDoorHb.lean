/-
  Bounds of what a step makes, as plain data: words stay words, a hart stays one.
-/
import Derived.Test.YtdiofidmlgliiaaDoorHs
namespace Go.Proofs.YtdiofidmlgliiaaDoor.Hh
open Mm Wd
set_option linter.unusedVariables false

variable {n a b op x : Int} {h : Hv} {l : List UInt8}
def W (x : Int) : Prop := 0 ≤ x ∧ x < 4294967296
theorem W.lo (n : Int) : W (lo n) := lo_bd n
theorem W.tr (b : Bool) : W (tr b) := by unfold Wd.tr W; cases b <;> simp
theorem W.hi (n : Int) : W (hi n) := by unfold Wd.hi W; omega
theorem W.nat {n : Nat} (h : n < 2 ^ 32) : W (n : Int) := by unfold W; omega
theorem W.lt (h : W a) : a.toNat < 2 ^ 32 := by unfold W at h; omega
theorem W.band (ha : W a) (hb : W b) : W (band a b) := W.nat (Nat.and_lt_two_pow _ hb.lt)
theorem W.bor (ha : W a) (hb : W b) : W (bor a b) := W.nat (Nat.or_lt_two_pow ha.lt hb.lt)
theorem W.bxor (ha : W a) (hb : W b) : W (bxor a b) := W.nat (Nat.xor_lt_two_pow ha.lt hb.lt)
theorem W.div (ha : W a) (hb : 0 ≤ b) : W (a / b) := by
  unfold W at *
  exact ⟨Int.ediv_nonneg ha.1 hb, Int.lt_of_le_of_lt (Int.ediv_le_self b ha.1) ha.2⟩
theorem W.mod (hb : W b) (h : ¬ b = 0) : W (a % b) := by
  unfold W at *
  have := Int.emod_nonneg a h
  have := Int.emod_lt_of_pos a (show 0 < b by omega)
  omega
theorem W.ite {p : Prop} [Decidable p] (ha : W a) (hb : W b) : W (if p then a else b) := by split <;> assumption
theorem W.alu (ha : W a) (hb : W b) : W (alu op a b) := by
  have h0 : W 0 := by unfold W; omega
  have h1 : W 4294967295 := by unfold W; omega
  have p := pw_bd b hb.1
  unfold Wd.alu
  refine .ite (.lo _) (.ite (.lo _) (.ite (ha.band hb) (.ite (ha.bor hb) (.ite (ha.bxor hb) (.ite (.lo _) (.ite (ha.div (by omega)) (.ite (.lo _) (.ite (.tr _) (.ite (.tr _) (.ite (.lo _) (.ite (.hi _) (.ite (.hi _) (.ite (.hi _) (.ite ?_ (.ite ?_ (.ite ?_ (.ite ?_ h0)))))))))))))))))
  · exact .ite h1 (.lo _)
  · exact .ite ha (.lo _)
  · exact .ite h1 (ha.div hb.1)
  · unfold rmu; split
    · exact ha
    · exact W.mod hb (by assumption)
theorem W.amo (ha : W a) (hb : W b) : W (amo op a b) := by
  have h0 : W 0 := by unfold W; omega
  unfold Wd.amo
  exact .ite hb (.ite (.lo _) (.ite (ha.bxor hb) (.ite (ha.band hb) (.ite (ha.bor hb) (.ite (.ite ha hb) (.ite (.ite hb ha) (.ite (.ite ha hb) (.ite (.ite hb ha) h0))))))))
theorem W.ldV (l : List UInt8) (op a : Int) : W (ldV l op a) := by
  have h0 : W 0 := by unfold W; omega
  unfold Mm.ldV
  refine .ite ?_ h0
  have h := raw_bd l a.toNat (lsz op)
  have c := raw_cap l a.toNat op
  generalize raw l a.toNat (lsz op) = x at *
  unfold wide W
  repeat' split
  all_goals omega
theorem W.nxt : W (nxt h op a b n) := by
  unfold Hh.nxt
  refine .ite ?_ (.ite (.lo _) (.lo _))
  have := lo_bd (a + n)
  unfold W
  omega
theorem W.reg (o : h.Ok) (i : Nat) : W (rg h i) := o.reg i
theorem st_of_ld (h : ldOk l 13 a = true) : stOk l 18 a = true := h
theorem W.pc (o : h.Ok) : W h.pc := ⟨o.pc0, o.pc1⟩

/-- What an instruction leaves is a hart, with a word for Rd; the memory is as long as it was. -/
structure Ev.Ok (e : Ev) (l : List UInt8) : Prop where
  h : e.h.Ok
  m : e.m.length = l.length
  res : W (e.res.getD 0)
  out : e.out.length ≤ 1
  sto : e.sto.length ≤ 1
theorem stL_len' (ok : stOk l op a = true) : (stL l op a x).length = l.length := by unfold stL; rw [ok]; exact len_put _ _ _ _
theorem ev_mk {m : List UInt8} {out : List Int} {sto : List (Int × Int)} {res : Option Int} (oh : h.Ok) (om : m.length = l.length) (w : W (res.getD 0)) (oo : out.length ≤ 1) (os : sto.length ≤ 1) : Ev.Ok ⟨h, m, out, sto, res⟩ l := ⟨oh, om, w, oo, os⟩
theorem W.zero : W 0 := by unfold W; omega
theorem W.one : W 1 := by unfold W; omega
theorem efLoad_ok (o : h.Ok) (l : List UInt8) (op a : Int) : (efLoad h l op a).Ok l := by
  unfold efLoad; split
  · exact ev_mk o rfl (.ldV _ _ _) (by simp) (by simp)
  · exact ev_mk (o.trap 3) rfl .zero (by simp) (by simp)
theorem efStore_ok (o : h.Ok) (l : List UInt8) (op a x : Int) : (efStore h l op a x).Ok l := by
  unfold efStore; split
  · exact ev_mk o (stL_len' (by assumption)) .zero (by simp) (by simp)
  · exact ev_mk (o.trap 4) rfl .zero (by simp) (by simp)
theorem efAtom_ok (o : h.Ok) (l : List UInt8) (op a b : Int) (ha : W a) : (efAtom h l op a b).Ok l := by
  unfold efAtom; split
  · unfold efLr; split
    · exact ev_mk (o.hold true ha.1 ha.2) rfl (.ldV _ _ _) (by simp) (by simp)
    · exact ev_mk (o.trap 3) rfl .zero (by simp) (by simp)
  · split
    · unfold efSc; split
      · split
        · exact ev_mk (o.hold false (x := 0) (by omega) (by omega)) (stL_len' (st_of_ld (by assumption))) .zero (by simp) (by simp)
        · exact ev_mk (o.hold false (x := 0) (by omega) (by omega)) rfl .one (by simp) (by simp)
      · exact ev_mk (o.trap 4) rfl .zero (by simp) (by simp)
    · unfold efAmo; split
      · exact ev_mk o (stL_len' (st_of_ld (by assumption))) (.ldV _ _ _) (by simp) (by simp)
      · exact ev_mk (o.trap 4) rfl .zero (by simp) (by simp)
theorem efCall_ok (o : h.Ok) (l : List UInt8) : (efCall h l).Ok l := by
  unfold efCall; split
  · exact ev_mk o.halt rfl .zero (by simp) (by simp)
  · split
    · exact ev_mk o rfl .zero (by simp) (by simp)
    · exact ev_mk (o.trap 5) rfl .zero (by simp) (by simp)
theorem eff_ok (o : h.Ok) (l : List UInt8) (ha : W a) (hb : W b) (hn : W n) : (eff h l op a b n).Ok l := by
  unfold eff
  split
  · exact ev_mk o rfl hn (by simp) (by simp)
  split
  · exact ev_mk o rfl (.lo _) (by simp) (by simp)
  split
  · exact ev_mk o rfl (.lo _) (by simp) (by simp)
  split
  · exact efLoad_ok o l _ _
  split
  · exact efStore_ok o l _ _ _
  split
  · exact ev_mk o rfl (ha.alu hn) (by simp) (by simp)
  split
  · exact ev_mk o rfl (ha.alu hb) (by simp) (by simp)
  split
  · exact efAtom_ok o l _ _ _ ha
  split
  · exact efCall_ok o l
  split
  · exact ev_mk (o.trap 6) rfl .zero (by simp) (by simp)
  · exact ev_mk o rfl .zero (by simp) (by simp)
theorem put_ok (o : h.Ok) (r : Nat) {x : Option Int} (w : W (x.getD 0)) : (h.put r x).Ok := by
  cases x with
  | none => exact o
  | some x => exact o.set r w.1 w.2
theorem on_ok (o : h.Ok) (w : W x) : (h.on x).Ok := by
  unfold Hv.on; split
  · exact o.go w.1 w.2
  · exact o
end Go.Proofs.YtdiofidmlgliiaaDoor.Hh
