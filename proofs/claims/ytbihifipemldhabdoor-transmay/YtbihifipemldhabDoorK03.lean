/-
  Tn, Tm, Tb, Td, Te, Tj: texts of ours that lie in one file.
-/
import Derived.Test.YtbihifipemldhabDoorK02
import Derived.Test.YtbihifipemldhabDoorK01
import Derived.Test.YtbihifipemldhabDoorRef2c
import Derived.Deep.RegionWith
/-
  What single small steps do is what single instructions do, as plain data.
-/
namespace Go.Proofs.YtbihifipemldhabDoor.Ts
open Mm Wd Mi Bk
open Hh hiding Rn
set_option linter.unusedVariables false
set_option linter.unusedSimpArgs false

/-- The small steps 'body' do what an instruction of these fields at place a does. -/
def BodyI (bf bt steps a op rd r1 r2 im : Int) (body : List Mv) : Prop := ∀ q : Mi.Rn, q.over = false → q.Ok → q.h.state = 0 → rg q.h 0 = 0 → q.here = a → q.m.length ≤ 4096 →
  Fit bf bt a q (ins (q.h.go a) q.m op rd r1 r2 im) (mrun bf bt steps q body) ∧ ((mrun bf bt steps q body).over = true → lastOp op = true ∨ ¬ (ins (q.h.go a) q.m op rd r1 r2 im).h.state = 0)
theorem body_of {bf bt steps a x : Int} {body : List Mv} (hx : ¬ Dc.dop x = 0) (h : BodyI bf bt steps a (Dc.dop x) (Dc.rdF (Dc.frm (Dc.dop x)) x) (Dc.rs1F (Dc.frm (Dc.dop x)) x) (Dc.rs2F (Dc.frm (Dc.dop x)) x) (Dc.immF (Dc.frm (Dc.dop x)) x) body) : BodyOk bf bt steps a x body := fun q h1 h2 h3 h4 h5 h6 => by
  have := h q h1 h2 h3 h4 h5 h6
  unfold insW
  rw [if_neg hx]
  exact this
theorem one_run {bf bt steps : Int} {q : Mi.Rn} (ho : q.over = false) (i : Mv) : mrun bf bt steps q [i] = mic bf bt steps q i := by rw [mrun, if_neg (by simp [ho]), mrun]
theorem fit_on {bf bt a : Int} {q q' : Mi.Rn} {S : Sv} {X : Hv} {o : List Int} {s : List (Int × Int)} (hS : S = ⟨X.go (lo (a + 4)), q'.m, o, s⟩) (hq : q'.Ok) (ov : q'.over = false) (hh : q'.here = a) (hX : q'.h = X) (hpc : X.pc = q.h.pc) (hst : X.state = 0) (ho : q'.out = q.out ++ o) (hs : q'.sto = q.sto ++ s) (hn : q'.n = q.n) (hw : q'.own = (q.own || s.any (meet bf bt))) : Fit bf bt a q S q' := by
  subst hS
  exact ⟨hq, rfl, ho, hs, hn, hw, fun _ => hh, .inr ⟨ov, hst, rfl, by rw [hX]; show X = (X.go _).go _; rw [go_go, ← hpc, go_pc]⟩⟩
theorem fit_end {bf bt a : Int} {q q' : Mi.Rn} {S : Sv} {o : List Int} {s : List (Int × Int)} (hS : S = ⟨q'.h, q'.m, o, s⟩) (hq : q'.Ok) (ov : q'.over = true) (ho : q'.out = q.out ++ o) (hs : q'.sto = q.sto ++ s) (hn : q'.n = q.n) (hw : q'.own = (q.own || s.any (meet bf bt))) : Fit bf bt a q S q' := by
  subst hS
  exact ⟨hq, rfl, ho, hs, hn, hw, fun h => (by rw [ov] at h; cases h), .inl ⟨ov, rfl⟩⟩
theorem put_go (Y : Hv) (a : Int) (r : Nat) (x : Option Int) : (Y.go a).put r x = (Y.put r x).go a := by
  cases x with
  | none => rfl
  | some x =>
    show (Y.go a).set r x = (Y.set r x).go a
    unfold Hv.set
    split <;> rfl
theorem put_st (Y : Hv) (r : Nat) (x : Option Int) : (Y.put r x).state = Y.state ∧ (Y.put r x).pc = Y.pc := by
  cases x with
  | none => exact ⟨rfl, rfl⟩
  | some x =>
    show (Y.set r x).state = Y.state ∧ (Y.set r x).pc = Y.pc
    unfold Hv.set
    split <;> exact ⟨rfl, rfl⟩
/-- An instruction that does not jump, and goes on. -/
theorem ins_on {h Y : Hv} {l m : List UInt8} {op rd r1 r2 im a : Int} {o : List Int} {s : List (Int × Int)} {res : Option Int} (hE : eff (h.go a) l op (rg h r1.toNat) (rg h r2.toNat) (lo im) = ⟨Y.go a, m, o, s, res⟩) (hY : Y.state = 0) (hx : ¬ op = 3 ∧ ¬ op = 4 ∧ (op < 5 ∨ 10 < op)) : ins (h.go a) l op rd r1 r2 im = ⟨(Y.put rd.toNat res).go (lo (a + 4)), m, o, s⟩ := by
  have e : ins (h.go a) l op rd r1 r2 im = done (eff (h.go a) l op (rg h r1.toNat) (rg h r2.toNat) (lo im)) rd.toNat (nxt (h.go a) op (rg h r1.toNat) (rg h r2.toNat) (lo im)) := rfl
  have en : nxt (h.go a) op (rg h r1.toNat) (rg h r2.toNat) (lo im) = lo (a + 4) := by
    unfold nxt
    rw [if_neg hx.2.1, if_neg (by rw [holds_no hx.2.2]; simp [hx.1])]
    rfl
  rw [e, hE, en]
  unfold done
  simp only
  rw [put_go]
  unfold Hv.on
  rw [if_pos (by show (Y.put rd.toNat res).state = 0; rw [(put_st _ _ _).1]; exact hY), go_go]
/-- An instruction that traps or halts. -/
theorem ins_stop {h Y : Hv} {l m : List UInt8} {op rd r1 r2 im a : Int} {o : List Int} {s : List (Int × Int)} (hE : eff (h.go a) l op (rg h r1.toNat) (rg h r2.toNat) (lo im) = ⟨Y.go a, m, o, s, none⟩) (hY : ¬ Y.state = 0) : ins (h.go a) l op rd r1 r2 im = ⟨Y.go a, m, o, s⟩ := by
  have e : ins (h.go a) l op rd r1 r2 im = done (eff (h.go a) l op (rg h r1.toNat) (rg h r2.toNat) (lo im)) rd.toNat (nxt (h.go a) op (rg h r1.toNat) (rg h r2.toNat) (lo im)) := rfl
  rw [e, hE]
  unfold done Hv.put Hv.on
  simp only
  rw [if_neg (by show ¬ Y.state = 0; exact hY)]
theorem get_low (q : Mi.Rn) {k : Int} (h : k < 32) : q.get k = rg q.h k.toNat := by unfold Rn.get; rw [if_pos h]
theorem put_low (q : Mi.Rn) {k : Int} (h : k < 32) (x : Int) : q.put k x = { q with h := q.h.set k.toNat x } := by unfold Rn.put; rw [if_neg (by omega)]
/-- What the small step of D = x leaves. -/
theorem fit_put {bf bt a op rd r1 r2 im x : Int} {q : Mi.Rn} (ok : q.Ok) (ov : q.over = false) (st : q.h.state = 0) (hh : q.here = a) (hr : rd < 32) (wx : W x) (hE : eff (q.h.go a) q.m op (rg q.h r1.toNat) (rg q.h r2.toNat) (lo im) = ⟨q.h.go a, q.m, [], [], some x⟩) (hx : ¬ op = 3 ∧ ¬ op = 4 ∧ (op < 5 ∨ 10 < op)) : Fit bf bt a q (ins (q.h.go a) q.m op rd r1 r2 im) (q.put rd x) := by
  have okp := ok.put rd wx
  rw [put_low q hr] at okp ⊢
  refine fit_on (X := q.h.set rd.toNat x) (o := []) (s := []) (ins_on (res := some x) hE st hx) okp ov hh rfl ?_ ?_ (by simp) (by simp) rfl (by simp)
  · exact (put_st q.h rd.toNat (some x)).2
  · exact (put_st q.h rd.toNat (some x)).1.trans st
theorem over_no {bf bt a op rd x : Int} {q : Mi.Rn} {P : Prop} (ov : q.over = false) : (q.put rd x).over = true → P := fun h => by
  have : (q.put rd x).over = q.over := by unfold Rn.put; split <;> rfl
  rw [this, ov] at h
  cases h
theorem fit_trap {bf bt a op rd r1 r2 im c : Int} {q : Mi.Rn} (ok : q.Ok) (hh : q.here = a) (hE : eff (q.h.go a) q.m op (rg q.h r1.toNat) (rg q.h r2.toNat) (lo im) = ⟨(q.h.trap c).go a, q.m, [], [], none⟩) : Fit bf bt a q (ins (q.h.go a) q.m op rd r1 r2 im) (q.trap c) ∧ ¬ (ins (q.h.go a) q.m op rd r1 r2 im).h.state = 0 := by
  have e := ins_stop (rd := rd) hE (by simp [Hv.trap])
  refine ⟨fit_end (o := []) (s := []) ?_ (ok.trap c) rfl (by simp [Rn.trap]) (by simp [Rn.trap]) rfl (by simp [Rn.trap]), ?_⟩
  · rw [e]
    show _ = (⟨(q.h.trap c).go q.here, q.m, [], []⟩ : Sv)
    rw [hh]
  · rw [e]
    simp [Hv.trap, Hv.go]
section
variable {bf bt steps a op rd r1 r2 im : Int}
/-- MSet: LUI, AUIPC. -/
theorem body_set (x : Int) (hr : rd < 32) (wx : W x) (hE : ∀ (h : Hv) (l : List UInt8), eff (h.go a) l op (rg h r1.toNat) (rg h r2.toNat) (lo im) = ⟨h.go a, l, [], [], some x⟩) (hx : ¬ op = 3 ∧ ¬ op = 4 ∧ (op < 5 ∨ 10 < op)) : BodyI bf bt steps a op rd r1 r2 im [⟨2, rd, 0, 0, x⟩] := fun q ov ok st z hh hl => by
  rw [one_run ov]
  have e : mic bf bt steps q ⟨2, rd, 0, 0, x⟩ = q.put rd x := by unfold mic; rw [if_neg (by simp), if_pos rfl]
  rw [e]
  exact ⟨fit_put ok ov st hh hr wx (hE _ _) hx, over_no (op := op) (bf := bf) (bt := bt) (a := a) ov⟩
theorem body_lui (hr : rd < 32) (ho : op = 1) : BodyI bf bt steps a op rd r1 r2 im [⟨2, rd, 0, 0, lo im⟩] :=
  body_set _ hr (W.lo _) (fun h l => by subst ho; unfold eff; rw [if_pos rfl]) (by omega)
theorem body_auipc (hr : rd < 32) (ho : op = 2) : BodyI bf bt steps a op rd r1 r2 im [⟨2, rd, 0, 0, lo (a + lo im)⟩] :=
  body_set _ hr (W.lo _) (fun h l => by subst ho; unfold eff; rw [if_neg (by omega), if_pos rfl]; rfl) (by omega)
/-- MAlu. -/
theorem body_alu (hr : rd < 32) (h1 : r1 < 32) (h2 : r2 < 32) (ho : 28 ≤ op ∧ op ≤ 45) : BodyI bf bt steps a op rd r1 r2 im [⟨400 + op, rd, r1, r2, 0⟩] := fun q ov ok st z hh hl => by
  rw [one_run ov, mic_op (c := 400) (k := op) (by omega) (by omega) rfl (by omega)]
  unfold mOp
  rw [if_neg (by omega), if_neg (by omega), if_neg (by omega), if_pos rfl]
  simp only [get_low q h1, get_low q h2]
  refine ⟨fit_put ok ov st hh hr (W.alu (ok.h.reg _) (ok.h.reg _)) ?_ (by omega), over_no (op := op) (bf := bf) (bt := bt) (a := a) ov⟩
  unfold eff
  rw [if_neg (by omega), if_neg (by omega), if_neg (by omega), if_neg (by omega), if_neg (by omega), if_neg (by omega), if_pos ho]
/-- MAluN. -/
theorem body_aln (hr : rd < 32) (h1 : r1 < 32) (ho : 19 ≤ op ∧ op ≤ 27) : BodyI bf bt steps a op rd r1 r2 im [⟨500 + opn op, rd, r1, 0, lo im⟩] := fun q ov ok st z hh hl => by
  have hop : 28 ≤ opn op ∧ opn op ≤ 45 := by unfold opn; (repeat' split) <;> omega
  rw [one_run ov, mic_op (c := 500) (k := opn op) (by omega) (by omega) rfl (by omega)]
  unfold mOp
  rw [if_neg (by omega), if_neg (by omega), if_neg (by omega), if_neg (by omega), if_pos rfl]
  simp only [get_low q h1]
  refine ⟨fit_put ok ov st hh hr (W.alu (ok.h.reg _) (W.lo _)) ?_ (by omega), over_no (op := op) (bf := bf) (bt := bt) (a := a) ov⟩
  unfold eff
  rw [if_neg (by omega), if_neg (by omega), if_neg (by omega), if_neg (by omega), if_neg (by omega), if_pos ho]
/-- MLoad. -/
theorem body_ld (hr : rd < 32) (h1 : r1 < 32) (ho : 11 ≤ op ∧ op ≤ 15) : BodyI bf bt steps a op rd r1 r2 im [⟨200 + op, rd, r1, 0, lo im⟩] := fun q ov ok st z hh hl => by
  rw [one_run ov, mic_op (c := 200) (k := op) (by omega) (by omega) rfl (by omega)]
  unfold mOp
  rw [if_neg (by omega), if_pos rfl]
  simp only [get_low q h1]
  have hE : eff (q.h.go a) q.m op (rg q.h r1.toNat) (rg q.h r2.toNat) (lo im) = efLoad (q.h.go a) q.m op (lo (rg q.h r1.toNat + lo im)) := by
    unfold eff
    rw [if_neg (by omega), if_neg (by omega), if_neg (by omega), if_pos ho]
  unfold mLoad
  by_cases hk : ldOk q.m op (lo (rg q.h r1.toNat + lo im)) = true
  · rw [if_pos hk]
    refine ⟨fit_put ok ov st hh hr (W.ldV _ _ _) ?_ (by omega), over_no (op := op) (bf := bf) (bt := bt) (a := a) ov⟩
    rw [hE]
    unfold efLoad
    rw [if_pos hk]
  · rw [if_neg hk]
    have t := fit_trap (bf := bf) (bt := bt) (rd := rd) (c := 3) ok hh (r1 := r1) (r2 := r2) (im := im) (op := op) (by rw [hE]; unfold efLoad; rw [if_neg hk]; rfl)
    exact ⟨t.1, fun _ => .inr t.2⟩
theorem hits_at {l : List UInt8} {p : Int} (hl : l.length ≤ 4096) (hp : 0 ≤ p) (h : stOk l op p = true) : hits bf bt p (ssz op) = meet bf bt (p, ((ssz op : Nat) : Int)) := by
  have hz : p + (ssz op : Int) ≤ l.length := by
    unfold stOk thr at h
    simp only [decide_eq_true_eq] at h
    exact h.2.2
  exact hits_meet hp (by omega) (ssz_le _)
/-- MStore. -/
theorem body_st (h1 : r1 < 32) (h2 : r2 < 32) (ho : 16 ≤ op ∧ op ≤ 18) : BodyI bf bt steps a op rd r1 r2 im [⟨300 + op, 0, r1, r2, lo im⟩] := fun q ov ok st z hh hl => by
  rw [one_run ov, mic_op (c := 300) (k := op) (by omega) (by omega) rfl (by omega)]
  unfold mOp
  rw [if_neg (by omega), if_neg (by omega), if_pos rfl]
  simp only [get_low q h1, get_low q h2]
  have hE : eff (q.h.go a) q.m op (rg q.h r1.toNat) (rg q.h r2.toNat) (lo im) = efStore (q.h.go a) q.m op (lo (rg q.h r1.toNat + lo im)) (rg q.h r2.toNat) := by
    unfold eff
    rw [if_neg (by omega), if_neg (by omega), if_neg (by omega), if_neg (by omega), if_pos ho]
  unfold mStore
  by_cases hk : stOk q.m op (lo (rg q.h r1.toNat + lo im)) = true
  · rw [if_pos hk]
    have hm := hits_at (bf := bf) (bt := bt) hl (W.lo _).1 hk
    refine ⟨fit_on (X := q.h) (o := []) (s := [(lo (rg q.h r1.toNat + lo im), ((ssz op : Nat) : Int))]) ?_ ((ok.mem _).stored _ _ _ _) ov hh rfl rfl st (by simp [Rn.stored]) rfl rfl (by simp [Rn.stored, hm]), fun h => ?_⟩
    · rw [ins_on (Y := q.h) (res := none) (m := stL q.m op (lo (rg q.h r1.toNat + lo im)) (rg q.h r2.toNat)) (o := []) (s := [(lo (rg q.h r1.toNat + lo im), ((ssz op : Nat) : Int))]) (by rw [hE]; unfold efStore; rw [if_pos hk]) st (by omega)]
      rfl
    · have : q.over = true := h
      rw [ov] at this
      cases this
  · rw [if_neg hk]
    have t := fit_trap (bf := bf) (bt := bt) (rd := rd) (c := 4) ok hh (r1 := r1) (r2 := r2) (im := im) (op := op) (by rw [hE]; unfold efStore; rw [if_neg hk]; rfl)
    exact ⟨t.1, fun _ => .inr t.2⟩
/-- Nothing: FENCE. -/
theorem body_fence (ho : op = 57) : BodyI bf bt steps a op rd r1 r2 im [] := fun q ov ok st z hh hl => by
  have hE : eff (q.h.go a) q.m op (rg q.h r1.toNat) (rg q.h r2.toNat) (lo im) = ⟨q.h.go a, q.m, [], [], none⟩ := by
    unfold eff
    rw [if_neg (by omega), if_neg (by omega), if_neg (by omega), if_neg (by omega), if_neg (by omega), if_neg (by omega), if_neg (by omega), if_neg (by omega), if_neg (by omega), if_neg (by omega)]
  refine ⟨fit_on (X := q.h) (o := []) (s := []) ?_ ok ov hh rfl rfl st (by simp [mrun]) (by simp [mrun]) rfl (by simp [mrun]), fun h => ?_⟩
  · rw [ins_on (Y := q.h) (res := none) hE st (by omega)]
    rfl
  · have : q.over = true := h
    rw [ov] at this
    cases this
/-- MBreak: EBREAK. -/
theorem body_break (ho : op = 59) : BodyI bf bt steps a op rd r1 r2 im [⟨6, 0, 0, 0, 0⟩] := fun q ov ok st z hh hl => by
  rw [one_run ov]
  have e : mic bf bt steps q ⟨6, 0, 0, 0, 0⟩ = q.trap 6 := by unfold mic; rw [if_neg (by simp), if_neg (by simp), if_neg (by simp), if_neg (by simp), if_neg (by simp), if_pos rfl]
  rw [e]
  have t := fit_trap (bf := bf) (bt := bt) (rd := rd) (c := 6) ok hh (r1 := r1) (r2 := r2) (im := im) (op := op) (by unfold eff; rw [if_neg (by omega), if_neg (by omega), if_neg (by omega), if_neg (by omega), if_neg (by omega), if_neg (by omega), if_neg (by omega), if_neg (by omega), if_neg (by omega), if_pos ho]; rfl)
  exact ⟨t.1, fun _ => .inr t.2⟩
/-- MCall: ECALL. -/
theorem body_call (ho : op = 58) : BodyI bf bt steps a op rd r1 r2 im [⟨5, 0, 0, 0, 0⟩] := fun q ov ok st z hh hl => by
  rw [one_run ov]
  have e : mic bf bt steps q ⟨5, 0, 0, 0, 0⟩ = mCall q := by unfold mic; rw [if_neg (by simp), if_neg (by simp), if_neg (by simp), if_neg (by simp), if_pos rfl]
  rw [e]
  have hE : eff (q.h.go a) q.m op (rg q.h r1.toNat) (rg q.h r2.toNat) (lo im) = efCall (q.h.go a) q.m := by
    unfold eff
    rw [if_neg (by omega), if_neg (by omega), if_neg (by omega), if_neg (by omega), if_neg (by omega), if_neg (by omega), if_neg (by omega), if_neg (by omega), if_pos ho]
  unfold mCall
  unfold efCall at hE
  have hrg : ∀ k, rg (q.h.go a) k = rg q.h k := fun _ => rfl
  rw [hrg, hrg] at hE
  by_cases h0 : rg q.h 17 = 0
  · rw [if_pos h0] at hE ⊢
    have e2 := ins_stop (rd := rd) (Y := q.h.halt) hE (by simp [Hv.halt])
    refine ⟨fit_end (o := []) (s := []) ?_ ⟨ok.h.halt.go ok.h0 ok.h1, ok.tl, ok.tb, ok.h0, ok.h1⟩ rfl (by simp) (by simp) rfl (by simp), fun _ => .inr ?_⟩
    · rw [e2]
      show _ = (⟨q.h.halt.go q.here, q.m, [], []⟩ : Sv)
      rw [hh]
    · rw [e2]
      simp [Hv.halt, Hv.go]
  rw [if_neg h0] at hE ⊢
  by_cases h1 : rg q.h 17 = 1
  · rw [if_pos h1] at hE ⊢
    refine ⟨fit_on (X := q.h) (o := [rg q.h 10]) (s := []) ?_ ⟨ok.h, ok.tl, ok.tb, ok.h0, ok.h1⟩ ov hh rfl rfl st rfl (by simp) rfl (by simp), fun h => ?_⟩
    · rw [ins_on (Y := q.h) (res := none) hE st (by omega)]
      rfl
    · have : q.over = true := h
      rw [ov] at this
      cases this
  · rw [if_neg h1] at hE ⊢
    have t := fit_trap (bf := bf) (bt := bt) (rd := rd) (c := 5) ok hh (r1 := r1) (r2 := r2) (im := im) (op := op) hE
    exact ⟨t.1, fun _ => .inr t.2⟩
end
end Go.Proofs.YtbihifipemldhabDoor.Ts
/-
  What small steps do is what instructions do, as plain data: branches, jumps, atomic ones.
-/
namespace Go.Proofs.YtbihifipemldhabDoor.Ts
open Mm Wd Mi Bk
open Hh hiding Rn
set_option linter.unusedVariables false
set_option linter.unusedSimpArgs false

section
variable {bf bt steps a op rd r1 r2 im : Int}
/-- MIf. -/
theorem body_if (h1 : r1 < 32) (h2 : r2 < 32) (ho : 5 ≤ op ∧ op ≤ 10) : BodyI bf bt steps a op rd r1 r2 im [⟨100 + op, 0, r1, r2, lo (a + lo im)⟩] := fun q ov ok st z hh hl => by
  rw [one_run ov, mic_op (c := 100) (k := op) (by omega) (by omega) rfl (by omega)]
  unfold mOp
  rw [if_pos rfl]
  simp only [get_low q h1, get_low q h2]
  have hE : eff (q.h.go a) q.m op (rg q.h r1.toNat) (rg q.h r2.toNat) (lo im) = ⟨q.h.go a, q.m, [], [], none⟩ := by
    unfold eff
    rw [if_neg (by omega), if_neg (by omega), if_neg (by omega), if_neg (by omega), if_neg (by omega), if_neg (by omega), if_neg (by omega), if_neg (by omega), if_neg (by omega), if_neg (by omega)]
  have e : ins (q.h.go a) q.m op rd r1 r2 im = done (eff (q.h.go a) q.m op (rg q.h r1.toNat) (rg q.h r2.toNat) (lo im)) rd.toNat (nxt (q.h.go a) op (rg q.h r1.toNat) (rg q.h r2.toNat) (lo im)) := rfl
  rw [e, hE]
  have ed : ∀ x, done ⟨q.h.go a, q.m, [], [], none⟩ rd.toNat x = ⟨q.h.go x, q.m, [], []⟩ := fun x => by
    unfold done Hv.put Hv.on
    simp only
    rw [if_pos (by show q.h.state = 0; exact st), go_go]
  rw [ed]
  have hlast : lastOp op = true := by unfold lastOp; exact decide_eq_true (by omega)
  by_cases hk : holds op (rg q.h r1.toNat) (rg q.h r2.toNat) = true
  · rw [if_pos hk]
    have en : nxt (q.h.go a) op (rg q.h r1.toNat) (rg q.h r2.toNat) (lo im) = lo (a + lo im) := by
      unfold nxt
      rw [if_neg (by omega), if_pos (.inr hk)]
      rfl
    rw [en]
    exact ⟨fit_end (o := []) (s := []) rfl (ok.stop (W.lo _)) rfl (by simp [Rn.stop]) (by simp [Rn.stop]) rfl (by simp [Rn.stop]), fun _ => .inl hlast⟩
  · rw [if_neg hk]
    have en : nxt (q.h.go a) op (rg q.h r1.toNat) (rg q.h r2.toNat) (lo im) = lo (a + 4) := by
      unfold nxt
      rw [if_neg (by omega), if_neg (by simp [hk]; omega)]
      rfl
    rw [en]
    exact ⟨fit_on (X := q.h) (o := []) (s := []) rfl ok ov hh rfl rfl st (by simp) (by simp) rfl (by simp), fun _ => .inl hlast⟩
/-- A jump: what D becomes, and where PC goes. -/
theorem fit_jump {q q' : Mi.Rn} {x pc : Int} (ok : q'.Ok) (st : q.h.state = 0) (ov : q'.over = true) (hE : eff (q.h.go a) q.m op (rg q.h r1.toNat) (rg q.h r2.toNat) (lo im) = ⟨q.h.go a, q.m, [], [], some x⟩) (hN : nxt (q.h.go a) op (rg q.h r1.toNat) (rg q.h r2.toNat) (lo im) = pc) (hh : q'.h = (q.h.set rd.toNat x).go pc) (hm : q'.m = q.m) (ho : q'.out = q.out) (hs : q'.sto = q.sto) (hn : q'.n = q.n) (hw : q'.own = q.own) : Fit bf bt a q (ins (q.h.go a) q.m op rd r1 r2 im) q' := by
  have e : ins (q.h.go a) q.m op rd r1 r2 im = done (eff (q.h.go a) q.m op (rg q.h r1.toNat) (rg q.h r2.toNat) (lo im)) rd.toNat (nxt (q.h.go a) op (rg q.h r1.toNat) (rg q.h r2.toNat) (lo im)) := rfl
  refine fit_end (o := []) (s := []) ?_ ok ov (by simp [ho]) (by simp [hs]) hn (by simp [hw])
  rw [e, hE, hN]
  unfold done
  simp only
  rw [put_go]
  unfold Hv.on
  rw [if_pos (by show (q.h.put rd.toNat (some x)).state = 0; rw [(put_st _ _ _).1]; exact st), go_go, hh, hm]
  rfl
theorem mrun2 {q : Mi.Rn} (ho : q.over = false) (i : Mv) (is : List Mv) : mrun bf bt steps q (i :: is) = mrun bf bt steps (mic bf bt steps q i) is := by rw [mrun, if_neg (by simp [ho])]
theorem put_over (q : Mi.Rn) (k x : Int) : (q.put k x).over = q.over := by unfold Rn.put; split <;> rfl
theorem mic_set {q : Mi.Rn} (d x : Int) : mic bf bt steps q ⟨2, d, 0, 0, x⟩ = q.put d x := by unfold mic; rw [if_neg (by simp), if_pos rfl]
theorem mic_go {q : Mi.Rn} (x : Int) : mic bf bt steps q ⟨3, 0, 0, 0, x⟩ = q.stop x := by unfold mic; rw [if_neg (by simp), if_neg (by simp), if_pos rfl]
theorem mic_reg {q : Mi.Rn} (r x : Int) : mic bf bt steps q ⟨4, 0, r, 0, x⟩ = q.stop (lo (q.get r + x) - lo (q.get r + x) % 2) := by unfold mic; rw [if_neg (by simp), if_neg (by simp), if_neg (by simp), if_pos rfl]
theorem mic_add {q : Mi.Rn} (d r x : Int) : mic bf bt steps q ⟨528, d, r, 0, x⟩ = q.put d (alu 28 (q.get r) x) := by
  rw [mic_op (c := 500) (k := 28) (by omega) (by omega) rfl (by omega)]
  unfold mOp
  rw [if_neg (by omega), if_neg (by omega), if_neg (by omega), if_neg (by omega), if_pos rfl]
theorem alu_add (x y : Int) : alu 28 x y = lo (x + y) := by unfold alu; rw [if_pos rfl]
theorem lo_id {x : Int} (h : W x) : lo x = x := Int.emod_eq_of_lt h.1 h.2
/-- JAL. -/
theorem body_jal (hr : rd < 32) (ho : op = 3) : BodyI bf bt steps a op rd r1 r2 im [⟨2, rd, 0, 0, lo (a + 4)⟩, ⟨3, 0, 0, 0, lo (a + lo im)⟩] := fun q ov ok st z hh hl => by
  subst ho
  rw [mrun2 ov, mic_set, one_run (by rw [put_over]; exact ov), mic_go]
  refine ⟨?_, fun _ => .inl rfl⟩
  have okp := ok.put rd (W.lo (a + 4))
  rw [put_low q hr] at okp ⊢
  refine fit_jump (x := lo (a + 4)) (pc := lo (a + lo im)) (okp.stop (W.lo _)) st rfl ?_ ?_ rfl rfl rfl rfl rfl rfl
  · unfold eff
    rw [if_neg (by omega), if_neg (by omega), if_pos (by omega)]
    rfl
  · unfold nxt
    rw [if_neg (by omega), if_pos (.inl rfl)]
    rfl
theorem eff_jalr (h : Hv) (l : List UInt8) (A B n : Int) : eff (h.go a) l 4 A B n = ⟨h.go a, l, [], [], some (lo (a + 4))⟩ := by
  unfold eff
  rw [if_neg (by omega), if_neg (by omega), if_pos (by omega)]
  rfl
theorem nxt_jalr (h : Hv) (A B n : Int) : nxt (h.go a) 4 A B n = lo (A + n) - lo (A + n) % 2 := by unfold nxt; rw [if_pos rfl]
theorem go2_w (x : Int) : W (lo x - lo x % 2) := by have := W.lo x; unfold W at *; omega
theorem put_hi (q : Mi.Rn) {k : Int} (h : 32 ≤ k) (x : Int) : q.put k x = { q with tm := q.tm.set (k - 32).toNat x } := by unfold Rn.put; rw [if_pos h]
theorem get_hi {q : Mi.Rn} (ok : q.Ok) {t : Int} (h0 : 32 ≤ t) (h1 : t < 36) (x : Int) : (q.put t x).get t = x := by
  rw [put_hi q h0]
  unfold Rn.get
  rw [if_neg (by omega)]
  show (q.tm.set (t - 32).toNat x).getD (t - 32).toNat 0 = x
  rw [tm_set, if_pos ⟨rfl, by rw [ok.tl]; omega⟩]
theorem get_hi_low (q : Mi.Rn) {t : Int} (h0 : 32 ≤ t) {k : Int} (hk : k < 32) (x y : Int) : (q.put k x).get t = q.get t := by
  rw [put_low q hk]
  unfold Rn.get
  rw [if_neg (by omega), if_neg (by omega)]
/-- JALR by a register of the runner's own, that A is copied to. -/
theorem body_jalr1 (t : Int) (h0 : 32 ≤ t) (h1 : t < 36) (hr : rd < 32) (hr1 : r1 < 32) (ho : op = 4) : BodyI bf bt steps a op rd r1 r2 im [⟨528, t, r1, 0, 0⟩, ⟨2, rd, 0, 0, lo (a + 4)⟩, ⟨4, 0, t, 0, lo im⟩] := fun q ov ok st z hh hl => by
  subst ho
  have wA := ok.h.reg r1.toNat
  have eA : alu 28 (q.get r1) 0 = rg q.h r1.toNat := by rw [alu_add, get_low q hr1, Int.add_zero]; exact lo_id wA
  rw [mrun2 ov, mic_add, eA]
  have ok1 := ok.put t wA
  rw [mrun2 (by rw [put_over]; exact ov), mic_set, one_run (by rw [put_over, put_over]; exact ov), mic_reg]
  rw [get_hi_low _ h0 hr _ 0, get_hi ok h0 h1]
  refine ⟨?_, fun _ => .inl rfl⟩
  have ok2 := (ok1.put rd (W.lo (a + 4))).stop (go2_w (rg q.h r1.toNat + lo im))
  rw [put_low _ hr, put_hi q h0] at ok2 ⊢
  exact fit_jump (x := lo (a + 4)) (pc := lo (rg q.h r1.toNat + lo im) - lo (rg q.h r1.toNat + lo im) % 2) ok2 st rfl (eff_jalr _ _ _ _ _) (nxt_jalr _ _ _ _) rfl rfl rfl rfl rfl rfl
/-- JALR by a register of the runner's own, that the place is reckoned in. -/
theorem body_jalr2 (t : Int) (h0 : 32 ≤ t) (h1 : t < 36) (hr : rd < 32) (hr1 : r1 < 32) (ho : op = 4) : BodyI bf bt steps a op rd r1 r2 im [⟨528, t, r1, 0, lo im⟩, ⟨2, rd, 0, 0, lo (a + 4)⟩, ⟨4, 0, t, 0, 0⟩] := fun q ov ok st z hh hl => by
  subst ho
  have eA : alu 28 (q.get r1) (lo im) = lo (rg q.h r1.toNat + lo im) := by rw [alu_add, get_low q hr1]
  rw [mrun2 ov, mic_add, eA]
  have ok1 := ok.put t (W.lo (rg q.h r1.toNat + lo im))
  rw [mrun2 (by rw [put_over]; exact ov), mic_set, one_run (by rw [put_over, put_over]; exact ov), mic_reg]
  rw [get_hi_low _ h0 hr _ 0, get_hi ok h0 h1, Int.add_zero, lo_id (W.lo _)]
  refine ⟨?_, fun _ => .inl rfl⟩
  have ok2 := (ok1.put rd (W.lo (a + 4))).stop (go2_w (rg q.h r1.toNat + lo im))
  rw [put_low _ hr, put_hi q h0] at ok2 ⊢
  exact fit_jump (x := lo (a + 4)) (pc := lo (rg q.h r1.toNat + lo im) - lo (rg q.h r1.toNat + lo im) % 2) ok2 st rfl (eff_jalr _ _ _ _ _) (nxt_jalr _ _ _ _) rfl rfl rfl rfl rfl rfl
/-- JALR whose Rd is not its Rs1. -/
theorem body_jalr3 (hr0 : 0 ≤ rd) (hr : rd < 32) (hr2 : 0 ≤ r1) (hr1 : r1 < 32) (hne : ¬ rd = r1 ∨ rd = 0) (ho : op = 4) : BodyI bf bt steps a op rd r1 r2 im [⟨2, rd, 0, 0, lo (a + 4)⟩, ⟨4, 0, r1, 0, lo im⟩] := fun q ov ok st z hh hl => by
  subst ho
  rw [mrun2 ov, mic_set, one_run (by rw [put_over]; exact ov), mic_reg]
  have eg : (q.put rd (lo (a + 4))).get r1 = rg q.h r1.toNat := by
    rw [put_low q hr, get_low _ hr1]
    show rg (q.h.set rd.toNat _) r1.toNat = _
    unfold Hv.set
    split
    · rfl
    · rename_i hz
      rw [rg_set, if_neg (by omega)]
  rw [eg]
  refine ⟨?_, fun _ => .inl rfl⟩
  have ok2 := (ok.put rd (W.lo (a + 4))).stop (go2_w (rg q.h r1.toNat + lo im))
  rw [put_low _ hr] at ok2 ⊢
  exact fit_jump (x := lo (a + 4)) (pc := lo (rg q.h r1.toNat + lo im) - lo (rg q.h r1.toNat + lo im) % 2) ok2 st rfl (eff_jalr _ _ _ _ _) (nxt_jalr _ _ _ _) rfl rfl rfl rfl rfl rfl
theorem fit_put2 {q q2 : Mi.Rn} {s : List (Int × Int)} {x : Int} (hE : eff (q.h.go a) q.m op (rg q.h r1.toNat) (rg q.h r2.toNat) (lo im) = ⟨q2.h.go a, q2.m, [], s, some x⟩) (ok : q2.Ok) (ov : q2.over = false) (st : q2.h.state = 0) (hpc : q2.h.pc = q.h.pc) (hh : q2.here = a) (ho : q2.out = q.out) (hs : q2.sto = q.sto ++ s) (hn : q2.n = q.n) (hw : q2.own = (q.own || s.any (meet bf bt))) (hr : rd < 32) (wx : W x) (hx : ¬ op = 3 ∧ ¬ op = 4 ∧ (op < 5 ∨ 10 < op)) : Fit bf bt a q (ins (q.h.go a) q.m op rd r1 r2 im) (q2.put rd x) := by
  have okp := ok.put rd wx
  rw [put_low q2 hr] at okp ⊢
  refine fit_on (X := q2.h.set rd.toNat x) (o := []) (s := s) (ins_on (res := some x) hE st hx) okp ov hh rfl ?_ ?_ (by simp [ho]) hs hn hw
  · exact (put_st q2.h rd.toNat (some x)).2.trans hpc
  · exact (put_st q2.h rd.toNat (some x)).1.trans st
/-- MAtom. -/
theorem body_atom (hr : rd < 32) (h1 : r1 < 32) (h2 : r2 < 32) (ho : 46 ≤ op ∧ op ≤ 56) : BodyI bf bt steps a op rd r1 r2 im [⟨600 + op, rd, r1, r2, 0⟩] := fun q ov ok st z hh hl => by
  rw [one_run ov, mic_op (c := 600) (k := op) (by omega) (by omega) rfl (by omega)]
  unfold mOp
  rw [if_neg (by omega), if_neg (by omega), if_neg (by omega), if_neg (by omega), if_neg (by omega), if_pos rfl]
  simp only [get_low q h1, get_low q h2]
  have wA := ok.h.reg r1.toNat
  have wB := ok.h.reg r2.toNat
  have hE : eff (q.h.go a) q.m op (rg q.h r1.toNat) (rg q.h r2.toNat) (lo im) = efAtom (q.h.go a) q.m op (rg q.h r1.toNat) (rg q.h r2.toNat) := by
    unfold eff
    rw [if_neg (by omega), if_neg (by omega), if_neg (by omega), if_neg (by omega), if_neg (by omega), if_neg (by omega), if_neg (by omega), if_pos ho]
  have hx : ¬ op = 3 ∧ ¬ op = 4 ∧ (op < 5 ∨ 10 < op) := by omega
  have no : ∀ {q2 : Mi.Rn} {x : Int} {P : Prop}, q2.over = false → (q2.put rd x).over = true → P := fun e h => by rw [put_over, e] at h; cases h
  unfold mAtom
  unfold efAtom at hE
  by_cases q6 : op = 46
  · rw [if_pos q6] at hE ⊢
    unfold mLr
    unfold efLr at hE
    by_cases hk : ldOk q.m 13 (rg q.h r1.toNat) = true
    · rw [if_pos hk] at hE ⊢
      exact ⟨fit_put2 (q := q) (bf := bf) (bt := bt) (q2 := { q with h := q.h.hold true (rg q.h r1.toNat) }) (s := []) hE (ok.hart (ok.h.hold true wA.1 wA.2)) ov st rfl hh rfl (by simp) rfl (by simp) hr (W.ldV _ _ _) hx, no (q2 := { q with h := q.h.hold true (rg q.h r1.toNat) }) ov⟩
    · rw [if_neg hk] at hE ⊢
      have t := fit_trap (bf := bf) (bt := bt) (rd := rd) (c := 3) ok hh hE
      exact ⟨t.1, fun _ => .inr t.2⟩
  rw [if_neg q6] at hE ⊢
  by_cases q7 : op = 47
  · rw [if_pos q7] at hE ⊢
    unfold mSc
    unfold efSc at hE
    by_cases hk : ldOk q.m 13 (rg q.h r1.toNat) = true
    · rw [if_pos hk] at hE ⊢
      have hm := hits_at (op := 18) (bf := bf) (bt := bt) hl wA.1 (st_of_ld hk)
      have okH : Mi.Rn.Ok { q with h := q.h.hold false 0 } := ok.hart (ok.h.hold false (x := 0) (by omega) (by omega))
      by_cases hd : q.h.held = true ∧ q.h.heldAt = rg q.h r1.toNat
      · rw [if_pos hd]
        have hd2 : (q.h.go a).held = true ∧ (q.h.go a).heldAt = rg q.h r1.toNat := hd
        rw [if_pos hd2] at hE
        exact ⟨fit_put2 (q := q) (bf := bf) (bt := bt) (q2 := { q with h := q.h.hold false 0, m := stL q.m 18 (rg q.h r1.toNat) (rg q.h r2.toNat) }.stored bf bt (rg q.h r1.toNat) 4) (s := [(rg q.h r1.toNat, 4)]) hE ((okH.mem _).stored _ _ _ _) ov st rfl hh rfl rfl rfl (by show (q.own || hits bf bt _ 4) = _; rw [show hits bf bt (rg q.h r1.toNat) 4 = meet bf bt (rg q.h r1.toNat, 4) from hm]; simp) hr .zero hx, no (q2 := { q with h := q.h.hold false 0, m := stL q.m 18 (rg q.h r1.toNat) (rg q.h r2.toNat) }.stored bf bt (rg q.h r1.toNat) 4) ov⟩
      · rw [if_neg hd]
        have hd2 : ¬ ((q.h.go a).held = true ∧ (q.h.go a).heldAt = rg q.h r1.toNat) := hd
        rw [if_neg hd2] at hE
        exact ⟨fit_put2 (q := q) (bf := bf) (bt := bt) (q2 := { q with h := q.h.hold false 0 }) (s := []) hE okH ov st rfl hh rfl (by simp) rfl (by simp) hr .one hx, no (q2 := { q with h := q.h.hold false 0 }) ov⟩
    · rw [if_neg hk] at hE ⊢
      have t := fit_trap (bf := bf) (bt := bt) (rd := rd) (c := 4) ok hh hE
      exact ⟨t.1, fun _ => .inr t.2⟩
  rw [if_neg q7] at hE ⊢
  unfold mAmo
  unfold efAmo at hE
  by_cases hk : ldOk q.m 13 (rg q.h r1.toNat) = true
  · rw [if_pos hk] at hE ⊢
    have hm := hits_at (op := 18) (bf := bf) (bt := bt) hl wA.1 (st_of_ld hk)
    exact ⟨fit_put2 (q := q) (bf := bf) (bt := bt) (q2 := { q with m := stL q.m 18 (rg q.h r1.toNat) (amo op (ldV q.m 13 (rg q.h r1.toNat)) (rg q.h r2.toNat)) }.stored bf bt (rg q.h r1.toNat) 4) (s := [(rg q.h r1.toNat, 4)]) hE ((ok.mem _).stored _ _ _ _) ov st rfl hh rfl rfl rfl (by show (q.own || hits bf bt _ 4) = _; rw [show hits bf bt (rg q.h r1.toNat) 4 = meet bf bt (rg q.h r1.toNat, 4) from hm]; simp) hr (W.ldV _ _ _) hx, no (q2 := { q with m := stL q.m 18 (rg q.h r1.toNat) (amo op (ldV q.m 13 (rg q.h r1.toNat)) (rg q.h r2.toNat)) }.stored bf bt (rg q.h r1.toNat) 4) ov⟩
  · rw [if_neg hk] at hE ⊢
    have t := fit_trap (bf := bf) (bt := bt) (rd := rd) (c := 4) ok hh hE
    exact ⟨t.1, fun _ => .inr t.2⟩
end
end Go.Proofs.YtbihifipemldhabDoor.Ts
/-
  A block of a memory, as plain data: where its words stand ('Blkd').
-/
namespace Go.Proofs.YtbihifipemldhabDoor.Ts
open Mm Wd Mi Bk
open Hh hiding Rn
set_option linter.unusedVariables false
set_option linter.unusedSimpArgs false

theorem blk_facts (l : List UInt8) (pc : Int) : ∀ n k, (blk l pc n k).length ≤ n ∧ ∀ j, j < (blk l pc n k).length → ftC l (at4 pc (k + j)) = 0 ∧ (blk l pc n k)[j]? = some (ldV l 13 (at4 pc (k + j))) ∧ (lastOp (Dc.dop (ldV l 13 (at4 pc (k + j)))) = true → j + 1 = (blk l pc n k).length)
  | 0, k => ⟨Nat.le_refl _, fun j hj => absurd hj (by simp [blk])⟩
  | n + 1, k => by
    by_cases h : ftC l (at4 pc k) = 0
    · cases hl : lastOp (Dc.dop (ldV l 13 (at4 pc k))) with
      | true =>
        rw [blk_last h hl]
        refine ⟨by simp, fun j hj => ?_⟩
        have hj0 : j = 0 := by simp at hj; omega
        subst hj0
        exact ⟨h, rfl, fun _ => rfl⟩
      | false =>
        rw [blk_on h hl]
        obtain ⟨ih1, ih2⟩ := blk_facts l pc n (k + 1)
        refine ⟨by simp; omega, fun j hj => ?_⟩
        match j, hj with
        | 0, _ => exact ⟨h, rfl, fun q => by rw [Nat.add_zero] at q; rw [hl] at q; cases q⟩
        | j + 1, hj =>
          obtain ⟨a, b, c⟩ := ih2 j (by simp at hj; omega)
          rw [show k + 1 + j = k + (j + 1) by omega] at a b c
          exact ⟨a, by simpa using b, fun q => by have := c q; simp; omega⟩
    · rw [blk_stop h]
      exact ⟨by simp, fun j hj => absurd hj (by simp)⟩
theorem ft_zero {l : List UInt8} {pc : Int} (h : ftC l pc = 0) : ldOk l 13 pc = true ∧ ¬ Dc.dop (ldV l 13 pc) = 0 := by
  unfold ftC at h
  split at h
  · rename_i q
    split at h
    · cases h
    · rename_i q2
      exact ⟨q, q2⟩
  · cases h
theorem ld13 {l : List UInt8} {a : Int} (h : ldOk l 13 a = true) : a + 4 ≤ l.length := by
  unfold ldOk thr at h
  simp only [decide_eq_true_eq] at h
  exact h.2.2
/-- The block of a memory at a place, if there is an instruction. -/
theorem blkd_of {l : List UInt8} {pc : Int} (hl : l.length ≤ 4096) (h0 : 0 ≤ pc) (h1 : pc < 4294967296) (hp : 0 < (blk l pc 16 0).length) : Blkd l pc (pc + 4 * ((blk l pc 16 0).length : Int)) (blk l pc 16 0).length (fun j => ldV l 13 (at4 pc j)) := by
  obtain ⟨_, f⟩ := blk_facts l pc 16 0
  have f : ∀ j, j < (blk l pc 16 0).length → ftC l (at4 pc j) = 0 ∧ (blk l pc 16 0)[j]? = some (ldV l 13 (at4 pc j)) ∧ (lastOp (Dc.dop (ldV l 13 (at4 pc j))) = true → j + 1 = (blk l pc 16 0).length) := fun j hj => by
    have := f j hj
    rwa [Nat.zero_add] at this
  have at_ : ∀ j, j ≤ (blk l pc 16 0).length → at4 pc j = pc + 4 * j := by
    intro j
    induction j with
    | zero => intro _; unfold at4; have : lo (pc + 4 * ((0 : Nat) : Int)) = pc := by rw [show pc + 4 * ((0 : Nat) : Int) = pc by omega]; exact Int.emod_eq_of_lt h0 h1
              rw [this]; omega
    | succ j ih =>
      intro hj
      have e := ih (by omega)
      have := ld13 (ft_zero (f j (by omega)).1).1
      unfold at4 at e ⊢
      rw [show lo (pc + 4 * ((j + 1 : Nat) : Int)) = pc + 4 * ((j + 1 : Nat) : Int) from Int.emod_eq_of_lt (by omega) (by unfold at4 at this; omega)]
  have hlast := ld13 (ft_zero (f ((blk l pc 16 0).length - 1) (by omega)).1).1
  rw [at_ _ (by omega)] at hlast
  exact ⟨hp, h0, rfl, hl, by omega, at_, fun j hj => (ft_zero (f j hj).1).1, fun j hj => (ft_zero (f j hj).1).2, fun j hj q => (f j hj).2.2 q⟩
/-- An instruction's registers are registers. -/
theorem rd_bd (f x : Int) : 0 ≤ Dc.rdF f x ∧ Dc.rdF f x < 32 := by unfold Dc.rdF; split <;> omega
theorem rs1_bd (f x : Int) : 0 ≤ Dc.rs1F f x ∧ Dc.rs1F f x < 32 := by unfold Dc.rs1F; split <;> omega
theorem rs2_bd (f x : Int) : 0 ≤ Dc.rs2F f x ∧ Dc.rs2F f x < 32 := by unfold Dc.rs2F; split <;> omega
end Go.Proofs.YtbihifipemldhabDoor.Ts
/-
  What package trans makes of a block, as plain data ('mdV' of an instruction, 'codeV' of a row of them): it may be, and it does what the instructions do.
-/
namespace Go.Proofs.YtbihifipemldhabDoor.Ts
open Mm Wd Mi Bk
open Hh hiding Rn
set_option linter.unusedVariables false
set_option linter.unusedSimpArgs false

/-- The small steps of an instruction at place a, behind its MAt. -/
def mdV (a : Int) (i : Iv) : List Mv :=
  if i.op = 1 then [⟨2, i.rd, 0, 0, lo i.im⟩] else if i.op = 2 then [⟨2, i.rd, 0, 0, lo (a + lo i.im)⟩]
  else if i.op = 3 then [⟨2, i.rd, 0, 0, lo (a + 4)⟩, ⟨3, 0, 0, 0, lo (a + lo i.im)⟩]
  else if i.op = 4 then [⟨528, 32, i.r1, 0, lo i.im⟩, ⟨2, i.rd, 0, 0, lo (a + 4)⟩, ⟨4, 0, 32, 0, 0⟩]
  else if 5 ≤ i.op ∧ i.op ≤ 10 then [⟨100 + i.op, 0, i.r1, i.r2, lo (a + lo i.im)⟩]
  else if 11 ≤ i.op ∧ i.op ≤ 15 then [⟨200 + i.op, i.rd, i.r1, 0, lo i.im⟩]
  else if 16 ≤ i.op ∧ i.op ≤ 18 then [⟨300 + i.op, 0, i.r1, i.r2, lo i.im⟩]
  else if i.op = 19 ∧ (i.r1 = 0 ∨ i.rd = 0) then [⟨2, i.rd, 0, 0, lo i.im⟩]
  else if 19 ≤ i.op ∧ i.op ≤ 27 then [⟨500 + opn i.op, i.rd, i.r1, 0, lo i.im⟩]
  else if 28 ≤ i.op ∧ i.op ≤ 45 then [⟨400 + i.op, i.rd, i.r1, i.r2, 0⟩]
  else if 46 ≤ i.op ∧ i.op ≤ 56 then [⟨600 + i.op, i.rd, i.r1, i.r2, 0⟩]
  else if i.op = 58 then [⟨5, 0, 0, 0, 0⟩] else if i.op = 59 then [⟨6, 0, 0, 0, 0⟩] else []
/-- An instruction's fields, as far as this asks. -/
structure Iv.In (i : Iv) : Prop where
  o1 : 1 ≤ i.op
  o2 : i.op ≤ 59
  d0 : 0 ≤ i.rd
  d1 : i.rd < 32
  a0 : 0 ≤ i.r1
  a1 : i.r1 < 32
  b0 : 0 ≤ i.r2
  b1 : i.r2 < 32
theorem body_li {bf bt steps a op rd r1 r2 im : Int} (hd0 : 0 ≤ rd) (hr : rd < 32) (ho : op = 19) (h : r1 = 0 ∨ rd = 0) : BodyI bf bt steps a op rd r1 r2 im [⟨2, rd, 0, 0, lo im⟩] := fun q ov ok st z hh hl => by
  rw [one_run ov]
  have e : mic bf bt steps q ⟨2, rd, 0, 0, lo im⟩ = q.put rd (lo im) := by unfold mic; rw [if_neg (by simp), if_pos rfl]
  have hE : eff (q.h.go a) q.m op (rg q.h r1.toNat) (rg q.h r2.toNat) (lo im) = ⟨q.h.go a, q.m, [], [], some (alu 28 (rg q.h r1.toNat) (lo im))⟩ := by
    subst ho
    unfold eff
    rw [if_neg (by omega), if_neg (by omega), if_neg (by omega), if_neg (by omega), if_neg (by omega), if_pos (by omega)]
    rfl
  have e2 : q.put rd (lo im) = q.put rd (alu 28 (rg q.h r1.toNat) (lo im)) := by
    rcases h with rfl | rfl
    · have : alu 28 (rg q.h (0 : Int).toNat) (lo im) = lo im := by
        show alu 28 (rg q.h 0) (lo im) = lo im
        rw [z, alu_add, Int.zero_add]
        exact lo_id (W.lo _)
      rw [this]
    · rw [put_low q (by omega), put_low q (by omega)]
      rfl
  rw [e, e2]
  exact ⟨fit_put ok ov st hh hr (W.alu (ok.h.reg _) (W.lo _)) hE (by omega), over_no (op := op) (bf := bf) (bt := bt) (a := a) ov⟩
/-- They do what the instruction does. -/
theorem body_md {bf bt steps a : Int} {i : Iv} (h : i.In) : BodyI bf bt steps a i.op i.rd i.r1 i.r2 i.im (mdV a i) := by
  obtain ⟨o1, o2, d0, d1, a0, a1, b0, b1⟩ := h
  unfold mdV
  by_cases h0 : i.op = 1
  · rw [if_pos h0]; exact body_lui d1 h0
  rw [if_neg h0]
  by_cases h1 : i.op = 2
  · rw [if_pos h1]; exact body_auipc d1 h1
  rw [if_neg h1]
  by_cases h2 : i.op = 3
  · rw [if_pos h2]; exact body_jal d1 h2
  rw [if_neg h2]
  by_cases h3 : i.op = 4
  · rw [if_pos h3]; exact body_jalr2 32 (by omega) (by omega) d1 a1 h3
  rw [if_neg h3]
  by_cases h4 : 5 ≤ i.op ∧ i.op ≤ 10
  · rw [if_pos h4]; exact body_if a1 b1 h4
  rw [if_neg h4]
  by_cases h5 : 11 ≤ i.op ∧ i.op ≤ 15
  · rw [if_pos h5]; exact body_ld d1 a1 h5
  rw [if_neg h5]
  by_cases h6 : 16 ≤ i.op ∧ i.op ≤ 18
  · rw [if_pos h6]; exact body_st a1 b1 h6
  rw [if_neg h6]
  by_cases h7 : i.op = 19 ∧ (i.r1 = 0 ∨ i.rd = 0)
  · rw [if_pos h7]; exact body_li d0 d1 h7.1 h7.2
  rw [if_neg h7]
  by_cases h8 : 19 ≤ i.op ∧ i.op ≤ 27
  · rw [if_pos h8]; exact body_aln d1 a1 h8
  rw [if_neg h8]
  by_cases h9 : 28 ≤ i.op ∧ i.op ≤ 45
  · rw [if_pos h9]; exact body_alu d1 a1 b1 h9
  rw [if_neg h9]
  by_cases h10 : 46 ≤ i.op ∧ i.op ≤ 56
  · rw [if_pos h10]; exact body_atom d1 a1 b1 h10
  rw [if_neg h10]
  by_cases h11 : i.op = 58
  · rw [if_pos h11]; exact body_call h11
  rw [if_neg h11]
  by_cases h12 : i.op = 59
  · rw [if_pos h12]; exact body_break h12
  rw [if_neg h12]
  exact body_fence (by omega)
theorem ok_of {i : Mv} {nm : Int} (hn : named i.op = nm) (h0 : 0 ≤ nm) (hN : 8 ≤ nm ∨ i.n = 0) (hd : (nm % 2 = 1 ∨ i.d = 0) ∧ 0 ≤ i.d ∧ i.d < 36) (ha : (nm / 2 % 2 = 1 ∨ i.a = 0) ∧ 0 ≤ i.a ∧ i.a < 36) (hb : (nm / 4 % 2 = 1 ∨ i.b = 0) ∧ 0 ≤ i.b ∧ i.b < 36) : micOk i = true := by
  unfold micOk regOk
  rw [hn]
  simp only [Bool.and_eq_true, decide_eq_true_eq]
  exact ⟨h0, hN, hd, ha, hb⟩
theorem nm_if {op : Int} (h : 5 ≤ op ∧ op ≤ 10) : named (100 + op) = 14 := by unfold named; rw [if_neg (by omega), if_neg (by omega), if_neg (by omega), if_neg (by omega), if_pos (by omega)]
theorem nm_ld {op : Int} (h : 11 ≤ op ∧ op ≤ 15) : named (200 + op) = 11 := by unfold named; rw [if_neg (by omega), if_neg (by omega), if_neg (by omega), if_neg (by omega), if_neg (by omega), if_pos (by omega)]
theorem nm_st {op : Int} (h : 16 ≤ op ∧ op ≤ 18) : named (300 + op) = 14 := by unfold named; rw [if_neg (by omega), if_neg (by omega), if_neg (by omega), if_neg (by omega), if_neg (by omega), if_neg (by omega), if_pos (by omega)]
theorem nm_alu {op : Int} (h : 28 ≤ op ∧ op ≤ 45) : named (400 + op) = 7 := by unfold named; rw [if_neg (by omega), if_neg (by omega), if_neg (by omega), if_neg (by omega), if_neg (by omega), if_neg (by omega), if_neg (by omega), if_pos (by omega)]
theorem nm_aln {op : Int} (h : 28 ≤ op ∧ op ≤ 45) : named (500 + op) = 11 := by unfold named; rw [if_neg (by omega), if_neg (by omega), if_neg (by omega), if_neg (by omega), if_neg (by omega), if_neg (by omega), if_neg (by omega), if_neg (by omega), if_pos (by omega)]
theorem nm_atm {op : Int} (h : 46 ≤ op ∧ op ≤ 56) : named (600 + op) = 7 := by unfold named; rw [if_neg (by omega), if_neg (by omega), if_neg (by omega), if_neg (by omega), if_neg (by omega), if_neg (by omega), if_neg (by omega), if_neg (by omega), if_neg (by omega), if_pos (by omega)]
theorem opn_bd (op : Int) : 28 ≤ opn op ∧ opn op ≤ 45 := by unfold opn; (repeat' split) <;> omega
/-- They may be, their words are words, and they are few. -/
def Mv.Fine (i : Mv) : Prop := micOk i = true ∧ W i.n ∧ (0 ≤ i.op ∧ i.op ≤ 700)
theorem one_mem {P : Mv → Prop} {y : Mv} (h : P y) : ∀ x ∈ [y], P x := fun x hx => by rw [List.mem_singleton] at hx; subst hx; exact h
theorem z1 : (0 : Int) ≤ 0 := by decide
theorem z2 : (0 : Int) < 36 := by decide
theorem z3 (n : Int) (h : (0 : Int) ≤ n) : 0 ≤ n := h
theorem z4 (n : Int) (h : n ≤ 700) : n ≤ 700 := h
theorem z5 : (32 : Int) < 36 := by decide
theorem set_fine {rd n : Int} (d0 : 0 ≤ rd) (d1 : rd < 32) (hn : W n) : Mv.Fine ⟨2, rd, 0, 0, n⟩ := ⟨ok_of (nm := 9) (by show named 2 = 9; decide) (by omega) (by left; omega) ⟨.inl (by decide), d0, by show rd < 36; omega⟩ ⟨.inr rfl, z1, z2⟩ ⟨.inr rfl, z1, z2⟩, hn, z3 2 (by decide), z4 2 (by decide)⟩
theorem md_fine {a : Int} {i : Iv} (h : i.In) : (∀ x ∈ mdV a i, Mv.Fine x) ∧ (mdV a i).length ≤ 3 := by
  obtain ⟨o1, o2, d0, d1, a0, a1, b0, b1⟩ := h
  have w0 : W 0 := by unfold W; omega
  have hop := opn_bd i.op
  have set_ : ∀ n, W n → Mv.Fine ⟨2, i.rd, 0, 0, n⟩ := fun n hn => set_fine d0 d1 hn
  unfold mdV
  by_cases h0 : i.op = 1
  · rw [if_pos h0]
    exact ⟨one_mem (set_ _ (W.lo _)), by simp⟩
  rw [if_neg h0]
  by_cases h1 : i.op = 2
  · rw [if_pos h1]
    exact ⟨one_mem (set_ _ (W.lo _)), by simp⟩
  rw [if_neg h1]
  by_cases h2 : i.op = 3
  · rw [if_pos h2]
    refine ⟨fun x hx => ?_, by simp⟩
    rcases List.mem_cons.1 hx with rfl | hx
    · exact set_ _ (W.lo _)
    · refine one_mem (P := Mv.Fine) ?_ x hx
      exact ⟨ok_of (nm := 8) (by show named 3 = 8; decide) (by omega) (by left; omega) ⟨.inr rfl, z1, z2⟩ ⟨.inr rfl, z1, z2⟩ ⟨.inr rfl, z1, z2⟩, W.lo _, z3 3 (by decide), z4 3 (by decide)⟩
  rw [if_neg h2]
  by_cases h3 : i.op = 4
  · rw [if_pos h3]
    refine ⟨fun x hx => ?_, by simp⟩
    rcases List.mem_cons.1 hx with rfl | hx
    · exact ⟨ok_of (nm := 11) (by show named 528 = 11; decide) (by omega) (by left; omega) ⟨.inl (by decide), z3 32 (by decide), z5⟩ ⟨.inl (by decide), a0, by show i.r1 < 36; omega⟩ ⟨.inr rfl, z1, z2⟩, W.lo _, z3 528 (by decide), z4 528 (by decide)⟩
    rcases List.mem_cons.1 hx with rfl | hx
    · exact set_ _ (W.lo _)
    · refine one_mem (P := Mv.Fine) ?_ x hx
      exact ⟨ok_of (nm := 10) (by show named 4 = 10; decide) (by omega) (by left; omega) ⟨.inr rfl, z1, z2⟩ ⟨.inl (by decide), z3 32 (by decide), z5⟩ ⟨.inr rfl, z1, z2⟩, w0, z3 4 (by decide), z4 4 (by decide)⟩
  rw [if_neg h3]
  by_cases h4 : 5 ≤ i.op ∧ i.op ≤ 10
  · rw [if_pos h4]
    exact ⟨one_mem ⟨ok_of (nm := 14) (nm_if h4) (by omega) (by left; omega) ⟨.inr rfl, z1, z2⟩ ⟨.inl (by decide), a0, by show i.r1 < 36; omega⟩ ⟨.inl (by decide), b0, by show i.r2 < 36; omega⟩, W.lo _, by show (0 : Int) ≤ 100 + i.op; omega, by show 100 + i.op ≤ 700; omega⟩, by simp⟩
  rw [if_neg h4]
  by_cases h5 : 11 ≤ i.op ∧ i.op ≤ 15
  · rw [if_pos h5]
    exact ⟨one_mem ⟨ok_of (nm := 11) (nm_ld h5) (by omega) (by left; omega) ⟨.inl (by decide), d0, by show i.rd < 36; omega⟩ ⟨.inl (by decide), a0, by show i.r1 < 36; omega⟩ ⟨.inr rfl, z1, z2⟩, W.lo _, by show (0 : Int) ≤ 200 + i.op; omega, by show 200 + i.op ≤ 700; omega⟩, by simp⟩
  rw [if_neg h5]
  by_cases h6 : 16 ≤ i.op ∧ i.op ≤ 18
  · rw [if_pos h6]
    exact ⟨one_mem ⟨ok_of (nm := 14) (nm_st h6) (by omega) (by left; omega) ⟨.inr rfl, z1, z2⟩ ⟨.inl (by decide), a0, by show i.r1 < 36; omega⟩ ⟨.inl (by decide), b0, by show i.r2 < 36; omega⟩, W.lo _, by show (0 : Int) ≤ 300 + i.op; omega, by show 300 + i.op ≤ 700; omega⟩, by simp⟩
  rw [if_neg h6]
  by_cases h7 : i.op = 19 ∧ (i.r1 = 0 ∨ i.rd = 0)
  · rw [if_pos h7]
    exact ⟨one_mem (set_ _ (W.lo _)), by simp⟩
  rw [if_neg h7]
  by_cases h8 : 19 ≤ i.op ∧ i.op ≤ 27
  · rw [if_pos h8]
    exact ⟨one_mem ⟨ok_of (nm := 11) (nm_aln hop) (by omega) (by left; omega) ⟨.inl (by decide), d0, by show i.rd < 36; omega⟩ ⟨.inl (by decide), a0, by show i.r1 < 36; omega⟩ ⟨.inr rfl, z1, z2⟩, W.lo _, by show (0 : Int) ≤ 500 + opn i.op; omega, by show 500 + opn i.op ≤ 700; omega⟩, by simp⟩
  rw [if_neg h8]
  by_cases h9 : 28 ≤ i.op ∧ i.op ≤ 45
  · rw [if_pos h9]
    exact ⟨one_mem ⟨ok_of (nm := 7) (nm_alu h9) (by omega) (by right; rfl) ⟨.inl (by decide), d0, by show i.rd < 36; omega⟩ ⟨.inl (by decide), a0, by show i.r1 < 36; omega⟩ ⟨.inl (by decide), b0, by show i.r2 < 36; omega⟩, w0, by show (0 : Int) ≤ 400 + i.op; omega, by show 400 + i.op ≤ 700; omega⟩, by simp⟩
  rw [if_neg h9]
  by_cases h10 : 46 ≤ i.op ∧ i.op ≤ 56
  · rw [if_pos h10]
    exact ⟨one_mem ⟨ok_of (nm := 7) (nm_atm h10) (by omega) (by right; rfl) ⟨.inl (by decide), d0, by show i.rd < 36; omega⟩ ⟨.inl (by decide), a0, by show i.r1 < 36; omega⟩ ⟨.inl (by decide), b0, by show i.r2 < 36; omega⟩, w0, by show (0 : Int) ≤ 600 + i.op; omega, by show 600 + i.op ≤ 700; omega⟩, by simp⟩
  rw [if_neg h10]
  by_cases h11 : i.op = 58
  · rw [if_pos h11]
    exact ⟨one_mem ⟨by decide, w0, by decide, by decide⟩, by simp⟩
  rw [if_neg h11]
  by_cases h12 : i.op = 59
  · rw [if_pos h12]
    exact ⟨one_mem ⟨by decide, w0, by decide, by decide⟩, by simp⟩
  rw [if_neg h12]
  exact ⟨fun x hx => (by cases hx), by simp⟩
/-- The small steps of instructions, from the k-th one on. -/
def codeV (pc : Int) : List Iv → Nat → List Mv
  | [], _ => []
  | i :: is, k => ⟨1, 0, 0, 0, at4 pc k⟩ :: (mdV (at4 pc k) i ++ codeV pc is (k + 1))
theorem codeV_snoc (pc : Int) (i : Iv) : ∀ (is : List Iv) (k : Nat), codeV pc (is ++ [i]) k = codeV pc is k ++ (⟨1, 0, 0, 0, at4 pc (k + is.length)⟩ :: mdV (at4 pc (k + is.length)) i)
  | [], k => by simp [codeV]
  | j :: is, k => by
    show _ :: (_ ++ codeV pc (is ++ [i]) (k + 1)) = _
    rw [codeV_snoc pc i is (k + 1)]
    simp [codeV, show k + 1 + is.length = k + (is.length + 1) by omega]
theorem at_fine (a : Int) (h : W a) : Mv.Fine ⟨1, 0, 0, 0, a⟩ := ⟨ok_of (nm := 8) (by show named 1 = 8; decide) (by omega) (by left; omega) ⟨.inr rfl, z1, z2⟩ ⟨.inr rfl, z1, z2⟩ ⟨.inr rfl, z1, z2⟩, h, z3 1 (by decide), z4 1 (by decide)⟩
theorem codeV_fine (pc : Int) : ∀ (is : List Iv) (k : Nat), (∀ i ∈ is, i.In) → (∀ x ∈ codeV pc is k, Mv.Fine x) ∧ (codeV pc is k).length ≤ 4 * is.length
  | [], k, _ => ⟨fun x hx => (by cases hx), by simp [codeV]⟩
  | i :: is, k, h => by
    obtain ⟨m1, m2⟩ := md_fine (a := at4 pc k) (h i (by simp))
    obtain ⟨c1, c2⟩ := codeV_fine pc is (k + 1) (fun j hj => h j (by simp [hj]))
    refine ⟨fun x hx => ?_, ?_⟩
    · simp only [codeV, List.mem_cons, List.mem_append] at hx
      rcases hx with rfl | hx | hx
      · exact at_fine _ (at4_bd pc k)
      · exact m1 x hx
      · exact c1 x hx
    · simp only [codeV, List.length_cons, List.length_append]
      omega
theorem codeV_may (pc : Int) {is : List Iv} (h : ∀ i ∈ is, i.In) (hl : is.length ≤ 16) : mayC (codeV pc is 0) = true := by
  obtain ⟨c1, c2⟩ := codeV_fine pc is 0 h
  unfold mayC
  simp only [Bool.and_eq_true, decide_eq_true_eq, List.all_eq_true]
  exact ⟨by omega, fun x hx => (c1 x hx).1⟩
/-- The instruction of a word. -/
def ivX (x : Int) : Iv := ⟨Dc.dop x, Dc.rdF (Dc.frm (Dc.dop x)) x, Dc.rs1F (Dc.frm (Dc.dop x)) x, Dc.rs2F (Dc.frm (Dc.dop x)) x, Dc.immF (Dc.frm (Dc.dop x)) x⟩
theorem ivX_in {x : Int} (h0 : 0 ≤ x) (h1 : x < 4294967296) (hx : ¬ Dc.dop x = 0) : (ivX x).In := by
  have := Re.dop_bd h0 h1
  have a := rd_bd (Dc.frm (Dc.dop x)) x
  have b := rs1_bd (Dc.frm (Dc.dop x)) x
  have c := rs2_bd (Dc.frm (Dc.dop x)) x
  exact ⟨by show 1 ≤ Dc.dop x; omega, by show Dc.dop x ≤ 59; omega, a.1, a.2, b.1, b.2, c.1, c.2⟩
theorem codeV_K (pc : Int) (xs : List Int) : ∀ (n k : Nat), k + n = xs.length → codeV pc ((xs.drop k).map ivX) k = codeK pc (fun j => mdV (at4 pc j) (ivX (xs.getD j 0))) n k
  | 0, k, h => by rw [List.drop_eq_nil_of_le (by omega)]; rfl
  | n + 1, k, h => by
    have hk : k < xs.length := by omega
    rw [List.drop_eq_getElem_cons hk, List.map_cons]
    show _ :: (_ ++ codeV pc _ (k + 1)) = _ :: (_ ++ _)
    rw [codeV_K pc xs n (k + 1) (by omega)]
    simp [List.getD, List.getElem?_eq_getElem hk]
end Go.Proofs.YtbihifipemldhabDoor.Ts
/-
  What package trans's within, set and row return.
-/
namespace Go.Proofs.YtbihifipemldhabDoor.Ts
open Go.ChangeShapes Go.WideShapes Go.ChangeAt Go.RowKit Mm Hc Mi Bk
open Hh hiding Rn
set_option linter.unusedVariables false
set_option linter.unusedSimpArgs false

theorem Sr.at_ {w : World} {g : Nat} (hg : g = w.heap.size) (cs : Array Value) (t n c : Nat) (h : cs.size = n * 5) : Sr (w.alloc (.cells cs t)) (.slice (some ⟨g, 0, none⟩) n c) n 5 cs.toList := by
  subst hg
  exact Sr.new w cs t n c h
theorem Sr.drew {w : World} {vx : Value} {m sz : Nat} {news : List Value} (h : Sr w vx m sz news) : Sr w.drew vx m sz news := h.gr ((Gr.refl _).drewN 1)
theorem iMic : (Tryd.prog.info? 84).map (·.size) = some 5 := by kernel_rfl
theorem qwithin_any (n a b : Int) (w : World) : Calls Tryd.prog 72 #[.int .i64 n, .int .i64 a, .int .i64 b] w fun e w' => e = .returned (.bool (decide (a ≤ n ∧ n ≤ b))) ∧ w' = w := by
  go_enter Tryd.func72, Tryd.ntmps72
  go_wp2
  all_goals
    go_ret
    refine ⟨Dw.ret_bool ?_, rfl⟩
    first
      | (rename_i h; have h2 : ¬ a ≤ n := by omega
         simp [h2]; done)
      | (rename_i h; simp [h]; done)
theorem qwithin_yes {n a b : Int} (h : a ≤ n ∧ n ≤ b) (w : World) : Calls Tryd.prog 72 #[.int .i64 n, .int .i64 a, .int .i64 b] w fun e w' => e = .returned (.bool true) ∧ w' = w := by
  have := qwithin_any n a b w
  rwa [decide_eq_true h] at this
theorem qwithin_no {n a b : Int} (h : ¬ (a ≤ n ∧ n ≤ b)) (w : World) : Calls Tryd.prog 72 #[.int .i64 n, .int .i64 a, .int .i64 b] w fun e w' => e = .returned (.bool false) ∧ w' = w := by
  have := qwithin_any n a b w
  rwa [decide_eq_false h] at this
theorem qrow_any (v : Value) (w : World) : Calls Tryd.prog 69 #[v] w fun e w' => e = .returned v ∧ w' = w := by
  go_enter Tryd.func69, Tryd.ntmps69
  go_wp2
  go_ret
  exact ⟨rfl, rfl⟩
theorem qset_at (r x : Int) (w : World) : Calls Tryd.prog 70 #[.int .i64 r, .int .u32 x] w fun e w' => e = .returned (.agg #[.int .i64 2, .int .i64 r, .int .i64 0, .int .i64 0, .int .u32 x]) ∧ w' = w.alloc (.cells #[.int .i64 2, .int .i64 r, .int .i64 0, .int .i64 0, .int .u32 x] 84) := by
  go_enter Tryd.func70, Tryd.ntmps70
  go_wp2
  exact bodyPost_ret (v := .agg #[.int .i64 2, .int .i64 r, .int .i64 0, .int .i64 0, .int .u32 x]) (results_cell_row Tryd.results70 _ _ _ _ _ (0, 0) _ rfl (heap_alloc_new w _) Tryd.underlying84 rfl iMic) rfl ⟨rfl, rfl⟩
theorem qset_any (r x : Int) (w : World) : Calls Tryd.prog 70 #[.int .i64 r, .int .u32 x] w fun e w' => e = .returned (.agg #[.int .i64 2, .int .i64 r, .int .i64 0, .int .i64 0, .int .u32 x]) ∧ Gr w w' :=
  (qset_at r x w).mono fun e w' ⟨h1, h2⟩ => ⟨h1, by rw [h2]; exact (Gr.refl _).alloc _⟩
end Go.Proofs.YtbihifipemldhabDoor.Ts
/-
  What package trans's jump returns.
-/
namespace Go.Proofs.YtbihifipemldhabDoor.Ts
open Go.ChangeShapes Go.WideShapes Go.ChangeAt Go.RowKit Mm Hc Mi Bk
open Hh hiding Rn
set_option linter.unusedVariables false
set_option linter.unusedSimpArgs false
set_option maxHeartbeats 4000000 in
set_option maxRecDepth 100000 in
theorem jump_any (op rd r1 r2 im a : Int) (w : World) : Calls Tryd.prog 71 #[.agg #[.int .i64 op, .int .i64 rd, .int .i64 r1, .int .i64 r2, .int .i32 im], .int .u32 a] w fun e w' => ∃ v, e = .returned v ∧ Sr w' v 3 5 [.int .i64 528, .int .i64 32, .int .i64 r1, .int .i64 0, .int .u32 (Wd.lo im), .int .i64 2, .int .i64 rd, .int .i64 0, .int .i64 0, .int .u32 (Wd.lo (a + 4)), .int .i64 4, .int .i64 0, .int .i64 32, .int .i64 0, .int .u32 0] ∧ Gr w w' := by
  go_enter Tryd.func71, Tryd.ntmps71
  go_wp2_with fail
  go_region_with (first
    | (go_at_call 70; refine (qset_at _ _ _).mono ?_; rintro e w1 ⟨rfl, rfl⟩)
    | (go_at_call 69; refine (qrow_any _ _).mono ?_; rintro e w1 ⟨rfl, rfl⟩))
  all_goals
    go_wp2_with fail
    go_ret
    refine ⟨_, rfl, ?_, ?_⟩
    · repeat (refine Sr.drew ?_)
      exact Sr.at_ (by simp) #[.int .i64 528, .int .i64 32, .int .i64 r1, .int .i64 0, .int .u32 (IntKind.u32.wrap im), .int .i64 2, .int .i64 rd, .int .i64 0, .int .i64 0, .int .u32 (IntKind.u32.wrap (a + 4)), .int .i64 4, .int .i64 0, .int .i64 32, .int .i64 0, .int .u32 0] 84 3 3 rfl
    · repeat (first | exact Gr.refl _ | refine Gr.drewN ?_ _ | refine Gr.drew ?_ | refine Gr.alloc ?_ _)
end Go.Proofs.YtbihifipemldhabDoor.Ts
