/-
  Tm, Tb, Td, Te, Tj, Tf: texts of ours that lie in one file.
-/
import Derived.Test.YtkdghgiajifbdaaDoorK01
import Derived.Test.YtkdghgiajifbdaaDoorRef2c
import Derived.Deep.RegionWith
import Derived.Deep.RegionHeld3
/-
  What small steps do is what instructions do, as plain data: branches, jumps, atomic ones.
-/
namespace Go.Proofs.YtkdghgiajifbdaaDoor.Ts
open Mm Wd Mi Bk
open Hh hiding Rn
set_option linter.unusedVariables false
set_option linter.unusedSimpArgs false

section
variable {bf bt steps a op rd r1 r2 im : Int}
/-- MIf. -/
theorem body_if (h1 : r1 < 32) (h2 : r2 < 32) (ho : 5 ≤ op ∧ op ≤ 10) : BodyI bf bt steps a op rd r1 r2 im [⟨100 + op, 0, r1, r2, lo (a + lo im)⟩] := fun q ov ok st z hh hl => by
  rw [one_run ov, mic_op (c := 100) (k := op) (by omega) (by omega) rfl (by omega)]
  unfold mOp
  rw [if_pos rfl]
  simp only [get_low q h1, get_low q h2]
  have hE : eff (q.h.go a) q.m op (rg q.h r1.toNat) (rg q.h r2.toNat) (lo im) = ⟨q.h.go a, q.m, [], [], none⟩ := by
    unfold eff
    rw [if_neg (by omega), if_neg (by omega), if_neg (by omega), if_neg (by omega), if_neg (by omega), if_neg (by omega), if_neg (by omega), if_neg (by omega), if_neg (by omega), if_neg (by omega)]
  have e : ins (q.h.go a) q.m op rd r1 r2 im = done (eff (q.h.go a) q.m op (rg q.h r1.toNat) (rg q.h r2.toNat) (lo im)) rd.toNat (nxt (q.h.go a) op (rg q.h r1.toNat) (rg q.h r2.toNat) (lo im)) := rfl
  rw [e, hE]
  have ed : ∀ x, done ⟨q.h.go a, q.m, [], [], none⟩ rd.toNat x = ⟨q.h.go x, q.m, [], []⟩ := fun x => by
    unfold done Hv.put Hv.on
    simp only
    rw [if_pos (by show q.h.state = 0; exact st), go_go]
  rw [ed]
  have hlast : lastOp op = true := by unfold lastOp; exact decide_eq_true (by omega)
  by_cases hk : holds op (rg q.h r1.toNat) (rg q.h r2.toNat) = true
  · rw [if_pos hk]
    have en : nxt (q.h.go a) op (rg q.h r1.toNat) (rg q.h r2.toNat) (lo im) = lo (a + lo im) := by
      unfold nxt
      rw [if_neg (by omega), if_pos (.inr hk)]
      rfl
    rw [en]
    exact ⟨fit_end (o := []) (s := []) rfl (ok.stop (W.lo _)) rfl (by simp [Rn.stop]) (by simp [Rn.stop]) rfl (by simp [Rn.stop]), fun _ => .inl hlast⟩
  · rw [if_neg hk]
    have en : nxt (q.h.go a) op (rg q.h r1.toNat) (rg q.h r2.toNat) (lo im) = lo (a + 4) := by
      unfold nxt
      rw [if_neg (by omega), if_neg (by simp [hk]; omega)]
      rfl
    rw [en]
    exact ⟨fit_on (X := q.h) (o := []) (s := []) rfl ok ov hh rfl rfl st (by simp) (by simp) rfl (by simp), fun _ => .inl hlast⟩
/-- A jump: what D becomes, and where PC goes. -/
theorem fit_jump {q q' : Mi.Rn} {x pc : Int} (ok : q'.Ok) (st : q.h.state = 0) (ov : q'.over = true) (hE : eff (q.h.go a) q.m op (rg q.h r1.toNat) (rg q.h r2.toNat) (lo im) = ⟨q.h.go a, q.m, [], [], some x⟩) (hN : nxt (q.h.go a) op (rg q.h r1.toNat) (rg q.h r2.toNat) (lo im) = pc) (hh : q'.h = (q.h.set rd.toNat x).go pc) (hm : q'.m = q.m) (ho : q'.out = q.out) (hs : q'.sto = q.sto) (hn : q'.n = q.n) (hw : q'.own = q.own) : Fit bf bt a q (ins (q.h.go a) q.m op rd r1 r2 im) q' := by
  have e : ins (q.h.go a) q.m op rd r1 r2 im = done (eff (q.h.go a) q.m op (rg q.h r1.toNat) (rg q.h r2.toNat) (lo im)) rd.toNat (nxt (q.h.go a) op (rg q.h r1.toNat) (rg q.h r2.toNat) (lo im)) := rfl
  refine fit_end (o := []) (s := []) ?_ ok ov (by simp [ho]) (by simp [hs]) hn (by simp [hw])
  rw [e, hE, hN]
  unfold done
  simp only
  rw [put_go]
  unfold Hv.on
  rw [if_pos (by show (q.h.put rd.toNat (some x)).state = 0; rw [(put_st _ _ _).1]; exact st), go_go, hh, hm]
  rfl
theorem mrun2 {q : Mi.Rn} (ho : q.over = false) (i : Mv) (is : List Mv) : mrun bf bt steps q (i :: is) = mrun bf bt steps (mic bf bt steps q i) is := by rw [mrun, if_neg (by simp [ho])]
theorem put_over (q : Mi.Rn) (k x : Int) : (q.put k x).over = q.over := by unfold Rn.put; split <;> rfl
theorem mic_set {q : Mi.Rn} (d x : Int) : mic bf bt steps q ⟨2, d, 0, 0, x⟩ = q.put d x := by unfold mic; rw [if_neg (by simp), if_pos rfl]
theorem mic_go {q : Mi.Rn} (x : Int) : mic bf bt steps q ⟨3, 0, 0, 0, x⟩ = q.stop x := by unfold mic; rw [if_neg (by simp), if_neg (by simp), if_pos rfl]
theorem mic_reg {q : Mi.Rn} (r x : Int) : mic bf bt steps q ⟨4, 0, r, 0, x⟩ = q.stop (lo (q.get r + x) - lo (q.get r + x) % 2) := by unfold mic; rw [if_neg (by simp), if_neg (by simp), if_neg (by simp), if_pos rfl]
theorem mic_add {q : Mi.Rn} (d r x : Int) : mic bf bt steps q ⟨528, d, r, 0, x⟩ = q.put d (alu 28 (q.get r) x) := by
  rw [mic_op (c := 500) (k := 28) (by omega) (by omega) rfl (by omega)]
  unfold mOp
  rw [if_neg (by omega), if_neg (by omega), if_neg (by omega), if_neg (by omega), if_pos rfl]
theorem alu_add (x y : Int) : alu 28 x y = lo (x + y) := by unfold alu; rw [if_pos rfl]
theorem lo_id {x : Int} (h : W x) : lo x = x := Int.emod_eq_of_lt h.1 h.2
/-- JAL. -/
theorem body_jal (hr : rd < 32) (ho : op = 3) : BodyI bf bt steps a op rd r1 r2 im [⟨2, rd, 0, 0, lo (a + 4)⟩, ⟨3, 0, 0, 0, lo (a + lo im)⟩] := fun q ov ok st z hh hl => by
  subst ho
  rw [mrun2 ov, mic_set, one_run (by rw [put_over]; exact ov), mic_go]
  refine ⟨?_, fun _ => .inl rfl⟩
  have okp := ok.put rd (W.lo (a + 4))
  rw [put_low q hr] at okp ⊢
  refine fit_jump (x := lo (a + 4)) (pc := lo (a + lo im)) (okp.stop (W.lo _)) st rfl ?_ ?_ rfl rfl rfl rfl rfl rfl
  · unfold eff
    rw [if_neg (by omega), if_neg (by omega), if_pos (by omega)]
    rfl
  · unfold nxt
    rw [if_neg (by omega), if_pos (.inl rfl)]
    rfl
theorem eff_jalr (h : Hv) (l : List UInt8) (A B n : Int) : eff (h.go a) l 4 A B n = ⟨h.go a, l, [], [], some (lo (a + 4))⟩ := by
  unfold eff
  rw [if_neg (by omega), if_neg (by omega), if_pos (by omega)]
  rfl
theorem nxt_jalr (h : Hv) (A B n : Int) : nxt (h.go a) 4 A B n = lo (A + n) - lo (A + n) % 2 := by unfold nxt; rw [if_pos rfl]
theorem go2_w (x : Int) : W (lo x - lo x % 2) := by have := W.lo x; unfold W at *; omega
theorem put_hi (q : Mi.Rn) {k : Int} (h : 32 ≤ k) (x : Int) : q.put k x = { q with tm := q.tm.set (k - 32).toNat x } := by unfold Rn.put; rw [if_pos h]
theorem get_hi {q : Mi.Rn} (ok : q.Ok) {t : Int} (h0 : 32 ≤ t) (h1 : t < 36) (x : Int) : (q.put t x).get t = x := by
  rw [put_hi q h0]
  unfold Rn.get
  rw [if_neg (by omega)]
  show (q.tm.set (t - 32).toNat x).getD (t - 32).toNat 0 = x
  rw [tm_set, if_pos ⟨rfl, by rw [ok.tl]; omega⟩]
theorem get_hi_low (q : Mi.Rn) {t : Int} (h0 : 32 ≤ t) {k : Int} (hk : k < 32) (x y : Int) : (q.put k x).get t = q.get t := by
  rw [put_low q hk]
  unfold Rn.get
  rw [if_neg (by omega), if_neg (by omega)]
/-- JALR by a register of the runner's own, that A is copied to. -/
theorem body_jalr1 (t : Int) (h0 : 32 ≤ t) (h1 : t < 36) (hr : rd < 32) (hr1 : r1 < 32) (ho : op = 4) : BodyI bf bt steps a op rd r1 r2 im [⟨528, t, r1, 0, 0⟩, ⟨2, rd, 0, 0, lo (a + 4)⟩, ⟨4, 0, t, 0, lo im⟩] := fun q ov ok st z hh hl => by
  subst ho
  have wA := ok.h.reg r1.toNat
  have eA : alu 28 (q.get r1) 0 = rg q.h r1.toNat := by rw [alu_add, get_low q hr1, Int.add_zero]; exact lo_id wA
  rw [mrun2 ov, mic_add, eA]
  have ok1 := ok.put t wA
  rw [mrun2 (by rw [put_over]; exact ov), mic_set, one_run (by rw [put_over, put_over]; exact ov), mic_reg]
  rw [get_hi_low _ h0 hr _ 0, get_hi ok h0 h1]
  refine ⟨?_, fun _ => .inl rfl⟩
  have ok2 := (ok1.put rd (W.lo (a + 4))).stop (go2_w (rg q.h r1.toNat + lo im))
  rw [put_low _ hr, put_hi q h0] at ok2 ⊢
  exact fit_jump (x := lo (a + 4)) (pc := lo (rg q.h r1.toNat + lo im) - lo (rg q.h r1.toNat + lo im) % 2) ok2 st rfl (eff_jalr _ _ _ _ _) (nxt_jalr _ _ _ _) rfl rfl rfl rfl rfl rfl
/-- JALR by a register of the runner's own, that the place is reckoned in. -/
theorem body_jalr2 (t : Int) (h0 : 32 ≤ t) (h1 : t < 36) (hr : rd < 32) (hr1 : r1 < 32) (ho : op = 4) : BodyI bf bt steps a op rd r1 r2 im [⟨528, t, r1, 0, lo im⟩, ⟨2, rd, 0, 0, lo (a + 4)⟩, ⟨4, 0, t, 0, 0⟩] := fun q ov ok st z hh hl => by
  subst ho
  have eA : alu 28 (q.get r1) (lo im) = lo (rg q.h r1.toNat + lo im) := by rw [alu_add, get_low q hr1]
  rw [mrun2 ov, mic_add, eA]
  have ok1 := ok.put t (W.lo (rg q.h r1.toNat + lo im))
  rw [mrun2 (by rw [put_over]; exact ov), mic_set, one_run (by rw [put_over, put_over]; exact ov), mic_reg]
  rw [get_hi_low _ h0 hr _ 0, get_hi ok h0 h1, Int.add_zero, lo_id (W.lo _)]
  refine ⟨?_, fun _ => .inl rfl⟩
  have ok2 := (ok1.put rd (W.lo (a + 4))).stop (go2_w (rg q.h r1.toNat + lo im))
  rw [put_low _ hr, put_hi q h0] at ok2 ⊢
  exact fit_jump (x := lo (a + 4)) (pc := lo (rg q.h r1.toNat + lo im) - lo (rg q.h r1.toNat + lo im) % 2) ok2 st rfl (eff_jalr _ _ _ _ _) (nxt_jalr _ _ _ _) rfl rfl rfl rfl rfl rfl
/-- JALR whose Rd is not its Rs1. -/
theorem body_jalr3 (hr0 : 0 ≤ rd) (hr : rd < 32) (hr2 : 0 ≤ r1) (hr1 : r1 < 32) (hne : ¬ rd = r1 ∨ rd = 0) (ho : op = 4) : BodyI bf bt steps a op rd r1 r2 im [⟨2, rd, 0, 0, lo (a + 4)⟩, ⟨4, 0, r1, 0, lo im⟩] := fun q ov ok st z hh hl => by
  subst ho
  rw [mrun2 ov, mic_set, one_run (by rw [put_over]; exact ov), mic_reg]
  have eg : (q.put rd (lo (a + 4))).get r1 = rg q.h r1.toNat := by
    rw [put_low q hr, get_low _ hr1]
    show rg (q.h.set rd.toNat _) r1.toNat = _
    unfold Hv.set
    split
    · rfl
    · rename_i hz
      rw [rg_set, if_neg (by omega)]
  rw [eg]
  refine ⟨?_, fun _ => .inl rfl⟩
  have ok2 := (ok.put rd (W.lo (a + 4))).stop (go2_w (rg q.h r1.toNat + lo im))
  rw [put_low _ hr] at ok2 ⊢
  exact fit_jump (x := lo (a + 4)) (pc := lo (rg q.h r1.toNat + lo im) - lo (rg q.h r1.toNat + lo im) % 2) ok2 st rfl (eff_jalr _ _ _ _ _) (nxt_jalr _ _ _ _) rfl rfl rfl rfl rfl rfl
theorem fit_put2 {q q2 : Mi.Rn} {s : List (Int × Int)} {x : Int} (hE : eff (q.h.go a) q.m op (rg q.h r1.toNat) (rg q.h r2.toNat) (lo im) = ⟨q2.h.go a, q2.m, [], s, some x⟩) (ok : q2.Ok) (ov : q2.over = false) (st : q2.h.state = 0) (hpc : q2.h.pc = q.h.pc) (hh : q2.here = a) (ho : q2.out = q.out) (hs : q2.sto = q.sto ++ s) (hn : q2.n = q.n) (hw : q2.own = (q.own || s.any (meet bf bt))) (hr : rd < 32) (wx : W x) (hx : ¬ op = 3 ∧ ¬ op = 4 ∧ (op < 5 ∨ 10 < op)) : Fit bf bt a q (ins (q.h.go a) q.m op rd r1 r2 im) (q2.put rd x) := by
  have okp := ok.put rd wx
  rw [put_low q2 hr] at okp ⊢
  refine fit_on (X := q2.h.set rd.toNat x) (o := []) (s := s) (ins_on (res := some x) hE st hx) okp ov hh rfl ?_ ?_ (by simp [ho]) hs hn hw
  · exact (put_st q2.h rd.toNat (some x)).2.trans hpc
  · exact (put_st q2.h rd.toNat (some x)).1.trans st
/-- MAtom. -/
theorem body_atom (hr : rd < 32) (h1 : r1 < 32) (h2 : r2 < 32) (ho : 46 ≤ op ∧ op ≤ 56) : BodyI bf bt steps a op rd r1 r2 im [⟨600 + op, rd, r1, r2, 0⟩] := fun q ov ok st z hh hl => by
  rw [one_run ov, mic_op (c := 600) (k := op) (by omega) (by omega) rfl (by omega)]
  unfold mOp
  rw [if_neg (by omega), if_neg (by omega), if_neg (by omega), if_neg (by omega), if_neg (by omega), if_pos rfl]
  simp only [get_low q h1, get_low q h2]
  have wA := ok.h.reg r1.toNat
  have wB := ok.h.reg r2.toNat
  have hE : eff (q.h.go a) q.m op (rg q.h r1.toNat) (rg q.h r2.toNat) (lo im) = efAtom (q.h.go a) q.m op (rg q.h r1.toNat) (rg q.h r2.toNat) := by
    unfold eff
    rw [if_neg (by omega), if_neg (by omega), if_neg (by omega), if_neg (by omega), if_neg (by omega), if_neg (by omega), if_neg (by omega), if_pos ho]
  have hx : ¬ op = 3 ∧ ¬ op = 4 ∧ (op < 5 ∨ 10 < op) := by omega
  have no : ∀ {q2 : Mi.Rn} {x : Int} {P : Prop}, q2.over = false → (q2.put rd x).over = true → P := fun e h => by rw [put_over, e] at h; cases h
  unfold mAtom
  unfold efAtom at hE
  by_cases q6 : op = 46
  · rw [if_pos q6] at hE ⊢
    unfold mLr
    unfold efLr at hE
    by_cases hk : ldOk q.m 13 (rg q.h r1.toNat) = true
    · rw [if_pos hk] at hE ⊢
      exact ⟨fit_put2 (q := q) (bf := bf) (bt := bt) (q2 := { q with h := q.h.hold true (rg q.h r1.toNat) }) (s := []) hE (ok.hart (ok.h.hold true wA.1 wA.2)) ov st rfl hh rfl (by simp) rfl (by simp) hr (W.ldV _ _ _) hx, no (q2 := { q with h := q.h.hold true (rg q.h r1.toNat) }) ov⟩
    · rw [if_neg hk] at hE ⊢
      have t := fit_trap (bf := bf) (bt := bt) (rd := rd) (c := 3) ok hh hE
      exact ⟨t.1, fun _ => .inr t.2⟩
  rw [if_neg q6] at hE ⊢
  by_cases q7 : op = 47
  · rw [if_pos q7] at hE ⊢
    unfold mSc
    unfold efSc at hE
    by_cases hk : ldOk q.m 13 (rg q.h r1.toNat) = true
    · rw [if_pos hk] at hE ⊢
      have hm := hits_at (op := 18) (bf := bf) (bt := bt) hl wA.1 (st_of_ld hk)
      have okH : Mi.Rn.Ok { q with h := q.h.hold false 0 } := ok.hart (ok.h.hold false (x := 0) (by omega) (by omega))
      by_cases hd : q.h.held = true ∧ q.h.heldAt = rg q.h r1.toNat
      · rw [if_pos hd]
        have hd2 : (q.h.go a).held = true ∧ (q.h.go a).heldAt = rg q.h r1.toNat := hd
        rw [if_pos hd2] at hE
        exact ⟨fit_put2 (q := q) (bf := bf) (bt := bt) (q2 := { q with h := q.h.hold false 0, m := stL q.m 18 (rg q.h r1.toNat) (rg q.h r2.toNat) }.stored bf bt (rg q.h r1.toNat) 4) (s := [(rg q.h r1.toNat, 4)]) hE ((okH.mem _).stored _ _ _ _) ov st rfl hh rfl rfl rfl (by show (q.own || hits bf bt _ 4) = _; rw [show hits bf bt (rg q.h r1.toNat) 4 = meet bf bt (rg q.h r1.toNat, 4) from hm]; simp) hr .zero hx, no (q2 := { q with h := q.h.hold false 0, m := stL q.m 18 (rg q.h r1.toNat) (rg q.h r2.toNat) }.stored bf bt (rg q.h r1.toNat) 4) ov⟩
      · rw [if_neg hd]
        have hd2 : ¬ ((q.h.go a).held = true ∧ (q.h.go a).heldAt = rg q.h r1.toNat) := hd
        rw [if_neg hd2] at hE
        exact ⟨fit_put2 (q := q) (bf := bf) (bt := bt) (q2 := { q with h := q.h.hold false 0 }) (s := []) hE okH ov st rfl hh rfl (by simp) rfl (by simp) hr .one hx, no (q2 := { q with h := q.h.hold false 0 }) ov⟩
    · rw [if_neg hk] at hE ⊢
      have t := fit_trap (bf := bf) (bt := bt) (rd := rd) (c := 4) ok hh hE
      exact ⟨t.1, fun _ => .inr t.2⟩
  rw [if_neg q7] at hE ⊢
  unfold mAmo
  unfold efAmo at hE
  by_cases hk : ldOk q.m 13 (rg q.h r1.toNat) = true
  · rw [if_pos hk] at hE ⊢
    have hm := hits_at (op := 18) (bf := bf) (bt := bt) hl wA.1 (st_of_ld hk)
    exact ⟨fit_put2 (q := q) (bf := bf) (bt := bt) (q2 := { q with m := stL q.m 18 (rg q.h r1.toNat) (amo op (ldV q.m 13 (rg q.h r1.toNat)) (rg q.h r2.toNat)) }.stored bf bt (rg q.h r1.toNat) 4) (s := [(rg q.h r1.toNat, 4)]) hE ((ok.mem _).stored _ _ _ _) ov st rfl hh rfl rfl rfl (by show (q.own || hits bf bt _ 4) = _; rw [show hits bf bt (rg q.h r1.toNat) 4 = meet bf bt (rg q.h r1.toNat, 4) from hm]; simp) hr (W.ldV _ _ _) hx, no (q2 := { q with m := stL q.m 18 (rg q.h r1.toNat) (amo op (ldV q.m 13 (rg q.h r1.toNat)) (rg q.h r2.toNat)) }.stored bf bt (rg q.h r1.toNat) 4) ov⟩
  · rw [if_neg hk] at hE ⊢
    have t := fit_trap (bf := bf) (bt := bt) (rd := rd) (c := 4) ok hh hE
    exact ⟨t.1, fun _ => .inr t.2⟩
end
end Go.Proofs.YtkdghgiajifbdaaDoor.Ts
/-
  A block of a memory, as plain data: where its words stand ('Blkd').
-/
namespace Go.Proofs.YtkdghgiajifbdaaDoor.Ts
open Mm Wd Mi Bk
open Hh hiding Rn
set_option linter.unusedVariables false
set_option linter.unusedSimpArgs false

variable {l : List UInt8} {pc : Int}
theorem blk_facts (l : List UInt8) (pc : Int) : ∀ n k, (blk l pc n k).length ≤ n ∧ ∀ j, j < (blk l pc n k).length → ftC l (at4 pc (k + j)) = 0 ∧ (blk l pc n k)[j]? = some (ldV l 13 (at4 pc (k + j))) ∧ (lastOp (Dc.dop (ldV l 13 (at4 pc (k + j)))) = true → j + 1 = (blk l pc n k).length)
  | 0, k => ⟨Nat.le_refl _, fun j hj => absurd hj (by simp [blk])⟩
  | n + 1, k => by
    by_cases h : ftC l (at4 pc k) = 0
    · cases hl : lastOp (Dc.dop (ldV l 13 (at4 pc k))) with
      | true =>
        rw [blk_last h hl]
        refine ⟨by simp, fun j hj => ?_⟩
        have hj0 : j = 0 := by simp at hj; omega
        subst hj0
        exact ⟨h, rfl, fun _ => rfl⟩
      | false =>
        rw [blk_on h hl]
        obtain ⟨ih1, ih2⟩ := blk_facts l pc n (k + 1)
        refine ⟨by simp; omega, fun j hj => ?_⟩
        match j, hj with
        | 0, _ => exact ⟨h, rfl, fun q => by rw [Nat.add_zero] at q; rw [hl] at q; cases q⟩
        | j + 1, hj =>
          obtain ⟨a, b, c⟩ := ih2 j (by simp at hj; omega)
          rw [show k + 1 + j = k + (j + 1) by omega] at a b c
          exact ⟨a, by simpa using b, fun q => by have := c q; simp; omega⟩
    · rw [blk_stop h]
      exact ⟨by simp, fun j hj => absurd hj (by simp)⟩
theorem ft_zero (h : ftC l pc = 0) : ldOk l 13 pc = true ∧ ¬ Dc.dop (ldV l 13 pc) = 0 := by
  unfold ftC at h
  split at h
  · rename_i q
    split at h
    · cases h
    · rename_i q2
      exact ⟨q, q2⟩
  · cases h
theorem ld13 {a : Int} (h : ldOk l 13 a = true) : a + 4 ≤ l.length := by
  unfold ldOk thr at h
  simp only [decide_eq_true_eq] at h
  exact h.2.2
/-- The block of a memory at a place, if there is an instruction. -/
theorem blkd_of (hl : l.length ≤ 4096) (h0 : 0 ≤ pc) (h1 : pc < 4294967296) (hp : 0 < (blk l pc 16 0).length) : Blkd l pc (pc + 4 * ((blk l pc 16 0).length : Int)) (blk l pc 16 0).length (fun j => ldV l 13 (at4 pc j)) := by
  obtain ⟨_, f⟩ := blk_facts l pc 16 0
  have f : ∀ j, j < (blk l pc 16 0).length → ftC l (at4 pc j) = 0 ∧ (blk l pc 16 0)[j]? = some (ldV l 13 (at4 pc j)) ∧ (lastOp (Dc.dop (ldV l 13 (at4 pc j))) = true → j + 1 = (blk l pc 16 0).length) := fun j hj => by
    have := f j hj
    rwa [Nat.zero_add] at this
  have at_ : ∀ j, j ≤ (blk l pc 16 0).length → at4 pc j = pc + 4 * j := by
    intro j
    induction j with
    | zero => intro _; unfold at4; have : lo (pc + 4 * ((0 : Nat) : Int)) = pc := by rw [show pc + 4 * ((0 : Nat) : Int) = pc by omega]; exact Int.emod_eq_of_lt h0 h1
              rw [this]; omega
    | succ j ih =>
      intro hj
      have e := ih (by omega)
      have := ld13 (ft_zero (f j (by omega)).1).1
      unfold at4 at e ⊢
      rw [show lo (pc + 4 * ((j + 1 : Nat) : Int)) = pc + 4 * ((j + 1 : Nat) : Int) from Int.emod_eq_of_lt (by omega) (by unfold at4 at this; omega)]
  have hlast := ld13 (ft_zero (f ((blk l pc 16 0).length - 1) (by omega)).1).1
  rw [at_ _ (by omega)] at hlast
  exact ⟨hp, h0, rfl, hl, by omega, at_, fun j hj => (ft_zero (f j hj).1).1, fun j hj => (ft_zero (f j hj).1).2, fun j hj q => (f j hj).2.2 q⟩
/-- An instruction's registers are registers. -/
theorem rd_bd (f x : Int) : 0 ≤ Dc.rdF f x ∧ Dc.rdF f x < 32 := by unfold Dc.rdF; split <;> omega
theorem rs1_bd (f x : Int) : 0 ≤ Dc.rs1F f x ∧ Dc.rs1F f x < 32 := by unfold Dc.rs1F; split <;> omega
theorem rs2_bd (f x : Int) : 0 ≤ Dc.rs2F f x ∧ Dc.rs2F f x < 32 := by unfold Dc.rs2F; split <;> omega
end Go.Proofs.YtkdghgiajifbdaaDoor.Ts
/-
  What package trans makes of a block, as plain data ('mdV' of an instruction, 'codeV' of a row of them): it may be, and it does what the instructions do.
-/
namespace Go.Proofs.YtkdghgiajifbdaaDoor.Ts
open Mm Wd Mi Bk
open Hh hiding Rn
set_option linter.unusedVariables false
set_option linter.unusedSimpArgs false

variable {bf bt steps a op rd : Int} {i : Iv}
/-- The small steps of an instruction at place a, behind its MAt. -/
def mdV (a : Int) (i : Iv) : List Mv :=
  if i.op = 1 then [⟨2, i.rd, 0, 0, lo i.im⟩] else if i.op = 2 then [⟨2, i.rd, 0, 0, lo (a + lo i.im)⟩]
  else if i.op = 3 then [⟨2, i.rd, 0, 0, lo (a + 4)⟩, ⟨3, 0, 0, 0, lo (a + lo i.im)⟩]
  else if i.op = 4 then [⟨528, 32, i.r1, 0, lo i.im⟩, ⟨2, i.rd, 0, 0, lo (a + 4)⟩, ⟨4, 0, 32, 0, 0⟩]
  else if 5 ≤ i.op ∧ i.op ≤ 10 then [⟨100 + i.op, 0, i.r1, i.r2, lo (a + lo i.im)⟩]
  else if 11 ≤ i.op ∧ i.op ≤ 15 then [⟨200 + i.op, i.rd, i.r1, 0, lo i.im⟩]
  else if 16 ≤ i.op ∧ i.op ≤ 18 then [⟨300 + i.op, 0, i.r1, i.r2, lo i.im⟩]
  else if i.op = 19 ∧ (i.r1 = 0 ∨ i.rd = 0) then [⟨2, i.rd, 0, 0, lo i.im⟩]
  else if 19 ≤ i.op ∧ i.op ≤ 27 then [⟨500 + opn i.op, i.rd, i.r1, 0, lo i.im⟩]
  else if 28 ≤ i.op ∧ i.op ≤ 45 then [⟨400 + i.op, i.rd, i.r1, i.r2, 0⟩]
  else if 46 ≤ i.op ∧ i.op ≤ 56 then [⟨600 + i.op, i.rd, i.r1, i.r2, 0⟩]
  else if i.op = 58 then [⟨5, 0, 0, 0, 0⟩] else if i.op = 59 then [⟨6, 0, 0, 0, 0⟩] else []
/-- An instruction's fields, as far as this asks. -/
structure Iv.In (i : Iv) : Prop where
  o1 : 1 ≤ i.op
  o2 : i.op ≤ 59
  d0 : 0 ≤ i.rd
  d1 : i.rd < 32
  a0 : 0 ≤ i.r1
  a1 : i.r1 < 32
  b0 : 0 ≤ i.r2
  b1 : i.r2 < 32
theorem body_li {r1 r2 im : Int} (hd0 : 0 ≤ rd) (hr : rd < 32) (ho : op = 19) (h : r1 = 0 ∨ rd = 0) : BodyI bf bt steps a op rd r1 r2 im [⟨2, rd, 0, 0, lo im⟩] := fun q ov ok st z hh hl => by
  rw [one_run ov]
  have e : mic bf bt steps q ⟨2, rd, 0, 0, lo im⟩ = q.put rd (lo im) := by unfold mic; rw [if_neg (by simp), if_pos rfl]
  have hE : eff (q.h.go a) q.m op (rg q.h r1.toNat) (rg q.h r2.toNat) (lo im) = ⟨q.h.go a, q.m, [], [], some (alu 28 (rg q.h r1.toNat) (lo im))⟩ := by
    subst ho
    unfold eff
    rw [if_neg (by omega), if_neg (by omega), if_neg (by omega), if_neg (by omega), if_neg (by omega), if_pos (by omega)]
    rfl
  have e2 : q.put rd (lo im) = q.put rd (alu 28 (rg q.h r1.toNat) (lo im)) := by
    rcases h with rfl | rfl
    · have : alu 28 (rg q.h (0 : Int).toNat) (lo im) = lo im := by
        show alu 28 (rg q.h 0) (lo im) = lo im
        rw [z, alu_add, Int.zero_add]
        exact lo_id (W.lo _)
      rw [this]
    · rw [put_low q (by omega), put_low q (by omega)]
      rfl
  rw [e, e2]
  exact ⟨fit_put ok ov st hh hr (W.alu (ok.h.reg _) (W.lo _)) hE (by omega), over_no (op := op) (bf := bf) (bt := bt) (a := a) ov⟩
/-- They do what the instruction does. -/
theorem body_md (h : i.In) : BodyI bf bt steps a i.op i.rd i.r1 i.r2 i.im (mdV a i) := by
  obtain ⟨o1, o2, d0, d1, a0, a1, b0, b1⟩ := h
  unfold mdV
  by_cases h0 : i.op = 1
  · rw [if_pos h0]; exact body_lui d1 h0
  rw [if_neg h0]
  by_cases h1 : i.op = 2
  · rw [if_pos h1]; exact body_auipc d1 h1
  rw [if_neg h1]
  by_cases h2 : i.op = 3
  · rw [if_pos h2]; exact body_jal d1 h2
  rw [if_neg h2]
  by_cases h3 : i.op = 4
  · rw [if_pos h3]; exact body_jalr2 32 (by omega) (by omega) d1 a1 h3
  rw [if_neg h3]
  by_cases h4 : 5 ≤ i.op ∧ i.op ≤ 10
  · rw [if_pos h4]; exact body_if a1 b1 h4
  rw [if_neg h4]
  by_cases h5 : 11 ≤ i.op ∧ i.op ≤ 15
  · rw [if_pos h5]; exact body_ld d1 a1 h5
  rw [if_neg h5]
  by_cases h6 : 16 ≤ i.op ∧ i.op ≤ 18
  · rw [if_pos h6]; exact body_st a1 b1 h6
  rw [if_neg h6]
  by_cases h7 : i.op = 19 ∧ (i.r1 = 0 ∨ i.rd = 0)
  · rw [if_pos h7]; exact body_li d0 d1 h7.1 h7.2
  rw [if_neg h7]
  by_cases h8 : 19 ≤ i.op ∧ i.op ≤ 27
  · rw [if_pos h8]; exact body_aln d1 a1 h8
  rw [if_neg h8]
  by_cases h9 : 28 ≤ i.op ∧ i.op ≤ 45
  · rw [if_pos h9]; exact body_alu d1 a1 b1 h9
  rw [if_neg h9]
  by_cases h10 : 46 ≤ i.op ∧ i.op ≤ 56
  · rw [if_pos h10]; exact body_atom d1 a1 b1 h10
  rw [if_neg h10]
  by_cases h11 : i.op = 58
  · rw [if_pos h11]; exact body_call h11
  rw [if_neg h11]
  by_cases h12 : i.op = 59
  · rw [if_pos h12]; exact body_break h12
  rw [if_neg h12]
  exact body_fence (by omega)
theorem ok_of {i : Mv} {nm : Int} (hn : named i.op = nm) (h0 : 0 ≤ nm) (hN : 8 ≤ nm ∨ i.n = 0) (hd : (nm % 2 = 1 ∨ i.d = 0) ∧ 0 ≤ i.d ∧ i.d < 36) (ha : (nm / 2 % 2 = 1 ∨ i.a = 0) ∧ 0 ≤ i.a ∧ i.a < 36) (hb : (nm / 4 % 2 = 1 ∨ i.b = 0) ∧ 0 ≤ i.b ∧ i.b < 36) : micOk i = true := by
  unfold micOk regOk
  rw [hn]
  simp only [Bool.and_eq_true, decide_eq_true_eq]
  exact ⟨h0, hN, hd, ha, hb⟩
theorem nm_if (h : 5 ≤ op ∧ op ≤ 10) : named (100 + op) = 14 := by unfold named; rw [if_neg (by omega), if_neg (by omega), if_neg (by omega), if_neg (by omega), if_pos (by omega)]
theorem nm_ld (h : 11 ≤ op ∧ op ≤ 15) : named (200 + op) = 11 := by unfold named; rw [if_neg (by omega), if_neg (by omega), if_neg (by omega), if_neg (by omega), if_neg (by omega), if_pos (by omega)]
theorem nm_st (h : 16 ≤ op ∧ op ≤ 18) : named (300 + op) = 14 := by unfold named; rw [if_neg (by omega), if_neg (by omega), if_neg (by omega), if_neg (by omega), if_neg (by omega), if_neg (by omega), if_pos (by omega)]
theorem nm_alu (h : 28 ≤ op ∧ op ≤ 45) : named (400 + op) = 7 := by unfold named; rw [if_neg (by omega), if_neg (by omega), if_neg (by omega), if_neg (by omega), if_neg (by omega), if_neg (by omega), if_neg (by omega), if_pos (by omega)]
theorem nm_aln (h : 28 ≤ op ∧ op ≤ 45) : named (500 + op) = 11 := by unfold named; rw [if_neg (by omega), if_neg (by omega), if_neg (by omega), if_neg (by omega), if_neg (by omega), if_neg (by omega), if_neg (by omega), if_neg (by omega), if_pos (by omega)]
theorem nm_atm (h : 46 ≤ op ∧ op ≤ 56) : named (600 + op) = 7 := by unfold named; rw [if_neg (by omega), if_neg (by omega), if_neg (by omega), if_neg (by omega), if_neg (by omega), if_neg (by omega), if_neg (by omega), if_neg (by omega), if_neg (by omega), if_pos (by omega)]
theorem opn_bd (op : Int) : 28 ≤ opn op ∧ opn op ≤ 45 := by unfold opn; (repeat' split) <;> omega
/-- They may be, their words are words, and they are few. -/
def Mv.Fine (i : Mv) : Prop := micOk i = true ∧ W i.n ∧ (0 ≤ i.op ∧ i.op ≤ 700)
theorem one_mem {P : Mv → Prop} {y : Mv} (h : P y) : ∀ x ∈ [y], P x := fun x hx => by rw [List.mem_singleton] at hx; subst hx; exact h
theorem z1 : (0 : Int) ≤ 0 := by decide
theorem z2 : (0 : Int) < 36 := by decide
theorem z3 (n : Int) (h : (0 : Int) ≤ n) : 0 ≤ n := h
theorem z4 (n : Int) (h : n ≤ 700) : n ≤ 700 := h
theorem z5 : (32 : Int) < 36 := by decide
theorem set_fine {n : Int} (d0 : 0 ≤ rd) (d1 : rd < 32) (hn : W n) : Mv.Fine ⟨2, rd, 0, 0, n⟩ := ⟨ok_of (nm := 9) (by show named 2 = 9; decide) (by omega) (by left; omega) ⟨.inl (by decide), d0, by show rd < 36; omega⟩ ⟨.inr rfl, z1, z2⟩ ⟨.inr rfl, z1, z2⟩, hn, z3 2 (by decide), z4 2 (by decide)⟩
theorem md_fine (h : i.In) : (∀ x ∈ mdV a i, Mv.Fine x) ∧ (mdV a i).length ≤ 3 := by
  obtain ⟨o1, o2, d0, d1, a0, a1, b0, b1⟩ := h
  have w0 : W 0 := by unfold W; omega
  have hop := opn_bd i.op
  have set_ : ∀ n, W n → Mv.Fine ⟨2, i.rd, 0, 0, n⟩ := fun n hn => set_fine d0 d1 hn
  unfold mdV
  by_cases h0 : i.op = 1
  · rw [if_pos h0]
    exact ⟨one_mem (set_ _ (W.lo _)), by simp⟩
  rw [if_neg h0]
  by_cases h1 : i.op = 2
  · rw [if_pos h1]
    exact ⟨one_mem (set_ _ (W.lo _)), by simp⟩
  rw [if_neg h1]
  by_cases h2 : i.op = 3
  · rw [if_pos h2]
    refine ⟨fun x hx => ?_, by simp⟩
    rcases List.mem_cons.1 hx with rfl | hx
    · exact set_ _ (W.lo _)
    · refine one_mem (P := Mv.Fine) ?_ x hx
      exact ⟨ok_of (nm := 8) (by show named 3 = 8; decide) (by omega) (by left; omega) ⟨.inr rfl, z1, z2⟩ ⟨.inr rfl, z1, z2⟩ ⟨.inr rfl, z1, z2⟩, W.lo _, z3 3 (by decide), z4 3 (by decide)⟩
  rw [if_neg h2]
  by_cases h3 : i.op = 4
  · rw [if_pos h3]
    refine ⟨fun x hx => ?_, by simp⟩
    rcases List.mem_cons.1 hx with rfl | hx
    · exact ⟨ok_of (nm := 11) (by show named 528 = 11; decide) (by omega) (by left; omega) ⟨.inl (by decide), z3 32 (by decide), z5⟩ ⟨.inl (by decide), a0, by show i.r1 < 36; omega⟩ ⟨.inr rfl, z1, z2⟩, W.lo _, z3 528 (by decide), z4 528 (by decide)⟩
    rcases List.mem_cons.1 hx with rfl | hx
    · exact set_ _ (W.lo _)
    · refine one_mem (P := Mv.Fine) ?_ x hx
      exact ⟨ok_of (nm := 10) (by show named 4 = 10; decide) (by omega) (by left; omega) ⟨.inr rfl, z1, z2⟩ ⟨.inl (by decide), z3 32 (by decide), z5⟩ ⟨.inr rfl, z1, z2⟩, w0, z3 4 (by decide), z4 4 (by decide)⟩
  rw [if_neg h3]
  by_cases h4 : 5 ≤ i.op ∧ i.op ≤ 10
  · rw [if_pos h4]
    exact ⟨one_mem ⟨ok_of (nm := 14) (nm_if h4) (by omega) (by left; omega) ⟨.inr rfl, z1, z2⟩ ⟨.inl (by decide), a0, by show i.r1 < 36; omega⟩ ⟨.inl (by decide), b0, by show i.r2 < 36; omega⟩, W.lo _, by show (0 : Int) ≤ 100 + i.op; omega, by show 100 + i.op ≤ 700; omega⟩, by simp⟩
  rw [if_neg h4]
  by_cases h5 : 11 ≤ i.op ∧ i.op ≤ 15
  · rw [if_pos h5]
    exact ⟨one_mem ⟨ok_of (nm := 11) (nm_ld h5) (by omega) (by left; omega) ⟨.inl (by decide), d0, by show i.rd < 36; omega⟩ ⟨.inl (by decide), a0, by show i.r1 < 36; omega⟩ ⟨.inr rfl, z1, z2⟩, W.lo _, by show (0 : Int) ≤ 200 + i.op; omega, by show 200 + i.op ≤ 700; omega⟩, by simp⟩
  rw [if_neg h5]
  by_cases h6 : 16 ≤ i.op ∧ i.op ≤ 18
  · rw [if_pos h6]
    exact ⟨one_mem ⟨ok_of (nm := 14) (nm_st h6) (by omega) (by left; omega) ⟨.inr rfl, z1, z2⟩ ⟨.inl (by decide), a0, by show i.r1 < 36; omega⟩ ⟨.inl (by decide), b0, by show i.r2 < 36; omega⟩, W.lo _, by show (0 : Int) ≤ 300 + i.op; omega, by show 300 + i.op ≤ 700; omega⟩, by simp⟩
  rw [if_neg h6]
  by_cases h7 : i.op = 19 ∧ (i.r1 = 0 ∨ i.rd = 0)
  · rw [if_pos h7]
    exact ⟨one_mem (set_ _ (W.lo _)), by simp⟩
  rw [if_neg h7]
  by_cases h8 : 19 ≤ i.op ∧ i.op ≤ 27
  · rw [if_pos h8]
    exact ⟨one_mem ⟨ok_of (nm := 11) (nm_aln hop) (by omega) (by left; omega) ⟨.inl (by decide), d0, by show i.rd < 36; omega⟩ ⟨.inl (by decide), a0, by show i.r1 < 36; omega⟩ ⟨.inr rfl, z1, z2⟩, W.lo _, by show (0 : Int) ≤ 500 + opn i.op; omega, by show 500 + opn i.op ≤ 700; omega⟩, by simp⟩
  rw [if_neg h8]
  by_cases h9 : 28 ≤ i.op ∧ i.op ≤ 45
  · rw [if_pos h9]
    exact ⟨one_mem ⟨ok_of (nm := 7) (nm_alu h9) (by omega) (by right; rfl) ⟨.inl (by decide), d0, by show i.rd < 36; omega⟩ ⟨.inl (by decide), a0, by show i.r1 < 36; omega⟩ ⟨.inl (by decide), b0, by show i.r2 < 36; omega⟩, w0, by show (0 : Int) ≤ 400 + i.op; omega, by show 400 + i.op ≤ 700; omega⟩, by simp⟩
  rw [if_neg h9]
  by_cases h10 : 46 ≤ i.op ∧ i.op ≤ 56
  · rw [if_pos h10]
    exact ⟨one_mem ⟨ok_of (nm := 7) (nm_atm h10) (by omega) (by right; rfl) ⟨.inl (by decide), d0, by show i.rd < 36; omega⟩ ⟨.inl (by decide), a0, by show i.r1 < 36; omega⟩ ⟨.inl (by decide), b0, by show i.r2 < 36; omega⟩, w0, by show (0 : Int) ≤ 600 + i.op; omega, by show 600 + i.op ≤ 700; omega⟩, by simp⟩
  rw [if_neg h10]
  by_cases h11 : i.op = 58
  · rw [if_pos h11]
    exact ⟨one_mem ⟨by decide, w0, by decide, by decide⟩, by simp⟩
  rw [if_neg h11]
  by_cases h12 : i.op = 59
  · rw [if_pos h12]
    exact ⟨one_mem ⟨by decide, w0, by decide, by decide⟩, by simp⟩
  rw [if_neg h12]
  exact ⟨fun x hx => (by cases hx), by simp⟩
/-- The small steps of instructions, from the k-th one on. -/
def codeV (pc : Int) : List Iv → Nat → List Mv
  | [], _ => []
  | i :: is, k => ⟨1, 0, 0, 0, at4 pc k⟩ :: (mdV (at4 pc k) i ++ codeV pc is (k + 1))
theorem codeV_snoc (pc : Int) (i : Iv) : ∀ (is : List Iv) (k : Nat), codeV pc (is ++ [i]) k = codeV pc is k ++ (⟨1, 0, 0, 0, at4 pc (k + is.length)⟩ :: mdV (at4 pc (k + is.length)) i)
  | [], k => by simp [codeV]
  | j :: is, k => by
    show _ :: (_ ++ codeV pc (is ++ [i]) (k + 1)) = _
    rw [codeV_snoc pc i is (k + 1)]
    simp [codeV, show k + 1 + is.length = k + (is.length + 1) by omega]
theorem at_fine (a : Int) (h : W a) : Mv.Fine ⟨1, 0, 0, 0, a⟩ := ⟨ok_of (nm := 8) (by show named 1 = 8; decide) (by omega) (by left; omega) ⟨.inr rfl, z1, z2⟩ ⟨.inr rfl, z1, z2⟩ ⟨.inr rfl, z1, z2⟩, h, z3 1 (by decide), z4 1 (by decide)⟩
theorem codeV_fine (pc : Int) : ∀ (is : List Iv) (k : Nat), (∀ i ∈ is, i.In) → (∀ x ∈ codeV pc is k, Mv.Fine x) ∧ (codeV pc is k).length ≤ 4 * is.length
  | [], k, _ => ⟨fun x hx => (by cases hx), by simp [codeV]⟩
  | i :: is, k, h => by
    obtain ⟨m1, m2⟩ := md_fine (a := at4 pc k) (h i (by simp))
    obtain ⟨c1, c2⟩ := codeV_fine pc is (k + 1) (fun j hj => h j (by simp [hj]))
    refine ⟨fun x hx => ?_, ?_⟩
    · simp only [codeV, List.mem_cons, List.mem_append] at hx
      rcases hx with rfl | hx | hx
      · exact at_fine _ (at4_bd pc k)
      · exact m1 x hx
      · exact c1 x hx
    · simp only [codeV, List.length_cons, List.length_append]
      omega
theorem codeV_may (pc : Int) {is : List Iv} (h : ∀ i ∈ is, i.In) (hl : is.length ≤ 16) : mayC (codeV pc is 0) = true := by
  obtain ⟨c1, c2⟩ := codeV_fine pc is 0 h
  unfold mayC
  simp only [Bool.and_eq_true, decide_eq_true_eq, List.all_eq_true]
  exact ⟨by omega, fun x hx => (c1 x hx).1⟩
/-- The instruction of a word. -/
def ivX (x : Int) : Iv := ⟨Dc.dop x, Dc.rdF (Dc.frm (Dc.dop x)) x, Dc.rs1F (Dc.frm (Dc.dop x)) x, Dc.rs2F (Dc.frm (Dc.dop x)) x, Dc.immF (Dc.frm (Dc.dop x)) x⟩
theorem ivX_in {x : Int} (h0 : 0 ≤ x) (h1 : x < 4294967296) (hx : ¬ Dc.dop x = 0) : (ivX x).In := by
  have := Re.dop_bd h0 h1
  have a := rd_bd (Dc.frm (Dc.dop x)) x
  have b := rs1_bd (Dc.frm (Dc.dop x)) x
  have c := rs2_bd (Dc.frm (Dc.dop x)) x
  exact ⟨by show 1 ≤ Dc.dop x; omega, by show Dc.dop x ≤ 59; omega, a.1, a.2, b.1, b.2, c.1, c.2⟩
theorem codeV_K (pc : Int) (xs : List Int) : ∀ (n k : Nat), k + n = xs.length → codeV pc ((xs.drop k).map ivX) k = codeK pc (fun j => mdV (at4 pc j) (ivX (xs.getD j 0))) n k
  | 0, k, h => by rw [List.drop_eq_nil_of_le (by omega)]; rfl
  | n + 1, k, h => by
    have hk : k < xs.length := by omega
    rw [List.drop_eq_getElem_cons hk, List.map_cons]
    show _ :: (_ ++ codeV pc _ (k + 1)) = _ :: (_ ++ _)
    rw [codeV_K pc xs n (k + 1) (by omega)]
    simp [List.getD, List.getElem?_eq_getElem hk]
end Go.Proofs.YtkdghgiajifbdaaDoor.Ts
/-
  What package trans's within, set and row return.
-/
namespace Go.Proofs.YtkdghgiajifbdaaDoor.Ts
open Go.ChangeShapes Go.WideShapes Go.ChangeAt Go.RowKit Mm Hc Mi Bk
open Hh hiding Rn
set_option linter.unusedVariables false
set_option linter.unusedSimpArgs false

variable {w : World} {n a b : Int}
theorem Sr.at_ {g : Nat} (hg : g = w.heap.size) (cs : Array Value) (t n c : Nat) (h : cs.size = n * 5) : Sr (w.alloc (.cells cs t)) (.slice (some ⟨g, 0, none⟩) n c) n 5 cs.toList := by
  subst hg
  exact Sr.new w cs t n c h
theorem Sr.drew {vx : Value} {m sz : Nat} {news : List Value} (h : Sr w vx m sz news) : Sr w.drew vx m sz news := h.gr ((Gr.refl _).drewN 1)
theorem iMic : (Tryd.prog.info? 81).map (·.size) = some 5 := by kernel_rfl
theorem qwithin_any (n a b : Int) (w : World) : Calls Tryd.prog 64 #[.int .i64 n, .int .i64 a, .int .i64 b] w fun e w' => e = .returned (.bool (decide (a ≤ n ∧ n ≤ b))) ∧ w' = w := by
  go_enter Tryd.func64, Tryd.ntmps64
  go_wp2
  all_goals
    go_ret
    refine ⟨Dw.ret_bool ?_, rfl⟩
    first
      | (rename_i h; have h2 : ¬ a ≤ n := by omega
         simp [h2]; done)
      | (rename_i h; simp [h]; done)
theorem qwithin_yes (h : a ≤ n ∧ n ≤ b) (w : World) : Calls Tryd.prog 64 #[.int .i64 n, .int .i64 a, .int .i64 b] w fun e w' => e = .returned (.bool true) ∧ w' = w := by
  have := qwithin_any n a b w
  rwa [decide_eq_true h] at this
theorem qwithin_no (h : ¬ (a ≤ n ∧ n ≤ b)) (w : World) : Calls Tryd.prog 64 #[.int .i64 n, .int .i64 a, .int .i64 b] w fun e w' => e = .returned (.bool false) ∧ w' = w := by
  have := qwithin_any n a b w
  rwa [decide_eq_false h] at this
theorem qrow_any (v : Value) (w : World) : Calls Tryd.prog 61 #[v] w fun e w' => e = .returned v ∧ w' = w := by
  go_enter Tryd.func61, Tryd.ntmps61
  go_wp2
  go_ret
  exact ⟨rfl, rfl⟩
theorem qset_at (r x : Int) (w : World) : Calls Tryd.prog 62 #[.int .i64 r, .int .u32 x] w fun e w' => e = .returned (.agg #[.int .i64 2, .int .i64 r, .int .i64 0, .int .i64 0, .int .u32 x]) ∧ w' = w.alloc (.cells #[.int .i64 2, .int .i64 r, .int .i64 0, .int .i64 0, .int .u32 x] 81) := by
  go_enter Tryd.func62, Tryd.ntmps62
  go_wp2
  exact bodyPost_ret (v := .agg #[.int .i64 2, .int .i64 r, .int .i64 0, .int .i64 0, .int .u32 x]) (results_cell_row Tryd.results62 _ _ _ _ _ (0, 0) _ rfl (heap_alloc_new w _) Tryd.underlying81 rfl iMic) rfl ⟨rfl, rfl⟩
theorem qset_any (r x : Int) (w : World) : Calls Tryd.prog 62 #[.int .i64 r, .int .u32 x] w fun e w' => e = .returned (.agg #[.int .i64 2, .int .i64 r, .int .i64 0, .int .i64 0, .int .u32 x]) ∧ Gr w w' :=
  (qset_at r x w).mono fun e w' ⟨h1, h2⟩ => ⟨h1, by rw [h2]; exact (Gr.refl _).alloc _⟩
end Go.Proofs.YtkdghgiajifbdaaDoor.Ts
/-
  What package trans's jump returns.
-/
namespace Go.Proofs.YtkdghgiajifbdaaDoor.Ts
open Go.ChangeShapes Go.WideShapes Go.ChangeAt Go.RowKit Mm Hc Mi Bk
open Hh hiding Rn
set_option linter.unusedVariables false
set_option linter.unusedSimpArgs false
set_option maxHeartbeats 4000000 in
set_option maxRecDepth 100000 in
theorem jump_any (op rd r1 r2 im a : Int) (w : World) : Calls Tryd.prog 63 #[.agg #[.int .i64 op, .int .i64 rd, .int .i64 r1, .int .i64 r2, .int .i32 im], .int .u32 a] w fun e w' => ∃ v, e = .returned v ∧ Sr w' v 3 5 [.int .i64 528, .int .i64 32, .int .i64 r1, .int .i64 0, .int .u32 (Wd.lo im), .int .i64 2, .int .i64 rd, .int .i64 0, .int .i64 0, .int .u32 (Wd.lo (a + 4)), .int .i64 4, .int .i64 0, .int .i64 32, .int .i64 0, .int .u32 0] ∧ Gr w w' := by
  go_enter Tryd.func63, Tryd.ntmps63
  go_wp2_with fail
  go_region_with (first
    | (go_at_call 62; refine (qset_at _ _ _).mono ?_; rintro e w1 ⟨rfl, rfl⟩)
    | (go_at_call 61; refine (qrow_any _ _).mono ?_; rintro e w1 ⟨rfl, rfl⟩))
  all_goals
    go_wp2_with fail
    go_ret
    refine ⟨_, rfl, ?_, ?_⟩
    · repeat (refine Sr.drew ?_)
      exact Sr.at_ (by simp) #[.int .i64 528, .int .i64 32, .int .i64 r1, .int .i64 0, .int .u32 (IntKind.u32.wrap im), .int .i64 2, .int .i64 rd, .int .i64 0, .int .i64 0, .int .u32 (IntKind.u32.wrap (a + 4)), .int .i64 4, .int .i64 0, .int .i64 32, .int .i64 0, .int .u32 0] 81 3 3 rfl
    · repeat (first | exact Gr.refl _ | refine Gr.drewN ?_ _ | refine Gr.drew ?_ | refine Gr.alloc ?_ _)
end Go.Proofs.YtkdghgiajifbdaaDoor.Ts
/-
  What package trans's made returns: 'mdV'. Conditions: the instruction is one; the table of package trans holds what its initialiser lays.
-/
namespace Go.Proofs.YtkdghgiajifbdaaDoor.Ts
open Go.ChangeShapes Go.WideShapes Go.ChangeAt Go.RowKit Mm Hc Mi Bk
open Hh hiding Rn
set_option linter.unusedVariables false
set_option linter.unusedSimpArgs false

def opersL : List Int := [0, 0, 0, 0, 0, 0, 0, 0, 0, 0, 0, 0, 0, 0, 0, 0, 0, 0, 0, 528, 531, 532, 533, 536, 537, 530, 534, 535]
/-- The table of package trans holds what its initialiser lays. -/
def Tq (w : World) : Prop := ∀ k n, opersL[k]? = some n → w.cell? ⟨1, k, none⟩ = some (.int .i64 n)
theorem Tq.of {w w' : World} (h : Tq w) (g : Gr w w') : Tq w' := fun k n e => (g.cell _ (by exact Dw.lt_of_cell (h k n e))).trans (h k n e)
/-- What made does, of an instruction of these fields at place a: small steps, as cells. -/
def Mades (op rd r1 r2 im a : Int) (n : Nat) (cs : List Value) : Prop := ∀ w : World, Tq w → Calls Tryd.prog 36 #[.agg #[.int .i64 op, .int .i64 rd, .int .i64 r1, .int .i64 r2, .int .i32 im], .int .u32 a] w fun e w' => ∃ v, e = .returned v ∧ Sr w' v n 5 cs ∧ Gr w w'
theorem lo_two (a im : Int) : Wd.lo (a + Wd.lo im) = (a + im) % 4294967296 := by unfold Wd.lo; omega
section
variable {op rd r1 r2 im a : Int}
set_option maxHeartbeats 1000000 in
set_option maxRecDepth 100000 in
theorem made_1 : Mades 1 rd r1 r2 im a 1 [.int .i64 2, .int .i64 rd, .int .i64 0, .int .i64 0, .int .u32 (Wd.lo im)] := fun w T => by
  clear T
  go_enter Tryd.func36, Tryd.ntmps36
  go_wp2_with fail
  refine (qset_any _ _ _).mono ?_
  rintro e w8 ⟨rfl, G1⟩
  go_wp2_with fail
  refine (qrow_any _ _).mono ?_
  rintro e w9 ⟨rfl, rfl⟩
  go_wp2_with fail
  go_ret
  refine ⟨_, rfl, ?_, ?_⟩
  · exact Sr.at_ (by simp) _ _ _ _ rfl
  · exact Gr.alloc (((Gr.refl _).alloc _).trans G1) _
set_option maxHeartbeats 1000000 in
set_option maxRecDepth 100000 in
theorem made_2 : Mades 2 rd r1 r2 im a 1 [.int .i64 2, .int .i64 rd, .int .i64 0, .int .i64 0, .int .u32 (Wd.lo (a + Wd.lo im))] := fun w T => by
  clear T
  go_enter Tryd.func36, Tryd.ntmps36
  go_wp2_with fail
  refine (qset_any _ _ _).mono ?_
  rintro e w8 ⟨rfl, G1⟩
  go_wp2_with fail
  refine (qrow_any _ _).mono ?_
  rintro e w9 ⟨rfl, rfl⟩
  go_wp2_with fail
  go_ret
  refine ⟨_, rfl, ?_, ?_⟩
  · rw [lo_two]; exact Sr.at_ (by simp) _ _ _ _ rfl
  · exact Gr.alloc (((Gr.refl _).alloc _).trans G1) _
set_option maxHeartbeats 1000000 in
set_option maxRecDepth 100000 in
theorem made_3 : Mades 3 rd r1 r2 im a 2 [.int .i64 2, .int .i64 rd, .int .i64 0, .int .i64 0, .int .u32 (Wd.lo (a + 4)), .int .i64 3, .int .i64 0, .int .i64 0, .int .i64 0, .int .u32 (Wd.lo (a + Wd.lo im))] := fun w T => by
  clear T
  go_enter Tryd.func36, Tryd.ntmps36
  go_wp2_with fail
  refine (qset_any _ _ _).mono ?_
  rintro e w8 ⟨rfl, G1⟩
  go_wp2_with fail
  refine (qrow_any _ _).mono ?_
  rintro e w9 ⟨rfl, rfl⟩
  go_wp2_with fail
  go_ret
  refine ⟨_, rfl, ?_, ?_⟩
  · rw [lo_two]; exact Sr.at_ (by simp) _ _ _ _ rfl
  · exact Gr.alloc (((Gr.refl _).alloc _).trans G1) _
set_option maxHeartbeats 1000000 in
set_option maxRecDepth 100000 in
theorem made_4 : Mades 4 rd r1 r2 im a 3 [.int .i64 528, .int .i64 32, .int .i64 r1, .int .i64 0, .int .u32 (Wd.lo im), .int .i64 2, .int .i64 rd, .int .i64 0, .int .i64 0, .int .u32 (Wd.lo (a + 4)), .int .i64 4, .int .i64 0, .int .i64 32, .int .i64 0, .int .u32 0] := fun w T => by
  clear T
  go_enter Tryd.func36, Tryd.ntmps36
  go_wp2_with fail
  refine (jump_any _ _ _ _ _ _ _).mono ?_
  rintro e w8 ⟨v, rfl, S1, G1⟩
  go_wp2_with fail
  go_ret
  exact ⟨_, rfl, S1, ((Gr.refl _).alloc _).trans G1⟩
set_option maxHeartbeats 1000000 in
set_option maxRecDepth 100000 in
theorem made_5 (ho : 5 ≤ op ∧ op ≤ 10) : Mades op rd r1 r2 im a 1 [.int .i64 (100 + op), .int .i64 0, .int .i64 r1, .int .i64 r2, .int .u32 (Wd.lo (a + Wd.lo im))] := fun w T => by
  have b1 : (op == 1) = false := by simp; omega
  have b2 : (op == 2) = false := by simp; omega
  have b3 : (op == 3) = false := by simp; omega
  have b4 : (op == 4) = false := by simp; omega
  have b19 : (op == 19) = false := by simp; omega
  clear T
  go_enter Tryd.func36, Tryd.ntmps36
  go_wp2_with fail
  refine (qwithin_yes (by omega) _).mono ?_
  rintro e w0 ⟨rfl, rfl⟩
  go_wp2_with fail
  refine (qrow_any _ _).mono ?_
  rintro e w9 ⟨rfl, rfl⟩
  go_wp2_with fail
  go_ret
  refine ⟨_, rfl, ?_, ?_⟩
  · rw [lo_two]; exact Sr.at_ (by simp) _ _ _ _ rfl
  · exact Gr.alloc ((Gr.refl _).alloc _) _
set_option maxHeartbeats 1000000 in
set_option maxRecDepth 100000 in
theorem made_11 (ho : 11 ≤ op ∧ op ≤ 15) : Mades op rd r1 r2 im a 1 [.int .i64 (200 + op), .int .i64 rd, .int .i64 r1, .int .i64 0, .int .u32 (Wd.lo im)] := fun w T => by
  have b1 : (op == 1) = false := by simp; omega
  have b2 : (op == 2) = false := by simp; omega
  have b3 : (op == 3) = false := by simp; omega
  have b4 : (op == 4) = false := by simp; omega
  have b19 : (op == 19) = false := by simp; omega
  clear T
  go_enter Tryd.func36, Tryd.ntmps36
  go_wp2_with fail
  refine (qwithin_no (by omega) _).mono ?_
  rintro e w0 ⟨rfl, rfl⟩
  go_wp2_with fail
  refine (qwithin_yes (by omega) _).mono ?_
  rintro e w1 ⟨rfl, rfl⟩
  go_wp2_with fail
  refine (qrow_any _ _).mono ?_
  rintro e w9 ⟨rfl, rfl⟩
  go_wp2_with fail
  go_ret
  refine ⟨_, rfl, ?_, ?_⟩
  · exact Sr.at_ (by simp) _ _ _ _ rfl
  · exact Gr.alloc ((Gr.refl _).alloc _) _
set_option maxHeartbeats 1000000 in
set_option maxRecDepth 100000 in
theorem made_16 (ho : 16 ≤ op ∧ op ≤ 18) : Mades op rd r1 r2 im a 1 [.int .i64 (300 + op), .int .i64 0, .int .i64 r1, .int .i64 r2, .int .u32 (Wd.lo im)] := fun w T => by
  have b1 : (op == 1) = false := by simp; omega
  have b2 : (op == 2) = false := by simp; omega
  have b3 : (op == 3) = false := by simp; omega
  have b4 : (op == 4) = false := by simp; omega
  have b19 : (op == 19) = false := by simp; omega
  clear T
  go_enter Tryd.func36, Tryd.ntmps36
  go_wp2_with fail
  refine (qwithin_no (by omega) _).mono ?_
  rintro e w0 ⟨rfl, rfl⟩
  go_wp2_with fail
  refine (qwithin_no (by omega) _).mono ?_
  rintro e w1 ⟨rfl, rfl⟩
  go_wp2_with fail
  refine (qwithin_yes (by omega) _).mono ?_
  rintro e w2 ⟨rfl, rfl⟩
  go_wp2_with fail
  refine (qrow_any _ _).mono ?_
  rintro e w9 ⟨rfl, rfl⟩
  go_wp2_with fail
  go_ret
  refine ⟨_, rfl, ?_, ?_⟩
  · exact Sr.at_ (by simp) _ _ _ _ rfl
  · exact Gr.alloc ((Gr.refl _).alloc _) _
set_option maxHeartbeats 1000000 in
set_option maxRecDepth 100000 in
theorem made_28 (ho : 28 ≤ op ∧ op ≤ 45) : Mades op rd r1 r2 im a 1 [.int .i64 (400 + op), .int .i64 rd, .int .i64 r1, .int .i64 r2, .int .u32 0] := fun w T => by
  have b1 : (op == 1) = false := by simp; omega
  have b2 : (op == 2) = false := by simp; omega
  have b3 : (op == 3) = false := by simp; omega
  have b4 : (op == 4) = false := by simp; omega
  have b19 : (op == 19) = false := by simp; omega
  clear T
  go_enter Tryd.func36, Tryd.ntmps36
  go_wp2_with fail
  refine (qwithin_no (by omega) _).mono ?_
  rintro e w0 ⟨rfl, rfl⟩
  go_wp2_with fail
  refine (qwithin_no (by omega) _).mono ?_
  rintro e w1 ⟨rfl, rfl⟩
  go_wp2_with fail
  refine (qwithin_no (by omega) _).mono ?_
  rintro e w2 ⟨rfl, rfl⟩
  go_wp2_with fail
  refine (qwithin_no (by omega) _).mono ?_
  rintro e w3 ⟨rfl, rfl⟩
  go_wp2_with fail
  refine (qwithin_yes (by omega) _).mono ?_
  rintro e w4 ⟨rfl, rfl⟩
  go_wp2_with fail
  refine (qrow_any _ _).mono ?_
  rintro e w9 ⟨rfl, rfl⟩
  go_wp2_with fail
  go_ret
  refine ⟨_, rfl, ?_, ?_⟩
  · exact Sr.at_ (by simp) _ _ _ _ rfl
  · exact Gr.alloc ((Gr.refl _).alloc _) _
set_option maxHeartbeats 1000000 in
set_option maxRecDepth 100000 in
theorem made_46 (ho : 46 ≤ op ∧ op ≤ 56) : Mades op rd r1 r2 im a 1 [.int .i64 (600 + op), .int .i64 rd, .int .i64 r1, .int .i64 r2, .int .u32 0] := fun w T => by
  have b1 : (op == 1) = false := by simp; omega
  have b2 : (op == 2) = false := by simp; omega
  have b3 : (op == 3) = false := by simp; omega
  have b4 : (op == 4) = false := by simp; omega
  have b19 : (op == 19) = false := by simp; omega
  clear T
  go_enter Tryd.func36, Tryd.ntmps36
  go_wp2_with fail
  refine (qwithin_no (by omega) _).mono ?_
  rintro e w0 ⟨rfl, rfl⟩
  go_wp2_with fail
  refine (qwithin_no (by omega) _).mono ?_
  rintro e w1 ⟨rfl, rfl⟩
  go_wp2_with fail
  refine (qwithin_no (by omega) _).mono ?_
  rintro e w2 ⟨rfl, rfl⟩
  go_wp2_with fail
  refine (qwithin_no (by omega) _).mono ?_
  rintro e w3 ⟨rfl, rfl⟩
  go_wp2_with fail
  refine (qwithin_no (by omega) _).mono ?_
  rintro e w4 ⟨rfl, rfl⟩
  go_wp2_with fail
  refine (qwithin_yes (by omega) _).mono ?_
  rintro e w5 ⟨rfl, rfl⟩
  go_wp2_with fail
  refine (qrow_any _ _).mono ?_
  rintro e w9 ⟨rfl, rfl⟩
  go_wp2_with fail
  go_ret
  refine ⟨_, rfl, ?_, ?_⟩
  · exact Sr.at_ (by simp) _ _ _ _ rfl
  · exact Gr.alloc ((Gr.refl _).alloc _) _
set_option maxHeartbeats 1000000 in
set_option maxRecDepth 100000 in
theorem made_19a : Mades 19 rd 0 r2 im a 1 [.int .i64 2, .int .i64 rd, .int .i64 0, .int .i64 0, .int .u32 (Wd.lo im)] := fun w T => by
  clear T
  go_enter Tryd.func36, Tryd.ntmps36
  go_wp2_with fail
  refine (qwithin_no (by omega) _).mono ?_
  rintro e w0 ⟨rfl, rfl⟩
  go_wp2_with fail
  refine (qwithin_no (by omega) _).mono ?_
  rintro e w1 ⟨rfl, rfl⟩
  go_wp2_with fail
  refine (qwithin_no (by omega) _).mono ?_
  rintro e w2 ⟨rfl, rfl⟩
  go_wp2_with fail
  refine (qset_any _ _ _).mono ?_
  rintro e w8 ⟨rfl, G1⟩
  go_wp2_with fail
  refine (qrow_any _ _).mono ?_
  rintro e w9 ⟨rfl, rfl⟩
  go_wp2_with fail
  go_ret
  refine ⟨_, rfl, ?_, ?_⟩
  · exact Sr.at_ (by simp) _ _ _ _ rfl
  · exact Gr.alloc (((Gr.refl _).alloc _).trans G1) _
set_option maxHeartbeats 1000000 in
set_option maxRecDepth 100000 in
theorem made_19b (hz : (r1 == 0) = false) : Mades 19 0 r1 r2 im a 1 [.int .i64 2, .int .i64 0, .int .i64 0, .int .i64 0, .int .u32 (Wd.lo im)] := fun w T => by
  clear T
  go_enter Tryd.func36, Tryd.ntmps36
  go_wp2_with fail
  refine (qwithin_no (by omega) _).mono ?_
  rintro e w0 ⟨rfl, rfl⟩
  go_wp2_with fail
  refine (qwithin_no (by omega) _).mono ?_
  rintro e w1 ⟨rfl, rfl⟩
  go_wp2_with fail
  refine (qwithin_no (by omega) _).mono ?_
  rintro e w2 ⟨rfl, rfl⟩
  go_wp2_with fail
  refine (qset_any _ _ _).mono ?_
  rintro e w8 ⟨rfl, G1⟩
  go_wp2_with fail
  refine (qrow_any _ _).mono ?_
  rintro e w9 ⟨rfl, rfl⟩
  go_wp2_with fail
  go_ret
  refine ⟨_, rfl, ?_, ?_⟩
  · exact Sr.at_ (by simp) _ _ _ _ rfl
  · exact Gr.alloc (((Gr.refl _).alloc _).trans G1) _
set_option maxHeartbeats 1000000 in
set_option maxRecDepth 100000 in
theorem made_n19 (hz : (r1 == 0) = false) (hy : (rd == 0) = false) : Mades 19 rd r1 r2 im a 1 [.int .i64 528, .int .i64 rd, .int .i64 r1, .int .i64 0, .int .u32 (Wd.lo im)] := fun w T => by
  have HT : Hid (∀ W : World, Gr w W → W.cell? ⟨1, 19, none⟩ = some (.int .i64 528)) := fun W G => (T.of G) 19 _ rfl
  have hq : (w.alloc (.cells #[.int .i64 19, .int .i64 rd, .int .i64 r1, .int .i64 r2, .int .i32 im] 23)).cell? ⟨1, 19, none⟩ = some (.int .i64 528) := HT.out _ ((Gr.refl _).alloc _)
  clear T
  go_enter Tryd.func36, Tryd.ntmps36
  go_wp2_with fail
  refine (qwithin_no (by omega) _).mono ?_
  rintro e w0 ⟨rfl, rfl⟩
  go_wp2_with fail
  refine (qwithin_no (by omega) _).mono ?_
  rintro e w1 ⟨rfl, rfl⟩
  go_wp2_with fail
  refine (qwithin_no (by omega) _).mono ?_
  rintro e w2 ⟨rfl, rfl⟩
  go_wp2_with fail
  refine (qwithin_yes (by omega) _).mono ?_
  rintro e w3 ⟨rfl, rfl⟩
  go_wp2_with fail
  go_region_held3 (fun W => W.cell? ⟨w.heap.size, 0, none⟩ = some (.int .i64 19) ∧ W.cell? ⟨w.heap.size, 1, none⟩ = some (.int .i64 rd) ∧ W.cell? ⟨w.heap.size, 2, none⟩ = some (.int .i64 r1) ∧ W.cell? ⟨1, 19, none⟩ = some (.int .i64 528)) (first | (go_keep; done) | (refine ⟨?_, ?_, ?_, ?_⟩ <;> first | assumption | (simp; done))) ((go_at_call 61; refine (qrow_any _ _).mono ?_; rintro e w9 ⟨rfl, rfl⟩))
  go_wp2_with fail
  go_ret
  refine ⟨_, rfl, ?_, ?_⟩
  · repeat (refine Sr.drew ?_)
    exact Sr.at_ (by simp) _ _ _ _ rfl
  · repeat (first | exact Gr.refl _ | refine Gr.drewN ?_ _ | refine Gr.drew ?_ | refine Gr.alloc ?_ _)
set_option maxHeartbeats 1000000 in
set_option maxRecDepth 100000 in
theorem made_n {k : Nat} {v : Int} (h1 : 20 ≤ k) (h2 : k ≤ 27) (hv : opersL[k]? = some v) : Mades (k : Int) rd r1 r2 im a 1 [.int .i64 v, .int .i64 rd, .int .i64 r1, .int .i64 0, .int .u32 (Wd.lo im)] := fun w T => by
  have c0 : (0 : Int) ≤ (k : Int) := by omega
  have c1 : (k : Int) < 28 := by omega
  have b1 : ((k : Int) == 1) = false := by simp; omega
  have b2 : ((k : Int) == 2) = false := by simp; omega
  have b3 : ((k : Int) == 3) = false := by simp; omega
  have b4 : ((k : Int) == 4) = false := by simp; omega
  have b19 : ((k : Int) == 19) = false := by simp; omega
  have HT : Hid (∀ W : World, Gr w W → W.cell? ⟨1, k, none⟩ = some (.int .i64 v)) := fun W G => (T.of G) k _ hv
  have hq : (w.alloc (.cells #[.int .i64 (k : Int), .int .i64 rd, .int .i64 r1, .int .i64 r2, .int .i32 im] 23)).cell? ⟨1, k, none⟩ = some (.int .i64 v) := HT.out _ ((Gr.refl _).alloc _)
  clear T
  go_enter Tryd.func36, Tryd.ntmps36
  go_wp2_with fail
  refine (qwithin_no (by omega) _).mono ?_
  rintro e w0 ⟨rfl, rfl⟩
  go_wp2_with fail
  refine (qwithin_no (by omega) _).mono ?_
  rintro e w1 ⟨rfl, rfl⟩
  go_wp2_with fail
  refine (qwithin_no (by omega) _).mono ?_
  rintro e w2 ⟨rfl, rfl⟩
  go_wp2_with fail
  refine (qwithin_yes (by omega) _).mono ?_
  rintro e w3 ⟨rfl, rfl⟩
  go_wp2_with fail
  go_region_held3 (fun W => W.cell? ⟨w.heap.size, 0, none⟩ = some (.int .i64 (k : Int)) ∧ W.cell? ⟨w.heap.size, 1, none⟩ = some (.int .i64 rd) ∧ W.cell? ⟨w.heap.size, 2, none⟩ = some (.int .i64 r1) ∧ W.cell? ⟨1, k, none⟩ = some (.int .i64 v)) (first | (go_keep; done) | (refine ⟨?_, ?_, ?_, ?_⟩ <;> first | assumption | (simp; done))) ((go_at_call 61; refine (qrow_any _ _).mono ?_; rintro e w9 ⟨rfl, rfl⟩))
  go_wp2_with fail
  go_ret
  refine ⟨_, rfl, ?_, ?_⟩
  · repeat (refine Sr.drew ?_)
    exact Sr.at_ (by simp) _ _ _ _ rfl
  · repeat (first | exact Gr.refl _ | refine Gr.drewN ?_ _ | refine Gr.drew ?_ | refine Gr.alloc ?_ _)
set_option maxHeartbeats 1000000 in
set_option maxRecDepth 100000 in
theorem made_58 : Mades 58 rd r1 r2 im a 1 [.int .i64 5, .int .i64 0, .int .i64 0, .int .i64 0, .int .u32 0] := fun w T => by
  clear T
  go_enter Tryd.func36, Tryd.ntmps36
  go_wp2_with fail
  refine (qwithin_no (by omega) _).mono ?_
  rintro e w0 ⟨rfl, rfl⟩
  go_wp2_with fail
  refine (qwithin_no (by omega) _).mono ?_
  rintro e w1 ⟨rfl, rfl⟩
  go_wp2_with fail
  refine (qwithin_no (by omega) _).mono ?_
  rintro e w2 ⟨rfl, rfl⟩
  go_wp2_with fail
  refine (qwithin_no (by omega) _).mono ?_
  rintro e w3 ⟨rfl, rfl⟩
  go_wp2_with fail
  refine (qwithin_no (by omega) _).mono ?_
  rintro e w4 ⟨rfl, rfl⟩
  go_wp2_with fail
  refine (qwithin_no (by omega) _).mono ?_
  rintro e w5 ⟨rfl, rfl⟩
  go_wp2_with fail
  refine (qrow_any _ _).mono ?_
  rintro e w9 ⟨rfl, rfl⟩
  go_wp2_with fail
  go_ret
  refine ⟨_, rfl, ?_, ?_⟩
  · exact Sr.at_ (by simp) _ _ _ _ rfl
  · exact Gr.alloc ((Gr.refl _).alloc _) _
set_option maxHeartbeats 1000000 in
set_option maxRecDepth 100000 in
theorem made_59 : Mades 59 rd r1 r2 im a 1 [.int .i64 6, .int .i64 0, .int .i64 0, .int .i64 0, .int .u32 0] := fun w T => by
  clear T
  go_enter Tryd.func36, Tryd.ntmps36
  go_wp2_with fail
  refine (qwithin_no (by omega) _).mono ?_
  rintro e w0 ⟨rfl, rfl⟩
  go_wp2_with fail
  refine (qwithin_no (by omega) _).mono ?_
  rintro e w1 ⟨rfl, rfl⟩
  go_wp2_with fail
  refine (qwithin_no (by omega) _).mono ?_
  rintro e w2 ⟨rfl, rfl⟩
  go_wp2_with fail
  refine (qwithin_no (by omega) _).mono ?_
  rintro e w3 ⟨rfl, rfl⟩
  go_wp2_with fail
  refine (qwithin_no (by omega) _).mono ?_
  rintro e w4 ⟨rfl, rfl⟩
  go_wp2_with fail
  refine (qwithin_no (by omega) _).mono ?_
  rintro e w5 ⟨rfl, rfl⟩
  go_wp2_with fail
  refine (qrow_any _ _).mono ?_
  rintro e w9 ⟨rfl, rfl⟩
  go_wp2_with fail
  go_ret
  refine ⟨_, rfl, ?_, ?_⟩
  · exact Sr.at_ (by simp) _ _ _ _ rfl
  · exact Gr.alloc ((Gr.refl _).alloc _) _
set_option maxHeartbeats 1000000 in
set_option maxRecDepth 100000 in
theorem made_57 : Mades 57 rd r1 r2 im a 0 [] := fun w T => by
  clear T
  go_enter Tryd.func36, Tryd.ntmps36
  go_wp2_with fail
  refine (qwithin_no (by omega) _).mono ?_
  rintro e w0 ⟨rfl, rfl⟩
  go_wp2_with fail
  refine (qwithin_no (by omega) _).mono ?_
  rintro e w1 ⟨rfl, rfl⟩
  go_wp2_with fail
  refine (qwithin_no (by omega) _).mono ?_
  rintro e w2 ⟨rfl, rfl⟩
  go_wp2_with fail
  refine (qwithin_no (by omega) _).mono ?_
  rintro e w3 ⟨rfl, rfl⟩
  go_wp2_with fail
  refine (qwithin_no (by omega) _).mono ?_
  rintro e w4 ⟨rfl, rfl⟩
  go_wp2_with fail
  refine (qwithin_no (by omega) _).mono ?_
  rintro e w5 ⟨rfl, rfl⟩
  go_wp2_with fail
  go_ret
  exact ⟨_, rfl, .inl ⟨rfl, rfl, rfl⟩, (Gr.refl _).alloc _⟩
end
theorem opn_at : ∀ k : Fin 28, 19 ≤ k.val → opersL[k.val]? = some (500 + opn (k.val : Int)) := by decide
/-- All of them. -/
theorem made_any {a : Int} {i : Iv} (h : i.In) : Mades i.op i.rd i.r1 i.r2 i.im a (mdV a i).length (mvC (mdV a i)) := by
  obtain ⟨op, rd, r1, r2, im⟩ := i
  obtain ⟨o1, o2, d0, d1, a0, a1, b0, b1⟩ := h
  simp only at o1 o2 d0 d1 a0 a1 b0 b1
  unfold mdV
  simp only
  by_cases h0 : op = 1
  · rw [if_pos h0]
    subst h0; exact made_1
  rw [if_neg h0]
  by_cases h1 : op = 2
  · rw [if_pos h1]
    subst h1; exact made_2
  rw [if_neg h1]
  by_cases h2 : op = 3
  · rw [if_pos h2]
    subst h2; exact made_3
  rw [if_neg h2]
  by_cases h3 : op = 4
  · rw [if_pos h3]
    subst h3; exact made_4
  rw [if_neg h3]
  by_cases h4 : 5 ≤ op ∧ op ≤ 10
  · rw [if_pos h4]
    exact made_5 h4
  rw [if_neg h4]
  by_cases h5 : 11 ≤ op ∧ op ≤ 15
  · rw [if_pos h5]
    exact made_11 h5
  rw [if_neg h5]
  by_cases h6 : 16 ≤ op ∧ op ≤ 18
  · rw [if_pos h6]
    exact made_16 h6
  rw [if_neg h6]
  by_cases h7 : op = 19 ∧ (r1 = 0 ∨ rd = 0)
  · rw [if_pos h7]
    obtain ⟨rfl, hh⟩ := h7
    by_cases hr : r1 = 0
    · subst hr; exact made_19a
    · have : rd = 0 := by rcases hh with hh | hh; exact absurd hh hr; exact hh
      subst this
      exact made_19b (by simpa using hr)
  rw [if_neg h7]
  by_cases h8 : 19 ≤ op ∧ op ≤ 27
  · rw [if_pos h8]
    have hc : op = 19 ∨ op = 20 ∨ op = 21 ∨ op = 22 ∨ op = 23 ∨ op = 24 ∨ op = 25 ∨ op = 26 ∨ op = 27 := by omega
    rcases hc with rfl | rfl | rfl | rfl | rfl | rfl | rfl | rfl | rfl
    · have hz : ¬ (r1 = 0 ∨ rd = 0) := fun hq => h7 ⟨rfl, hq⟩
      exact made_n19 (by simp; exact fun q => hz (.inl q)) (by simp; exact fun q => hz (.inr q))
    · exact made_n (k := 20) (by decide) (by decide) rfl
    · exact made_n (k := 21) (by decide) (by decide) rfl
    · exact made_n (k := 22) (by decide) (by decide) rfl
    · exact made_n (k := 23) (by decide) (by decide) rfl
    · exact made_n (k := 24) (by decide) (by decide) rfl
    · exact made_n (k := 25) (by decide) (by decide) rfl
    · exact made_n (k := 26) (by decide) (by decide) rfl
    · exact made_n (k := 27) (by decide) (by decide) rfl
  rw [if_neg h8]
  by_cases h9 : 28 ≤ op ∧ op ≤ 45
  · rw [if_pos h9]
    exact made_28 h9
  rw [if_neg h9]
  by_cases h10 : 46 ≤ op ∧ op ≤ 56
  · rw [if_pos h10]
    exact made_46 h10
  rw [if_neg h10]
  by_cases h11 : op = 58
  · rw [if_pos h11]
    subst h11; exact made_58
  rw [if_neg h11]
  by_cases h12 : op = 59
  · rw [if_pos h12]
    subst h12; exact made_59
  rw [if_neg h12]
  obtain rfl : op = 57 := by omega
  exact made_57
end Go.Proofs.YtkdghgiajifbdaaDoor.Ts
