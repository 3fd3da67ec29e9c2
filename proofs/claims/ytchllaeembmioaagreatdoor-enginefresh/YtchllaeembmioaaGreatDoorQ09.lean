/-
  Tm, Tb, Tabs, Ref2a: texts of ours that lie in one file.
-/
import Derived.Test.YtchllaeembmioaaGreatDoorQ08
import Derived.Test.YtchllaeembmioaaGreatDoorRows
import Derived.Test.YtchllaeembmioaaGreatDoorQ02
import Derived.WalkKit
import Derived.ProofKit
import Derived.OpenShut
import Derived.LaidMore
import Derived.RowKit3
import Derived.Deep.QuietTactic
import Derived.BigQuiet
set_option linter.unusedVariables false
set_option linter.unusedSimpArgs false
set_option maxHeartbeats 8000000
set_option maxRecDepth 100000
namespace Go.Proofs.YtchllaeembmioaaGreatDoor.Ts
open Mm Wd Mi Bk
open Hh hiding Rn

section
variable {bf bt steps a op rd r1 r2 im : Int}
theorem body_if (h1 : r1 < 32) (h2 : r2 < 32) (ho : 5 ≤ op ∧ op ≤ 10) : BodyI bf bt steps a op rd r1 r2 im [⟨100 + op, 0, r1, r2, lo (a + lo im)⟩] := fun q ov ok st z hh hl => by
 rw [one_run ov, mic_op (c := 100) (k := op) (by omega) (by omega) rfl (by omega)]
 unfold mOp
 rw [if_pos rfl]
 simp only [get_low q h1, get_low q h2]
 have hE : eff (q.h.go a) q.m op (rg q.h r1.toNat) (rg q.h r2.toNat) (lo im) = ⟨q.h.go a, q.m, [], [], none⟩ := by
  unfold eff
  rw [if_neg (by omega), if_neg (by omega), if_neg (by omega), if_neg (by omega), if_neg (by omega), if_neg (by omega), if_neg (by omega), if_neg (by omega), if_neg (by omega), if_neg (by omega)]
 have e : ins (q.h.go a) q.m op rd r1 r2 im = done (eff (q.h.go a) q.m op (rg q.h r1.toNat) (rg q.h r2.toNat) (lo im)) rd.toNat (nxt (q.h.go a) op (rg q.h r1.toNat) (rg q.h r2.toNat) (lo im)) := rfl
 rw [e, hE]
 have ed : ∀ x, done ⟨q.h.go a, q.m, [], [], none⟩ rd.toNat x = ⟨q.h.go x, q.m, [], []⟩ := fun x => by
  unfold done Hv.put Hv.on
  simp only
  rw [if_pos (by show q.h.state = 0; exact st), go_go]
 rw [ed]
 have hlast : lastOp op = true := by unfold lastOp; exact decide_eq_true (by omega)
 by_cases hk : holds op (rg q.h r1.toNat) (rg q.h r2.toNat) = true
 ·rw [if_pos hk]
  have en : nxt (q.h.go a) op (rg q.h r1.toNat) (rg q.h r2.toNat) (lo im) = lo (a + lo im) := by
   unfold nxt
   rw [if_neg (by omega), if_pos (.inr hk)]
   rfl
  rw [en]
  exact ⟨fit_end (o := []) (s := []) rfl (ok.stop (W.lo _)) rfl (by simp [Rn.stop]) (by simp [Rn.stop]) rfl (by simp [Rn.stop]), fun _ => .inl hlast⟩
 ·rw [if_neg hk]
  have en : nxt (q.h.go a) op (rg q.h r1.toNat) (rg q.h r2.toNat) (lo im) = lo (a + 4) := by
   unfold nxt
   rw [if_neg (by omega), if_neg (by simp [hk]; omega)]
   rfl
  rw [en]
  exact ⟨fit_on (X := q.h) (o := []) (s := []) rfl ok ov hh rfl rfl st (by simp) (by simp) rfl (by simp), fun _ => .inl hlast⟩
theorem fit_jump {q q' : Mi.Rn} {x pc : Int} (ok : q'.Ok) (st : q.h.state = 0) (ov : q'.over = true) (hE : eff (q.h.go a) q.m op (rg q.h r1.toNat) (rg q.h r2.toNat) (lo im) = ⟨q.h.go a, q.m, [], [], some x⟩) (hN : nxt (q.h.go a) op (rg q.h r1.toNat) (rg q.h r2.toNat) (lo im) = pc) (hh : q'.h = (q.h.set rd.toNat x).go pc) (hm : q'.m = q.m) (ho : q'.out = q.out) (hs : q'.sto = q.sto) (hn : q'.n = q.n) (hw : q'.own = q.own) : Fit bf bt a q (ins (q.h.go a) q.m op rd r1 r2 im) q' := by
 have e : ins (q.h.go a) q.m op rd r1 r2 im = done (eff (q.h.go a) q.m op (rg q.h r1.toNat) (rg q.h r2.toNat) (lo im)) rd.toNat (nxt (q.h.go a) op (rg q.h r1.toNat) (rg q.h r2.toNat) (lo im)) := rfl
 refine fit_end (o := []) (s := []) ?_ ok ov (by simp [ho]) (by simp [hs]) hn (by simp [hw])
 rw [e, hE, hN]
 unfold done
 simp only
 rw [put_go]
 unfold Hv.on
 rw [if_pos (by show (q.h.put rd.toNat (some x)).state = 0; rw [(put_st _ _ _).1]; exact st), go_go, hh, hm]
 rfl
theorem mrun2 {q : Mi.Rn} (ho : q.over = false) (i : Mv) (is : List Mv) : mrun bf bt steps q (i :: is) = mrun bf bt steps (mic bf bt steps q i) is := by rw [mrun, if_neg (by simp [ho])]
theorem put_over (q : Mi.Rn) (k x : Int) : (q.put k x).over = q.over := by unfold Rn.put; split <;> rfl
theorem mic_set {q : Mi.Rn} (d x : Int) : mic bf bt steps q ⟨2, d, 0, 0, x⟩ = q.put d x := by unfold mic; rw [if_neg (by simp), if_pos rfl]
theorem mic_go {q : Mi.Rn} (x : Int) : mic bf bt steps q ⟨3, 0, 0, 0, x⟩ = q.stop x := by unfold mic; rw [if_neg (by simp), if_neg (by simp), if_pos rfl]
theorem mic_reg {q : Mi.Rn} (r x : Int) : mic bf bt steps q ⟨4, 0, r, 0, x⟩ = q.stop (lo (q.get r + x) - lo (q.get r + x) % 2) := by unfold mic; rw [if_neg (by simp), if_neg (by simp), if_neg (by simp), if_pos rfl]
theorem mic_add {q : Mi.Rn} (d r x : Int) : mic bf bt steps q ⟨528, d, r, 0, x⟩ = q.put d (alu 28 (q.get r) x) := by
 rw [mic_op (c := 500) (k := 28) (by omega) (by omega) rfl (by omega)]
 unfold mOp
 rw [if_neg (by omega), if_neg (by omega), if_neg (by omega), if_neg (by omega), if_pos rfl]
theorem alu_add (x y : Int) : alu 28 x y = lo (x + y) := by unfold alu; rw [if_pos rfl]
theorem lo_id {x : Int} (h : W x) : lo x = x := Int.emod_eq_of_lt h.1 h.2
theorem body_jal (hr : rd < 32) (ho : op = 3) : BodyI bf bt steps a op rd r1 r2 im [⟨2, rd, 0, 0, lo (a + 4)⟩, ⟨3, 0, 0, 0, lo (a + lo im)⟩] := fun q ov ok st z hh hl => by
 subst ho
 rw [mrun2 ov, mic_set, one_run (by rw [put_over]; exact ov), mic_go]
 refine ⟨?_, fun _ => .inl rfl⟩
 have okp := ok.put rd (W.lo (a + 4))
 rw [put_low q hr] at okp ⊢
 refine fit_jump (x := lo (a + 4)) (pc := lo (a + lo im)) (okp.stop (W.lo _)) st rfl ?_ ?_ rfl rfl rfl rfl rfl rfl
 ·unfold eff
  rw [if_neg (by omega), if_neg (by omega), if_pos (by omega)]
  rfl
 ·unfold nxt
  rw [if_neg (by omega), if_pos (.inl rfl)]
  rfl
theorem eff_jalr (h : Hv) (l : List UInt8) (A B n : Int) : eff (h.go a) l 4 A B n = ⟨h.go a, l, [], [], some (lo (a + 4))⟩ := by
 unfold eff
 rw [if_neg (by omega), if_neg (by omega), if_pos (by omega)]
 rfl
theorem nxt_jalr (h : Hv) (A B n : Int) : nxt (h.go a) 4 A B n = lo (A + n) - lo (A + n) % 2 := by unfold nxt; rw [if_pos rfl]
theorem go2_w (x : Int) : W (lo x - lo x % 2) := by have := W.lo x; unfold W at *; omega
theorem put_hi (q : Mi.Rn) {k : Int} (h : 32 ≤ k) (x : Int) : q.put k x = { q with tm := q.tm.set (k - 32).toNat x } := by unfold Rn.put; rw [if_pos h]
theorem get_hi {q : Mi.Rn} (ok : q.Ok) {t : Int} (h0 : 32 ≤ t) (h1 : t < 36) (x : Int) : (q.put t x).get t = x := by
 rw [put_hi q h0]
 unfold Rn.get
 rw [if_neg (by omega)]
 show (q.tm.set (t - 32).toNat x).getD (t - 32).toNat 0 = x
 rw [tm_set, if_pos ⟨rfl, by rw [ok.tl]; omega⟩]
theorem get_hi_low (q : Mi.Rn) {t : Int} (h0 : 32 ≤ t) {k : Int} (hk : k < 32) (x y : Int) : (q.put k x).get t = q.get t := by
 rw [put_low q hk]
 unfold Rn.get
 rw [if_neg (by omega), if_neg (by omega)]
theorem body_jalr2 (t : Int) (h0 : 32 ≤ t) (h1 : t < 36) (hr : rd < 32) (hr1 : r1 < 32) (ho : op = 4) : BodyI bf bt steps a op rd r1 r2 im [⟨528, t, r1, 0, lo im⟩, ⟨2, rd, 0, 0, lo (a + 4)⟩, ⟨4, 0, t, 0, 0⟩] := fun q ov ok st z hh hl => by
 subst ho
 have eA : alu 28 (q.get r1) (lo im) = lo (rg q.h r1.toNat + lo im) := by rw [alu_add, get_low q hr1]
 rw [mrun2 ov, mic_add, eA]
 have ok1 := ok.put t (W.lo (rg q.h r1.toNat + lo im))
 rw [mrun2 (by rw [put_over]; exact ov), mic_set, one_run (by rw [put_over, put_over]; exact ov), mic_reg]
 rw [get_hi_low _ h0 hr _ 0, get_hi ok h0 h1, Int.add_zero, lo_id (W.lo _)]
 refine ⟨?_, fun _ => .inl rfl⟩
 have ok2 := (ok1.put rd (W.lo (a + 4))).stop (go2_w (rg q.h r1.toNat + lo im))
 rw [put_low _ hr, put_hi q h0] at ok2 ⊢
 exact fit_jump (x := lo (a + 4)) (pc := lo (rg q.h r1.toNat + lo im) - lo (rg q.h r1.toNat + lo im) % 2) ok2 st rfl (eff_jalr _ _ _ _ _) (nxt_jalr _ _ _ _) rfl rfl rfl rfl rfl rfl
theorem fit_put2 {q q2 : Mi.Rn} {s : List (Int × Int)} {x : Int} (hE : eff (q.h.go a) q.m op (rg q.h r1.toNat) (rg q.h r2.toNat) (lo im) = ⟨q2.h.go a, q2.m, [], s, some x⟩) (ok : q2.Ok) (ov : q2.over = false) (st : q2.h.state = 0) (hpc : q2.h.pc = q.h.pc) (hh : q2.here = a) (ho : q2.out = q.out) (hs : q2.sto = q.sto ++ s) (hn : q2.n = q.n) (hw : q2.own = (q.own || s.any (meet bf bt))) (hr : rd < 32) (wx : W x) (hx : ¬ op = 3 ∧ ¬ op = 4 ∧ (op < 5 ∨ 10 < op)) : Fit bf bt a q (ins (q.h.go a) q.m op rd r1 r2 im) (q2.put rd x) := by
 have okp := ok.put rd wx
 rw [put_low q2 hr] at okp ⊢
 refine fit_on (X := q2.h.set rd.toNat x) (o := []) (s := s) (ins_on (res := some x) hE st hx) okp ov hh rfl ?_ ?_ (by simp [ho]) hs hn hw
 ·exact (put_st q2.h rd.toNat (some x)).2.trans hpc
 ·exact (put_st q2.h rd.toNat (some x)).1.trans st
theorem body_atom (hr : rd < 32) (h1 : r1 < 32) (h2 : r2 < 32) (ho : 46 ≤ op ∧ op ≤ 56) : BodyI bf bt steps a op rd r1 r2 im [⟨600 + op, rd, r1, r2, 0⟩] := fun q ov ok st z hh hl => by
 rw [one_run ov, mic_op (c := 600) (k := op) (by omega) (by omega) rfl (by omega)]
 unfold mOp
 rw [if_neg (by omega), if_neg (by omega), if_neg (by omega), if_neg (by omega), if_neg (by omega), if_pos rfl]
 simp only [get_low q h1, get_low q h2]
 have wA := ok.h.reg r1.toNat
 have wB := ok.h.reg r2.toNat
 have hE : eff (q.h.go a) q.m op (rg q.h r1.toNat) (rg q.h r2.toNat) (lo im) = efAtom (q.h.go a) q.m op (rg q.h r1.toNat) (rg q.h r2.toNat) := by
  unfold eff
  rw [if_neg (by omega), if_neg (by omega), if_neg (by omega), if_neg (by omega), if_neg (by omega), if_neg (by omega), if_neg (by omega), if_pos ho]
 have hx : ¬ op = 3 ∧ ¬ op = 4 ∧ (op < 5 ∨ 10 < op) := by omega
 have no : ∀ {q2 : Mi.Rn} {x : Int} {P : Prop}, q2.over = false → (q2.put rd x).over = true → P := fun e h => by rw [put_over, e] at h; cases h
 unfold mAtom
 unfold efAtom at hE
 by_cases q6 : op = 46
 ·rw [if_pos q6] at hE ⊢
  unfold mLr
  unfold efLr at hE
  by_cases hk : ldOk q.m 13 (rg q.h r1.toNat) = true
  ·rw [if_pos hk] at hE ⊢
   exact ⟨fit_put2 (q := q) (bf := bf) (bt := bt) (q2 := { q with h := q.h.hold true (rg q.h r1.toNat) }) (s := []) hE (ok.hart (ok.h.hold true wA.1 wA.2)) ov st rfl hh rfl (by simp) rfl (by simp) hr (W.ldV _ _ _) hx, no (q2 := { q with h := q.h.hold true (rg q.h r1.toNat) }) ov⟩
  ·rw [if_neg hk] at hE ⊢
   have t := fit_trap (bf := bf) (bt := bt) (rd := rd) (c := 3) ok hh hE
   exact ⟨t.1, fun _ => .inr t.2⟩
 rw [if_neg q6] at hE ⊢
 by_cases q7 : op = 47
 ·rw [if_pos q7] at hE ⊢
  unfold mSc
  unfold efSc at hE
  by_cases hk : ldOk q.m 13 (rg q.h r1.toNat) = true
  ·rw [if_pos hk] at hE ⊢
   have hm := hits_at (op := 18) (bf := bf) (bt := bt) hl wA.1 (st_of_ld hk)
   have okH : Mi.Rn.Ok { q with h := q.h.hold false 0 } := ok.hart (ok.h.hold false (x := 0) (by omega) (by omega))
   by_cases hd : q.h.held = true ∧ q.h.heldAt = rg q.h r1.toNat
   ·rw [if_pos hd]
    have hd2 : (q.h.go a).held = true ∧ (q.h.go a).heldAt = rg q.h r1.toNat := hd
    rw [if_pos hd2] at hE
    exact ⟨fit_put2 (q := q) (bf := bf) (bt := bt) (q2 := { q with h := q.h.hold false 0, m := stL q.m 18 (rg q.h r1.toNat) (rg q.h r2.toNat) }.stored bf bt (rg q.h r1.toNat) 4) (s := [(rg q.h r1.toNat, 4)]) hE ((okH.mem _).stored _ _ _ _) ov st rfl hh rfl rfl rfl (by show (q.own || hits bf bt _ 4) = _; rw [show hits bf bt (rg q.h r1.toNat) 4 = meet bf bt (rg q.h r1.toNat, 4) from hm]; simp) hr .zero hx, no (q2 := { q with h := q.h.hold false 0, m := stL q.m 18 (rg q.h r1.toNat) (rg q.h r2.toNat) }.stored bf bt (rg q.h r1.toNat) 4) ov⟩
   ·rw [if_neg hd]
    have hd2 : ¬ ((q.h.go a).held = true ∧ (q.h.go a).heldAt = rg q.h r1.toNat) := hd
    rw [if_neg hd2] at hE
    exact ⟨fit_put2 (q := q) (bf := bf) (bt := bt) (q2 := { q with h := q.h.hold false 0 }) (s := []) hE okH ov st rfl hh rfl (by simp) rfl (by simp) hr .one hx, no (q2 := { q with h := q.h.hold false 0 }) ov⟩
  ·rw [if_neg hk] at hE ⊢
   have t := fit_trap (bf := bf) (bt := bt) (rd := rd) (c := 4) ok hh hE
   exact ⟨t.1, fun _ => .inr t.2⟩
 rw [if_neg q7] at hE ⊢
 unfold mAmo
 unfold efAmo at hE
 by_cases hk : ldOk q.m 13 (rg q.h r1.toNat) = true
 ·rw [if_pos hk] at hE ⊢
  have hm := hits_at (op := 18) (bf := bf) (bt := bt) hl wA.1 (st_of_ld hk)
  exact ⟨fit_put2 (q := q) (bf := bf) (bt := bt) (q2 := { q with m := stL q.m 18 (rg q.h r1.toNat) (amo op (ldV q.m 13 (rg q.h r1.toNat)) (rg q.h r2.toNat)) }.stored bf bt (rg q.h r1.toNat) 4) (s := [(rg q.h r1.toNat, 4)]) hE ((ok.mem _).stored _ _ _ _) ov st rfl hh rfl rfl rfl (by show (q.own || hits bf bt _ 4) = _; rw [show hits bf bt (rg q.h r1.toNat) 4 = meet bf bt (rg q.h r1.toNat, 4) from hm]; simp) hr (W.ldV _ _ _) hx, no (q2 := { q with m := stL q.m 18 (rg q.h r1.toNat) (amo op (ldV q.m 13 (rg q.h r1.toNat)) (rg q.h r2.toNat)) }.stored bf bt (rg q.h r1.toNat) 4) ov⟩
 ·rw [if_neg hk] at hE ⊢
  have t := fit_trap (bf := bf) (bt := bt) (rd := rd) (c := 4) ok hh hE
  exact ⟨t.1, fun _ => .inr t.2⟩
end
end Go.Proofs.YtchllaeembmioaaGreatDoor.Ts
namespace Go.Proofs.YtchllaeembmioaaGreatDoor.Ts
open Mm Wd Mi Bk
open Hh hiding Rn

theorem blk_facts (l : List UInt8) (pc : Int) : ∀ n k, (blk l pc n k).length ≤ n ∧ ∀ j, j < (blk l pc n k).length → ftC l (at4 pc (k + j)) = 0 ∧ (blk l pc n k)[j]? = some (ldV l 13 (at4 pc (k + j))) ∧ (lastOp (Dc.dop (ldV l 13 (at4 pc (k + j)))) = true → j + 1 = (blk l pc n k).length)
 | 0, k => ⟨Nat.le_refl _, fun j hj => absurd hj (by simp [blk])⟩
 | n + 1, k => by
  by_cases h : ftC l (at4 pc k) = 0
  ·cases hl : lastOp (Dc.dop (ldV l 13 (at4 pc k))) with
   | true =>
    rw [blk_last h hl]
    refine ⟨by simp, fun j hj => ?_⟩
    have hj0 : j = 0 := by simp at hj; omega
    subst hj0
    exact ⟨h, rfl, fun _ => rfl⟩
   | false =>
    rw [blk_on h hl]
    obtain ⟨ih1, ih2⟩ := blk_facts l pc n (k + 1)
    refine ⟨by simp; omega, fun j hj => ?_⟩
    match j, hj with
    | 0, _ => exact ⟨h, rfl, fun q => by rw [Nat.add_zero] at q; rw [hl] at q; cases q⟩
    | j + 1, hj =>
     obtain ⟨a, b, c⟩ := ih2 j (by simp at hj; omega)
     rw [show k + 1 + j = k + (j + 1) by omega] at a b c
     exact ⟨a, by simpa using b, fun q => by have := c q; simp; omega⟩
  ·rw [blk_stop h]
   exact ⟨by simp, fun j hj => absurd hj (by simp)⟩
theorem ft_zero {l : List UInt8} {pc : Int} (h : ftC l pc = 0) : ldOk l 13 pc = true ∧ ¬ Dc.dop (ldV l 13 pc) = 0 := by
 unfold ftC at h
 split at h
 ·rename_i q
  split at h
  ·cases h
  ·rename_i q2
   exact ⟨q, q2⟩
 ·cases h
theorem ld13 {l : List UInt8} {a : Int} (h : ldOk l 13 a = true) : a + 4 ≤ l.length := by
 unfold ldOk thr at h
 simp only [decide_eq_true_eq] at h
 exact h.2.2
theorem blkd_of {l : List UInt8} {pc : Int} (hl : l.length ≤ 4096) (h0 : 0 ≤ pc) (h1 : pc < 4294967296) (hp : 0 < (blk l pc 16 0).length) : Blkd l pc (pc + 4 * ((blk l pc 16 0).length : Int)) (blk l pc 16 0).length (fun j => ldV l 13 (at4 pc j)) := by
  obtain ⟨_, f⟩ := blk_facts l pc 16 0
  have f : ∀ j, j < (blk l pc 16 0).length → ftC l (at4 pc j) = 0 ∧ (blk l pc 16 0)[j]? = some (ldV l 13 (at4 pc j)) ∧ (lastOp (Dc.dop (ldV l 13 (at4 pc j))) = true → j + 1 = (blk l pc 16 0).length) := fun j hj => by
    have := f j hj
    rwa [Nat.zero_add] at this
  have at_ : ∀ j, j ≤ (blk l pc 16 0).length → at4 pc j = pc + 4 * j := by
    intro j
    induction j with
    | zero => intro _; unfold at4; have : lo (pc + 4 * ((0 : Nat) : Int)) = pc := by rw [show pc + 4 * ((0 : Nat) : Int) = pc by omega]; exact Int.emod_eq_of_lt h0 h1
              rw [this]; omega
    | succ j ih =>
      intro hj
      have e := ih (by omega)
      have := ld13 (ft_zero (f j (by omega)).1).1
      unfold at4 at e ⊢
      rw [show lo (pc + 4 * ((j + 1 : Nat) : Int)) = pc + 4 * ((j + 1 : Nat) : Int) from Int.emod_eq_of_lt (by omega) (by unfold at4 at this; omega)]
  have hlast := ld13 (ft_zero (f ((blk l pc 16 0).length - 1) (by omega)).1).1
  rw [at_ _ (by omega)] at hlast
  exact ⟨hp, h0, rfl, hl, by omega, at_, fun j hj => (ft_zero (f j hj).1).1, fun j hj => (ft_zero (f j hj).1).2, fun j hj q => (f j hj).2.2 q⟩
theorem rd_bd (f x : Int) : 0 ≤ Dc.rdF f x ∧ Dc.rdF f x < 32 := by unfold Dc.rdF; split <;> omega
theorem rs1_bd (f x : Int) : 0 ≤ Dc.rs1F f x ∧ Dc.rs1F f x < 32 := by unfold Dc.rs1F; split <;> omega
theorem rs2_bd (f x : Int) : 0 ≤ Dc.rs2F f x ∧ Dc.rs2F f x < 32 := by unfold Dc.rs2F; split <;> omega
end Go.Proofs.YtchllaeembmioaaGreatDoor.Ts
namespace Go.Proofs.YtchllaeembmioaaGreatDoor.Dw
open Go.ChangeShapes Go.WideShapes Go.ChangeAt Go.RowKit

def Gr (w w' : World) : Prop := Below w.heap.size w w' ∧ ∀ a, w'.frozen? a = w.frozen? a
theorem Gr.refl (w : World) : Gr w w := ⟨Below.refl _ _, fun _ => rfl⟩
theorem Gr.size {w w' : World} (h : Gr w w') : w.heap.size ≤ w'.heap.size := h.1.size
theorem Gr.trans {a b c : World} (h : Gr a b) (k : Gr b c) : Gr a c := ⟨h.1.trans (k.1.mono h.1.size), fun x => (k.2 x).trans (h.2 x)⟩
theorem Gr.alloc {a w : World} (h : Gr a w) (c : Array Value) (t : TypeId) : Gr a (w.alloc (.cells c t)) := ⟨h.1.alloc h.1.size _, fun x => (frozen?_alloc_cells _ _ _ x).trans (h.2 x)⟩
theorem Gr.setCell {a w : World} (h : Gr a w) {p : Addr} (hp : a.heap.size ≤ p.block) (v : Value) : Gr a (w.setCell p v) := ⟨h.1.setCell hp v, fun x => (World.frozen?_setCell _ _ _ _).trans (h.2 x)⟩
theorem Gr.drewN {a w : World} (h : Gr a w) (n : Nat) : Gr a (w.drewN n) := ⟨⟨h.1.os, h.1.tape, h.1.output, h.1.size, h.1.block⟩, h.2⟩
theorem Gr.cell {w w' : World} (h : Gr w w') (b o : Nat) (hb : b < w.heap.size) : w'.cell? ⟨b, o, none⟩ = w.cell? ⟨b, o, none⟩ := h.1.cell (p := ⟨b, o, none⟩) hb
theorem lt_of_cell {w : World} {b o : Nat} {v : Value} (h : w.cell? ⟨b, o, none⟩ = some v) : b < w.heap.size := by
 by_cases hb : b < w.heap.size
 ·exact hb
 ·have : w.heap[b]? = none := by simp; omega
  simp [World.cell?, this] at h

def look {H : Type} (P : Program) : Nat → TypeId → DataW H → Nat → Option Value
 | 0, _, _, _ => none
 | n + 1, t, d, i =>
  match P.underlying t, d with
  | some .bool, .lit (.bool b) => if i = 0 then some (.bool b) else none
  | some (.int _), .lit (.int k m) => if i = 0 then some (.int k m) else none
  | some (.struct fs), .agg ds =>
   match (List.range fs.size).find? (fun j => match fs[j]? with | some f => decide (f.offset ≤ i) && decide (i < f.offset + P.cellsOf f.type) | none => false) with
   | some j => match fs[j]?, ds[j]? with
    | some f, some e => if f.offset ≤ i ∧ i < f.offset + P.cellsOf f.type then look P n f.type e (i - f.offset) else none
    | _, _ => none
   | none => none
  | some (.array k e), .agg ds =>
   match ds[i / P.cellsOf e]? with
   | some x => if 0 < P.cellsOf e ∧ i / P.cellsOf e < k then look P n e x (i % P.cellsOf e) else none
   | none => none
  | _, _ => none

theorem take_drop_get {α : Type} (cs : List α) (a n i : Nat) (v : α) (h : ((cs.drop a).take n)[i]? = some v) : cs[a + i]? = some v := by
 rw [List.getElem?_take] at h
 split at h
 ·rwa [List.getElem?_drop] at h
 ·cases h

theorem look_cell {H : Type} {enc : TypeId × Value → H} {P : Program} {w : World} {base : Nat} {spare : Nat → Bool} {held : Bool} : (n : Nat) → ∀ {fuel : Nat} {t : TypeId} {cs : List Value} {d : DataW H} {ps : List MemPlace} {i : Nat} {v : Value},
  DataW.trod enc P w base spare held fuel t cs = some (d, ps) → look P n t d i = some v → cs[i]? = some v
 | 0, _, _, _, _, _, _, _, _, hl => by cases hl
 | n + 1, fuel, t, cs, d, ps, i, v, h, hl => by
  unfold look at hl
  split at hl
  ·rename_i ht
   obtain ⟨b, rfl, hx⟩ := DataW.trod_bool ht h
   simp at hx
   split at hl
   ·subst_vars; simpa [hx.1] using hl
   ·cases hl
  ·rename_i ht
   obtain ⟨b, rfl, hx, _⟩ := DataW.trod_int ht h
   simp at hx
   split at hl
   ·subst_vars; simp at hl; rw [← hl, hx.1.1, hx.1.2]; rfl
   ·cases hl
  ·rename_i fs ds ht
   obtain ⟨xs, m, rfl, hx, _, hlen, hel⟩ := DataW.trod_struct ht h
   simp only [Prod.mk.injEq, DataW.agg.injEq] at hx
   split at hl
   ·rename_i j _
    split at hl
    ·rename_i f e hf he
     split at hl
     ·rename_i hi
      have hE := hel j f hf
      rw [hx.1, List.getElem?_map] at he
      cases hy : xs[j]? with
      | none => simp [hy] at he
      | some y =>
       rw [hy] at hE he
       simp at he
       have := look_cell n (d := e) (ps := y.2) (by rw [hE, ← he]) hl
       have := take_drop_get _ _ _ _ _ this
       rwa [show f.offset + (i - f.offset) = i by omega] at this
     ·cases hl
    ·cases hl
   ·cases hl
  ·rename_i k e ds ht
   obtain ⟨xs, m, rfl, hx, _, hlen, hel⟩ := DataW.trod_array ht h
   simp only [Prod.mk.injEq, DataW.agg.injEq] at hx
   split at hl
   ·rename_i x he
    split at hl
    ·rename_i hi
     have hE := hel _ hi.2
     rw [hx.1, List.getElem?_map] at he
     cases hy : xs[i / P.cellsOf e]? with
     | none => simp [hy] at he
     | some y =>
      rw [hy] at hE he
      simp at he
      have := look_cell n (d := x) (ps := y.2) (by rw [hE, ← he]) hl
      have := take_drop_get _ _ _ _ _ this
      rwa [Nat.mul_comm, Nat.div_add_mod] at this
    ·cases hl
   ·cases hl
  ·cases hl

def shape (told : Int) (rd rs1 rs2 : Bool) (imm : List Int) (spare : Int) : List Value := [.int .u32 told, .bool rd, .bool rs1, .bool rs2] ++ imm.map (fun n => .int .i64 n) ++ [.int .i64 spare]
def pieces (f : Nat) : List Int := match f with
 | 1 => [12, 12, 20, 0, 0, 0, 0, 0, 0, 0, 0, 0] | 2 => [31, 20, 1, 12, 12, 8, 20, 11, 1, 21, 1, 10] | 3 => [20, 0, 12, 0, 0, 0, 0, 0, 0, 0, 0, 0] | 4 => [20, 0, 5, 0, 0, 0, 0, 0, 0, 0, 0, 0]
 | 5 => [31, 12, 1, 7, 11, 1, 25, 5, 6, 8, 1, 4] | 6 => [25, 5, 7, 7, 0, 5, 0, 0, 0, 0, 0, 0] | 8 => [25, 0, 2, 0, 0, 0, 0, 0, 0, 0, 0, 0] | _ => [0, 0, 0, 0, 0, 0, 0, 0, 0, 0, 0, 0]
def spare (f : Nat) : Int := match f with | 2 => 11 | 3 => 20 | 5 => 19 | 6 => 20 | _ => 0
def shapes : List Value := (List.range 10).flatMap fun (f : Nat) => shape (Dc.mask f) (Dc.hasRd f) (Dc.hasRs1 f) (Dc.hasRs2 f) (pieces f) (spare f)

structure Tab (w : World) : Prop where
 shapes : ∀ i v, shapes[i]? = some v → w.cell? ⟨0, i, none⟩ = some v
 uppers : ∀ i n, Dc.uppers[i]? = some n → w.cell? ⟨5, i, none⟩ = some (.int .u32 n)
theorem Tab.of {w w' : World} (h : Tab w) (g : Gr w w') : Tab w' :=
 ⟨fun i v hi => (g.cell _ _ (lt_of_cell (h.shapes i v hi))).trans (h.shapes i v hi), fun i v hi => (g.cell _ _ (lt_of_cell (h.uppers i v hi))).trans (h.uppers i v hi)⟩

theorem gShapes : Tryz.prog.globalNamed "ferrybridge/decode.shapes" = some 0 := by kernel_rfl
theorem gUppers : Tryz.prog.globalNamed "ferrybridge/decode.uppers" = some 5 := by kernel_rfl
theorem tShapes : (Tryz.prog.globals[0]?).map (·.type) = some 185 := by kernel_rfl
theorem tUppers : (Tryz.prog.globals[5]?).map (·.type) = some 216 := by kernel_rfl
theorem lookShapes : (List.range 170).map (look Tryz.prog 5 185 (Rows.laid_ferrybridge_decode_shapes (H := Unit))) = shapes.map some := by kernel_rfl
theorem lookUppers : (List.range 60).map (look Tryz.prog 3 216 (Rows.laid_ferrybridge_decode_uppers (H := Unit))) = Dc.uppers.map fun n => some (.int .u32 n) := by kernel_rfl
theorem look_of {d : DataW Unit} {n t N : Nat} {l : List Value} (h : (List.range N).map (look Tryz.prog n t d) = l.map some) {i : Nat} {v : Value} (hi : l[i]? = some v) : look Tryz.prog n t d i = some v := by
 have e := congrArg (·[i]?) h
 simp only [List.getElem?_map, hi, Option.map_some] at e
 cases hr : (List.range N)[i]? with
 | none => simp [hr] at e
 | some j =>
  rw [hr] at e
  have : j = i := by
   rw [List.getElem?_eq_some_iff] at hr
   obtain ⟨_, hr⟩ := hr
   simpa using hr.symm
  subst this
  simpa using e
end Go.Proofs.YtchllaeembmioaaGreatDoor.Dw
namespace Go.Proofs.YtchllaeembmioaaGreatDoor.Re
open Go.ChangeShapes Go.WideShapes Go.ChangeAt Go.RowKit Dw

theorem ret_int {k : IntKind} {a b : Int} (h : a = b) : Ending.returned (.int k a) = .returned (.int k b) := by rw [h]
theorem Signed_any (a : Int) (w : World) (ha : 0 ≤ a) (ha' : a < 4294967296) :
  Calls Tryz.prog 47 #[.int .u32 a] w fun e w' => e = .returned (.int .i64 (Wd.sg a)) ∧ w' = w := by
 by_cases h : a < 2147483648
 ·have H : Hid (Wd.sg a = a) := (if_pos h : Wd.sg a = a)
  go_enter Tryz.func47, Tryz.ntmps47
  go_wp2
  go_ret
  exact ⟨ret_int H.out.symm, rfl⟩
 ·have H : Hid (Wd.sg a = a - 4294967296) := (if_neg h : Wd.sg a = _)
  go_enter Tryz.func47, Tryz.ntmps47
  go_wp2
  go_ret
  exact ⟨ret_int H.out.symm, rfl⟩
theorem Power_any (n : Nat) (w : World) (hn : n ≤ 32) :
  Calls Tryz.prog 59 #[.int .i64 n] w fun e w' => e = .returned (.int .i64 ((2 ^ n : Nat) : Int)) ∧ w' = w := by
 go_enter Tryz.func59, Tryz.ntmps59
 go_wp2
 go_loop [3, 4] (fun p i => ∃ k : Nat, k ≤ n ∧ i = .int .i64 k ∧ p = .int .i64 ((2 ^ k : Nat) : Int)) (fun _ i => n - (intOf i).toNat)
 case atStart => exact ⟨0, Nat.zero_le _, rfl, rfl⟩
 case round =>
  obtain ⟨k, hk, rfl, rfl⟩ := hrel
  by_cases hlt : k < n
  ·have h2 : 2 ^ k ≤ 2 ^ 32 := Nat.pow_le_pow_right (by omega) (by omega)
   have HS : Hid (2 ^ (k + 1) = 2 ^ k + 2 ^ k) := (by rw [Nat.pow_succ]; omega : 2 ^ (k + 1) = _)
   generalize 2 ^ k = P at *
   go_wp2
   go_round
   case rel => exact ⟨k + 1, by omega, by go_num, by rw [HS.out]; go_num⟩
   case measure => simp [intOf]; omega
  ·obtain rfl : k = n := by omega
   go_wp2
   go_ret
   exact ⟨rfl, rfl⟩
theorem Power_as (n P : Int) (w : World) (h0 : 0 ≤ n) (h1 : n ≤ 32) (hP : ((2 ^ n.toNat : Nat) : Int) = P) :
  Calls Tryz.prog 59 #[.int .i64 n] w fun e w' => e = .returned (.int .i64 P) ∧ w' = w := by
 have := Power_any n.toNat w (by omega)
 rw [hP, show ((n.toNat : Nat) : Int) = n by omega] at this
 exact this
theorem pw0 (w : World) : Calls Tryz.prog 59 #[.int .i64 0] w fun e w' => e = .returned (.int .i64 1) ∧ w' = w := Power_as 0 1 w (by omega) (by omega) (by decide)
theorem pw1 (w : World) : Calls Tryz.prog 59 #[.int .i64 1] w fun e w' => e = .returned (.int .i64 2) ∧ w' = w := Power_as 1 2 w (by omega) (by omega) (by decide)
theorem pw2 (w : World) : Calls Tryz.prog 59 #[.int .i64 2] w fun e w' => e = .returned (.int .i64 4) ∧ w' = w := Power_as 2 4 w (by omega) (by omega) (by decide)
theorem pw3 (w : World) : Calls Tryz.prog 59 #[.int .i64 3] w fun e w' => e = .returned (.int .i64 8) ∧ w' = w := Power_as 3 8 w (by omega) (by omega) (by decide)
theorem pw4 (w : World) : Calls Tryz.prog 59 #[.int .i64 4] w fun e w' => e = .returned (.int .i64 16) ∧ w' = w := Power_as 4 16 w (by omega) (by omega) (by decide)
theorem pw5 (w : World) : Calls Tryz.prog 59 #[.int .i64 5] w fun e w' => e = .returned (.int .i64 32) ∧ w' = w := Power_as 5 32 w (by omega) (by omega) (by decide)
theorem pw6 (w : World) : Calls Tryz.prog 59 #[.int .i64 6] w fun e w' => e = .returned (.int .i64 64) ∧ w' = w := Power_as 6 64 w (by omega) (by omega) (by decide)
theorem pw7 (w : World) : Calls Tryz.prog 59 #[.int .i64 7] w fun e w' => e = .returned (.int .i64 128) ∧ w' = w := Power_as 7 128 w (by omega) (by omega) (by decide)
theorem pw8 (w : World) : Calls Tryz.prog 59 #[.int .i64 8] w fun e w' => e = .returned (.int .i64 256) ∧ w' = w := Power_as 8 256 w (by omega) (by omega) (by decide)
theorem pw10 (w : World) : Calls Tryz.prog 59 #[.int .i64 10] w fun e w' => e = .returned (.int .i64 1024) ∧ w' = w := Power_as 10 1024 w (by omega) (by omega) (by decide)
theorem pw11 (w : World) : Calls Tryz.prog 59 #[.int .i64 11] w fun e w' => e = .returned (.int .i64 2048) ∧ w' = w := Power_as 11 2048 w (by omega) (by omega) (by decide)
theorem pw12 (w : World) : Calls Tryz.prog 59 #[.int .i64 12] w fun e w' => e = .returned (.int .i64 4096) ∧ w' = w := Power_as 12 4096 w (by omega) (by omega) (by decide)
theorem pw15 (w : World) : Calls Tryz.prog 59 #[.int .i64 15] w fun e w' => e = .returned (.int .i64 32768) ∧ w' = w := Power_as 15 32768 w (by omega) (by omega) (by decide)
theorem pw20 (w : World) : Calls Tryz.prog 59 #[.int .i64 20] w fun e w' => e = .returned (.int .i64 1048576) ∧ w' = w := Power_as 20 1048576 w (by omega) (by omega) (by decide)
theorem pw21 (w : World) : Calls Tryz.prog 59 #[.int .i64 21] w fun e w' => e = .returned (.int .i64 2097152) ∧ w' = w := Power_as 21 2097152 w (by omega) (by omega) (by decide)
theorem pw25 (w : World) : Calls Tryz.prog 59 #[.int .i64 25] w fun e w' => e = .returned (.int .i64 33554432) ∧ w' = w := Power_as 25 33554432 w (by omega) (by omega) (by decide)
theorem pw27 (w : World) : Calls Tryz.prog 59 #[.int .i64 27] w fun e w' => e = .returned (.int .i64 134217728) ∧ w' = w := Power_as 27 134217728 w (by omega) (by omega) (by decide)
theorem pw31 (w : World) : Calls Tryz.prog 59 #[.int .i64 31] w fun e w' => e = .returned (.int .i64 2147483648) ∧ w' = w := Power_as 31 2147483648 w (by omega) (by omega) (by decide)
theorem Cut_0_6 (a : Int) (w : World) (ha : 0 ≤ a) (ha' : a < 4294967296) :
  Calls Tryz.prog 46 #[.int .u32 a, .int .i64 0, .int .i64 6] w fun e w' => e = .returned (.int .i64 (a % 128)) ∧ w' = w := by
 go_enter Tryz.func46, Tryz.ntmps46
 go_wp2_with fail
 refine (pw0 _).mono ?_
 rintro e w' ⟨rfl, rfl⟩
 go_wp2_with fail
 refine (pw7 _).mono ?_
 rintro e w' ⟨rfl, rfl⟩
 go_wp2_with fail
 go_ret
 exact ⟨rfl, rfl⟩
theorem Cut_12_14 (a : Int) (w : World) (ha : 0 ≤ a) (ha' : a < 4294967296) :
  Calls Tryz.prog 46 #[.int .u32 a, .int .i64 12, .int .i64 14] w fun e w' => e = .returned (.int .i64 (a / 4096 % 8)) ∧ w' = w := by
 go_enter Tryz.func46, Tryz.ntmps46
 go_wp2_with fail
 refine (pw12 _).mono ?_
 rintro e w' ⟨rfl, rfl⟩
 go_wp2_with fail
 refine (pw3 _).mono ?_
 rintro e w' ⟨rfl, rfl⟩
 go_wp2_with fail
 go_ret
 exact ⟨rfl, rfl⟩
theorem Cut_25_31 (a : Int) (w : World) (ha : 0 ≤ a) (ha' : a < 4294967296) :
  Calls Tryz.prog 46 #[.int .u32 a, .int .i64 25, .int .i64 31] w fun e w' => e = .returned (.int .i64 (a / 33554432)) ∧ w' = w := by
 go_enter Tryz.func46, Tryz.ntmps46
 go_wp2_with fail
 refine (pw25 _).mono ?_
 rintro e w' ⟨rfl, rfl⟩
 go_wp2_with fail
 go_ret
 exact ⟨rfl, rfl⟩
theorem Cut_27_31 (a : Int) (w : World) (ha : 0 ≤ a) (ha' : a < 4294967296) :
  Calls Tryz.prog 46 #[.int .u32 a, .int .i64 27, .int .i64 31] w fun e w' => e = .returned (.int .i64 (a / 134217728)) ∧ w' = w := by
 go_enter Tryz.func46, Tryz.ntmps46
 go_wp2_with fail
 refine (pw27 _).mono ?_
 rintro e w' ⟨rfl, rfl⟩
 go_wp2_with fail
 go_ret
 exact ⟨rfl, rfl⟩
theorem Cut_20_24 (a : Int) (w : World) (ha : 0 ≤ a) (ha' : a < 4294967296) :
  Calls Tryz.prog 46 #[.int .u32 a, .int .i64 20, .int .i64 24] w fun e w' => e = .returned (.int .i64 (a / 1048576 % 32)) ∧ w' = w := by
 go_enter Tryz.func46, Tryz.ntmps46
 go_wp2_with fail
 refine (pw20 _).mono ?_
 rintro e w' ⟨rfl, rfl⟩
 go_wp2_with fail
 refine (pw5 _).mono ?_
 rintro e w' ⟨rfl, rfl⟩
 go_wp2_with fail
 go_ret
 exact ⟨rfl, rfl⟩
theorem Cut_7_11 (a : Int) (w : World) (ha : 0 ≤ a) (ha' : a < 4294967296) :
  Calls Tryz.prog 46 #[.int .u32 a, .int .i64 7, .int .i64 11] w fun e w' => e = .returned (.int .i64 (a / 128 % 32)) ∧ w' = w := by
 go_enter Tryz.func46, Tryz.ntmps46
 go_wp2_with fail
 refine (pw7 _).mono ?_
 rintro e w' ⟨rfl, rfl⟩
 go_wp2_with fail
 refine (pw5 _).mono ?_
 rintro e w' ⟨rfl, rfl⟩
 go_wp2_with fail
 go_ret
 exact ⟨rfl, rfl⟩
theorem Cut_15_19 (a : Int) (w : World) (ha : 0 ≤ a) (ha' : a < 4294967296) :
  Calls Tryz.prog 46 #[.int .u32 a, .int .i64 15, .int .i64 19] w fun e w' => e = .returned (.int .i64 (a / 32768 % 32)) ∧ w' = w := by
 go_enter Tryz.func46, Tryz.ntmps46
 go_wp2_with fail
 refine (pw15 _).mono ?_
 rintro e w' ⟨rfl, rfl⟩
 go_wp2_with fail
 refine (pw5 _).mono ?_
 rintro e w' ⟨rfl, rfl⟩
 go_wp2_with fail
 go_ret
 exact ⟨rfl, rfl⟩
theorem Cut_31_31 (a : Int) (w : World) (ha : 0 ≤ a) (ha' : a < 4294967296) :
  Calls Tryz.prog 46 #[.int .u32 a, .int .i64 31, .int .i64 31] w fun e w' => e = .returned (.int .i64 (a / 2147483648)) ∧ w' = w := by
 go_enter Tryz.func46, Tryz.ntmps46
 go_wp2_with fail
 refine (pw31 _).mono ?_
 rintro e w' ⟨rfl, rfl⟩
 go_wp2_with fail
 go_ret
 exact ⟨rfl, rfl⟩
theorem Cut_0_11 (a : Int) (w : World) (ha : 0 ≤ a) (ha' : a < 4294967296) :
  Calls Tryz.prog 46 #[.int .u32 a, .int .i64 0, .int .i64 11] w fun e w' => e = .returned (.int .i64 (a % 4096)) ∧ w' = w := by
 go_enter Tryz.func46, Tryz.ntmps46
 go_wp2_with fail
 refine (pw0 _).mono ?_
 rintro e w' ⟨rfl, rfl⟩
 go_wp2_with fail
 refine (pw12 _).mono ?_
 rintro e w' ⟨rfl, rfl⟩
 go_wp2_with fail
 go_ret
 exact ⟨rfl, rfl⟩
theorem Cut_12_19 (a : Int) (w : World) (ha : 0 ≤ a) (ha' : a < 4294967296) :
  Calls Tryz.prog 46 #[.int .u32 a, .int .i64 12, .int .i64 19] w fun e w' => e = .returned (.int .i64 (a / 4096 % 256)) ∧ w' = w := by
 go_enter Tryz.func46, Tryz.ntmps46
 go_wp2_with fail
 refine (pw12 _).mono ?_
 rintro e w' ⟨rfl, rfl⟩
 go_wp2_with fail
 refine (pw8 _).mono ?_
 rintro e w' ⟨rfl, rfl⟩
 go_wp2_with fail
 go_ret
 exact ⟨rfl, rfl⟩
theorem Cut_20_20 (a : Int) (w : World) (ha : 0 ≤ a) (ha' : a < 4294967296) :
  Calls Tryz.prog 46 #[.int .u32 a, .int .i64 20, .int .i64 20] w fun e w' => e = .returned (.int .i64 (a / 1048576 % 2)) ∧ w' = w := by
 go_enter Tryz.func46, Tryz.ntmps46
 go_wp2_with fail
 refine (pw20 _).mono ?_
 rintro e w' ⟨rfl, rfl⟩
 go_wp2_with fail
 refine (pw1 _).mono ?_
 rintro e w' ⟨rfl, rfl⟩
 go_wp2_with fail
 go_ret
 exact ⟨rfl, rfl⟩
theorem Cut_21_30 (a : Int) (w : World) (ha : 0 ≤ a) (ha' : a < 4294967296) :
  Calls Tryz.prog 46 #[.int .u32 a, .int .i64 21, .int .i64 30] w fun e w' => e = .returned (.int .i64 (a / 2097152 % 1024)) ∧ w' = w := by
 go_enter Tryz.func46, Tryz.ntmps46
 go_wp2_with fail
 refine (pw21 _).mono ?_
 rintro e w' ⟨rfl, rfl⟩
 go_wp2_with fail
 refine (pw10 _).mono ?_
 rintro e w' ⟨rfl, rfl⟩
 go_wp2_with fail
 go_ret
 exact ⟨rfl, rfl⟩
theorem Cut_20_31 (a : Int) (w : World) (ha : 0 ≤ a) (ha' : a < 4294967296) :
  Calls Tryz.prog 46 #[.int .u32 a, .int .i64 20, .int .i64 31] w fun e w' => e = .returned (.int .i64 (a / 1048576)) ∧ w' = w := by
 go_enter Tryz.func46, Tryz.ntmps46
 go_wp2_with fail
 refine (pw20 _).mono ?_
 rintro e w' ⟨rfl, rfl⟩
 go_wp2_with fail
 go_ret
 exact ⟨rfl, rfl⟩
theorem Cut_7_7 (a : Int) (w : World) (ha : 0 ≤ a) (ha' : a < 4294967296) :
  Calls Tryz.prog 46 #[.int .u32 a, .int .i64 7, .int .i64 7] w fun e w' => e = .returned (.int .i64 (a / 128 % 2)) ∧ w' = w := by
 go_enter Tryz.func46, Tryz.ntmps46
 go_wp2_with fail
 refine (pw7 _).mono ?_
 rintro e w' ⟨rfl, rfl⟩
 go_wp2_with fail
 refine (pw1 _).mono ?_
 rintro e w' ⟨rfl, rfl⟩
 go_wp2_with fail
 go_ret
 exact ⟨rfl, rfl⟩
theorem Cut_25_30 (a : Int) (w : World) (ha : 0 ≤ a) (ha' : a < 4294967296) :
  Calls Tryz.prog 46 #[.int .u32 a, .int .i64 25, .int .i64 30] w fun e w' => e = .returned (.int .i64 (a / 33554432 % 64)) ∧ w' = w := by
 go_enter Tryz.func46, Tryz.ntmps46
 go_wp2_with fail
 refine (pw25 _).mono ?_
 rintro e w' ⟨rfl, rfl⟩
 go_wp2_with fail
 refine (pw6 _).mono ?_
 rintro e w' ⟨rfl, rfl⟩
 go_wp2_with fail
 go_ret
 exact ⟨rfl, rfl⟩
theorem Cut_8_11 (a : Int) (w : World) (ha : 0 ≤ a) (ha' : a < 4294967296) :
  Calls Tryz.prog 46 #[.int .u32 a, .int .i64 8, .int .i64 11] w fun e w' => e = .returned (.int .i64 (a / 256 % 16)) ∧ w' = w := by
 go_enter Tryz.func46, Tryz.ntmps46
 go_wp2_with fail
 refine (pw8 _).mono ?_
 rintro e w' ⟨rfl, rfl⟩
 go_wp2_with fail
 refine (pw4 _).mono ?_
 rintro e w' ⟨rfl, rfl⟩
 go_wp2_with fail
 go_ret
 exact ⟨rfl, rfl⟩
theorem Cut_25_26 (a : Int) (w : World) (ha : 0 ≤ a) (ha' : a < 4294967296) :
  Calls Tryz.prog 46 #[.int .u32 a, .int .i64 25, .int .i64 26] w fun e w' => e = .returned (.int .i64 (a / 33554432 % 4)) ∧ w' = w := by
 go_enter Tryz.func46, Tryz.ntmps46
 go_wp2_with fail
 refine (pw25 _).mono ?_
 rintro e w' ⟨rfl, rfl⟩
 go_wp2_with fail
 refine (pw2 _).mono ?_
 rintro e w' ⟨rfl, rfl⟩
 go_wp2_with fail
 go_ret
 exact ⟨rfl, rfl⟩
theorem signed_12 (n : Int) (w : World) (h0 : 0 ≤ n) (h1 : n < 4096) :
  Calls Tryz.prog 48 #[.int .i64 n, .int .i64 12] w fun e w' => e = .returned (.int .i32 (Dc.sgn 2048 n)) ∧ w' = w := by
 by_cases h : 2048 ≤ n
 ·have H : Hid (Dc.sgn 2048 n = n - 4096) := (if_pos h : Dc.sgn 2048 n = _)
  go_enter Tryz.func48, Tryz.ntmps48
  go_wp2_with fail
  refine (pw11 _).mono ?_
  rintro e w' ⟨rfl, rfl⟩
  go_wp2_with fail
  refine (pw11 _).mono ?_
  rintro e w' ⟨rfl, rfl⟩
  go_wp2_with fail
  go_ret
  rw [H.out]
  exact ⟨rfl, rfl⟩
 ·have H : Hid (Dc.sgn 2048 n = n) := (if_neg h : Dc.sgn 2048 n = _)
  go_enter Tryz.func48, Tryz.ntmps48
  go_wp2_with fail
  refine (pw11 _).mono ?_
  rintro e w' ⟨rfl, rfl⟩
  go_wp2_with fail
  go_ret
  rw [H.out]
  exact ⟨rfl, rfl⟩
theorem signed_13 (n : Int) (w : World) (h0 : 0 ≤ n) (h1 : n < 8192) :
  Calls Tryz.prog 48 #[.int .i64 n, .int .i64 13] w fun e w' => e = .returned (.int .i32 (Dc.sgn 4096 n)) ∧ w' = w := by
 by_cases h : 4096 ≤ n
 ·have H : Hid (Dc.sgn 4096 n = n - 8192) := (if_pos h : Dc.sgn 4096 n = _)
  go_enter Tryz.func48, Tryz.ntmps48
  go_wp2_with fail
  refine (pw12 _).mono ?_
  rintro e w' ⟨rfl, rfl⟩
  go_wp2_with fail
  refine (pw12 _).mono ?_
  rintro e w' ⟨rfl, rfl⟩
  go_wp2_with fail
  go_ret
  rw [H.out]
  exact ⟨rfl, rfl⟩
 ·have H : Hid (Dc.sgn 4096 n = n) := (if_neg h : Dc.sgn 4096 n = _)
  go_enter Tryz.func48, Tryz.ntmps48
  go_wp2_with fail
  refine (pw12 _).mono ?_
  rintro e w' ⟨rfl, rfl⟩
  go_wp2_with fail
  go_ret
  rw [H.out]
  exact ⟨rfl, rfl⟩
theorem signed_21 (n : Int) (w : World) (h0 : 0 ≤ n) (h1 : n < 2097152) :
  Calls Tryz.prog 48 #[.int .i64 n, .int .i64 21] w fun e w' => e = .returned (.int .i32 (Dc.sgn 1048576 n)) ∧ w' = w := by
 by_cases h : 1048576 ≤ n
 ·have H : Hid (Dc.sgn 1048576 n = n - 2097152) := (if_pos h : Dc.sgn 1048576 n = _)
  go_enter Tryz.func48, Tryz.ntmps48
  go_wp2_with fail
  refine (pw20 _).mono ?_
  rintro e w' ⟨rfl, rfl⟩
  go_wp2_with fail
  refine (pw20 _).mono ?_
  rintro e w' ⟨rfl, rfl⟩
  go_wp2_with fail
  go_ret
  rw [H.out]
  exact ⟨rfl, rfl⟩
 ·have H : Hid (Dc.sgn 1048576 n = n) := (if_neg h : Dc.sgn 1048576 n = _)
  go_enter Tryz.func48, Tryz.ntmps48
  go_wp2_with fail
  refine (pw20 _).mono ?_
  rintro e w' ⟨rfl, rfl⟩
  go_wp2_with fail
  go_ret
  rw [H.out]
  exact ⟨rfl, rfl⟩
def pkR (n : Int) : List (Int × Int) → Int
 | [] => -1
 | (a, o) :: r => if n = a then o else pkR n r
theorem pkR_at {n : Int} : (l : List (Int × Int)) → (k : Nat) → (hk : k < l.length) → (∀ j (hj : j < l.length), j < k → l[j].1 ≠ n) → l[k].1 = n → pkR n l = l[k].2
 | (a, o) :: r, 0, _, _, h => if_pos h.symm
 | (a, o) :: r, k + 1, hk, hn, h => by
  have : n ≠ a := fun e => hn 0 (by simp) (by omega) e.symm
  unfold pkR
  rw [if_neg this]
  exact pkR_at r k (by simpa using hk) (fun j hj hjk => hn (j + 1) (by simpa using hj) (by omega)) h
theorem pkR_none {n : Int} : (l : List (Int × Int)) → (∀ j (hj : j < l.length), l[j].1 ≠ n) → pkR n l = -1
 | [], _ => rfl
 | (a, o) :: r, hn => by
  have : n ≠ a := fun e => hn 0 (by simp) e.symm
  unfold pkR
  rw [if_neg this]
  exact pkR_none r fun j hj => hn (j + 1) (by simpa using hj)
theorem pick_any (n : Int) (l : List (Int × Int)) (b1 b2 : Nat) (w : World) (hl : l.length ≤ 20)
  (h1 : ∀ i (hi : i < l.length), w.cell? ⟨b1, i, none⟩ = some (.int .i64 l[i].1)) (h2 : ∀ i (hi : i < l.length), w.cell? ⟨b2, i, none⟩ = some (.int .i64 l[i].2)) :
  Calls Tryz.prog 64 #[.int .i64 n, .slice (some ⟨b1, 0, none⟩) l.length l.length, .slice (some ⟨b2, 0, none⟩) l.length l.length] w fun e w' => e = .returned (.int .i64 (pkR n l)) ∧ w' = w := by
 go_enter Tryz.func64, Tryz.ntmps64
 go_wp2
 go_loop [7] (fun i => ∃ k : Nat, i = .int .i64 k ∧ k ≤ l.length ∧ ∀ j (hj : j < l.length), j < k → l[j].1 ≠ n) (fun i => l.length - (intOf i).toNat)
 case atStart => exact ⟨0, rfl, Nat.zero_le _, fun j _ hj => by omega⟩
 case round =>
  obtain ⟨k, rfl, hk, hn⟩ := hrel
  by_cases hlt : k < l.length
  ·have c1 := h1 k hlt
   have c2 := h2 k hlt
   have N : Hid (∀ j (hj : j < l.length), j < k → l[j].1 ≠ n) := hn
   have H1 : Hid (∀ i (hi : i < l.length), w.cell? ⟨b1, i, none⟩ = some (.int .i64 l[i].1)) := h1
   clear h1 h2 hn
   by_cases he : l[k].1 = n
   ·have E : Hid (pkR n l = l[k].2) := pkR_at l k hlt N.out he
    have be : (l[k].1 == n) = true := by simpa using he
    clear he
    generalize l[k].1 = x at *
    generalize l[k].2 = y at *
    go_wp2
    go_ret
    exact ⟨ret_int E.out.symm, rfl⟩
   ·have be : (l[k].1 == n) = false := by simpa using he
    have he' : Hid (l[k].1 ≠ n) := he
    clear he
    generalize hx : l[k].1 = x at *
    clear hx c2
    go_wp2
    go_round
    case rel =>
     refine ⟨k + 1, by go_num, by omega, fun j hj hjk => ?_⟩
     by_cases e : j = k
     ·subst e
      have := H1.out j hj
      rw [c1] at this
      simp at this
      rw [← this]; exact he'.out
     ·exact N.out j hj (by omega)
    case measure => simp [intOf]; omega
  ·have E : Hid (pkR n l = -1) := pkR_none l fun j hj => hn j hj (by omega)
   clear h1 h2 hn
   go_wp2
   go_ret
   exact ⟨ret_int E.out.symm, rfl⟩
end Go.Proofs.YtchllaeembmioaaGreatDoor.Re
