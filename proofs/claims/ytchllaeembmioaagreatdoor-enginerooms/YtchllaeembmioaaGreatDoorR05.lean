/-
  Hm1, Hm2, Kr3, Kr5, Kd: texts of ours that lie in one file.
-/
import Derived.Test.YtchllaeembmioaaGreatDoorR03
import Derived.Test.YtchllaeembmioaaGreatDoorR04
import Derived.Deep.RegionLaw
import Derived.Test.YtchllaeembmioaaGreatDoorR01
set_option linter.unusedVariables false
set_option linter.unusedSimpArgs false
set_option maxHeartbeats 8000000
set_option maxRecDepth 100000
namespace Go.Proofs.YtchllaeembmioaaGreatDoor.Hc
open Go.ChangeShapes Go.WideShapes Go.ChangeAt Go.RowKit Mm Hh

theorem within_any (n a b : Int) (w : World) : Calls Tryz.prog 90 #[.int .i64 n, .int .i64 a, .int .i64 b] w fun e w' => e = .returned (.bool (decide (a ≤ n) && decide (n ≤ b))) ∧ w' = w := by
  by_cases h1 : a ≤ n
  · by_cases h2 : n ≤ b
    · go_enter Tryz.func90, Tryz.ntmps90
      go_wp2
      go_ret
      exact ⟨ret_bool (by simp [h1, h2]), rfl⟩
    · go_enter Tryz.func90, Tryz.ntmps90
      go_wp2
      go_ret
      exact ⟨ret_bool (by simp [h1, h2]), rfl⟩
  · go_enter Tryz.func90, Tryz.ntmps90
    go_wp2
    go_ret
    exact ⟨ret_bool (by simp; omega), rfl⟩

theorem may_get (h : Hv) (o : h.Ok) : (hA h)[0]? = some (.int .u32 (rg h 0)) ∧ (hA h)[33]? = some (.bool h.held) ∧ (hA h)[34]? = some (.int .u32 h.heldAt) ∧ (hA h)[35]? = some (.int .i64 h.state) ∧ (hA h)[36]? = some (.int .i64 h.cause) := by
  unfold hA
  simp only [List.getElem?_toArray]
  exact ⟨hL_reg o (by omega), hL_fld o 1, hL_fld o 2, hL_fld o 3, hL_fld o 4⟩


theorem may_any {h : Hv} (o : h.Ok) (w : World) : Calls Tryz.prog 69 #[.agg (hA h)] w fun e w' => e = .returned (.bool (may h)) ∧ Gr w w' := by
  obtain ⟨c0, c1, c2, c3, c4⟩ := may_get h o
  have HM : Hid (may h = decide (rg h 0 = 0 ∧ (h.held = false → h.heldAt = 0) ∧ (((h.state = 0 ∨ h.state = 1) ∧ h.cause = 0) ∨ (h.state = 2 ∧ 1 ≤ h.cause ∧ h.cause ≤ 6)))) := rfl
  generalize may h = M at *
  generalize hA h = A at *
  generalize rg h 0 = x0 at *
  generalize h.held = x1 at *
  generalize h.heldAt = x2 at *
  generalize h.state = x3 at *
  generalize h.cause = x4 at *
  clear o
  cases x1
  all_goals
    go_enter Tryz.func69, Tryz.ntmps69
    go_wp2_with (go_at_call 90; refine (within_any _ _ _ _).mono ?_; rintro e w' ⟨rfl, rfl⟩)
    all_goals
      clear c0 c1 c2 c3 c4
      go_ret
      refine ⟨ret_bool ?_, (Gr.refl _).alloc _⟩
      rw [HM.out, Bool.eq_iff_iff]
      simp at *
      omega

theorem trap_any {w : World} {base g : Nat} {h : Hv} {l : List UInt8} {os : List Int} {ss : List (Int × Int)} (I : In w base g h l os ss) (c : Int) :
    Calls Tryz.prog 67 #[.pointer (some ⟨g, 0, none⟩), .int .i64 c] w fun e w' => e = .returned (.tuple #[]) ∧ In w' base g (h.trap c) l os ss ∧ Ch g w w' := by
  obtain ⟨c0, rfl, I⟩ := I
  have k1 : w.cell? ⟨g, 35, none⟩ = some (.int .i64 c0.h.state) := (I.hcell (by omega)).trans (hL_fld I.ok 3)
  have k2 : w.cell? ⟨g, 36, none⟩ = some (.int .i64 c0.h.cause) := (I.hcell (by omega)).trans (hL_fld I.ok 4)
  have fz := I.fz
  have o1 : Hv.Ok { c0.h with state := 2 } := ⟨I.ok.len, I.ok.reg, I.ok.pc0, I.ok.pc1, I.ok.at0, I.ok.at1⟩
  have J : Hid (Inv ((w.setCell ⟨g, 35, none⟩ (.int .i64 2)).setCell ⟨g, 36, none⟩ (.int .i64 c)) base g { c0 with h := c0.h.trap c } l os ss) :=
    (I.set (by omega) (set_state I.ok 2) o1).set (c := { c0 with h := { c0.h with state := 2 } }) (by omega) (set_cause o1 c) (I.ok.trap c)
  generalize c0.h.state = x1 at k1
  generalize c0.h.cause = x2 at k2
  clear I o1
  go_enter Tryz.func67, Tryz.ntmps67
  go_wp2
  go_end0
  exact ⟨rfl, ⟨_, rfl, J.out⟩, ((Ch.refl g w).setCell _ _).setCell _ _⟩

theorem set_any {w : World} {base g : Nat} {h : Hv} {l : List UInt8} {os : List Int} {ss : List (Int × Int)} (I : In w base g h l os ss) (r x : Int) (h0 : 0 ≤ r) (h1 : r < 32) (hx0 : 0 ≤ x) (hx1 : x < 4294967296) :
    Calls Tryz.prog 89 #[.pointer (some ⟨g, 0, none⟩), .int .i64 r, .int .u32 x] w fun e w' => e = .returned (.tuple #[]) ∧ In w' base g (h.set r.toNat x) l os ss ∧ Ch g w w' := by
  obtain ⟨c0, rfl, I⟩ := I
  obtain ⟨r, rfl⟩ := Int.eq_ofNat_of_zero_le h0
  simp only [Int.toNat_natCast]
  by_cases hr : r = 0
  · subst hr
    have J : Hid (Inv w base g c0 l os ss) := I
    clear I
    go_enter Tryz.func89, Tryz.ntmps89
    go_wp2
    go_end0
    exact ⟨rfl, ⟨c0, rfl, J.out⟩, Ch.refl g w⟩
  · have hr2 : r < 32 := by omega
    have k1 := I.reg hr2
    have fz := I.fz
    have e : c0.h.set r x = { c0.h with regs := c0.h.regs.set r x } := if_neg hr
    have ok := I.ok.set r hx0 hx1
    rw [e] at ok ⊢
    have J : Hid (Inv (w.setCell ⟨g, r, none⟩ (.int .u32 x)) base g { c0 with h := { c0.h with regs := c0.h.regs.set r x } } l os ss) := I.set (by omega) (set_reg I.ok hr2 x) ok
    have hr' : ¬ (r : Int) = 0 := by omega
    generalize rg c0.h r = y at k1
    clear I e ok
    go_enter Tryz.func89, Tryz.ntmps89
    go_wp2
    go_end0
    exact ⟨rfl, ⟨_, rfl, J.out⟩, (Ch.refl g w).setCell _ _⟩

theorem Load_any {w : World} {base g : Nat} {h : Hv} {l : List UInt8} {os : List Int} {ss : List (Int × Int)} (I : In w base g h l os ss) (hl : l.length ≤ 140737488351232) (op a : Int) (h0 : 0 ≤ a) (h1 : a < 4294967296) :
    Calls Tryz.prog 110 #[.pointer (some ⟨g, 0, none⟩), .int .i64 op, .int .u32 a] w fun e w' => e = .returned (.tuple #[.int .u32 (ldV l op a), .bool (ldOk l op a)]) ∧ In w' base g (if ldOk l op a = true then h else h.trap 3) l os ss ∧ Ch g w w' := by
  have T : Hid (∀ c, Calls Tryz.prog 67 #[.pointer (some ⟨g, 0, none⟩), .int .i64 c] w fun e w' => e = .returned (.tuple #[]) ∧ In w' base g (h.trap c) l os ss ∧ Ch g w w') := fun c => trap_any I c
  have HI : Hid (In w base g h l os ss) := I
  obtain ⟨c0, rfl, I⟩ := I
  obtain ⟨ao, cap, hm, M⟩ := I.mem.mem
  have k1 : w.cell? ⟨g, 37, none⟩ = some (.slice ao l.length cap) := (I.fcell 0).trans (by rw [hm]; rfl)
  have L : Hid (Calls Tryz.prog 85 #[.slice ao l.length cap, .int .i64 op, .int .u32 a] w fun e w' => e = .returned (.tuple #[.int .u32 (ldV l op a), .bool (ldOk l op a)]) ∧ w' = w) := Mm.Load_any cap op a M hl h0 h1
  generalize ldV l op a = X at *
  generalize ldOk l op a = B at *
  clear I M hm
  generalize l.length = n at *
  cases B
  · go_enter Tryz.func110, Tryz.ntmps110
    go_wp2_with fail
    refine L.out.mono ?_
    rintro e w' ⟨rfl, rfl⟩
    clear L
    go_wp2_with fail
    refine (T.out 3).mono ?_
    rintro e w2 ⟨rfl, I2, C2⟩
    have HI2 : Hid (In w2 base g (c0.h.trap 3) l os ss) := I2
    clear T I2 k1
    go_wp2
    go_ret2
    exact ⟨rfl, HI2.out, C2⟩
  · go_enter Tryz.func110, Tryz.ntmps110
    go_wp2_with fail
    refine L.out.mono ?_
    rintro e w' ⟨rfl, rfl⟩
    clear L T k1
    go_wp2
    go_ret2
    exact ⟨rfl, HI.out, Ch.refl _ _⟩

theorem andNot1 (x : Int) (h0 : 0 ≤ x) (h1 : x < 4294967296) : bits .andNot .u32 x 1 = x - x % 2 := by
  obtain ⟨x, rfl⟩ := Int.eq_ofNat_of_zero_le h0
  show IntKind.u32.wrap ((BitVec.ofInt 32 (x : Int) &&& ~~~ BitVec.ofInt 32 1).toNat : Int) = _
  have e : (~~~ BitVec.ofInt 32 1).toNat = (2 ^ 31 - 1) * 2 ^ 1 := by decide
  rw [BitVec.toNat_and, ofInt32 x h1, e, Dc.nand_mask]
  show ((x / 2 ^ 1 % 2 ^ 31 * 2 ^ 1 : Nat) : Int) % 4294967296 = _
  omega
theorem next_any {w : World} {base g : Nat} {h : Hv} {l : List UInt8} {os : List Int} {ss : List (Int × Int)} (I : In w base g h l os ss) (op a b n : Int) (ha : 0 ≤ a) (ha' : a < 4294967296) (hb : 0 ≤ b) (hb' : b < 4294967296) (hn : 0 ≤ n) (hn' : n < 4294967296) :
    Calls Tryz.prog 87 #[.pointer (some ⟨g, 0, none⟩), .int .i64 op, .int .u32 a, .int .u32 b, .int .u32 n] w fun e w' => e = .returned (.int .u32 (nxt h op a b n)) ∧ w' = w := by
  obtain ⟨c0, rfl, I⟩ := I
  have k1 : w.cell? ⟨g, 32, none⟩ = some (.int .u32 c0.h.pc) := (I.hcell (by omega)).trans (hL_fld I.ok 0)
  have p0 := I.ok.pc0
  have p1 := I.ok.pc1
  have HN : Hid (nxt c0.h op a b n = if op = 4 then Wd.lo (a + n) - Wd.lo (a + n) % 2 else if op = 3 ∨ Wd.holds op a b = true then Wd.lo (c0.h.pc + n) else Wd.lo (c0.h.pc + 4)) := rfl
  generalize nxt c0.h op a b n = N at *
  generalize c0.h.pc = pc at *
  clear I
  have H : Hid (∀ w, Calls Tryz.prog 109 #[.int .i64 op, .int .u32 a, .int .u32 b] w fun e w' => e = .returned (.bool (Wd.holds op a b)) ∧ w' = w) := fun w => Ww.holds_any op a b w ha ha' hb hb'
  by_cases h4 : op = 4
  · have b4 : (op == 4) = true := by simp [h4]
    have HE : Hid (N = Wd.lo (a + n) - Wd.lo (a + n) % 2) := by unfold Hid; rw [HN.out, if_pos h4]
    clear h4 HN
    go_enter Tryz.func87, Tryz.ntmps87
    go_wp2_with fail
    go_ret
    refine ⟨ret_int ?_, rfl⟩
    rw [HE.out, andNot1 _ (by omega) (by omega)]
    rfl
  · have b4 : (op == 4) = false := by simp [h4]
    by_cases h3 : op = 3
    · have b3 : (op == 3) = true := by simp [h3]
      have HE : Hid (N = Wd.lo (pc + n)) := by unfold Hid; rw [HN.out, if_neg h4, if_pos (.inl h3)]
      clear h4 h3 HN
      go_enter Tryz.func87, Tryz.ntmps87
      go_wp2_with fail
      go_ret
      exact ⟨ret_int (by rw [HE.out]; rfl), rfl⟩
    · have b3 : (op == 3) = false := by simp [h3]
      have HE : Hid (N = if Wd.holds op a b = true then Wd.lo (pc + n) else Wd.lo (pc + 4)) := by unfold Hid; rw [HN.out, if_neg h4]; simp [h3]
      clear h4 h3 HN
      generalize Wd.holds op a b = B at *
      cases B
      · go_enter Tryz.func87, Tryz.ntmps87
        go_wp2_with fail
        refine (H.out _).mono ?_
        rintro e w' ⟨rfl, rfl⟩
        go_wp2_with fail
        go_ret
        exact ⟨ret_int (by rw [HE.out]; rfl), rfl⟩
      · go_enter Tryz.func87, Tryz.ntmps87
        go_wp2_with fail
        refine (H.out _).mono ?_
        rintro e w' ⟨rfl, rfl⟩
        go_wp2_with fail
        go_ret
        exact ⟨ret_int (by rw [HE.out]; rfl), rfl⟩
end Go.Proofs.YtchllaeembmioaaGreatDoor.Hc
namespace Go.Proofs.YtchllaeembmioaaGreatDoor.Hc
open Go.ChangeShapes Go.WideShapes Go.ChangeAt Go.RowKit Mm Hh

theorem step_append_own {P : Program} {ops : Array Oper} {o : Oper} {a : Act} {w : World} {K : Act → World → Prop} {Q : Exit → Act → World → Prop} {E : Prop}
    (hg : o.guard = none) (s x : Operand) (t : TypeId) (hop : o.op = Op.call { callee := Callee.builtin Builtin.append, args := #[s, x], argTypes := #[t, t] })
    (base : Nat) (e : TypeId) (i : TypeInfo) (z : Value) (size bytes : Nat) (h1 : P.underlying t = some (.slice e)) (h2 : P.info? e = some i) (h3 : i.zero = some z) (h4 : i.size = size) (h5 : i.bytes = bytes) (h6 : z.cells.size = size) (h7 : 0 < size)
    (v : Value) (n : Nat) (olds : List Value) (hs : a.eval s = v) (hown : w.ownsRow base e size v n olds)
    (ad : Addr) (m c : Nat) (news : List Value) (hx : a.eval x = .slice (some ad) m c) (hn : news.length = m * size) (hc : ∀ j u, news[j]? = some u → w.cell? (ad.add j) = some u) (h1c : ∀ u ∈ news, u.oneCell' = true)
    (b1 : n + m ≤ maxLen) (b2 : (n + m) * bytes ≤ 140737488355328) (hbase : base ≤ w.heap.size)
    (hK : ∀ v' w', w'.ownsRow base e size v' (n + m) (olds ++ news) → w.grownBy w' v.ownBlock → K (a.put o.dst v') w') :
    if Region.wanted o (yielded ops a.tmps) = true then Oper.wp P o a w K Q else E := by
  have hw : Region.wanted o (yielded ops a.tmps) = true := by simp [Region.wanted, hg]
  rw [if_pos hw]
  obtain ⟨v', w', hrun, r1, r2, _⟩ := run_append_own (P := P) w base t o.type e i z size bytes h1 h2 h3 h4 h5 h6 h7 v n olds hown ad m c news hn hc h1c b1 b2 hbase
  unfold Oper.wp
  simp [execOp, hop, resolve, invoke, builtin, hs, hx, hrun, Result.andThen]
  exact hK v' w' r1 r2

structure Tb (w : World) (base : Nat) : Prop where
  sizes : ∀ i n, ([0, 0, 0, 0, 0, 0, 0, 0, 0, 0, 0, 0, 0, 0, 0, 0, 1, 2, 4] : List Int)[i]? = some n → w.cell? ⟨4, i, none⟩ = some (.int .u32 n)
  opers : ∀ i n, ([0, 0, 0, 0, 0, 0, 0, 0, 0, 0, 0, 0, 0, 0, 0, 0, 0, 0, 0, 28, 31, 32, 33, 36, 37, 30, 34, 35] : List Int)[i]? = some n → w.cell? ⟨1, i, none⟩ = some (.int .i64 n)
  b1 : 4 < base
  b2 : 1 < base
theorem Tb.of {w w' : World} {base : Nat} (T : Tb w base) (h : Fr base w w') : Tb w' base :=
  ⟨fun i n e => (Below.cell h.below (by exact T.b1)).trans (T.sizes i n e), fun i n e => (Below.cell h.below (by exact T.b2)).trans (T.opers i n e), T.b1, T.b2⟩

theorem infoR : (Tryz.prog.info? 109).map (fun i => (i.zero, i.size, i.bytes)) = some (some (.agg #[.int .u32 0, .int .u32 0]), 2, 8) := by kernel_rfl
theorem infoU : (Tryz.prog.info? 42).map (fun i => (i.zero, i.size, i.bytes)) = some (some (.int .u32 0), 1, 4) := by kernel_rfl

theorem Store_no {w : World} {base g : Nat} {h : Hv} {l : List UInt8} {os : List Int} {ss : List (Int × Int)} (I : In w base g h l os ss) (hl : l.length ≤ 140737488351232) (op a x : Int) (h0 : 0 ≤ a) (h1 : a < 4294967296) (hx0 : 0 ≤ x) (hx1 : x < 4294967296) (ok : stOk l op a = false) :
    Calls Tryz.prog 111 #[.pointer (some ⟨g, 0, none⟩), .int .i64 op, .int .u32 a, .int .u32 x] w fun e w' => e = .returned (.tuple #[]) ∧ In w' base g (h.trap 4) l os ss ∧ Ch g w w' := by
  have T : Hid (∀ W, In W base g h l os ss → ∀ c, Calls Tryz.prog 67 #[.pointer (some ⟨g, 0, none⟩), .int .i64 c] W fun e w' => e = .returned (.tuple #[]) ∧ In w' base g (h.trap c) l os ss ∧ Ch g W w') := fun W I c => trap_any I c
  have HI : Hid (In w base g h l os ss) := I
  obtain ⟨c0, rfl, I⟩ := I
  obtain ⟨ao, cap, hm, M⟩ := I.mem.mem
  have k1 : w.cell? ⟨g, 37, none⟩ = some (.slice ao l.length cap) := (I.fcell 0).trans (by rw [hm]; rfl)
  have L : Hid (Calls Tryz.prog 130 #[.slice ao l.length cap, .int .i64 op, .int .u32 a, .int .u32 x] w fun e w' => ∃ ao' n' cap', e = .returned (.tuple #[.slice ao' n' cap', .bool false]) ∧ Gr w w') := by
    have := Mm.Store_any cap op a x M hl h0 h1 hx0 hx1
    rw [ok] at this
    exact this.mono fun e w' ⟨a1, n1, c1, e1, _, e3⟩ => ⟨a1, n1, c1, e1, e3⟩
  clear I M hm ok
  generalize l.length = n at *
  go_enter Tryz.func111, Tryz.ntmps111
  go_wp2_with fail
  refine L.out.mono ?_
  rintro e w1 ⟨a1, n1, c1, rfl, G1⟩
  have HI1 : Hid (In w1 base g c0.h l os ss) := HI.out.of G1
  have HC1 : Hid (Ch g w w1) := (Ch.refl g w).gr G1
  clear L k1 G1
  go_wp2_with fail
  refine (T.out _ HI1.out 4).mono ?_
  rintro e w2 ⟨rfl, I2, C2⟩
  have HI2 : Hid (In w2 base g (c0.h.trap 4) l os ss) := I2
  have HC2 : Hid (Ch g w w2) := HC1.out.trans C2
  clear T I2 C2
  go_wp2
  refine bodyPost_ret (results_none Tryz.results111 _ _ _) rfl ?_
  exact ⟨rfl, HI2.out, HC2.out⟩

theorem mem_store {ao : Option Addr} {n : Nat} (cap : Nat) {l : List UInt8} (op a x : Int) {w : World} (M : Mem w ao n l) (hn : n ≤ 140737488351232) (h0 : 0 ≤ a) (h1 : a < 4294967296) (hx0 : 0 ≤ x) (hx1 : x < 4294967296) (ok : stOk l op a = true) :
    Calls Tryz.prog 130 #[.slice ao n cap, .int .i64 op, .int .u32 a, .int .u32 x] w fun e w' => e = .returned (.tuple #[.slice (some ⟨w.heap.size, 0, none⟩) n n, .bool true]) ∧ Row w' w.heap.size (stL l op a x) ∧ Gr w w' := by
  have hl := M.len
  have hok : thr n (ssz op) a = true := by unfold stOk at ok; rw [hl] at ok; exact ok
  have e2 : stL l op a x = put l a.toNat x (ssz op) := by unfold stL; rw [ok]; rfl
  rw [e2]
  obtain ⟨b, o, rfl, hb, hc⟩ := M.spot (thr_pos hok h0)
  obtain ⟨a, rfl⟩ := Int.eq_ofNat_of_zero_le h0
  exact Mm.Store_yes b o n cap l op x a w hn hl (by omega) hb hx0 hx1 hc hok
theorem stL_len {l : List UInt8} {op a x : Int} (ok : stOk l op a = true) : (stL l op a x).length = l.length := by unfold stL; rw [ok]; exact len_put _ _ _ _
theorem stOk_op {l : List UInt8} {op a : Int} (ok : stOk l op a = true) : op = 16 ∨ op = 17 ∨ op = 18 := by
  have h : ¬ ssz op = 0 := by
    intro h
    simp [stOk, thr, h] at ok
  unfold ssz at h
  repeat' split at h
  all_goals omega
theorem Gr.drew {a w : World} (h : Gr a w) : Gr a w.drew := h.drewN 1

theorem owns_gr {w w' : World} {base e n sz : Nat} {v : Value} {xs : List Value} (h : w.ownsRow base e sz v n xs) (q : Gr w w') : w'.ownsRow base e sz v n xs :=
  owns_to h fun k o f hk => q.block k (Array.getElem?_eq_some_iff.1 hk).1
theorem own_form {w : World} {base size n : Nat} {e : TypeId} {v : Value} {xs : List Value} (h : w.ownsRow base e size v n xs) (hn : 0 < n) : ∃ g cap, v = .slice (some ⟨g, 0, none⟩) n cap := by
  rcases h.2 with ⟨_, h0⟩ | ⟨g, cap, _, hv, _⟩
  · omega
  · exact ⟨g, cap, hv⟩
theorem two_cells {W : World} {b : Nat} {x y : Value} (h0 : W.cell? ⟨b, 0, none⟩ = some x) (h1 : W.cell? ⟨b, 1, none⟩ = some y) : ∀ j u, ([x, y] : List Value)[j]? = some u → W.cell? ((⟨b, 0, none⟩ : Addr).add j) = some u := by
  intro j u hj
  rw [add_at]
  match j, hj with
  | 0, hj => simp at hj; subst hj; exact h0
  | 1, hj => simp at hj; subst hj; exact h1
theorem two_one (a b : Int) : ∀ u ∈ [Value.int .u32 a, Value.int .u32 b], u.oneCell' = true := by
  intro u hu
  simp at hu
  rcases hu with rfl | rfl <;> rfl
theorem Store_yes {w : World} {base g : Nat} {h : Hv} {l : List UInt8} {os : List Int} {ss : List (Int × Int)} (I : In w base g h l os ss) (T : Tb w base) (hl : l.length ≤ 140737488351232) (hss : ss.length ≤ 1000000) (op a x : Int) (h0 : 0 ≤ a) (h1 : a < 4294967296) (hx0 : 0 ≤ x) (hx1 : x < 4294967296) (ok : stOk l op a = true) :
    Calls Tryz.prog 111 #[.pointer (some ⟨g, 0, none⟩), .int .i64 op, .int .u32 a, .int .u32 x] w fun e w' => e = .returned (.tuple #[]) ∧ In w' base g h (stL l op a x) os (ss ++ [(a, ((ssz op : Nat) : Int))]) ∧ Fr base w w' := by
  obtain ⟨c0, rfl, I⟩ := I
  obtain ⟨ao, cap, hm, M⟩ := I.mem.mem
  have k1 : w.cell? ⟨g, 37, none⟩ = some (.slice ao l.length cap) := (I.fcell 0).trans (by rw [hm]; rfl)
  have L : Hid (Calls Tryz.prog 130 #[.slice ao l.length cap, .int .i64 op, .int .u32 a, .int .u32 x] w fun e w' => e = .returned (.tuple #[.slice (some ⟨w.heap.size, 0, none⟩) l.length l.length, .bool true]) ∧ Row w' w.heap.size (stL l op a x) ∧ Gr w w') := mem_store cap op a x M hl h0 h1 hx0 hx1 ok
  have hk := stL_len (x := x) ok
  have hop := stOk_op ok
  obtain ⟨i0, hi, hz0, hz1, hz2⟩ := info_parts infoR
  generalize stL l op a x = k at *
  have HI : Hid (Inv w base g c0 l os ss) := I
  have HT : Hid (Tb w base) := T
  clear I M hm ok T
  rcases hop with rfl | rfl | rfl
  · rw [show ((ssz 16 : Nat) : Int) = 1 from rfl]
    go_enter Tryz.func111, Tryz.ntmps111
    go_wp2_with fail
    refine L.out.mono ?_
    rintro e w1 ⟨rfl, R1, G1⟩
    have J := HI.out.stored G1 R1 hk
    have q1 : w1.cell? ⟨g, 37, none⟩ = some (.slice ao l.length cap) := (Gr.cell G1 _ (by exact HI.out.lt)).trans k1
    have q2 : w1.frozen? ⟨g, 37, none⟩ = false := (HI.out.of G1).fz 37
    have B : Fr base w (w1.setCell ⟨g, 37, none⟩ (.slice (some ⟨w.heap.size, 0, none⟩) l.length l.length)) := HI.out.inn.below (((Ch.refl g w).gr G1).setCell _ _)
    clear L k1 R1 G1
    go_wp2_with fail
    generalize w1.setCell ⟨g, 37, none⟩ (.slice (some ⟨w.heap.size, 0, none⟩) l.length l.length) = w2 at *
    have k39 : w2.cell? ⟨g, 39, none⟩ = some c0.sto := J.fcell 2
    have fz := J.fz
    have hg := J.lt
    have ks : w2.cell? ⟨4, 16, none⟩ = some (.int .u32 1) := (HT.out.of B).sizes 16 1 rfl
    have HJ : Hid (Inv w2 base g _ k os ss) := J
    have HB : Hid (Fr base w w2) := B
    clear J B q1 q2
    go_region_law (refine step_append_own rfl (.tmp 33) (.tmp 41) 82 rfl base 109 i0 _ 2 8 Tryz.underlying82 hi hz0 hz1 hz2 rfl (by decide) c0.sto ss.length (rgs ss) (by simp [Act.eval, Act.put]) (owns_gr HJ.out.sto (by repeat (first | exact Gr.refl _ | refine Gr.drew ?_ | refine Gr.alloc ?_ _))) ⟨w2.heap.size, 0, none⟩ 1 1 [.int .u32 a, .int .u32 (IntKind.u32.wrap (a + 1))] (by simp [Act.eval, Act.put]) rfl (two_cells (by simp) (by simp)) (two_one _ _) (by unfold maxLen; omega) (by omega) (by have := HJ.out.base_le; simp; omega) ?_; intro v' w' hown hgrow; obtain ⟨g', cp, rfl⟩ := own_form hown (by omega); obtain ⟨c39, f39, F⟩ := HJ.out.sto_grown (n := ss.length + 1) (by repeat (first | exact Gr.refl _ | refine Gr.drew ?_ | refine Gr.alloc ?_ _)) hgrow (ss' := ss ++ [(a, 1)]) (by simp) (by rw [rgs_snoc]; exact hown); have HF : Hid _ := F; clear F hown hgrow)
    all_goals
      go_end0
      exact ⟨rfl, HF.out.1.inn, HB.out.trans HF.out.2⟩
  · rw [show ((ssz 17 : Nat) : Int) = 2 from rfl]
    go_enter Tryz.func111, Tryz.ntmps111
    go_wp2_with fail
    refine L.out.mono ?_
    rintro e w1 ⟨rfl, R1, G1⟩
    have J := HI.out.stored G1 R1 hk
    have q1 : w1.cell? ⟨g, 37, none⟩ = some (.slice ao l.length cap) := (Gr.cell G1 _ (by exact HI.out.lt)).trans k1
    have q2 : w1.frozen? ⟨g, 37, none⟩ = false := (HI.out.of G1).fz 37
    have B : Fr base w (w1.setCell ⟨g, 37, none⟩ (.slice (some ⟨w.heap.size, 0, none⟩) l.length l.length)) := HI.out.inn.below (((Ch.refl g w).gr G1).setCell _ _)
    clear L k1 R1 G1
    go_wp2_with fail
    generalize w1.setCell ⟨g, 37, none⟩ (.slice (some ⟨w.heap.size, 0, none⟩) l.length l.length) = w2 at *
    have k39 : w2.cell? ⟨g, 39, none⟩ = some c0.sto := J.fcell 2
    have fz := J.fz
    have hg := J.lt
    have ks : w2.cell? ⟨4, 17, none⟩ = some (.int .u32 2) := (HT.out.of B).sizes 17 2 rfl
    have HJ : Hid (Inv w2 base g _ k os ss) := J
    have HB : Hid (Fr base w w2) := B
    clear J B q1 q2
    go_region_law (refine step_append_own rfl (.tmp 33) (.tmp 41) 82 rfl base 109 i0 _ 2 8 Tryz.underlying82 hi hz0 hz1 hz2 rfl (by decide) c0.sto ss.length (rgs ss) (by simp [Act.eval, Act.put]) (owns_gr HJ.out.sto (by repeat (first | exact Gr.refl _ | refine Gr.drew ?_ | refine Gr.alloc ?_ _))) ⟨w2.heap.size, 0, none⟩ 1 1 [.int .u32 a, .int .u32 (IntKind.u32.wrap (a + 2))] (by simp [Act.eval, Act.put]) rfl (two_cells (by simp) (by simp)) (two_one _ _) (by unfold maxLen; omega) (by omega) (by have := HJ.out.base_le; simp; omega) ?_; intro v' w' hown hgrow; obtain ⟨g', cp, rfl⟩ := own_form hown (by omega); obtain ⟨c39, f39, F⟩ := HJ.out.sto_grown (n := ss.length + 1) (by repeat (first | exact Gr.refl _ | refine Gr.drew ?_ | refine Gr.alloc ?_ _)) hgrow (ss' := ss ++ [(a, 2)]) (by simp) (by rw [rgs_snoc]; exact hown); have HF : Hid _ := F; clear F hown hgrow)
    all_goals
      go_end0
      exact ⟨rfl, HF.out.1.inn, HB.out.trans HF.out.2⟩
  · rw [show ((ssz 18 : Nat) : Int) = 4 from rfl]
    go_enter Tryz.func111, Tryz.ntmps111
    go_wp2_with fail
    refine L.out.mono ?_
    rintro e w1 ⟨rfl, R1, G1⟩
    have J := HI.out.stored G1 R1 hk
    have q1 : w1.cell? ⟨g, 37, none⟩ = some (.slice ao l.length cap) := (Gr.cell G1 _ (by exact HI.out.lt)).trans k1
    have q2 : w1.frozen? ⟨g, 37, none⟩ = false := (HI.out.of G1).fz 37
    have B : Fr base w (w1.setCell ⟨g, 37, none⟩ (.slice (some ⟨w.heap.size, 0, none⟩) l.length l.length)) := HI.out.inn.below (((Ch.refl g w).gr G1).setCell _ _)
    clear L k1 R1 G1
    go_wp2_with fail
    generalize w1.setCell ⟨g, 37, none⟩ (.slice (some ⟨w.heap.size, 0, none⟩) l.length l.length) = w2 at *
    have k39 : w2.cell? ⟨g, 39, none⟩ = some c0.sto := J.fcell 2
    have fz := J.fz
    have hg := J.lt
    have ks : w2.cell? ⟨4, 18, none⟩ = some (.int .u32 4) := (HT.out.of B).sizes 18 4 rfl
    have HJ : Hid (Inv w2 base g _ k os ss) := J
    have HB : Hid (Fr base w w2) := B
    clear J B q1 q2
    go_region_law (refine step_append_own rfl (.tmp 33) (.tmp 41) 82 rfl base 109 i0 _ 2 8 Tryz.underlying82 hi hz0 hz1 hz2 rfl (by decide) c0.sto ss.length (rgs ss) (by simp [Act.eval, Act.put]) (owns_gr HJ.out.sto (by repeat (first | exact Gr.refl _ | refine Gr.drew ?_ | refine Gr.alloc ?_ _))) ⟨w2.heap.size, 0, none⟩ 1 1 [.int .u32 a, .int .u32 (IntKind.u32.wrap (a + 4))] (by simp [Act.eval, Act.put]) rfl (two_cells (by simp) (by simp)) (two_one _ _) (by unfold maxLen; omega) (by omega) (by have := HJ.out.base_le; simp; omega) ?_; intro v' w' hown hgrow; obtain ⟨g', cp, rfl⟩ := own_form hown (by omega); obtain ⟨c39, f39, F⟩ := HJ.out.sto_grown (n := ss.length + 1) (by repeat (first | exact Gr.refl _ | refine Gr.drew ?_ | refine Gr.alloc ?_ _)) hgrow (ss' := ss ++ [(a, 4)]) (by simp) (by rw [rgs_snoc]; exact hown); have HF : Hid _ := F; clear F hown hgrow)
    all_goals
      go_end0
      exact ⟨rfl, HF.out.1.inn, HB.out.trans HF.out.2⟩

theorem Store_any {w : World} {base g : Nat} {h : Hv} {l : List UInt8} {os : List Int} {ss : List (Int × Int)} (I : In w base g h l os ss) (T : Tb w base) (hl : l.length ≤ 140737488351232) (hss : ss.length ≤ 1000000) (op a x : Int) (h0 : 0 ≤ a) (h1 : a < 4294967296) (hx0 : 0 ≤ x) (hx1 : x < 4294967296) :
    Calls Tryz.prog 111 #[.pointer (some ⟨g, 0, none⟩), .int .i64 op, .int .u32 a, .int .u32 x] w fun e w' => e = .returned (.tuple #[]) ∧ In w' base g (efStore h l op a x).h (efStore h l op a x).m os (ss ++ (efStore h l op a x).sto) ∧ Fr base w w' := by
  unfold efStore
  cases ok : stOk l op a with
  | false =>
    refine (Store_no I hl op a x h0 h1 hx0 hx1 ok).mono ?_
    rintro e w' ⟨rfl, J, C⟩
    exact ⟨rfl, by simpa using J, I.below C⟩
  | true => exact Store_yes I T hl hss op a x h0 h1 hx0 hx1 ok

theorem one_cell {W : World} {b : Nat} {x : Value} (h0 : W.cell? ⟨b, 0, none⟩ = some x) : ∀ j u, ([x] : List Value)[j]? = some u → W.cell? ((⟨b, 0, none⟩ : Addr).add j) = some u := by
  intro j u hj
  rw [add_at]
  match j, hj with
  | 0, hj => simp at hj; subst hj; exact h0
theorem one_one (a : Int) : ∀ u ∈ [Value.int .u32 a], u.oneCell' = true := by
  intro u hu
  simp at hu
  subst hu
  rfl
theorem Call_out {w : World} {base g : Nat} {h : Hv} {l : List UInt8} {os : List Int} {ss : List (Int × Int)} (I : In w base g h l os ss) (hos : os.length ≤ 1000000) (h17 : rg h 17 = 1) :
    Calls Tryz.prog 114 #[.pointer (some ⟨g, 0, none⟩)] w fun e w' => e = .returned (.tuple #[]) ∧ In w' base g h l (os ++ [rg h 10]) ss ∧ Fr base w w' := by
  obtain ⟨c0, rfl, I⟩ := I
  have k17 : w.cell? ⟨g, 17, none⟩ = some (.int .u32 1) := by rw [← h17]; exact I.reg (by omega)
  have k10 : w.cell? ⟨g, 10, none⟩ = some (.int .u32 (rg c0.h 10)) := I.reg (by omega)
  have k38 : w.cell? ⟨g, 38, none⟩ = some c0.out := I.fcell 1
  have fz := I.fz
  have hg := I.lt
  have HJ : Hid (Inv w base g c0 l os ss) := I
  obtain ⟨i0, hi, hz0, hz1, hz2⟩ := info_parts infoU
  generalize rg c0.h 10 = x at *
  clear I h17
  go_enter Tryz.func114, Tryz.ntmps114
  go_wp2_with fail
  go_region_law (refine step_append_own rfl (.tmp 22) (.tmp 29) 30 rfl base 42 i0 _ 1 4 Tryz.underlying30 hi hz0 hz1 hz2 rfl (by decide) c0.out os.length (os.map (Value.int .u32)) (by simp [Act.eval, Act.put]) (owns_gr HJ.out.out (by repeat (first | exact Gr.refl _ | refine Gr.drew ?_ | refine Gr.alloc ?_ _))) ⟨w.heap.size, 0, none⟩ 1 1 [.int .u32 x] (by simp [Act.eval, Act.put]) rfl (one_cell (by simp)) (one_one _) (by unfold maxLen; omega) (by omega) (by have := HJ.out.base_le; simp; omega) ?_; intro v' w' hown hgrow; obtain ⟨g', cp, rfl⟩ := own_form hown (by omega); obtain ⟨c38, f38, F⟩ := HJ.out.out_grown (n := os.length + 1) (by repeat (first | exact Gr.refl _ | refine Gr.drew ?_ | refine Gr.alloc ?_ _)) hgrow (os' := os ++ [x]) (by simp) (by rw [List.map_append]; exact hown); have HF : Hid _ := F; clear F hown hgrow)
  all_goals
    go_end0
    exact ⟨rfl, HF.out.1.inn, HF.out.2⟩
theorem Call_not {w : World} {base g : Nat} {h : Hv} {l : List UInt8} {os : List Int} {ss : List (Int × Int)} (I : In w base g h l os ss) (h17 : ¬ rg h 17 = 1) :
    Calls Tryz.prog 114 #[.pointer (some ⟨g, 0, none⟩)] w fun e w' => e = .returned (.tuple #[]) ∧ In w' base g (if rg h 17 = 0 then h.halt else h.trap 5) l os ss ∧ Fr base w w' := by
  have T : Hid (∀ c, Calls Tryz.prog 67 #[.pointer (some ⟨g, 0, none⟩), .int .i64 c] w fun e w' => e = .returned (.tuple #[]) ∧ In w' base g (h.trap c) l os ss ∧ Ch g w w') := fun c => trap_any I c
  have HI : Hid (In w base g h l os ss) := I
  obtain ⟨c0, rfl, I⟩ := I
  have k17 : w.cell? ⟨g, 17, none⟩ = some (.int .u32 (rg c0.h 17)) := I.reg (by omega)
  have k35 : w.cell? ⟨g, 35, none⟩ = some (.int .i64 c0.h.state) := (I.hcell (by omega)).trans (hL_fld I.ok 3)
  have fz := I.fz
  have o1 : c0.h.halt.Ok := I.ok.halt
  have HJ : Hid (Inv (w.setCell ⟨g, 35, none⟩ (.int .i64 1)) base g { c0 with h := c0.h.halt } l os ss) := I.set (by omega) (set_state I.ok 1) o1
  clear I o1
  generalize c0.h.state = y at *
  generalize hx : rg c0.h 17 = x at *
  clear hx
  by_cases h0 : x = 0
  · subst h0
    rw [if_pos rfl]
    clear T
    go_enter Tryz.func114, Tryz.ntmps114
    go_wp2_with fail
    go_end0
    exact ⟨rfl, HJ.out.inn, HI.out.below ((Ch.refl g w).setCell _ _)⟩
  · rw [if_neg h0]
    have b0 : (x == 0) = false := by simp [h0]
    have b1 : (x == 1) = false := by simp [h17]
    clear h0 h17
    go_enter Tryz.func114, Tryz.ntmps114
    go_wp2_with fail
    refine (T.out 5).mono ?_
    rintro e w' ⟨rfl, I2, C2⟩
    have HI2 : Hid (In w' base g (c0.h.trap 5) l os ss) := I2
    have HC2 : Hid (Ch g w w') := C2
    clear I2 C2 T k17 k35 fz HJ
    go_wp2_with fail
    go_end0
    exact ⟨rfl, HI2.out, HI.out.below HC2.out⟩
theorem Call_any {w : World} {base g : Nat} {h : Hv} {l : List UInt8} {os : List Int} {ss : List (Int × Int)} (I : In w base g h l os ss) (hos : os.length ≤ 1000000) :
    Calls Tryz.prog 114 #[.pointer (some ⟨g, 0, none⟩)] w fun e w' => e = .returned (.tuple #[]) ∧ In w' base g (efCall h l).h l (os ++ (efCall h l).out) ss ∧ Fr base w w' := by
  unfold efCall
  by_cases h1 : rg h 17 = 1
  · rw [if_neg (by omega), if_pos h1]
    exact Call_out I hos h1
  · refine (Call_not I h1).mono ?_
    rintro e w' ⟨rfl, J, B⟩
    refine ⟨rfl, ?_, B⟩
    by_cases h0 : rg h 17 = 0
    · rw [if_pos h0] at J ⊢; simpa using J
    · rw [if_neg h0] at J; rw [if_neg h0, if_neg h1]; simpa using J
end Go.Proofs.YtchllaeembmioaaGreatDoor.Hc
namespace Go.Proofs.YtchllaeembmioaaGreatDoor.Kc
open Go.ChangeShapes Go.WideShapes Go.ChangeAt Go.RowKit Mm Ts Hc

structure Bw (w : World) (bs : List Bv) (xs : List Value) : Prop where
  len : xs.length = bs.length * 2
  at_ : ∀ (j : Nat) (b : Bv), bs[j]? = some b → ∃ u v, xs[j * 2]? = some u ∧ xs[j * 2 + 1]? = some v ∧ Bc w b u v
theorem Bc.ones {w : World} {b : Bv} {u v : Value} (h : Bc w b u v) : u.oneCell' = true ∧ v.oneCell' = true ∧ ∃ sa sn sc, v = .slice sa sn sc := by
  obtain ⟨rfl, _, sa, sn, sc, rfl, _⟩ := h
  exact ⟨rfl, rfl, sa, sn, sc, rfl⟩
def keepL (f t : Int) (bs : List Bv) : List Bv := bs.filter fun b => !hasB b f t
theorem keep_take {f t : Int} {bs : List Bv} {j : Nat} {b : Bv} (h : bs[j]? = some b) : keepL f t (bs.take (j + 1)) = if hasB b f t = true then keepL f t (bs.take j) else keepL f t (bs.take j) ++ [b] := by
  unfold keepL
  rw [List.take_add_one, h, List.filter_append]
  split
  · rename_i q; simp [q]
  · rename_i q; simp [q]
theorem keep_len (f t : Int) (bs : List Bv) (j : Nat) : (keepL f t (bs.take j)).length ≤ j := by
  unfold keepL
  refine Nat.le_trans (List.length_filter_le _ _) ?_
  simp
  omega
theorem infoB : (Tryz.prog.info? 45).map (fun i => (i.zero, i.size, i.bytes)) = some (some (.agg #[.int .u32 0, .slice none 0 0]), 2, 32) := by kernel_rfl
theorem iCa : (Tryz.prog.info? 35).map (·.size) = some 4 := by kernel_rfl
theorem up_h {w w' : World} (g : Gr w w') {k : Nat} {x : Obj} (h : w.heap[k]? = some x) : w'.heap[k]? = some x := by
  rw [g.block k (Array.getElem?_eq_some_iff.1 h).1]; exact h
theorem row_keep {W w' : World} {base n : Nat} {V : Value} {xs : List Value} (O : W.ownsRow base 45 2 V n xs) (q : W.grownBy w' V.ownBlock) {k : Nat} {c : Array Value} {t : Nat} {f : Nat × Nat} (h : W.heap[k]? = some (.cells c t f)) (ht : t ≠ 45) : w'.heap[k]? = some (.cells c t f) := by
  rw [q.block k (Array.getElem?_eq_some_iff.1 h).1 (fun e => by
    rcases O.2 with ⟨h0, _⟩ | ⟨g', cp, cur, hv, _, hg, _⟩
    · rw [h0] at e; cases e
    · rw [hv] at e
      injection e with e
      exact ne_of_types h hg ht e)]
  exact h
theorem two_ones {u v : Value} (h1 : u.oneCell' = true) (h2 : v.oneCell' = true) : ∀ x ∈ [u, v], x.oneCell' = true := by
  intro x hx
  simp only [List.mem_cons, List.not_mem_nil, or_false] at hx
  rcases hx with rfl | rfl <;> assumption
end Go.Proofs.YtchllaeembmioaaGreatDoor.Kc
namespace Go.Proofs.YtchllaeembmioaaGreatDoor.Kc
open Go.ChangeShapes Go.WideShapes Go.ChangeAt Go.RowKit Mm Ts Hc

def rmK (k : Int) : List Bv → Nat → List Bv
  | [], _ => []
  | b :: r, i => if (i : Int) = k then rmK k r (i + 1) else b :: rmK k r (i + 1)
theorem rm_len (k : Int) : ∀ (l : List Bv) (i : Nat), (rmK k l i).length ≤ l.length
  | [], i => Nat.le_refl _
  | b :: r, i => by
    have := rm_len k r (i + 1)
    unfold rmK
    split
    · simp; omega
    · simp; omega
theorem cells_own {w : World} {base n g cp : Nat} {xs : List Value} (O : w.ownsRow base 45 2 (.slice (some ⟨g, 0, none⟩) n cp) n xs) : g < w.heap.size ∧ n ≤ cp ∧ ∀ j u, xs[j]? = some u → w.cell? ⟨g, j, none⟩ = some u := by
  refine ⟨(O.lt g rfl).2, ?_, fun j u hu => ?_⟩
  · rcases O.2 with ⟨h, _⟩ | ⟨g', cap, cur, e, _, _, h, _⟩
    · cases h
    · injection e with _ _ e3
      omega
  · have := O.cells (g := g) rfl j u hu
    rwa [add_at, Nat.zero_add] at this
theorem bs_own {w : World} {base n g cp : Nat} {xs : List Value} {bs : List Bv} (O : w.ownsRow base 45 2 (.slice (some ⟨g, 0, none⟩) n cp) n xs) (W : Bw w bs xs) (k m : Nat) (hm : bs.length = k + m) : Bs w (some ⟨g, k * 2, none⟩) m (bs.drop k) := by
  obtain ⟨hg, _, hc⟩ := cells_own O
  refine ⟨by simp; omega, fun _ => ⟨g, k * 2, rfl, hg, fun j x hx => ?_⟩⟩
  rw [List.getElem?_drop] at hx
  obtain ⟨u, v, h1, h2, h3⟩ := W.at_ (k + j) x hx
  refine ⟨u, v, ?_, ?_, h3⟩
  · rw [show k * 2 + j * 2 = (k + j) * 2 by omega]
    exact hc _ _ h1
  · rw [show k * 2 + j * 2 + 1 = (k + j) * 2 + 1 by omega]
    exact hc _ _ h2
theorem bs_nil (w : World) (a : Option Addr) : Bs w a 0 [] := ⟨rfl, fun h => absurd h (by omega)⟩
end Go.Proofs.YtchllaeembmioaaGreatDoor.Kc
namespace Go.Proofs.YtchllaeembmioaaGreatDoor.Kc
open Go.ChangeShapes Go.WideShapes Go.ChangeAt Go.RowKit Mm Ts Hc

def fnd (pc : Int) (bs : List Bv) : Bv := if 0 ≤ place pc bs 0 then bs.getD (place pc bs 0).toNat ⟨0, []⟩ else ⟨0, []⟩
def putL (room : Int) (bs : List Bv) (b0 : Bv) : List Bv := if room < ((rmK (place b0.pc bs 0) bs 0 ++ [b0]).length : Int) then (rmK (place b0.pc bs 0) bs 0 ++ [b0]).drop 1 else rmK (place b0.pc bs 0) bs 0 ++ [b0]
def putP (room pu : Int) (bs : List Bv) (b0 : Bv) : Int := if room < ((rmK (place b0.pc bs 0) bs 0 ++ [b0]).length : Int) then wrap64 (pu + 1) else pu
theorem place_bd (pc : Int) : ∀ (bs : List Bv) (k : Nat), place pc bs k = -1 ∨ ∃ j x, place pc bs k = ((k + j : Nat) : Int) ∧ bs[j]? = some x
  | [], k => .inl rfl
  | b :: r, k => by
    unfold place
    split
    · exact .inr ⟨0, b, rfl, rfl⟩
    · rcases place_bd pc r (k + 1) with h | ⟨j, x, h, hx⟩
      · exact .inl h
      · exact .inr ⟨j + 1, x, by rw [h]; congr 1; omega, by simpa using hx⟩
end Go.Proofs.YtchllaeembmioaaGreatDoor.Kc
