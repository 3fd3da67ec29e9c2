/-
  What the small functions and methods of package hart return, and what becomes of the core: within, May, Trap, Set, Load, next, of every hart; and ferrybridgeref4.May.
-/
import Derived.Test.YtdiofidmlgliiaaDoorHc
import Derived.Test.YtdiofidmlgliiaaDoorMemWalks
import Derived.Test.YtdiofidmlgliiaaDoorWordWalks
namespace Go.Proofs.YtdiofidmlgliiaaDoor.Hc
open Go.ChangeShapes Go.WideShapes Go.ChangeAt Go.RowKit Mm Hh
set_option linter.unusedVariables false
set_option linter.unusedSimpArgs false

variable {h : Hv} {w : World} {base g : Nat} {l : List UInt8} {os : List Int} {ss : List (Int × Int)}
theorem within_any (n a b : Int) (w : World) : Calls Tryd.prog 101 #[.int .i64 n, .int .i64 a, .int .i64 b] w fun e w' => e = .returned (.bool (decide (a ≤ n) && decide (n ≤ b))) ∧ w' = w := by
  by_cases h1 : a ≤ n
  · by_cases h2 : n ≤ b
    · go_enter Tryd.func101, Tryd.ntmps101
      go_wp2
      go_ret
      exact ⟨ret_bool (by simp [h1, h2]), rfl⟩
    · go_enter Tryd.func101, Tryd.ntmps101
      go_wp2
      go_ret
      exact ⟨ret_bool (by simp [h1, h2]), rfl⟩
  · go_enter Tryd.func101, Tryd.ntmps101
    go_wp2
    go_ret
    exact ⟨ret_bool (by simp; omega), rfl⟩

theorem may_get (h : Hv) (o : h.Ok) : (hA h)[0]? = some (.int .u32 (rg h 0)) ∧ (hA h)[33]? = some (.bool h.held) ∧ (hA h)[34]? = some (.int .u32 h.heldAt) ∧ (hA h)[35]? = some (.int .i64 h.state) ∧ (hA h)[36]? = some (.int .i64 h.cause) := by
  unfold hA
  simp only [List.getElem?_toArray]
  exact ⟨hL_reg o (by omega), hL_fld o 1, hL_fld o 2, hL_fld o 3, hL_fld o 4⟩


set_option maxHeartbeats 1000000 in
theorem may_any {h : Hv} (o : h.Ok) (w : World) : Calls Tryd.prog 69 #[.agg (hA h)] w fun e w' => e = .returned (.bool (may h)) ∧ Gr w w' := by
  obtain ⟨c0, c1, c2, c3, c4⟩ := may_get h o
  have HM : Hid (may h = decide (rg h 0 = 0 ∧ (h.held = false → h.heldAt = 0) ∧ (((h.state = 0 ∨ h.state = 1) ∧ h.cause = 0) ∨ (h.state = 2 ∧ 1 ≤ h.cause ∧ h.cause ≤ 6)))) := rfl
  generalize may h = M at *
  generalize hA h = A at *
  generalize rg h 0 = x0 at *
  generalize h.held = x1 at *
  generalize h.heldAt = x2 at *
  generalize h.state = x3 at *
  generalize h.cause = x4 at *
  clear o
  cases x1
  all_goals
    go_enter Tryd.func69, Tryd.ntmps69
    go_wp2_with (go_at_call 101; refine (within_any _ _ _ _).mono ?_; rintro e w' ⟨rfl, rfl⟩)
    all_goals
      clear c0 c1 c2 c3 c4
      go_ret
      refine ⟨ret_bool ?_, (Gr.refl _).alloc _⟩
      rw [HM.out, Bool.eq_iff_iff]
      simp at *
      omega

set_option maxHeartbeats 1000000 in
theorem rmay_any {h : Hv} (o : h.Ok) (w : World) : Calls Tryd.prog 27 #[.agg (hA h)] w fun e w' => e = .returned (.bool (may h)) ∧ Gr w w' := by
  obtain ⟨c0, c1, c2, c3, c4⟩ := may_get h o
  have HM : Hid (may h = decide (rg h 0 = 0 ∧ (h.held = false → h.heldAt = 0) ∧ (((h.state = 0 ∨ h.state = 1) ∧ h.cause = 0) ∨ (h.state = 2 ∧ 1 ≤ h.cause ∧ h.cause ≤ 6)))) := rfl
  generalize may h = M at *
  generalize hA h = A at *
  generalize rg h 0 = x0 at *
  generalize h.held = x1 at *
  generalize h.heldAt = x2 at *
  generalize h.state = x3 at *
  generalize h.cause = x4 at *
  clear o
  cases x1
  all_goals
    go_enter Tryd.func27, Tryd.ntmps27
    go_wp2
    all_goals
      clear c0 c1 c2 c3 c4
      go_ret
      refine ⟨ret_bool ?_, (Gr.refl _).alloc _⟩
      rw [HM.out, Bool.eq_iff_iff]
      simp at *
      omega

theorem trap_any (I : In w base g h l os ss) (c : Int) :
    Calls Tryd.prog 104 #[.pointer (some ⟨g, 0, none⟩), .int .i64 c] w fun e w' => e = .returned (.tuple #[]) ∧ In w' base g (h.trap c) l os ss ∧ Ch g w w' := by
  obtain ⟨c0, rfl, I⟩ := I
  have k1 : w.cell? ⟨g, 35, none⟩ = some (.int .i64 c0.h.state) := (I.hcell (by omega)).trans (hL_fld I.ok 3)
  have k2 : w.cell? ⟨g, 36, none⟩ = some (.int .i64 c0.h.cause) := (I.hcell (by omega)).trans (hL_fld I.ok 4)
  have fz := I.fz
  have o1 : Hv.Ok { c0.h with state := 2 } := ⟨I.ok.len, I.ok.reg, I.ok.pc0, I.ok.pc1, I.ok.at0, I.ok.at1⟩
  have J : Hid (Inv ((w.setCell ⟨g, 35, none⟩ (.int .i64 2)).setCell ⟨g, 36, none⟩ (.int .i64 c)) base g { c0 with h := c0.h.trap c } l os ss) :=
    (I.set (by omega) (set_state I.ok 2) o1).set (c := { c0 with h := { c0.h with state := 2 } }) (by omega) (set_cause o1 c) (I.ok.trap c)
  generalize c0.h.state = x1 at k1
  generalize c0.h.cause = x2 at k2
  clear I o1
  go_enter Tryd.func104, Tryd.ntmps104
  go_wp2
  go_end0
  exact ⟨rfl, ⟨_, rfl, J.out⟩, ((Ch.refl g w).setCell _ _).setCell _ _⟩

theorem set_any (I : In w base g h l os ss) (r x : Int) (h0 : 0 ≤ r) (h1 : r < 32) (hx0 : 0 ≤ x) (hx1 : x < 4294967296) :
    Calls Tryd.prog 123 #[.pointer (some ⟨g, 0, none⟩), .int .i64 r, .int .u32 x] w fun e w' => e = .returned (.tuple #[]) ∧ In w' base g (h.set r.toNat x) l os ss ∧ Ch g w w' := by
  obtain ⟨c0, rfl, I⟩ := I
  obtain ⟨r, rfl⟩ := Int.eq_ofNat_of_zero_le h0
  simp only [Int.toNat_natCast]
  by_cases hr : r = 0
  · subst hr
    have J : Hid _ := I
    clear I
    go_enter Tryd.func123, Tryd.ntmps123
    go_wp2
    go_end0
    exact ⟨rfl, ⟨c0, rfl, J.out⟩, Ch.refl g w⟩
  · have hr2 : r < 32 := by omega
    have k1 := I.reg hr2
    have fz := I.fz
    have e : c0.h.set r x = { c0.h with regs := c0.h.regs.set r x } := if_neg hr
    have ok := I.ok.set r hx0 hx1
    rw [e] at ok ⊢
    have J : Hid (Inv (w.setCell ⟨g, r, none⟩ (.int .u32 x)) base g { c0 with h := { c0.h with regs := c0.h.regs.set r x } } l os ss) := I.set (by omega) (set_reg I.ok hr2 x) ok
    have hr' : ¬ (r : Int) = 0 := by omega
    generalize rg c0.h r = y at k1
    clear I e ok
    go_enter Tryd.func123, Tryd.ntmps123
    go_wp2
    go_end0
    exact ⟨rfl, ⟨_, rfl, J.out⟩, (Ch.refl g w).setCell _ _⟩

theorem Load_any (I : In w base g h l os ss) (hl : l.length ≤ 140737488351232) (op a : Int) (h0 : 0 ≤ a) (h1 : a < 4294967296) :
    Calls Tryd.prog 137 #[.pointer (some ⟨g, 0, none⟩), .int .i64 op, .int .u32 a] w fun e w' => e = .returned (.tuple #[.int .u32 (ldV l op a), .bool (ldOk l op a)]) ∧ In w' base g (if ldOk l op a = true then h else h.trap 3) l os ss ∧ Ch g w w' := by
  have T : Hid (∀ c, _) := fun c => trap_any I c
  have HI : Hid _ := I
  obtain ⟨c0, rfl, I⟩ := I
  obtain ⟨ao, cap, hm, M⟩ := I.mem.mem
  have k1 : w.cell? ⟨g, 37, none⟩ = some (.slice ao l.length cap) := (I.fcell 0).trans (by rw [hm]; rfl)
  have L : Hid (Calls Tryd.prog 120 #[.slice ao l.length cap, .int .i64 op, .int .u32 a] w fun e w' => e = .returned (.tuple #[.int .u32 (ldV l op a), .bool (ldOk l op a)]) ∧ w' = w) := Mm.Load_any cap op a M hl h0 h1
  generalize ldV l op a = X at *
  generalize ldOk l op a = B at *
  clear I M hm
  generalize l.length = n at *
  cases B
  · go_enter Tryd.func137, Tryd.ntmps137
    go_wp2_with fail
    refine L.out.mono ?_
    rintro e w' ⟨rfl, rfl⟩
    clear L
    go_wp2_with fail
    refine (T.out 3).mono ?_
    rintro e w2 ⟨rfl, I2, C2⟩
    have HI2 : Hid _ := I2
    clear T I2 k1
    go_wp2
    go_ret2
    exact ⟨rfl, HI2.out, C2⟩
  · go_enter Tryd.func137, Tryd.ntmps137
    go_wp2_with fail
    refine L.out.mono ?_
    rintro e w' ⟨rfl, rfl⟩
    clear L T k1
    go_wp2
    go_ret2
    exact ⟨rfl, HI.out, Ch.refl _ _⟩

theorem andNot1 (x : Int) (h0 : 0 ≤ x) (h1 : x < 4294967296) : bits .andNot .u32 x 1 = x - x % 2 := by
  obtain ⟨x, rfl⟩ := Int.eq_ofNat_of_zero_le h0
  show IntKind.u32.wrap ((BitVec.ofInt 32 (x : Int) &&& ~~~ BitVec.ofInt 32 1).toNat : Int) = _
  have e : (~~~ BitVec.ofInt 32 1).toNat = (2 ^ 31 - 1) * 2 ^ 1 := by decide
  rw [BitVec.toNat_and, ofInt32 x h1, e, Dc.nand_mask]
  show ((x / 2 ^ 1 % 2 ^ 31 * 2 ^ 1 : Nat) : Int) % 4294967296 = _
  omega
theorem next_any {w : World} {base g : Nat} {h : Hv} {l : List UInt8} {os : List Int} {ss : List (Int × Int)} (I : In w base g h l os ss) (op a b n : Int) (ha : 0 ≤ a) (ha' : a < 4294967296) (hb : 0 ≤ b) (hb' : b < 4294967296) (hn : 0 ≤ n) (hn' : n < 4294967296) :
    Calls Tryd.prog 121 #[.pointer (some ⟨g, 0, none⟩), .int .i64 op, .int .u32 a, .int .u32 b, .int .u32 n] w fun e w' => e = .returned (.int .u32 (nxt h op a b n)) ∧ w' = w := by
  obtain ⟨c0, rfl, I⟩ := I
  have k1 : w.cell? ⟨g, 32, none⟩ = some (.int .u32 c0.h.pc) := (I.hcell (by omega)).trans (hL_fld I.ok 0)
  have p0 := I.ok.pc0
  have p1 := I.ok.pc1
  have HN : Hid (nxt c0.h op a b n = if op = 4 then Wd.lo (a + n) - Wd.lo (a + n) % 2 else if op = 3 ∨ Wd.holds op a b = true then Wd.lo (c0.h.pc + n) else Wd.lo (c0.h.pc + 4)) := rfl
  generalize nxt c0.h op a b n = N at *
  generalize c0.h.pc = pc at *
  clear I
  have H : Hid (∀ w, Calls Tryd.prog 136 #[.int .i64 op, .int .u32 a, .int .u32 b] w fun e w' => e = .returned (.bool (Wd.holds op a b)) ∧ w' = w) := fun w => Ww.holds_any op a b w ha ha' hb hb'
  by_cases h4 : op = 4
  · have b4 : (op == 4) = true := by simp [h4]
    have HE : Hid (N = Wd.lo (a + n) - Wd.lo (a + n) % 2) := by unfold Hid; rw [HN.out, if_pos h4]
    clear h4 HN
    go_enter Tryd.func121, Tryd.ntmps121
    go_wp2_with fail
    go_ret
    refine ⟨ret_int ?_, rfl⟩
    rw [HE.out, andNot1 _ (by omega) (by omega)]
    rfl
  · have b4 : (op == 4) = false := by simp [h4]
    by_cases h3 : op = 3
    · have b3 : (op == 3) = true := by simp [h3]
      have HE : Hid (N = Wd.lo (pc + n)) := by unfold Hid; rw [HN.out, if_neg h4, if_pos (.inl h3)]
      clear h4 h3 HN
      go_enter Tryd.func121, Tryd.ntmps121
      go_wp2_with fail
      go_ret
      exact ⟨ret_int (by rw [HE.out]; rfl), rfl⟩
    · have b3 : (op == 3) = false := by simp [h3]
      have HE : Hid (N = if Wd.holds op a b = true then Wd.lo (pc + n) else Wd.lo (pc + 4)) := by unfold Hid; rw [HN.out, if_neg h4]; simp [h3]
      clear h4 h3 HN
      generalize Wd.holds op a b = B at *
      cases B
      · go_enter Tryd.func121, Tryd.ntmps121
        go_wp2_with fail
        refine (H.out _).mono ?_
        rintro e w' ⟨rfl, rfl⟩
        go_wp2_with fail
        go_ret
        exact ⟨ret_int (by rw [HE.out]; rfl), rfl⟩
      · go_enter Tryd.func121, Tryd.ntmps121
        go_wp2_with fail
        refine (H.out _).mono ?_
        rintro e w' ⟨rfl, rfl⟩
        go_wp2_with fail
        go_ret
        exact ⟨ret_int (by rw [HE.out]; rfl), rfl⟩
end Go.Proofs.YtdiofidmlgliiaaDoor.Hc
