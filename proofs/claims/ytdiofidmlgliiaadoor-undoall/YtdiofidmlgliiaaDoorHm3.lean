/-
  What the methods of package hart's core do: reserve, storeHeld, Atom, effect.
-/
import Derived.Test.YtdiofidmlgliiaaDoorHm2
import Derived.Test.YtdiofidmlgliiaaDoorHb
namespace Go.Proofs.YtdiofidmlgliiaaDoor.Hc
open Go.ChangeShapes Go.WideShapes Go.ChangeAt Go.RowKit Mm Hh
set_option linter.unusedVariables false
set_option linter.unusedSimpArgs false

abbrev Ptr (g : Nat) : Value := .pointer (some ⟨g, 0, none⟩)
def ret2 (r : Option Int) : Value := .tuple #[.int .u32 (r.getD 0), .bool r.isSome]

set_option maxHeartbeats 1000000 in
theorem reserve_any {w : World} {base g : Nat} {h : Hv} {l : List UInt8} {os : List Int} {ss : List (Int × Int)} (I : In w base g h l os ss) (hl : l.length ≤ 140737488351232) (a : Int) (h0 : 0 ≤ a) (h1 : a < 4294967296) :
    Calls Tryd.prog 159 #[.pointer (some ⟨g, 0, none⟩), .int .u32 a] w fun e w' => e = .returned (ret2 (efLr h l a).res) ∧ In w' base g (efLr h l a).h l os ss ∧ Fr base w w' := by
  have L := Load_any I hl 13 a h0 h1
  unfold efLr
  have HI : Hid (In w base g h l os ss) := I
  clear I
  cases hB : ldOk l 13 a with
  | false =>
    have hX : ldV l 13 a = 0 := by unfold ldV; rw [hB]; rfl
    rw [hB, hX] at L
    have HL : Hid (Calls Tryd.prog 137 #[.pointer (some ⟨g, 0, none⟩), .int .i64 13, .int .u32 a] w fun e w' => e = .returned (.tuple #[.int .u32 0, .bool false]) ∧ In w' base g (h.trap 3) l os ss ∧ Ch g w w') := L
    clear L hX hB
    go_enter Tryd.func159, Tryd.ntmps159
    go_wp2_with fail
    refine HL.out.mono ?_
    rintro e w' ⟨rfl, I2, C2⟩
    have HI2 : Hid (In w' base g (h.trap 3) l os ss) := I2
    have HC2 : Hid (Ch g w w') := C2
    clear I2 C2 HL
    go_wp2_with fail
    go_ret2
    exact ⟨rfl, HI2.out, HI.out.below HC2.out⟩
  | true =>
    rw [hB] at L
    have HL : Hid (Calls Tryd.prog 137 #[.pointer (some ⟨g, 0, none⟩), .int .i64 13, .int .u32 a] w fun e w' => e = .returned (.tuple #[.int .u32 (ldV l 13 a), .bool true]) ∧ In w' base g h l os ss ∧ Ch g w w') := L
    clear L hB
    generalize ldV l 13 a = X at *
    go_enter Tryd.func159, Tryd.ntmps159
    go_wp2_with fail
    refine HL.out.mono ?_
    rintro e w' ⟨rfl, I2, C2⟩
    have HC2 : Hid (Ch g w w') := C2
    obtain ⟨c0, rfl, I⟩ := I2
    have k1 : w'.cell? ⟨g, 33, none⟩ = some (.bool c0.h.held) := (I.hcell (by omega)).trans (hL_fld I.ok 1)
    have k2 : w'.cell? ⟨g, 34, none⟩ = some (.int .u32 c0.h.heldAt) := (I.hcell (by omega)).trans (hL_fld I.ok 2)
    have fz := I.fz
    have o1 : Hv.Ok { c0.h with held := true } := ⟨I.ok.len, I.ok.reg, I.ok.pc0, I.ok.pc1, I.ok.at0, I.ok.at1⟩
    have HJ : Hid (Inv ((w'.setCell ⟨g, 33, none⟩ (.bool true)).setCell ⟨g, 34, none⟩ (.int .u32 a)) base g { c0 with h := c0.h.hold true a } l os ss) :=
      (I.set (by omega) (set_held I.ok true) o1).set (c := { c0 with h := { c0.h with held := true } }) (by omega) (set_heldAt o1 a) (I.ok.hold true h0 h1)
    generalize c0.h.held = x1 at *
    generalize c0.h.heldAt = x2 at *
    clear I o1 HL C2
    go_wp2_with fail
    go_ret2
    exact ⟨rfl, HJ.out.inn, HI.out.below ((HC2.out.setCell _ _).setCell _ _)⟩

set_option maxHeartbeats 1000000 in
theorem storeHeld_any {w : World} {base g : Nat} {h : Hv} {l : List UInt8} {os : List Int} {ss : List (Int × Int)} (I : In w base g h l os ss) (T : Tb w base) (hl : l.length ≤ 140737488351232) (hss : ss.length ≤ 1000000) (a b : Int) (h0 : 0 ≤ a) (h1 : a < 4294967296) (hx0 : 0 ≤ b) (hx1 : b < 4294967296) (ok : ldOk l 13 a = true) :
    Calls Tryd.prog 160 #[.pointer (some ⟨g, 0, none⟩), .int .u32 a, .int .u32 b] w fun e w' => e = .returned (.int .u32 ((efSc h l a b).res.getD 0)) ∧ In w' base g (efSc h l a b).h (efSc h l a b).m os (ss ++ (efSc h l a b).sto) ∧ Fr base w w' := by
  unfold efSc
  rw [if_pos ok]
  have HI : Hid (In w base g h l os ss) := I
  obtain ⟨c0, rfl, I⟩ := I
  have k1 : w.cell? ⟨g, 33, none⟩ = some (.bool c0.h.held) := (I.hcell (by omega)).trans (hL_fld I.ok 1)
  have k2 : w.cell? ⟨g, 34, none⟩ = some (.int .u32 c0.h.heldAt) := (I.hcell (by omega)).trans (hL_fld I.ok 2)
  have fz := I.fz
  have o1 : Hv.Ok { c0.h with held := false } := ⟨I.ok.len, I.ok.reg, I.ok.pc0, I.ok.pc1, I.ok.at0, I.ok.at1⟩
  have J : Inv ((w.setCell ⟨g, 33, none⟩ (.bool false)).setCell ⟨g, 34, none⟩ (.int .u32 0)) base g { c0 with h := c0.h.hold false 0 } l os ss :=
    (I.set (by omega) (set_held I.ok false) o1).set (c := { c0 with h := { c0.h with held := false } }) (by omega) (set_heldAt o1 0) (I.ok.hold false (x := 0) (by omega) (by omega))
  have B : Fr base w ((w.setCell ⟨g, 33, none⟩ (.bool false)).setCell ⟨g, 34, none⟩ (.int .u32 0)) := HI.out.below (((Ch.refl g w).setCell _ _).setCell _ _)
  have S := Store_any J.inn (T.of B) hl hss 18 a b h0 h1 hx0 hx1
  have e1 : efStore (c0.h.hold false 0) l 18 a b = ⟨c0.h.hold false 0, stL l 18 a b, [], [(a, 4)], none⟩ := by unfold efStore; rw [if_pos (st_of_ld ok)]; rfl
  have HS : Hid (Calls Tryd.prog 138 #[.pointer (some ⟨g, 0, none⟩), .int .i64 18, .int .u32 a, .int .u32 b] ((w.setCell ⟨g, 33, none⟩ (.bool false)).setCell ⟨g, 34, none⟩ (.int .u32 0)) fun e w' => e = .returned (.tuple #[]) ∧ In w' base g (c0.h.hold false 0) (stL l 18 a b) os (ss ++ [(a, 4)]) ∧ Fr base ((w.setCell ⟨g, 33, none⟩ (.bool false)).setCell ⟨g, 34, none⟩ (.int .u32 0)) w') := by
    have S1 : Calls Tryd.prog 138 #[.pointer (some ⟨g, 0, none⟩), .int .i64 18, .int .u32 a, .int .u32 b] ((w.setCell ⟨g, 33, none⟩ (.bool false)).setCell ⟨g, 34, none⟩ (.int .u32 0)) fun e w' => e = .returned (.tuple #[]) ∧ In w' base g (efStore (c0.h.hold false 0) l 18 a b).h (efStore (c0.h.hold false 0) l 18 a b).m os (ss ++ (efStore (c0.h.hold false 0) l 18 a b).sto) ∧ Fr base ((w.setCell ⟨g, 33, none⟩ (.bool false)).setCell ⟨g, 34, none⟩ (.int .u32 0)) w' := S
    rw [e1] at S1
    exact S1
  have HJ : Hid (In ((w.setCell ⟨g, 33, none⟩ (.bool false)).setCell ⟨g, 34, none⟩ (.int .u32 0)) base g (c0.h.hold false 0) l os ss) := J.inn
  have HB : Hid (Fr base w ((w.setCell ⟨g, 33, none⟩ (.bool false)).setCell ⟨g, 34, none⟩ (.int .u32 0))) := B
  clear S J B I o1 T e1
  generalize c0.h.held = x1 at *
  generalize c0.h.heldAt = x2 at *
  cases x1 with
  | false =>
    rw [if_neg (by simp)]
    clear HS
    go_enter Tryd.func160, Tryd.ntmps160
    go_wp2_with fail
    go_ret
    exact ⟨rfl, by simpa using HJ.out, HB.out⟩
  | true =>
    by_cases ha : x2 = a
    · rw [if_pos ⟨rfl, ha⟩]
      have ba : (x2 == a) = true := by simp [ha]
      clear ha
      go_enter Tryd.func160, Tryd.ntmps160
      go_wp2_with fail
      refine HS.out.mono ?_
      rintro e w' ⟨rfl, I2, B2⟩
      have HI2 : Hid (In w' base g (c0.h.hold false 0) (stL l 18 a b) os (ss ++ [(a, 4)])) := I2
      have HB2 : Hid (Fr base w w') := HB.out.trans B2
      clear I2 B2 HS HB HJ k1 k2 fz
      go_wp2_with fail
      go_ret
      exact ⟨rfl, HI2.out, HB2.out⟩
    · rw [if_neg (by simp [ha])]
      have ba : (x2 == a) = false := by simp [ha]
      clear ha HS
      go_enter Tryd.func160, Tryd.ntmps160
      go_wp2_with fail
      go_ret
      exact ⟨rfl, by simpa using HJ.out, HB.out⟩

set_option maxHeartbeats 1000000 in
theorem Atom_any {w : World} {base g : Nat} {h : Hv} {l : List UInt8} {os : List Int} {ss : List (Int × Int)} (I : In w base g h l os ss) (T : Tb w base) (hl : l.length ≤ 140737488351232) (hss : ss.length ≤ 1000000) (op a b : Int) (h0 : 0 ≤ a) (h1 : a < 4294967296) (hx0 : 0 ≤ b) (hx1 : b < 4294967296) :
    Calls Tryd.prog 140 #[.pointer (some ⟨g, 0, none⟩), .int .i64 op, .int .u32 a, .int .u32 b] w fun e w' => e = .returned (ret2 (efAtom h l op a b).res) ∧ In w' base g (efAtom h l op a b).h (efAtom h l op a b).m os (ss ++ (efAtom h l op a b).sto) ∧ Fr base w w' := by
  have R : Hid (Calls Tryd.prog 159 #[.pointer (some ⟨g, 0, none⟩), .int .u32 a] w fun e w' => e = .returned (ret2 (efLr h l a).res) ∧ In w' base g (efLr h l a).h l os ss ∧ Fr base w w') := reserve_any I hl a h0 h1
  have Tr : Hid (∀ c, Calls Tryd.prog 104 #[.pointer (some ⟨g, 0, none⟩), .int .i64 c] w fun e w' => e = .returned (.tuple #[]) ∧ In w' base g (h.trap c) l os ss ∧ Ch g w w') := fun c => trap_any I c
  have SH : Hid (ldOk l 13 a = true → Calls Tryd.prog 160 #[.pointer (some ⟨g, 0, none⟩), .int .u32 a, .int .u32 b] w fun e w' => e = .returned (.int .u32 ((efSc h l a b).res.getD 0)) ∧ In w' base g (efSc h l a b).h (efSc h l a b).m os (ss ++ (efSc h l a b).sto) ∧ Fr base w w') := fun ok => storeHeld_any I T hl hss a b h0 h1 hx0 hx1 ok
  have wv := W.ldV l 13 a
  have wa := W.amo (op := op) wv ⟨hx0, hx1⟩
  have St : Hid (Calls Tryd.prog 138 #[.pointer (some ⟨g, 0, none⟩), .int .i64 18, .int .u32 a, .int .u32 (Wd.amo op (ldV l 13 a) b)] w fun e w' => e = .returned (.tuple #[]) ∧ In w' base g (efStore h l 18 a (Wd.amo op (ldV l 13 a) b)).h (efStore h l 18 a (Wd.amo op (ldV l 13 a) b)).m os (ss ++ (efStore h l 18 a (Wd.amo op (ldV l 13 a) b)).sto) ∧ Fr base w w') := Store_any I T hl hss 18 a _ h0 h1 wa.1 wa.2
  have HI : Hid (In w base g h l os ss) := I
  obtain ⟨c0, rfl, I⟩ := I
  obtain ⟨ao, cap, hm, M⟩ := I.mem.mem
  have k1 : w.cell? ⟨g, 37, none⟩ = some (.slice ao l.length cap) := (I.fcell 0).trans (by rw [hm]; rfl)
  have L : Hid (Calls Tryd.prog 120 #[.slice ao l.length cap, .int .i64 13, .int .u32 a] w fun e w' => e = .returned (.tuple #[.int .u32 (ldV l 13 a), .bool (ldOk l 13 a)]) ∧ w' = w) := Mm.Load_any cap 13 a M hl h0 h1
  have Am : Hid (Calls Tryd.prog 161 #[.int .i64 op, .int .u32 (ldV l 13 a), .int .u32 b] w fun e w' => e = .returned (.int .u32 (Wd.amo op (ldV l 13 a) b)) ∧ w' = w) := Ww.amo_any op _ b w wv.1 wv.2 hx0 hx1
  clear I M hm T wv wa
  by_cases h46 : op = 46
  · have e : efAtom c0.h l op a b = efLr c0.h l a := if_pos h46
    have em : (efLr c0.h l a).m = l ∧ (efLr c0.h l a).sto = [] := by unfold efLr; split <;> exact ⟨rfl, rfl⟩
    rw [e, em.1, em.2, List.append_nil]
    have b46 : (op == 46) = true := by simp [h46]
    clear e em h46 L St SH Tr Am
    generalize efLr c0.h l a = E at *
    unfold ret2 at *
    go_enter Tryd.func140, Tryd.ntmps140
    go_wp2_with fail
    refine R.out.mono ?_
    rintro e w' ⟨rfl, I2, B2⟩
    have HI2 : Hid (In w' base g E.h l os ss) := I2
    have HB2 : Hid (Fr base w w') := B2
    clear I2 B2 R k1
    go_wp2_with fail
    go_ret2
    exact ⟨rfl, HI2.out, HB2.out⟩
  have b46 : (op == 46) = false := by simp [h46]
  clear R
  cases ok : ldOk l 13 a with
  | false =>
    have e : efAtom c0.h l op a b = ⟨c0.h.trap 4, l, [], [], none⟩ := by
      unfold efAtom efSc efAmo
      rw [if_neg h46, ok]
      simp
    rw [e, List.append_nil]
    rw [ok] at L
    have L2 : Hid (Calls Tryd.prog 120 #[.slice ao l.length cap, .int .i64 13, .int .u32 a] w fun e w' => e = .returned (.tuple #[.int .u32 (ldV l 13 a), .bool false]) ∧ w' = w) := L
    clear L e ok St SH Am h46
    generalize ldV l 13 a = X at *
    generalize l.length = n at *
    go_enter Tryd.func140, Tryd.ntmps140
    go_wp2_with fail
    refine L2.out.mono ?_
    rintro e w' ⟨rfl, rfl⟩
    clear L2
    go_wp2_with fail
    refine (Tr.out 4).mono ?_
    rintro e w2 ⟨rfl, I2, C2⟩
    have HI2 : Hid (In w2 base g (c0.h.trap 4) l os ss) := I2
    have HC2 : Hid (Ch g w' w2) := C2
    clear I2 C2 Tr k1
    go_wp2_with fail
    go_ret2
    exact ⟨rfl, HI2.out, HI.out.below HC2.out⟩
  | true =>
    rw [ok] at L
    have L2 : Hid (Calls Tryd.prog 120 #[.slice ao l.length cap, .int .i64 13, .int .u32 a] w fun e w' => e = .returned (.tuple #[.int .u32 (ldV l 13 a), .bool true]) ∧ w' = w) := L
    clear L Tr
    by_cases h47 : op = 47
    · have e : efAtom c0.h l op a b = efSc c0.h l a b := by unfold efAtom; rw [if_neg h46, if_pos h47]
      have er : ret2 (efSc c0.h l a b).res = .tuple #[.int .u32 ((efSc c0.h l a b).res.getD 0), .bool true] := by
        unfold ret2 efSc
        rw [if_pos ok]
        split <;> rfl
      rw [e, er]
      have S2 : Hid (Calls Tryd.prog 160 #[.pointer (some ⟨g, 0, none⟩), .int .u32 a, .int .u32 b] w fun e w' => e = .returned (.int .u32 ((efSc c0.h l a b).res.getD 0)) ∧ In w' base g (efSc c0.h l a b).h (efSc c0.h l a b).m os (ss ++ (efSc c0.h l a b).sto) ∧ Fr base w w') := SH.out ok
      have b47 : (op == 47) = true := by simp [h47]
      clear e er h46 h47 ok SH St Am
      generalize efSc c0.h l a b = E at *
      generalize E.res.getD 0 = Y at *
      generalize ldV l 13 a = X at *
      generalize l.length = n at *
      go_enter Tryd.func140, Tryd.ntmps140
      go_wp2_with fail
      refine L2.out.mono ?_
      rintro e w' ⟨rfl, rfl⟩
      clear L2
      go_wp2_with fail
      refine S2.out.mono ?_
      rintro e w2 ⟨rfl, I2, B2⟩
      have HI2 : Hid (In w2 base g E.h E.m os (ss ++ E.sto)) := I2
      have HB2 : Hid (Fr base w' w2) := B2
      clear I2 B2 S2 k1
      go_wp2_with fail
      go_ret2
      exact ⟨rfl, HI2.out, HB2.out⟩
    · have e : efAtom c0.h l op a b = ⟨c0.h, stL l 18 a (Wd.amo op (ldV l 13 a) b), [], [(a, 4)], some (ldV l 13 a)⟩ := by unfold efAtom efAmo; rw [if_neg h46, if_neg h47, if_pos ok]
      have e2 : efStore c0.h l 18 a (Wd.amo op (ldV l 13 a) b) = ⟨c0.h, stL l 18 a (Wd.amo op (ldV l 13 a) b), [], [(a, 4)], none⟩ := by unfold efStore; rw [if_pos (st_of_ld ok)]; rfl
      rw [e]
      rw [e2] at St
      have St2 : Hid (Calls Tryd.prog 138 #[.pointer (some ⟨g, 0, none⟩), .int .i64 18, .int .u32 a, .int .u32 (Wd.amo op (ldV l 13 a) b)] w fun e w' => e = .returned (.tuple #[]) ∧ In w' base g c0.h (stL l 18 a (Wd.amo op (ldV l 13 a) b)) os (ss ++ [(a, 4)]) ∧ Fr base w w') := St
      have b47 : (op == 47) = false := by simp [h47]
      clear e e2 h46 h47 ok SH St
      unfold ret2
      generalize stL l 18 a (Wd.amo op (ldV l 13 a) b) = K at *
      generalize Wd.amo op (ldV l 13 a) b = Y at *
      generalize ldV l 13 a = X at *
      generalize l.length = n at *
      go_enter Tryd.func140, Tryd.ntmps140
      go_wp2_with fail
      refine L2.out.mono ?_
      rintro e w' ⟨rfl, rfl⟩
      clear L2
      go_wp2_with fail
      refine Am.out.mono ?_
      rintro e w' ⟨rfl, rfl⟩
      clear Am
      go_wp2_with fail
      refine St2.out.mono ?_
      rintro e w2 ⟨rfl, I2, B2⟩
      have HI2 : Hid (In w2 base g c0.h K os (ss ++ [(a, 4)])) := I2
      have HB2 : Hid (Fr base w' w2) := B2
      clear I2 B2 St2 k1
      go_wp2_with fail
      go_ret2
      exact ⟨rfl, HI2.out, HB2.out⟩
end Go.Proofs.YtdiofidmlgliiaaDoor.Hc
