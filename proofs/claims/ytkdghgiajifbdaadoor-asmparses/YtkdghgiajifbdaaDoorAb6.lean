/-
  The document's Reader: a number ('numB'). Printed by tools/mkab6.py.
-/
import Derived.Test.YtkdghgiajifbdaaDoorAb4
namespace Go.Proofs.YtkdghgiajifbdaaDoor.As
open Go.ChangeShapes Go.WideShapes Go.ChangeAt Go.RowKit Mm
set_option linter.unusedVariables false

variable {w w' : World}
/-- How far a Reader is, in a world. -/
def atOf (g : Nat) (w : World) : Nat := match w.cell? ⟨g, 1, none⟩ with
  | some (.int _ n) => n.toNat
  | _ => 0
theorem atOf_is {L : List Nat} {g p : Nat} {bad : Bool} (h : w.heap[g]? = some (.cells (rdC L p bad) 157 (0, 0))) : atOf g w = p := by
  unfold atOf
  rw [cr1 h]
  rfl
theorem idx_is {L : List Nat} {p : Nat} (hL : ∀ x ∈ L, x < 256) (hp : p < L.length) (w : World) : (Instr.index 9 (.string (bs L)) (.int .i64 (p : Int))).run Tryd.prog w = .ok (.int .u8 ((L[p] : Nat) : Int)) w := by
  have hp' : p < (bs L).size := by rw [bs_size]; exact hp
  have e0 : ((bs L)[p]'hp').toNat = L[p] := by
    have e : (bs L)[p]'hp' = UInt8.ofNat L[p] := by
      show (bs L).data[p] = _
      simp only [bs, List.getElem_toArray, List.getElem_map]
    have := hL _ (List.getElem_mem hp)
    rw [e, UInt8.toNat_ofNat']; omega
  rw [run_index_string (h := Tryd.underlying9), dif_pos ⟨by omega, by omega⟩]
  simp only [Int.toNat_natCast, e0]
theorem vl_lt : ∀ (k : Nat) (l : List Nat), l.length = k → (∀ d ∈ l, IsD d) → vl l < 10 ^ k
  | 0, l, h, _ => by rw [List.eq_nil_of_length_eq_zero h]; decide
  | k + 1, l, h, hd => by
    have hne : l ≠ [] := by intro e; rw [e] at h; simp at h
    have e := List.dropLast_concat_getLast hne
    have hm : l.dropLast.length = k := by simp; omega
    have ih := vl_lt k l.dropLast hm (fun x hx => hd x ((List.dropLast_sublist l).subset hx))
    have hl := hd _ (List.getLast_mem hne)
    unfold IsD at hl
    rw [← e, vl_app, Nat.pow_succ]
    omega
/-- Digits read so far, from place p1 up to q. -/
structure Nr (L : List Nat) (p1 q : Nat) (d : List Nat) : Prop where
  lo : p1 ≤ q
  hi : q ≤ L.length
  ten : q - p1 ≤ 10
  len : d.length = q - p1
  dig : ∀ c ∈ d, IsD c
  sp : spD 10 (L.drop p1) = (d ++ (spD (10 - (q - p1)) (L.drop q)).1, (spD (10 - (q - p1)) (L.drop q)).2)
theorem Nr.start {L : List Nat} {p : Nat} (h : p ≤ L.length) : Nr L p p [] := ⟨Nat.le_refl _, h, by omega, by simp, by simp, by simp⟩
theorem Nr.step {L : List Nat} {p1 q : Nat} {d : List Nat} (h : Nr L p1 q d) (hq : q < L.length) (hd : IsD L[q]) (hk : q - p1 < 10) : Nr L p1 (q + 1) (d ++ [L[q]]) := by
  refine ⟨by have := h.lo; omega, hq, by have := h.lo; omega, by rw [List.length_append, h.len]; have := h.lo; simp; omega, fun c hc => ?_, ?_⟩
  · rcases List.mem_append.1 hc with hc | hc
    · exact h.dig c hc
    · simp at hc; subst hc; exact hd
  · rw [h.sp, List.drop_eq_getElem_cons hq]
    obtain ⟨m, hm⟩ : ∃ m, 10 - (q - p1) = m + 1 := ⟨10 - (q - p1) - 1, by omega⟩
    rw [hm, show 10 - (q + 1 - p1) = m by have := h.lo; omega]
    have : spD (m + 1) (L[q] :: L.drop (q + 1)) = (L[q] :: (spD m (L.drop (q + 1))).1, (spD m (L.drop (q + 1))).2) := by
      show (if IsD L[q] then _ else _) = _
      rw [if_pos hd]
    rw [this]
    simp
theorem Nr.fin {L : List Nat} {p1 q : Nat} {d : List Nat} (h : Nr L p1 q d) (he : ∀ hq : q < L.length, ¬ IsD L[q] ∨ q - p1 = 10) : spD 10 (L.drop p1) = (d, L.drop q) := by
  have : spD (10 - (q - p1)) (L.drop q) = ([], L.drop q) := by
    by_cases hq : q < L.length
    · rcases he hq with hn | hk
      · rw [List.drop_eq_getElem_cons hq]
        cases 10 - (q - p1) with
        | zero => rfl
        | succ m =>
          show (if IsD L[q] then _ else _) = _
          rw [if_neg hn]
      · rw [hk]; rfl
    · rw [List.drop_eq_nil_of_le (by omega)]
      cases 10 - (q - p1) <;> rfl
  rw [h.sp, this]
  simp
theorem Nr.head {L : List Nat} {p1 q : Nat} {d : List Nat} (h : Nr L p1 q d) (hs : spD 10 (L.drop p1) = (d, L.drop q)) (hq : p1 < q) (h1 : p1 < L.length) : d.head? = some L[p1] := by
  have e := spD_app 10 (L.drop p1)
  rw [hs] at e
  have hne : d ≠ [] := by intro e; have := h.len; rw [e] at this; simp at this; omega
  have := congrArg List.head? e
  simp only [List.drop_eq_getElem_cons h1, List.head?_cons] at this
  match d, hne with
  | x :: t, _ => simpa using this
/-- What number answers: a number and what is left, or 0 and that it has failed. -/
def NumE (w : World) (g : Nat) (L : List Nat) (R : Option (Int × List Nat)) (e : Ending) (w' : World) : Prop :=
  ∃ (q : Nat) (bad : Bool) (v : Int), e = .returned (.int .i64 v) ∧ w'.heap[g]? = some (.cells (rdC L q bad) 157 (0, 0)) ∧ q ≤ L.length ∧ Kp g w w' ∧ R = (if bad = true then none else some (v, L.drop q)) ∧ (bad = true → v = 0)
set_option maxHeartbeats 2000000 in
set_option maxRecDepth 100000 in
theorem number_bad {L : List Nat} {g p : Nat} (h : w.heap[g]? = some (.cells (rdC L p true) 157 (0, 0))) :
    Calls Tryd.prog 97 #[.pointer (some ⟨g, 0, none⟩)] w fun e w' => e = .returned (.int .i64 0) ∧ w'.heap[g]? = some (.cells (rdC L p true) 157 (0, 0)) ∧ Kp g w w' := by
  have HB : Hid (w.heap[g]? = some (.cells (rdC L p true) 157 (0, 0))) := h
  have z0 := cr0 h
  have z1 := cr1 h
  have z2 := cr2 h
  have zf : w.frozen? ⟨g, 2, none⟩ = false := fzr h
  clear h
  go_enter Tryd.func97, Tryd.ntmps97
  go_wp2_with fail
  go_quiet (fail)
  go_wp2_with fail
  go_loopw [5] (fun s5 wr => s5 = .int .i64 0 ∧ wr.heap[g]? = some (.cells (rdC L p true) 157 (0, 0)) ∧ Kp g w wr) (fun _ wr => 0)
  case atStart => exact ⟨rfl, HB.out, (World.grownBy.refl w _).dr _⟩
  case round =>
    obtain ⟨rfl, hb, hk⟩ := hrel
    have HB1 : Hid (wr.heap[g]? = some (.cells (rdC L p true) 157 (0, 0))) := hb
    have HK : Hid (Kp g w wr) := hk
    have z0 := cr0 hb
    have z1 := cr1 hb
    have z2 := cr2 hb
    have zf : wr.frozen? ⟨g, 2, none⟩ = false := fzr hb
    clear hb hk
    go_wp2_with fail
    go_quiet (fail)
    go_wp2_with fail
    go_ret
    exact ⟨rfl, hss (w := wr.drewN _) HB1.out, (HK.out.dr _).set _ _⟩
set_option maxHeartbeats 8000000 in
set_option maxRecDepth 100000 in
theorem number_neg {L : List Nat} {g p : Nat} (hL : ∀ x ∈ L, x < 256) (hl : L.length ≤ 140737488355328) (hp : p < L.length) (hm : L[p] = 45) (h : w.heap[g]? = some (.cells (rdC L p false) 157 (0, 0))) :
    Calls Tryd.prog 97 #[.pointer (some ⟨g, 0, none⟩)] w (NumE w g L (numB (L.drop p))) := by
  have HB : Hid (w.heap[g]? = some (.cells (rdC L p false) 157 (0, 0))) := h
  have z0 := cr0 h
  have z1 := cr1 h
  have z2 := cr2 h
  have zf : w.frozen? ⟨g, 1, none⟩ = false := fzr h
  have hz : ((bs L).size : Int) = (L.length : Int) := by rw [bs_size]
  have HL : Hid (∀ x ∈ L, x < 256) := hL
  have hix := idx_is hL hp
  rw [hm] at hix
  have k1 : (p : Int) < (L.length : Int) := by omega
  have hp1 : Hid ((p + 1) ≤ L.length) := hp
  have k7 : IntKind.i64.wrap ((p : Int) + 1) = ((p + 1 : Nat) : Int) := by rw [IntKind.wrap_i64]; omega
  have HS : Hid (numB (L.drop p) = numD true (spD 10 (L.drop (p + 1)))) := by
    unfold Hid numB
    rw [List.drop_eq_getElem_cons hp, hm, if_pos (by simp), List.tail_cons]
  clear h hL hm hp
  go_enter Tryd.func97, Tryd.ntmps97
  go_wp2_with fail
  go_quiet (fail)
  go_wp2_with fail
  clear hix k7
  go_loopw [5] (fun s5 wr => ∃ (q : Nat) (d : List Nat), s5 = .int .i64 (vl d : Int) ∧ Nr L (p + 1) q d ∧ wr.heap[g]? = some (.cells (rdC L q false) 157 (0, 0)) ∧ Kp g w wr) (fun _ wr => L.length - atOf g wr)
  case atStart => exact ⟨p + 1, [], rfl, Nr.start hp1.out, hss (w := w.drewN _) HB.out, ((World.grownBy.refl w _).dr _).set _ _⟩
  case round =>
    obtain ⟨q, d, rfl, hn, hb, hk⟩ := hrel
    have HB1 : Hid (wr.heap[g]? = some (.cells (rdC L q false) 157 (0, 0))) := hb
    have HK : Hid (Kp g w wr) := hk
    have HN : Hid (Nr L (p + 1) q d) := hn
    have z0 := cr0 hb
    have z1 := cr1 hb
    have z2 := cr2 hb
    have zf1 : wr.frozen? ⟨g, 1, none⟩ = false := fzr hb
    have zf2 : wr.frozen? ⟨g, 2, none⟩ = false := fzr hb
    have hv : vl d < 10000000000 := by
      have h1 := vl_lt _ d hn.len hn.dig
      have h2 : 10 ^ (q - (p + 1)) ≤ 10 ^ 10 := Nat.pow_le_pow_right (by omega) hn.ten
      omega
    have hlo := hn.lo
    have hhi := hn.hi
    have hten := hn.ten
    clear hb hk hn
    by_cases hq : q < L.length
    · have hix := idx_is HL.out hq
      have HC : Hid (∀ e : L[q] = L[q], True) := fun _ => trivial
      have HX : Hid (∃ c, c = L[q]) := ⟨_, rfl⟩
      have HST : Hid (∀ h1 : IsD L[q], q - (p + 1) < 10 → Nr L (p + 1) (q + 1) (d ++ [L[q]])) := fun h1 h2 => HN.out.step hq h1 h2
      have HFI : Hid ((¬ IsD L[q] ∨ q - (p + 1) = 10) → spD 10 (L.drop (p + 1)) = (d, L.drop q)) := fun h => HN.out.fin (fun _ => h)
      clear HC HX
      generalize L[q] = c at *
      by_cases h48 : 48 ≤ c
      · by_cases h57 : c ≤ 57
        · by_cases h10 : q - (p + 1) < 10
          · have i48 : decide ((48 : Int) ≤ (c : Int)) = true := by simp; omega
            have i57 : decide ((c : Int) ≤ 57) = true := by simp; omega
            have e1 : IntKind.i64.wrap ((q : Int) - ((p + 1) : Nat)) = (q : Int) - ((p + 1) : Nat) := by rw [IntKind.wrap_i64]; omega
            have e2 : decide ((q : Int) - ((p + 1) : Nat) < 10) = true := by simp; omega
            have e3 : IntKind.i64.wrap (10 * (vl d : Int)) = 10 * (vl d : Int) := by rw [IntKind.wrap_i64]; omega
            have e4 : IntKind.u8.wrap ((c : Int) - 48) = (c : Int) - 48 := by rw [IntKind.wrap_u8]; omega
            have e5 : IntKind.i64.wrap (10 * (vl d : Int) + ((c : Int) - 48)) = (vl (d ++ [c]) : Int) := by rw [vl_app, IntKind.wrap_i64]; omega
            have e6 : IntKind.i64.wrap ((q : Int) + 1) = ((q + 1 : Nat) : Int) := by rw [IntKind.wrap_i64]; omega
            go_wp2_with fail
            go_quiet (fail)
            go_wp2_with fail
            go_quiet (fail)
            go_wp2_with fail
            go_roundw
            case rel => exact ⟨q + 1, d ++ [c], rfl, HST.out ⟨h48, h57⟩ h10, hss (w := wr.drewN _) HB1.out, (HK.out.dr _).set _ _⟩
            case measure =>
              have m1 := atOf_is HB1.out
              have m2 : ∀ n, atOf g ((wr.drewN n).setCell ⟨g, 1, none⟩ (.int .i64 ((q : Int) + 1))) = q + 1 := fun n => atOf_is (L := L) (bad := false) (hss (w := wr.drewN n) HB1.out)
              rw [m2, m1]; omega
          · have i48 : decide ((48 : Int) ≤ (c : Int)) = true := by simp; omega
            have i57 : decide ((c : Int) ≤ 57) = true := by simp; omega
            have e1 : IntKind.i64.wrap ((q : Int) - ((p : Int) + 1)) = (q : Int) - ((p : Int) + 1) := by rw [IntKind.wrap_i64]; omega
            have e2 : decide ((q : Int) - ((p : Int) + 1) < 10) = false := by simp; omega
            have HSP : Hid (spD 10 (L.drop (p + 1)) = (d, L.drop q)) := HFI.out (.inr (by omega))
            go_wp2_with fail
            go_quiet (fail)
            by_cases f0 : q = (p + 1)
            · first
                | (exfalso; omega)
                | (have f1 : (((q : Nat) : Int) == ((p : Int) + 1)) = true := by simp; omega
                   have HBD : Hid (numD true (d, L.drop q) = none) := if_pos (.inl (List.eq_nil_of_length_eq_zero (by rw [HN.out.len]; omega)))
                   go_wp2_with fail
                   go_ret
                   exact ⟨q, true, 0, rfl, hss (w := wr.drewN _) HB1.out, HN.out.hi, (HK.out.dr _).set _ _, by rw [HS.out, HSP.out]; exact HBD.out, fun _ => rfl⟩)
            · have h1 : (p + 1) < L.length := by omega
              have f1 : (((q : Nat) : Int) == ((p : Int) + 1)) = false := by simp; omega
              have hix1 := idx_is HL.out h1
              rw [show ((p + 1 : Nat) : Int) = (p : Int) + 1 from rfl] at hix1
              have HD : Hid (d.head? = some L[(p + 1)]) := HN.out.head HSP.out (by omega) h1
              have HDn : Hid (d ≠ []) := fun e => by have := HN.out.len; rw [e] at this; simp at this; omega
              generalize L[(p + 1)] = c1 at *
              by_cases f48 : c1 = 48
              · subst f48
                have e8 : IntKind.i64.wrap (((p : Int) + 1) + 1) = ((p : Int) + 1) + 1 := by rw [IntKind.wrap_i64]; omega
                by_cases fq : (p + 1) + 1 < q
                · have f2 : decide (((p : Int) + 1) + 1 < ((q : Nat) : Int)) = true := by simp; omega
                  have HBD : Hid (numD true (d, L.drop q) = none) := if_pos (.inr ⟨HD.out, .inl (by show 1 < d.length; rw [HN.out.len]; omega)⟩)
                  go_wp2_with fail
                  go_ret
                  exact ⟨q, true, 0, rfl, hss (w := wr.drewN _) HB1.out, HN.out.hi, (HK.out.dr _).set _ _, by rw [HS.out, HSP.out]; exact HBD.out, fun _ => rfl⟩
                · first
                    | (exfalso; omega)
                    | (have f2 : decide (((p : Int) + 1) + 1 < ((q : Nat) : Int)) = false := by simp; omega
                       have HBD : Hid (numD true (d, L.drop q) = none) := if_pos (.inr ⟨HD.out, .inr rfl⟩)
                       go_wp2_with fail
                       go_ret
                       exact ⟨q, true, 0, rfl, hss (w := wr.drewN _) HB1.out, HN.out.hi, (HK.out.dr _).set _ _, by rw [HS.out, HSP.out]; exact HBD.out, fun _ => rfl⟩)
              · have f3 : ((c1 : Int) == 48) = false := by simp; omega
                have HBD : Hid (numD true (d, L.drop q) = some (-(vl d : Int), L.drop q)) := if_neg (fun h => h.elim HDn.out fun h => f48 (by have := HD.out; rw [show d.head? = some 48 from h.1] at this; simpa using this.symm))
                go_wp2_with fail
                go_ret
                exact ⟨q, false, -(vl d : Int), by first | rfl | simp, HB1.out, HN.out.hi, HK.out.dr _, by rw [HS.out, HSP.out]; exact HBD.out, fun h => by cases h⟩
        · have i48 : decide ((48 : Int) ≤ (c : Int)) = true := by simp; omega
          have i57 : decide ((c : Int) ≤ 57) = false := by simp; omega
          have HSP : Hid (spD 10 (L.drop (p + 1)) = (d, L.drop q)) := HFI.out (.inl (by unfold IsD; omega))
          go_wp2_with fail
          go_quiet (fail)
          by_cases f0 : q = (p + 1)
          · first
              | (exfalso; omega)
              | (have f1 : (((q : Nat) : Int) == ((p : Int) + 1)) = true := by simp; omega
                 have HBD : Hid (numD true (d, L.drop q) = none) := if_pos (.inl (List.eq_nil_of_length_eq_zero (by rw [HN.out.len]; omega)))
                 go_wp2_with fail
                 go_ret
                 exact ⟨q, true, 0, rfl, hss (w := wr.drewN _) HB1.out, HN.out.hi, (HK.out.dr _).set _ _, by rw [HS.out, HSP.out]; exact HBD.out, fun _ => rfl⟩)
          · have h1 : (p + 1) < L.length := by omega
            have f1 : (((q : Nat) : Int) == ((p : Int) + 1)) = false := by simp; omega
            have hix1 := idx_is HL.out h1
            rw [show ((p + 1 : Nat) : Int) = (p : Int) + 1 from rfl] at hix1
            have HD : Hid (d.head? = some L[(p + 1)]) := HN.out.head HSP.out (by omega) h1
            have HDn : Hid (d ≠ []) := fun e => by have := HN.out.len; rw [e] at this; simp at this; omega
            generalize L[(p + 1)] = c1 at *
            by_cases f48 : c1 = 48
            · subst f48
              have e8 : IntKind.i64.wrap (((p : Int) + 1) + 1) = ((p : Int) + 1) + 1 := by rw [IntKind.wrap_i64]; omega
              by_cases fq : (p + 1) + 1 < q
              · have f2 : decide (((p : Int) + 1) + 1 < ((q : Nat) : Int)) = true := by simp; omega
                have HBD : Hid (numD true (d, L.drop q) = none) := if_pos (.inr ⟨HD.out, .inl (by show 1 < d.length; rw [HN.out.len]; omega)⟩)
                go_wp2_with fail
                go_ret
                exact ⟨q, true, 0, rfl, hss (w := wr.drewN _) HB1.out, HN.out.hi, (HK.out.dr _).set _ _, by rw [HS.out, HSP.out]; exact HBD.out, fun _ => rfl⟩
              · first
                  | (exfalso; omega)
                  | (have f2 : decide (((p : Int) + 1) + 1 < ((q : Nat) : Int)) = false := by simp; omega
                     have HBD : Hid (numD true (d, L.drop q) = none) := if_pos (.inr ⟨HD.out, .inr rfl⟩)
                     go_wp2_with fail
                     go_ret
                     exact ⟨q, true, 0, rfl, hss (w := wr.drewN _) HB1.out, HN.out.hi, (HK.out.dr _).set _ _, by rw [HS.out, HSP.out]; exact HBD.out, fun _ => rfl⟩)
            · have f3 : ((c1 : Int) == 48) = false := by simp; omega
              have HBD : Hid (numD true (d, L.drop q) = some (-(vl d : Int), L.drop q)) := if_neg (fun h => h.elim HDn.out fun h => f48 (by have := HD.out; rw [show d.head? = some 48 from h.1] at this; simpa using this.symm))
              go_wp2_with fail
              go_ret
              exact ⟨q, false, -(vl d : Int), by first | rfl | simp, HB1.out, HN.out.hi, HK.out.dr _, by rw [HS.out, HSP.out]; exact HBD.out, fun h => by cases h⟩
      · have i48 : decide ((48 : Int) ≤ (c : Int)) = false := by simp; omega
        have HSP : Hid (spD 10 (L.drop (p + 1)) = (d, L.drop q)) := HFI.out (.inl (by unfold IsD; omega))
        go_wp2_with fail
        go_quiet (fail)
        by_cases f0 : q = (p + 1)
        · first
            | (exfalso; omega)
            | (have f1 : (((q : Nat) : Int) == ((p : Int) + 1)) = true := by simp; omega
               have HBD : Hid (numD true (d, L.drop q) = none) := if_pos (.inl (List.eq_nil_of_length_eq_zero (by rw [HN.out.len]; omega)))
               go_wp2_with fail
               go_ret
               exact ⟨q, true, 0, rfl, hss (w := wr.drewN _) HB1.out, HN.out.hi, (HK.out.dr _).set _ _, by rw [HS.out, HSP.out]; exact HBD.out, fun _ => rfl⟩)
        · have h1 : (p + 1) < L.length := by omega
          have f1 : (((q : Nat) : Int) == ((p : Int) + 1)) = false := by simp; omega
          have hix1 := idx_is HL.out h1
          rw [show ((p + 1 : Nat) : Int) = (p : Int) + 1 from rfl] at hix1
          have HD : Hid (d.head? = some L[(p + 1)]) := HN.out.head HSP.out (by omega) h1
          have HDn : Hid (d ≠ []) := fun e => by have := HN.out.len; rw [e] at this; simp at this; omega
          generalize L[(p + 1)] = c1 at *
          by_cases f48 : c1 = 48
          · subst f48
            have e8 : IntKind.i64.wrap (((p : Int) + 1) + 1) = ((p : Int) + 1) + 1 := by rw [IntKind.wrap_i64]; omega
            by_cases fq : (p + 1) + 1 < q
            · have f2 : decide (((p : Int) + 1) + 1 < ((q : Nat) : Int)) = true := by simp; omega
              have HBD : Hid (numD true (d, L.drop q) = none) := if_pos (.inr ⟨HD.out, .inl (by show 1 < d.length; rw [HN.out.len]; omega)⟩)
              go_wp2_with fail
              go_ret
              exact ⟨q, true, 0, rfl, hss (w := wr.drewN _) HB1.out, HN.out.hi, (HK.out.dr _).set _ _, by rw [HS.out, HSP.out]; exact HBD.out, fun _ => rfl⟩
            · first
                | (exfalso; omega)
                | (have f2 : decide (((p : Int) + 1) + 1 < ((q : Nat) : Int)) = false := by simp; omega
                   have HBD : Hid (numD true (d, L.drop q) = none) := if_pos (.inr ⟨HD.out, .inr rfl⟩)
                   go_wp2_with fail
                   go_ret
                   exact ⟨q, true, 0, rfl, hss (w := wr.drewN _) HB1.out, HN.out.hi, (HK.out.dr _).set _ _, by rw [HS.out, HSP.out]; exact HBD.out, fun _ => rfl⟩)
          · have f3 : ((c1 : Int) == 48) = false := by simp; omega
            have HBD : Hid (numD true (d, L.drop q) = some (-(vl d : Int), L.drop q)) := if_neg (fun h => h.elim HDn.out fun h => f48 (by have := HD.out; rw [show d.head? = some 48 from h.1] at this; simpa using this.symm))
            go_wp2_with fail
            go_ret
            exact ⟨q, false, -(vl d : Int), by first | rfl | simp, HB1.out, HN.out.hi, HK.out.dr _, by rw [HS.out, HSP.out]; exact HBD.out, fun h => by cases h⟩
    · have HSP : Hid (spD 10 (L.drop (p + 1)) = (d, L.drop q)) := HN.out.fin (fun h => absurd h hq)
      have hq' : q = L.length := by omega
      subst hq'
      go_wp2_with fail
      go_quiet (fail)
      by_cases f0 : L.length = (p + 1)
      · first
          | (exfalso; omega)
          | (have f1 : (((L.length : Nat) : Int) == ((p : Int) + 1)) = true := by simp; omega
             have HBD : Hid (numD true (d, L.drop L.length) = none) := if_pos (.inl (List.eq_nil_of_length_eq_zero (by rw [HN.out.len]; omega)))
             go_wp2_with fail
             go_ret
             exact ⟨L.length, true, 0, rfl, hss (w := wr.drewN _) HB1.out, HN.out.hi, (HK.out.dr _).set _ _, by rw [HS.out, HSP.out]; exact HBD.out, fun _ => rfl⟩)
      · have h1 : (p + 1) < L.length := by omega
        have f1 : (((L.length : Nat) : Int) == ((p : Int) + 1)) = false := by simp; omega
        have hix1 := idx_is HL.out h1
        rw [show ((p + 1 : Nat) : Int) = (p : Int) + 1 from rfl] at hix1
        have HD : Hid (d.head? = some L[(p + 1)]) := HN.out.head HSP.out (by omega) h1
        have HDn : Hid (d ≠ []) := fun e => by have := HN.out.len; rw [e] at this; simp at this; omega
        generalize L[(p + 1)] = c1 at *
        by_cases f48 : c1 = 48
        · subst f48
          have e8 : IntKind.i64.wrap (((p : Int) + 1) + 1) = ((p : Int) + 1) + 1 := by rw [IntKind.wrap_i64]; omega
          by_cases fq : (p + 1) + 1 < L.length
          · have f2 : decide (((p : Int) + 1) + 1 < ((L.length : Nat) : Int)) = true := by simp; omega
            have HBD : Hid (numD true (d, L.drop L.length) = none) := if_pos (.inr ⟨HD.out, .inl (by show 1 < d.length; rw [HN.out.len]; omega)⟩)
            go_wp2_with fail
            go_ret
            exact ⟨L.length, true, 0, rfl, hss (w := wr.drewN _) HB1.out, HN.out.hi, (HK.out.dr _).set _ _, by rw [HS.out, HSP.out]; exact HBD.out, fun _ => rfl⟩
          · first
              | (exfalso; omega)
              | (have f2 : decide (((p : Int) + 1) + 1 < ((L.length : Nat) : Int)) = false := by simp; omega
                 have HBD : Hid (numD true (d, L.drop L.length) = none) := if_pos (.inr ⟨HD.out, .inr rfl⟩)
                 go_wp2_with fail
                 go_ret
                 exact ⟨L.length, true, 0, rfl, hss (w := wr.drewN _) HB1.out, HN.out.hi, (HK.out.dr _).set _ _, by rw [HS.out, HSP.out]; exact HBD.out, fun _ => rfl⟩)
        · have f3 : ((c1 : Int) == 48) = false := by simp; omega
          have HBD : Hid (numD true (d, L.drop L.length) = some (-(vl d : Int), L.drop L.length)) := if_neg (fun h => h.elim HDn.out fun h => f48 (by have := HD.out; rw [show d.head? = some 48 from h.1] at this; simpa using this.symm))
          go_wp2_with fail
          go_ret
          exact ⟨L.length, false, -(vl d : Int), by first | rfl | simp, HB1.out, HN.out.hi, HK.out.dr _, by rw [HS.out, HSP.out]; exact HBD.out, fun h => by cases h⟩
set_option maxHeartbeats 8000000 in
set_option maxRecDepth 100000 in
theorem number_pos {L : List Nat} {g p : Nat} (hL : ∀ x ∈ L, x < 256) (hl : L.length ≤ 140737488355328) (hp : p < L.length) (hm : L[p] ≠ 45) (h : w.heap[g]? = some (.cells (rdC L p false) 157 (0, 0))) :
    Calls Tryd.prog 97 #[.pointer (some ⟨g, 0, none⟩)] w (NumE w g L (numB (L.drop p))) := by
  have HB : Hid (w.heap[g]? = some (.cells (rdC L p false) 157 (0, 0))) := h
  have z0 := cr0 h
  have z1 := cr1 h
  have z2 := cr2 h
  have zf : w.frozen? ⟨g, 1, none⟩ = false := fzr h
  have hz : ((bs L).size : Int) = (L.length : Int) := by rw [bs_size]
  have HL : Hid (∀ x ∈ L, x < 256) := hL
  have hix := idx_is hL hp
  have k1 : (p : Int) < (L.length : Int) := by omega
  have hp1 : Hid (p ≤ L.length) := by unfold Hid; omega
  have hm' : (((L[p] : Nat) : Int) == 45) = false := by simp; omega
  have HS : Hid (numB (L.drop p) = numD false (spD 10 (L.drop p))) := by
    unfold Hid numB
    rw [if_neg]
    rw [List.drop_eq_getElem_cons hp, List.head?_cons, Option.some.injEq]
    exact hm
  generalize L[p] = c0 at *
  clear h hL hm hp
  go_enter Tryd.func97, Tryd.ntmps97
  go_wp2_with fail
  go_quiet (fail)
  go_wp2_with fail
  clear hix hm'
  go_loopw [5] (fun s5 wr => ∃ (q : Nat) (d : List Nat), s5 = .int .i64 (vl d : Int) ∧ Nr L p q d ∧ wr.heap[g]? = some (.cells (rdC L q false) 157 (0, 0)) ∧ Kp g w wr) (fun _ wr => L.length - atOf g wr)
  case atStart => exact ⟨p, [], rfl, Nr.start hp1.out, HB.out, (World.grownBy.refl w _).dr _⟩
  case round =>
    obtain ⟨q, d, rfl, hn, hb, hk⟩ := hrel
    have HB1 : Hid (wr.heap[g]? = some (.cells (rdC L q false) 157 (0, 0))) := hb
    have HK : Hid (Kp g w wr) := hk
    have HN : Hid (Nr L p q d) := hn
    have z0 := cr0 hb
    have z1 := cr1 hb
    have z2 := cr2 hb
    have zf1 : wr.frozen? ⟨g, 1, none⟩ = false := fzr hb
    have zf2 : wr.frozen? ⟨g, 2, none⟩ = false := fzr hb
    have hv : vl d < 10000000000 := by
      have h1 := vl_lt _ d hn.len hn.dig
      have h2 : 10 ^ (q - p) ≤ 10 ^ 10 := Nat.pow_le_pow_right (by omega) hn.ten
      omega
    have hlo := hn.lo
    have hhi := hn.hi
    have hten := hn.ten
    clear hb hk hn
    by_cases hq : q < L.length
    · have hix := idx_is HL.out hq
      have HC : Hid (∀ e : L[q] = L[q], True) := fun _ => trivial
      have HX : Hid (∃ c, c = L[q]) := ⟨_, rfl⟩
      have HST : Hid (∀ h1 : IsD L[q], q - p < 10 → Nr L p (q + 1) (d ++ [L[q]])) := fun h1 h2 => HN.out.step hq h1 h2
      have HFI : Hid ((¬ IsD L[q] ∨ q - p = 10) → spD 10 (L.drop p) = (d, L.drop q)) := fun h => HN.out.fin (fun _ => h)
      clear HC HX
      generalize L[q] = c at *
      by_cases h48 : 48 ≤ c
      · by_cases h57 : c ≤ 57
        · by_cases h10 : q - p < 10
          · have i48 : decide ((48 : Int) ≤ (c : Int)) = true := by simp; omega
            have i57 : decide ((c : Int) ≤ 57) = true := by simp; omega
            have e1 : IntKind.i64.wrap ((q : Int) - (p : Nat)) = (q : Int) - (p : Nat) := by rw [IntKind.wrap_i64]; omega
            have e2 : decide ((q : Int) - (p : Nat) < 10) = true := by simp; omega
            have e3 : IntKind.i64.wrap (10 * (vl d : Int)) = 10 * (vl d : Int) := by rw [IntKind.wrap_i64]; omega
            have e4 : IntKind.u8.wrap ((c : Int) - 48) = (c : Int) - 48 := by rw [IntKind.wrap_u8]; omega
            have e5 : IntKind.i64.wrap (10 * (vl d : Int) + ((c : Int) - 48)) = (vl (d ++ [c]) : Int) := by rw [vl_app, IntKind.wrap_i64]; omega
            have e6 : IntKind.i64.wrap ((q : Int) + 1) = ((q + 1 : Nat) : Int) := by rw [IntKind.wrap_i64]; omega
            go_wp2_with fail
            go_quiet (fail)
            go_wp2_with fail
            go_quiet (fail)
            go_wp2_with fail
            go_roundw
            case rel => exact ⟨q + 1, d ++ [c], rfl, HST.out ⟨h48, h57⟩ h10, hss (w := wr.drewN _) HB1.out, (HK.out.dr _).set _ _⟩
            case measure =>
              have m1 := atOf_is HB1.out
              have m2 : ∀ n, atOf g ((wr.drewN n).setCell ⟨g, 1, none⟩ (.int .i64 ((q : Int) + 1))) = q + 1 := fun n => atOf_is (L := L) (bad := false) (hss (w := wr.drewN n) HB1.out)
              rw [m2, m1]; omega
          · have i48 : decide ((48 : Int) ≤ (c : Int)) = true := by simp; omega
            have i57 : decide ((c : Int) ≤ 57) = true := by simp; omega
            have e1 : IntKind.i64.wrap ((q : Int) - (p : Int)) = (q : Int) - (p : Int) := by rw [IntKind.wrap_i64]; omega
            have e2 : decide ((q : Int) - (p : Int) < 10) = false := by simp; omega
            have HSP : Hid (spD 10 (L.drop p) = (d, L.drop q)) := HFI.out (.inr (by omega))
            go_wp2_with fail
            go_quiet (fail)
            by_cases f0 : q = p
            · first
                | (exfalso; omega)
                | (have f1 : (((q : Nat) : Int) == (p : Int)) = true := by simp; omega
                   have HBD : Hid (numD false (d, L.drop q) = none) := if_pos (.inl (List.eq_nil_of_length_eq_zero (by rw [HN.out.len]; omega)))
                   go_wp2_with fail
                   go_ret
                   exact ⟨q, true, 0, rfl, hss (w := wr.drewN _) HB1.out, HN.out.hi, (HK.out.dr _).set _ _, by rw [HS.out, HSP.out]; exact HBD.out, fun _ => rfl⟩)
            · have h1 : p < L.length := by omega
              have f1 : (((q : Nat) : Int) == (p : Int)) = false := by simp; omega
              have hix1 := idx_is HL.out h1
              have HD : Hid (d.head? = some L[p]) := HN.out.head HSP.out (by omega) h1
              have HDn : Hid (d ≠ []) := fun e => by have := HN.out.len; rw [e] at this; simp at this; omega
              generalize L[p] = c1 at *
              by_cases f48 : c1 = 48
              · subst f48
                have e8 : IntKind.i64.wrap ((p : Int) + 1) = (p : Int) + 1 := by rw [IntKind.wrap_i64]; omega
                by_cases fq : p + 1 < q
                · have f2 : decide ((p : Int) + 1 < ((q : Nat) : Int)) = true := by simp; omega
                  have HBD : Hid (numD false (d, L.drop q) = none) := if_pos (.inr ⟨HD.out, .inl (by show 1 < d.length; rw [HN.out.len]; omega)⟩)
                  go_wp2_with fail
                  go_ret
                  exact ⟨q, true, 0, rfl, hss (w := wr.drewN _) HB1.out, HN.out.hi, (HK.out.dr _).set _ _, by rw [HS.out, HSP.out]; exact HBD.out, fun _ => rfl⟩
                · first
                    | (exfalso; omega)
                    | (have f2 : decide ((p : Int) + 1 < ((q : Nat) : Int)) = false := by simp; omega
                       have HBD : Hid (numD false (d, L.drop q) = some ((vl d : Int), L.drop q)) := if_neg (fun h => h.elim HDn.out fun h => h.2.elim (fun h => by have h : 1 < d.length := h; rw [HN.out.len] at h; omega) (fun h => by cases h))
                       go_wp2_with fail
                       go_ret
                       exact ⟨q, false, (vl d : Int), by first | rfl | simp, HB1.out, HN.out.hi, HK.out.dr _, by rw [HS.out, HSP.out]; exact HBD.out, fun h => by cases h⟩)
              · have f3 : ((c1 : Int) == 48) = false := by simp; omega
                have HBD : Hid (numD false (d, L.drop q) = some ((vl d : Int), L.drop q)) := if_neg (fun h => h.elim HDn.out fun h => f48 (by have := HD.out; rw [show d.head? = some 48 from h.1] at this; simpa using this.symm))
                go_wp2_with fail
                go_ret
                exact ⟨q, false, (vl d : Int), by first | rfl | simp, HB1.out, HN.out.hi, HK.out.dr _, by rw [HS.out, HSP.out]; exact HBD.out, fun h => by cases h⟩
        · have i48 : decide ((48 : Int) ≤ (c : Int)) = true := by simp; omega
          have i57 : decide ((c : Int) ≤ 57) = false := by simp; omega
          have HSP : Hid (spD 10 (L.drop p) = (d, L.drop q)) := HFI.out (.inl (by unfold IsD; omega))
          go_wp2_with fail
          go_quiet (fail)
          by_cases f0 : q = p
          · first
              | (exfalso; omega)
              | (have f1 : (((q : Nat) : Int) == (p : Int)) = true := by simp; omega
                 have HBD : Hid (numD false (d, L.drop q) = none) := if_pos (.inl (List.eq_nil_of_length_eq_zero (by rw [HN.out.len]; omega)))
                 go_wp2_with fail
                 go_ret
                 exact ⟨q, true, 0, rfl, hss (w := wr.drewN _) HB1.out, HN.out.hi, (HK.out.dr _).set _ _, by rw [HS.out, HSP.out]; exact HBD.out, fun _ => rfl⟩)
          · have h1 : p < L.length := by omega
            have f1 : (((q : Nat) : Int) == (p : Int)) = false := by simp; omega
            have hix1 := idx_is HL.out h1
            have HD : Hid (d.head? = some L[p]) := HN.out.head HSP.out (by omega) h1
            have HDn : Hid (d ≠ []) := fun e => by have := HN.out.len; rw [e] at this; simp at this; omega
            generalize L[p] = c1 at *
            by_cases f48 : c1 = 48
            · subst f48
              have e8 : IntKind.i64.wrap ((p : Int) + 1) = (p : Int) + 1 := by rw [IntKind.wrap_i64]; omega
              by_cases fq : p + 1 < q
              · have f2 : decide ((p : Int) + 1 < ((q : Nat) : Int)) = true := by simp; omega
                have HBD : Hid (numD false (d, L.drop q) = none) := if_pos (.inr ⟨HD.out, .inl (by show 1 < d.length; rw [HN.out.len]; omega)⟩)
                go_wp2_with fail
                go_ret
                exact ⟨q, true, 0, rfl, hss (w := wr.drewN _) HB1.out, HN.out.hi, (HK.out.dr _).set _ _, by rw [HS.out, HSP.out]; exact HBD.out, fun _ => rfl⟩
              · first
                  | (exfalso; omega)
                  | (have f2 : decide ((p : Int) + 1 < ((q : Nat) : Int)) = false := by simp; omega
                     have HBD : Hid (numD false (d, L.drop q) = some ((vl d : Int), L.drop q)) := if_neg (fun h => h.elim HDn.out fun h => h.2.elim (fun h => by have h : 1 < d.length := h; rw [HN.out.len] at h; omega) (fun h => by cases h))
                     go_wp2_with fail
                     go_ret
                     exact ⟨q, false, (vl d : Int), by first | rfl | simp, HB1.out, HN.out.hi, HK.out.dr _, by rw [HS.out, HSP.out]; exact HBD.out, fun h => by cases h⟩)
            · have f3 : ((c1 : Int) == 48) = false := by simp; omega
              have HBD : Hid (numD false (d, L.drop q) = some ((vl d : Int), L.drop q)) := if_neg (fun h => h.elim HDn.out fun h => f48 (by have := HD.out; rw [show d.head? = some 48 from h.1] at this; simpa using this.symm))
              go_wp2_with fail
              go_ret
              exact ⟨q, false, (vl d : Int), by first | rfl | simp, HB1.out, HN.out.hi, HK.out.dr _, by rw [HS.out, HSP.out]; exact HBD.out, fun h => by cases h⟩
      · have i48 : decide ((48 : Int) ≤ (c : Int)) = false := by simp; omega
        have HSP : Hid (spD 10 (L.drop p) = (d, L.drop q)) := HFI.out (.inl (by unfold IsD; omega))
        go_wp2_with fail
        go_quiet (fail)
        by_cases f0 : q = p
        · first
            | (exfalso; omega)
            | (have f1 : (((q : Nat) : Int) == (p : Int)) = true := by simp; omega
               have HBD : Hid (numD false (d, L.drop q) = none) := if_pos (.inl (List.eq_nil_of_length_eq_zero (by rw [HN.out.len]; omega)))
               go_wp2_with fail
               go_ret
               exact ⟨q, true, 0, rfl, hss (w := wr.drewN _) HB1.out, HN.out.hi, (HK.out.dr _).set _ _, by rw [HS.out, HSP.out]; exact HBD.out, fun _ => rfl⟩)
        · have h1 : p < L.length := by omega
          have f1 : (((q : Nat) : Int) == (p : Int)) = false := by simp; omega
          have hix1 := idx_is HL.out h1
          have HD : Hid (d.head? = some L[p]) := HN.out.head HSP.out (by omega) h1
          have HDn : Hid (d ≠ []) := fun e => by have := HN.out.len; rw [e] at this; simp at this; omega
          generalize L[p] = c1 at *
          by_cases f48 : c1 = 48
          · subst f48
            have e8 : IntKind.i64.wrap ((p : Int) + 1) = (p : Int) + 1 := by rw [IntKind.wrap_i64]; omega
            by_cases fq : p + 1 < q
            · have f2 : decide ((p : Int) + 1 < ((q : Nat) : Int)) = true := by simp; omega
              have HBD : Hid (numD false (d, L.drop q) = none) := if_pos (.inr ⟨HD.out, .inl (by show 1 < d.length; rw [HN.out.len]; omega)⟩)
              go_wp2_with fail
              go_ret
              exact ⟨q, true, 0, rfl, hss (w := wr.drewN _) HB1.out, HN.out.hi, (HK.out.dr _).set _ _, by rw [HS.out, HSP.out]; exact HBD.out, fun _ => rfl⟩
            · first
                | (exfalso; omega)
                | (have f2 : decide ((p : Int) + 1 < ((q : Nat) : Int)) = false := by simp; omega
                   have HBD : Hid (numD false (d, L.drop q) = some ((vl d : Int), L.drop q)) := if_neg (fun h => h.elim HDn.out fun h => h.2.elim (fun h => by have h : 1 < d.length := h; rw [HN.out.len] at h; omega) (fun h => by cases h))
                   go_wp2_with fail
                   go_ret
                   exact ⟨q, false, (vl d : Int), by first | rfl | simp, HB1.out, HN.out.hi, HK.out.dr _, by rw [HS.out, HSP.out]; exact HBD.out, fun h => by cases h⟩)
          · have f3 : ((c1 : Int) == 48) = false := by simp; omega
            have HBD : Hid (numD false (d, L.drop q) = some ((vl d : Int), L.drop q)) := if_neg (fun h => h.elim HDn.out fun h => f48 (by have := HD.out; rw [show d.head? = some 48 from h.1] at this; simpa using this.symm))
            go_wp2_with fail
            go_ret
            exact ⟨q, false, (vl d : Int), by first | rfl | simp, HB1.out, HN.out.hi, HK.out.dr _, by rw [HS.out, HSP.out]; exact HBD.out, fun h => by cases h⟩
    · have HSP : Hid (spD 10 (L.drop p) = (d, L.drop q)) := HN.out.fin (fun h => absurd h hq)
      have hq' : q = L.length := by omega
      subst hq'
      go_wp2_with fail
      go_quiet (fail)
      by_cases f0 : L.length = p
      · first
          | (exfalso; omega)
          | (have f1 : (((L.length : Nat) : Int) == (p : Int)) = true := by simp; omega
             have HBD : Hid (numD false (d, L.drop L.length) = none) := if_pos (.inl (List.eq_nil_of_length_eq_zero (by rw [HN.out.len]; omega)))
             go_wp2_with fail
             go_ret
             exact ⟨L.length, true, 0, rfl, hss (w := wr.drewN _) HB1.out, HN.out.hi, (HK.out.dr _).set _ _, by rw [HS.out, HSP.out]; exact HBD.out, fun _ => rfl⟩)
      · have h1 : p < L.length := by omega
        have f1 : (((L.length : Nat) : Int) == (p : Int)) = false := by simp; omega
        have hix1 := idx_is HL.out h1
        have HD : Hid (d.head? = some L[p]) := HN.out.head HSP.out (by omega) h1
        have HDn : Hid (d ≠ []) := fun e => by have := HN.out.len; rw [e] at this; simp at this; omega
        generalize L[p] = c1 at *
        by_cases f48 : c1 = 48
        · subst f48
          have e8 : IntKind.i64.wrap ((p : Int) + 1) = (p : Int) + 1 := by rw [IntKind.wrap_i64]; omega
          by_cases fq : p + 1 < L.length
          · have f2 : decide ((p : Int) + 1 < ((L.length : Nat) : Int)) = true := by simp; omega
            have HBD : Hid (numD false (d, L.drop L.length) = none) := if_pos (.inr ⟨HD.out, .inl (by show 1 < d.length; rw [HN.out.len]; omega)⟩)
            go_wp2_with fail
            go_ret
            exact ⟨L.length, true, 0, rfl, hss (w := wr.drewN _) HB1.out, HN.out.hi, (HK.out.dr _).set _ _, by rw [HS.out, HSP.out]; exact HBD.out, fun _ => rfl⟩
          · first
              | (exfalso; omega)
              | (have f2 : decide ((p : Int) + 1 < ((L.length : Nat) : Int)) = false := by simp; omega
                 have HBD : Hid (numD false (d, L.drop L.length) = some ((vl d : Int), L.drop L.length)) := if_neg (fun h => h.elim HDn.out fun h => h.2.elim (fun h => by have h : 1 < d.length := h; rw [HN.out.len] at h; omega) (fun h => by cases h))
                 go_wp2_with fail
                 go_ret
                 exact ⟨L.length, false, (vl d : Int), by first | rfl | simp, HB1.out, HN.out.hi, HK.out.dr _, by rw [HS.out, HSP.out]; exact HBD.out, fun h => by cases h⟩)
        · have f3 : ((c1 : Int) == 48) = false := by simp; omega
          have HBD : Hid (numD false (d, L.drop L.length) = some ((vl d : Int), L.drop L.length)) := if_neg (fun h => h.elim HDn.out fun h => f48 (by have := HD.out; rw [show d.head? = some 48 from h.1] at this; simpa using this.symm))
          go_wp2_with fail
          go_ret
          exact ⟨L.length, false, (vl d : Int), by first | rfl | simp, HB1.out, HN.out.hi, HK.out.dr _, by rw [HS.out, HSP.out]; exact HBD.out, fun h => by cases h⟩
set_option maxHeartbeats 2000000 in
set_option maxRecDepth 100000 in
theorem number_end {L : List Nat} {g : Nat} (h : w.heap[g]? = some (.cells (rdC L L.length false) 157 (0, 0))) :
    Calls Tryd.prog 97 #[.pointer (some ⟨g, 0, none⟩)] w fun e w' => e = .returned (.int .i64 0) ∧ w'.heap[g]? = some (.cells (rdC L L.length true) 157 (0, 0)) ∧ Kp g w w' := by
  have HB : Hid (w.heap[g]? = some (.cells (rdC L L.length false) 157 (0, 0))) := h
  have z0 := cr0 h
  have z1 := cr1 h
  have z2 := cr2 h
  have zf : w.frozen? ⟨g, 2, none⟩ = false := fzr h
  have hz : ((bs L).size : Int) = (L.length : Int) := by rw [bs_size]
  clear h
  go_enter Tryd.func97, Tryd.ntmps97
  go_wp2_with fail
  go_quiet (fail)
  go_wp2_with fail
  go_loopw [5] (fun s5 wr => s5 = .int .i64 0 ∧ wr.heap[g]? = some (.cells (rdC L L.length false) 157 (0, 0)) ∧ Kp g w wr) (fun _ wr => 0)
  case atStart => exact ⟨rfl, HB.out, (World.grownBy.refl w _).dr _⟩
  case round =>
    obtain ⟨rfl, hb, hk⟩ := hrel
    have HB1 : Hid (wr.heap[g]? = some (.cells (rdC L L.length false) 157 (0, 0))) := hb
    have HK : Hid (Kp g w wr) := hk
    have z0 := cr0 hb
    have z1 := cr1 hb
    have z2 := cr2 hb
    have zf : wr.frozen? ⟨g, 2, none⟩ = false := fzr hb
    clear hb hk
    go_wp2_with fail
    go_quiet (fail)
    go_wp2_with fail
    go_ret
    exact ⟨rfl, hss (w := wr.drewN _) HB1.out, (HK.out.dr _).set _ _⟩
/-- A number is read. -/
theorem num_any {L : List Nat} {g : Nat} {o : Option (List Nat)} (hL : ∀ x ∈ L, x < 256) (hl : L.length ≤ 140737488355328) (X : Rx w g L o) :
    Calls Tryd.prog 97 #[.pointer (some ⟨g, 0, none⟩)] w fun e w' => e = .returned (.int .i64 (((o.bind numB).map (·.1)).getD 0)) ∧ Rx w' g L ((o.bind numB).map (·.2)) ∧ Kp g w w' := by
  obtain ⟨p, bad, h, hp, rfl⟩ := X.ex
  cases bad with
  | true => exact (number_bad h).mono fun e w' ⟨he, h', k⟩ => ⟨he, ⟨p, true, h', hp, by simp⟩, k⟩
  | false =>
    have go : ∀ e w', NumE w g L (numB (L.drop p)) e w' → e = .returned (.int .i64 ((((if false = true then none else some (L.drop p)).bind numB).map (·.1)).getD 0)) ∧ Rx w' g L (((if false = true then none else some (L.drop p)).bind numB).map (·.2)) ∧ Kp g w w' := fun e w' ⟨q, bad, v, he, h', hq, k, hr, hv⟩ => by
      have e0 : ((if false = true then none else some (L.drop p)).bind numB) = numB (L.drop p) := rfl
      rw [e0, hr]
      cases bad with
      | true => exact ⟨by rw [he, hv rfl]; rfl, ⟨q, true, h', hq, rfl⟩, k⟩
      | false => exact ⟨he, ⟨q, false, h', hq, rfl⟩, k⟩
    by_cases hq : p < L.length
    · by_cases hm : L[p] = 45
      · exact (number_neg hL hl hq hm h).mono go
      · exact (number_pos hL hl hq hm h).mono go
    · have hp' : p = L.length := by omega
      subst hp'
      refine (number_end h).mono fun e w' ⟨he, h', k⟩ => go e w' ⟨L.length, true, 0, he, h', Nat.le_refl _, k, ?_, fun _ => rfl⟩
      rw [List.drop_eq_nil_of_le (Nat.le_refl _)]
      rfl
end Go.Proofs.YtkdghgiajifbdaaDoor.As
