/-
  The document's Reader (package ferrybridgeref11): what stands there is eaten, a number is read ('eatB', 'numB'); once it has failed it has.
-/
import Derived.Test.YtkdghgiajifbdaaDoorAa1
import Derived.Deep.RegionHeld3
import Derived.Maps.AppendAt
import Derived.Laws.DeepStrings4
namespace Go.Proofs.YtkdghgiajifbdaaDoor.As
open Go.ChangeShapes Go.WideShapes Go.ChangeAt Go.RowKit Mm
set_option linter.unusedVariables false

variable {w w' : World}
theorem beq_bs1 {x c : Nat} (hx : x < 256) (hc : c < 256) : ((bs [x]).toList == (bs [c]).toList) = decide ([x] = [c]) := by
  by_cases h : x = c
  · subst h; simp
  · rw [decide_eq_false (by simpa using h), beq_eq_false_iff_ne]
    intro e
    rw [ByteArray.toList_eq, ByteArray.toList_eq] at e
    have := bs_inj (by simpa using hx) (by simpa using hc) (bs_ext e)
    exact h (by simpa using this)
/-- A Reader as cells. -/
abbrev rdC (L : List Nat) (at_ : Nat) (bad : Bool) : Array Value := #[.string (bs L), .int .i64 (at_ : Int), .bool bad]
/-- A Reader at block g: what is left of its text, or that it has failed. -/
structure Rx (W : World) (g : Nat) (L : List Nat) (o : Option (List Nat)) : Prop where
  ex : ∃ (p : Nat) (bad : Bool), W.heap[g]? = some (.cells (rdC L p bad) 157 (0, 0)) ∧ p ≤ L.length ∧ o = if bad = true then none else some (L.drop p)
/-- Of what was there nothing but block g has turned. -/
abbrev Kp (g : Nat) (a b : World) : Prop := a.grownBy b (some g)
theorem _root_.Go.World.grownBy.set {g : Nat} {a b : World} (h : a.grownBy b (some g)) (i : Nat) (v : Value) : Kp g a (b.setCell ⟨g, i, none⟩ v) :=
  ⟨h.os, h.tape, h.output, by simpa using h.size, fun k hk hn => (hso (by exact fun e => hn (by rw [e]))).trans (h.block k hk hn)⟩
theorem _root_.Go.World.grownBy.dr {g : Nat} {a b : World} (h : a.grownBy b (some g)) (n : Nat) : Kp g a (b.drewN n) := ⟨h.os, h.tape, h.output, h.size, h.block⟩
set_option maxHeartbeats 2000000 in
set_option maxRecDepth 100000 in
theorem eat_bad {L : List Nat} {g p : Nat} (h : w.heap[g]? = some (.cells (rdC L p true) 157 (0, 0))) (s : ByteArray) :
    Calls Tryd.prog 95 #[.pointer (some ⟨g, 0, none⟩), .string s] w fun e w' => e = .returned (.tuple #[]) ∧ w'.heap[g]? = some (.cells (rdC L p true) 157 (0, 0)) ∧ Kp g w w' := by
  have HB : Hid (w.heap[g]? = some (.cells (rdC L p true) 157 (0, 0))) := h
  have z0 := cr0 h
  have z1 := cr1 h
  have z2 := cr2 h
  have zf : w.frozen? ⟨g, 2, none⟩ = false := fzr h
  clear h
  go_enter Tryd.func95, Tryd.ntmps95
  go_wp2_with fail
  go_quiet (fail)
  go_wp2_with fail
  refine bodyPost_ret (results_none Tryd.results95 _ _ _) rfl ⟨rfl, hss (w := w.drewN _) HB.out, ((World.grownBy.refl w _).dr _).set _ _⟩
set_option maxHeartbeats 2000000 in
set_option maxRecDepth 100000 in
theorem eat_end {L : List Nat} {g : Nat} (hl : L.length ≤ 140737488355328) (h : w.heap[g]? = some (.cells (rdC L L.length false) 157 (0, 0))) (c : UInt8) :
    Calls Tryd.prog 95 #[.pointer (some ⟨g, 0, none⟩), .string ⟨#[c]⟩] w fun e w' => e = .returned (.tuple #[]) ∧ w'.heap[g]? = some (.cells (rdC L L.length true) 157 (0, 0)) ∧ Kp g w w' := by
  have HB : Hid (w.heap[g]? = some (.cells (rdC L L.length false) 157 (0, 0))) := h
  have z0 := cr0 h
  have z1 := cr1 h
  have z2 := cr2 h
  have zf : w.frozen? ⟨g, 2, none⟩ = false := fzr h
  have hz : ((bs L).size : Int) = (L.length : Int) := by rw [bs_size]
  clear h
  go_enter Tryd.func95, Tryd.ntmps95
  go_wp2_with fail
  go_quiet (fail)
  go_wp2_with fail
  refine bodyPost_ret (results_none Tryd.results95 _ _ _) rfl ⟨rfl, hss (w := w.drewN _) HB.out, ((World.grownBy.refl w _).dr _).set _ _⟩
set_option maxHeartbeats 2000000 in
set_option maxRecDepth 100000 in
theorem eat_yes {L : List Nat} {g p : Nat} (hl : L.length ≤ 140737488355328) (hp : p < L.length) (h : w.heap[g]? = some (.cells (rdC L p false) 157 (0, 0))) (sc : ByteArray) (hs1 : sc.size = 1) (hq : (((bs L).extract p (p + 1)).toList == sc.toList) = true) :
    Calls Tryd.prog 95 #[.pointer (some ⟨g, 0, none⟩), .string sc] w fun e w' => e = .returned (.tuple #[]) ∧ w'.heap[g]? = some (.cells (rdC L (p + 1) false) 157 (0, 0)) ∧ Kp g w w' := by
  have HB : Hid (w.heap[g]? = some (.cells (rdC L p false) 157 (0, 0))) := h
  have z0 := cr0 h
  have z1 := cr1 h
  have z2 := cr2 h
  have zf : w.frozen? ⟨g, 1, none⟩ = false := fzr h
  have hz : ((bs L).size : Int) = (L.length : Int) := by rw [bs_size]
  have k1 : ¬ (L.length : Int) - (p : Int) < 1 := by omega
  have k2 : (p : Int) + 1 ≤ (L.length : Int) := by omega
  have k3 : (0 : Int) ≤ (p : Int) := by omega
  have k4 : (p : Int) < 9223372036854775807 := by omega
  have k5 : IntKind.i64.wrap ((L.length : Int) - (p : Int)) = (L.length : Int) - (p : Int) := by rw [IntKind.wrap_i64]; omega
  have k6 : decide ((L.length : Int) - (p : Int) < 1) = false := by simp; omega
  have k7 : IntKind.i64.wrap ((p : Int) + 1) = (p : Int) + 1 := by rw [IntKind.wrap_i64]; omega
  have hsl : ∀ w : World, (Instr.slice 9 (.string (bs L)) (some (.int .i64 (p : Int))) (some (.int .i64 ((p : Int) + 1))) none).run Tryd.prog w = .ok (.string ((bs L).extract p (p + 1))) w := fun w => by
    rw [run_slice_string_if (h := Tryd.underlying9), if_pos ⟨by omega, by omega⟩, if_pos ⟨by omega, by omega⟩, show ((p : Int)).toNat = p by omega, show ((p : Int) + 1).toNat = p + 1 by omega]
  clear h
  go_enter Tryd.func95, Tryd.ntmps95
  go_wp2_with fail
  go_quiet (fail)
  go_wp2_with fail
  exact bodyPost_end (results_none Tryd.results95 _ _ _) rfl ⟨rfl, hss (w := w.drewN _) HB.out, ((World.grownBy.refl w _).dr _).set _ _⟩
set_option maxHeartbeats 2000000 in
set_option maxRecDepth 100000 in
theorem eat_no {L : List Nat} {g p : Nat} (hl : L.length ≤ 140737488355328) (hp : p < L.length) (h : w.heap[g]? = some (.cells (rdC L p false) 157 (0, 0))) (sc : ByteArray) (hs1 : sc.size = 1) (hq : (((bs L).extract p (p + 1)).toList == sc.toList) = false) :
    Calls Tryd.prog 95 #[.pointer (some ⟨g, 0, none⟩), .string sc] w fun e w' => e = .returned (.tuple #[]) ∧ w'.heap[g]? = some (.cells (rdC L p true) 157 (0, 0)) ∧ Kp g w w' := by
  have HB : Hid (w.heap[g]? = some (.cells (rdC L p false) 157 (0, 0))) := h
  have z0 := cr0 h
  have z1 := cr1 h
  have z2 := cr2 h
  have zf : w.frozen? ⟨g, 2, none⟩ = false := fzr h
  have hz : ((bs L).size : Int) = (L.length : Int) := by rw [bs_size]
  have k1 : ¬ (L.length : Int) - (p : Int) < 1 := by omega
  have k2 : (p : Int) + 1 ≤ (L.length : Int) := by omega
  have k3 : (0 : Int) ≤ (p : Int) := by omega
  have k4 : (p : Int) < 9223372036854775807 := by omega
  have k5 : IntKind.i64.wrap ((L.length : Int) - (p : Int)) = (L.length : Int) - (p : Int) := by rw [IntKind.wrap_i64]; omega
  have k6 : decide ((L.length : Int) - (p : Int) < 1) = false := by simp; omega
  have k7 : IntKind.i64.wrap ((p : Int) + 1) = (p : Int) + 1 := by rw [IntKind.wrap_i64]; omega
  have hsl : ∀ w : World, (Instr.slice 9 (.string (bs L)) (some (.int .i64 (p : Int))) (some (.int .i64 ((p : Int) + 1))) none).run Tryd.prog w = .ok (.string ((bs L).extract p (p + 1))) w := fun w => by
    rw [run_slice_string_if (h := Tryd.underlying9), if_pos ⟨by omega, by omega⟩, if_pos ⟨by omega, by omega⟩, show ((p : Int)).toNat = p by omega, show ((p : Int) + 1).toNat = p + 1 by omega]
  clear h
  go_enter Tryd.func95, Tryd.ntmps95
  go_wp2_with fail
  go_quiet (fail)
  go_wp2_with fail
  refine bodyPost_ret (results_none Tryd.results95 _ _ _) rfl ⟨rfl, hss (w := w.drewN _) HB.out, ((World.grownBy.refl w _).dr _).set _ _⟩
theorem ext_one {L : List Nat} {p : Nat} (hp : p < L.length) : (bs L).extract p (p + 1) = bs [L[p]] := bs_ext (by
  rw [Lib.extract_data, bs_list, bs_list, ← List.map_drop, ← List.map_take, show p + 1 - p = 1 by omega, List.drop_eq_getElem_cons hp]
  rfl)
/-- What must stand there is eaten. -/
theorem eat_any {L : List Nat} {g c : Nat} {o : Option (List Nat)} (hc : c < 256) (hL : ∀ x ∈ L, x < 256) (hl : L.length ≤ 140737488355328) (X : Rx w g L o) :
    Calls Tryd.prog 95 #[.pointer (some ⟨g, 0, none⟩), .string (bs [c])] w fun e w' => e = .returned (.tuple #[]) ∧ Rx w' g L (o.bind (eatB c)) ∧ Kp g w w' := by
  obtain ⟨p, bad, h, hp, rfl⟩ := X.ex
  cases bad with
  | true => exact (eat_bad h _).mono fun e w' ⟨he, h', k⟩ => ⟨he, ⟨p, true, h', hp, by simp⟩, k⟩
  | false =>
    by_cases hq : p < L.length
    · have he : (((bs L).extract p (p + 1)).toList == (bs [c]).toList) = decide ([L[p]] = [c]) := by
        rw [ext_one hq]
        exact beq_bs1 (hL _ (List.getElem_mem hq)) hc
      have hd : L.drop p = L[p] :: L.drop (p + 1) := List.drop_eq_getElem_cons hq
      by_cases hy : L[p] = c
      · refine (eat_yes hl hq h (bs [c]) (by rw [bs_size]; rfl) (by rw [he]; simpa using hy)).mono fun e w' ⟨he, h', k⟩ => ⟨he, ⟨p + 1, false, h', hq, ?_⟩, k⟩
        show (some (L.drop p)).bind (eatB c) = some (L.drop (p + 1))
        rw [hd, Option.bind_some]
        exact if_pos hy
      · refine (eat_no hl hq h (bs [c]) (by rw [bs_size]; rfl) (by rw [he]; simpa using hy)).mono fun e w' ⟨he, h', k⟩ => ⟨he, ⟨p, true, h', hp, ?_⟩, k⟩
        show (some (L.drop p)).bind (eatB c) = none
        rw [hd, Option.bind_some]
        exact if_neg hy
    · have hp' : p = L.length := by omega
      subst hp'
      refine (eat_end hl h _).mono fun e w' ⟨he, h', k⟩ => ⟨he, ⟨L.length, true, h', hp, ?_⟩, k⟩
      simp [eatB]
end Go.Proofs.YtkdghgiajifbdaaDoor.As
