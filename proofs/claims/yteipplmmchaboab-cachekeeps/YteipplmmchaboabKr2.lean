/-
  What the document's Has answers: whether a block has a byte of some.
-/
import Derived.Test.YteipplmmchaboabKp
namespace Go.Proofs.Yteipplmmchaboab.Kc
open Go.ChangeShapes Go.WideShapes Go.ChangeAt Go.RowKit Mm Ts
set_option linter.unusedVariables false
set_option linter.unusedSimpArgs false

theorem hasB_yes {b : Bv} {f t : Int} {j : Nat} (hj : (j : Int) < 4 * (b.is.length : Int)) (h1 : f ≤ b.pc + j) (h2 : b.pc + j < t) : hasB b f t = true := by
  unfold hasB
  refine decide_eq_true ?_
  rw [Int.max_def, Int.min_def]
  (repeat' split) <;> omega
theorem hasB_no {b : Bv} {f t : Int} (h : ∀ j : Nat, (j : Int) < 4 * (b.is.length : Int) → ¬ (f ≤ b.pc + j ∧ b.pc + j < t)) : hasB b f t = false := by
  unfold hasB
  refine decide_eq_false fun q => ?_
  rw [Int.max_def, Int.min_def] at q
  by_cases c : b.pc ≤ f
  · refine h (f - b.pc).toNat ?_ ?_
    · (repeat' split at q) <;> omega
    · (repeat' split at q) <;> omega
  · refine h 0 ?_ ?_
    · (repeat' split at q) <;> omega
    · (repeat' split at q) <;> omega
set_option maxHeartbeats 2000000 in
set_option maxRecDepth 100000 in
theorem Has_any {w : World} {b : Bv} {x y : Value} (B : Bc w b x y) {f t : Int} (hf : 0 ≤ f ∧ f < 4294967296) (ht : 0 ≤ t ∧ t < 4294967296) :
    Calls Try.prog 15 #[.agg #[x, y], .agg #[.int .u32 f, .int .u32 t]] w fun e w' => e = .returned (.bool (hasB b f t)) ∧ Gr w w' := by
  obtain ⟨rfl, ⟨p0, p1⟩, sa, sn, sc, rfl, I, hb⟩ := B
  have hl := I.len
  have HY : Hid (∀ j : Nat, (j : Int) < 4 * (sn : Int) → f ≤ b.pc + j → b.pc + j < t → hasB b f t = true) := fun j h1 h2 h3 => hasB_yes (by rw [hl]; exact h1) h2 h3
  have HN : Hid ((∀ j : Nat, (j : Int) < 4 * (sn : Int) → ¬ (f ≤ b.pc + j ∧ b.pc + j < t)) → hasB b f t = false) := fun h => hasB_no (by rw [hl]; exact h)
  generalize hasB b f t = R at *
  generalize b.pc = pc at *
  clear I hl
  have HA1 : Hid (((w.alloc (.cells #[.int .u32 pc, .slice sa sn sc] 28)).alloc (.cells #[.int .u32 f, .int .u32 t] 30)).heap[w.heap.size]? = some (.cells #[.int .u32 pc, .slice sa sn sc] 28 (0, 0))) := heap_alloc2_old w _ _
  have HA2 : Hid (((w.alloc (.cells #[.int .u32 pc, .slice sa sn sc] 28)).alloc (.cells #[.int .u32 f, .int .u32 t] 30)).heap[w.heap.size + 1]? = some (.cells #[.int .u32 f, .int .u32 t] 30 (0, 0))) := heap_alloc2_new w _ _
  have HG : Hid (Gr w ((w.alloc (.cells #[.int .u32 pc, .slice sa sn sc] 28)).alloc (.cells #[.int .u32 f, .int .u32 t] 30))) := ((Gr.refl _).alloc _).alloc _
  go_enter Try.func15, Try.ntmps15
  go_wp2_with fail
  generalize ((w.alloc (.cells #[.int .u32 pc, .slice sa sn sc] 28)).alloc (.cells #[.int .u32 f, .int .u32 t] 30)) = w1 at *
  have k0 : w1.cell? ⟨w.heap.size, 0, none⟩ = some (.int .u32 pc) := cell_of_row _ _ _ _ _ _ HA1.out
  have k1 : w1.cell? ⟨w.heap.size, 1, none⟩ = some (.slice sa sn sc) := cell_of_row _ _ _ _ _ _ HA1.out
  have k2 : w1.cell? ⟨w.heap.size + 1, 0, none⟩ = some (.int .u32 f) := cell_of_row _ _ _ _ _ _ HA2.out
  have k3 : w1.cell? ⟨w.heap.size + 1, 1, none⟩ = some (.int .u32 t) := cell_of_row _ _ _ _ _ _ HA2.out
  clear HA1 HA2
  go_loopw [5] (fun i wr => ∃ j : Nat, (j : Int) ≤ 4 * (sn : Int) ∧ i = .int .i64 j ∧ (∀ s : Nat, s < j → ¬ (f ≤ pc + s ∧ pc + s < t)) ∧ wr = w1) (fun i _ => 4 * sn - (intOf i).toNat)
  case atStart => exact ⟨0, by omega, rfl, fun s h => absurd h (by omega), rfl⟩
  case round =>
    obtain ⟨j, hj, rfl, hno, rfl⟩ := hrel
    have HNo : Hid (∀ s : Nat, s < j → ¬ (f ≤ pc + s ∧ pc + s < t)) := hno
    clear hno
    by_cases hlt : (j : Int) < 4 * (sn : Int)
    · by_cases h1 : f ≤ pc + (j : Int)
      · by_cases h2 : pc + (j : Int) < t
        · have HE : Hid (R = true) := HY.out j hlt h1 h2
          clear HNo HN HY
          go_wp2_with fail
          go_ret
          exact ⟨ret_bool HE.out.symm, HG.out⟩
        · have HNx : Hid (∀ s : Nat, s < j + 1 → ¬ (f ≤ pc + s ∧ pc + s < t)) := fun s hs q => by
            by_cases e : s = j
            · subst e; exact h2 q.2
            · exact HNo.out s (by omega) q
          clear HNo HN HY
          go_wp2_with fail
          go_roundw
          case rel => exact ⟨j + 1, by omega, by go_num, HNx.out, by first | rfl | trivial⟩
          case measure => simp [intOf]; omega
      · have HNx : Hid (∀ s : Nat, s < j + 1 → ¬ (f ≤ pc + s ∧ pc + s < t)) := fun s hs q => by
          by_cases e : s = j
          · subst e; exact h1 q.1
          · exact HNo.out s (by omega) q
        clear HNo HN HY
        go_wp2_with fail
        go_roundw
        case rel => exact ⟨j + 1, by omega, by go_num, HNx.out, by first | rfl | trivial⟩
        case measure => simp [intOf]; omega
    · have HE : Hid (R = false) := HN.out fun s hs => HNo.out s (by omega)
      clear HNo HN HY
      go_wp2_with fail
      go_ret
      exact ⟨ret_bool HE.out.symm, HG.out⟩
end Go.Proofs.Yteipplmmchaboab.Kc
