/-
  What the document's Place answers: where the first block of a place is.
-/
import Derived.Test.YteipplmmchaboabKp
namespace Go.Proofs.Yteipplmmchaboab.Kc
open Go.ChangeShapes Go.WideShapes Go.ChangeAt Go.RowKit Mm Ts
set_option linter.unusedVariables false
set_option linter.unusedSimpArgs false

set_option maxHeartbeats 2000000 in
set_option maxRecDepth 100000 in
theorem Place_any {w : World} {ao : Option Addr} {n : Nat} (cap : Nat) {bs : List Bv} (B : Bs w ao n bs) (hn : n ≤ 140737488351232) (pc : Int) :
    Calls Try.prog 9 #[.slice ao n cap, .int .u32 pc] w fun e w' => e = .returned (.int .i64 (place pc bs 0)) ∧ Gr w w' := by
  have HL : Hid (bs.length = n) := B.len
  have HB : Hid (Bs w ao n bs) := B
  clear B
  go_enter Try.func9, Try.ntmps9
  go_wp2_with fail
  go_loopw [5] (fun i wr => ∃ j : Nat, j ≤ n ∧ i = .int .i64 j ∧ (∀ (t : Nat) (x : Bv), t < j → bs[t]? = some x → ¬ x.pc = pc) ∧ Gr w wr) (fun i _ => n - (intOf i).toNat)
  case atStart => exact ⟨0, Nat.zero_le _, rfl, fun t x h => absurd h (by omega), Gr.refl _⟩
  case round =>
    obtain ⟨j, hj, rfl, hno, G⟩ := hrel
    have HNo : Hid (∀ (t : Nat) (x : Bv), t < j → bs[t]? = some x → ¬ x.pc = pc) := hno
    have HG : Hid (Gr w wr) := G
    clear hno G
    by_cases hlt : j < n
    · obtain ⟨c, hc⟩ : ∃ c, bs[j]? = some c := ⟨_, List.getElem?_eq_getElem (by rw [HL.out]; exact hlt)⟩
      obtain ⟨b, o, rfl, hb, hcell⟩ := (HB.out.of HG.out).spot (by omega)
      obtain ⟨u, v, h0, h1, rfl, hpc, _⟩ := hcell j c hc
      by_cases e : c.pc = pc
      · have HE : Hid (place pc bs 0 = (j : Int)) := by
          unfold Hid
          rw [place_at (k := 0) hc e HNo.out, Nat.zero_add]
        have be : (c.pc == pc) = true := by simp [e]
        generalize c.pc = x at *
        clear hcell hc HB HNo e
        go_wp2_with fail
        go_ret
        exact ⟨ret_int HE.out.symm, HG.out⟩
      · have HNx : Hid (∀ (t : Nat) (x : Bv), t < j + 1 → bs[t]? = some x → ¬ x.pc = pc) := fun t x ht hx => by
          by_cases ej : t = j
          · subst ej
            rw [hc] at hx
            injection hx with hx
            rw [← hx]
            exact e
          · exact HNo.out t x (by omega) hx
        have be : (c.pc == pc) = false := by simp [e]
        generalize c.pc = x at *
        clear hcell hc HB HNo e
        go_wp2_with fail
        go_roundw
        case rel => exact ⟨j + 1, by omega, by go_num, HNx.out, HG.out⟩
        case measure => simp [intOf]; omega
    · have ej : j = n := by omega
      have HE : Hid (place pc bs 0 = -1) := place_none fun t x hx => HNo.out t x (by have := (List.getElem?_eq_some_iff.1 hx).1; have := HL.out; omega) hx
      clear HB HNo ej
      go_wp2_with fail
      go_ret
      exact ⟨ret_int HE.out.symm, HG.out⟩
end Go.Proofs.Yteipplmmchaboab.Kc
