/-
  What the small functions and methods of package hart return, and what becomes of the core: within, May, Trap, Set, Load, next, of every hart; and ferrybridgeref4.May.
-/
import Derived.Test.YtkdghgiajifbdaaDoorHc
import Derived.Test.YtkdghgiajifbdaaDoorMemWalks
import Derived.Test.YtkdghgiajifbdaaDoorWordWalks
namespace Go.Proofs.YtkdghgiajifbdaaDoor.Hc
open Go.ChangeShapes Go.WideShapes Go.ChangeAt Go.RowKit Mm Hh
set_option linter.unusedVariables false
set_option linter.unusedSimpArgs false

variable {h : Hv} {w : World} {base g : Nat} {l : List UInt8} {os : List Int} {ss : List (Int × Int)}
theorem may_get (h : Hv) (o : h.Ok) : (hA h)[0]? = some (.int .u32 (rg h 0)) ∧ (hA h)[33]? = some (.bool h.held) ∧ (hA h)[34]? = some (.int .u32 h.heldAt) ∧ (hA h)[35]? = some (.int .i64 h.state) ∧ (hA h)[36]? = some (.int .i64 h.cause) := by
  unfold hA
  simp only [List.getElem?_toArray]
  exact ⟨hL_reg o (by omega), hL_fld o 1, hL_fld o 2, hL_fld o 3, hL_fld o 4⟩


set_option maxHeartbeats 1000000 in
theorem rmay_any {h : Hv} (o : h.Ok) (w : World) : Calls Tryd.prog 18 #[.agg (hA h)] w fun e w' => e = .returned (.bool (may h)) ∧ Gr w w' := by
  obtain ⟨c0, c1, c2, c3, c4⟩ := may_get h o
  have HM : Hid (may h = decide (rg h 0 = 0 ∧ (h.held = false → h.heldAt = 0) ∧ (((h.state = 0 ∨ h.state = 1) ∧ h.cause = 0) ∨ (h.state = 2 ∧ 1 ≤ h.cause ∧ h.cause ≤ 6)))) := rfl
  generalize may h = M at *
  generalize hA h = A at *
  generalize rg h 0 = x0 at *
  generalize h.held = x1 at *
  generalize h.heldAt = x2 at *
  generalize h.state = x3 at *
  generalize h.cause = x4 at *
  clear o
  cases x1
  all_goals
    go_enter Tryd.func18, Tryd.ntmps18
    go_wp2
    all_goals
      clear c0 c1 c2 c3 c4
      go_ret
      refine ⟨ret_bool ?_, (Gr.refl _).alloc _⟩
      rw [HM.out, Bool.eq_iff_iff]
      simp at *
      omega

theorem andNot1 (x : Int) (h0 : 0 ≤ x) (h1 : x < 4294967296) : bits .andNot .u32 x 1 = x - x % 2 := by
  obtain ⟨x, rfl⟩ := Int.eq_ofNat_of_zero_le h0
  show IntKind.u32.wrap ((BitVec.ofInt 32 (x : Int) &&& ~~~ BitVec.ofInt 32 1).toNat : Int) = _
  have e : (~~~ BitVec.ofInt 32 1).toNat = (2 ^ 31 - 1) * 2 ^ 1 := by decide
  rw [BitVec.toNat_and, ofInt32 x h1, e, Dc.nand_mask]
  show ((x / 2 ^ 1 % 2 ^ 31 * 2 ^ 1 : Nat) : Int) % 4294967296 = _
  omega
end Go.Proofs.YtkdghgiajifbdaaDoor.Hc
