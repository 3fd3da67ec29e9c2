/-
  Walks2: texts of ours that lie in one file.
-/
import Derived.Test.YtbihifipemldhabDoorQ11
set_option linter.unusedVariables false
set_option linter.unusedSimpArgs false
set_option maxHeartbeats 8000000
set_option maxRecDepth 100000
/-
  What readImm returns. Conditions: the tables hold what their initialisers lay ('Tab'); words are from 0 to 2^32 - 1.
-/
namespace Go.Proofs.YtbihifipemldhabDoor.Dw
open Go.ChangeShapes Go.WideShapes Go.ChangeAt Go.RowKit

theorem or_add (n x : Int) (i : Nat) (h0 : 0 ≤ n) (hx : 0 ≤ x) (hm : n % 2 ^ i = 0) (hl : x < 2 ^ i) (hb : n + x < 4294967296) : bits .or .u32 n x = n + x := by
  rw [bits_or_u32 n x h0 (by omega) hx (by omega)]
  have e : n = n / 2 ^ i * 2 ^ i := by
    have := Int.mul_ediv_add_emod n (2 ^ i)
    rw [hm, Int.mul_comm] at this
    omega
  have hn : 0 ≤ n / 2 ^ i := Int.ediv_nonneg h0 (Int.pow_nonneg (by omega))
  have := bor_hi x (n / 2 ^ i) i hx hn hl
  rwa [← e] at this
theorem imm_0 (a : Int) (h0 : 0 ≤ a) (h1 : a < 4294967296) : 0 = Dc.immF 0 a := rfl
theorem imm_1 (a : Int) (h0 : 0 ≤ a) (h1 : a < 4294967296) : wrap32 (a / 4096 * 4096) = Dc.immF 1 a := by
  show _ = Wd.sg a - a % 4096
  unfold wrap32 Wd.sg; split <;> omega
theorem imm_2 (a : Int) (h0 : 0 ≤ a) (h1 : a < 4294967296) : wrap32 ((a / 2147483648 * 1048576 + a / 4096 % 256 * 4096 + a / 1048576 % 2 * 2048 + a / 2097152 % 1024 * 2) * 2048) / 2048 = Dc.immF 2 a := by
  show _ = Dc.sgn 1048576 (a / 2147483648 * 1048576 + a / 4096 % 256 * 4096 + a / 1048576 % 2 * 2048 + a / 2097152 % 1024 * 2)
  unfold wrap32 Dc.sgn; split <;> omega
theorem imm_3 (a : Int) (h0 : 0 ≤ a) (h1 : a < 4294967296) : wrap32 (a / 1048576 * 1048576) / 1048576 = Dc.immF 3 a := by
  show _ = Dc.sgn 2048 (a / 1048576)
  unfold wrap32 Dc.sgn; split <;> omega
theorem imm_4 (a : Int) (h0 : 0 ≤ a) (h1 : a < 4294967296) : a / 1048576 % 32 = Dc.immF 4 a := rfl
theorem imm_5 (a : Int) (h0 : 0 ≤ a) (h1 : a < 4294967296) : wrap32 ((a / 2147483648 * 4096 + a / 128 % 2 * 2048 + a / 33554432 % 64 * 32 + a / 256 % 16 * 2) * 524288) / 524288 = Dc.immF 5 a := by
  show _ = Dc.sgn 4096 (a / 2147483648 * 4096 + a / 128 % 2 * 2048 + a / 33554432 % 64 * 32 + a / 256 % 16 * 2)
  unfold wrap32 Dc.sgn; split <;> omega
theorem imm_6 (a : Int) (h0 : 0 ≤ a) (h1 : a < 4294967296) : wrap32 ((a / 33554432 * 32 + a / 128 % 32) * 1048576) / 1048576 = Dc.immF 6 a := by
  show _ = Dc.sgn 2048 (a / 33554432 * 32 + a / 128 % 32)
  unfold wrap32 Dc.sgn; split <;> omega
theorem imm_7 (a : Int) (h0 : 0 ≤ a) (h1 : a < 4294967296) : 0 = Dc.immF 7 a := rfl
theorem imm_8 (a : Int) (h0 : 0 ≤ a) (h1 : a < 4294967296) : a / 33554432 % 4 = Dc.immF 8 a := rfl
theorem imm_9 (a : Int) (h0 : 0 ≤ a) (h1 : a < 4294967296) : 0 = Dc.immF 9 a := rfl
/-- What readImm answers of a form. -/
def ReadImm (f : Int) : Prop := ∀ (a : Int) (w : World), Tab w → 0 ≤ a → a < 4294967296 → Calls Tryd.prog 106 #[.int .i64 f, .int .u32 a] w fun e w' => e = .returned (.int .i32 (Dc.immF f a)) ∧ Gr w w'

theorem readImm_0 : ReadImm 0 := by
  intro a w T h0 h1
  have c4 : w.cell? ⟨2, 4, none⟩ = some (.int .i64 0) := T.shapes 4 _ rfl
  have c5 : w.cell? ⟨2, 5, none⟩ = some (.int .i64 0) := T.shapes 5 _ rfl
  have c6 : w.cell? ⟨2, 6, none⟩ = some (.int .i64 0) := T.shapes 6 _ rfl
  have c7 : w.cell? ⟨2, 7, none⟩ = some (.int .i64 0) := T.shapes 7 _ rfl
  have c8 : w.cell? ⟨2, 8, none⟩ = some (.int .i64 0) := T.shapes 8 _ rfl
  have c9 : w.cell? ⟨2, 9, none⟩ = some (.int .i64 0) := T.shapes 9 _ rfl
  have c10 : w.cell? ⟨2, 10, none⟩ = some (.int .i64 0) := T.shapes 10 _ rfl
  have c11 : w.cell? ⟨2, 11, none⟩ = some (.int .i64 0) := T.shapes 11 _ rfl
  have c12 : w.cell? ⟨2, 12, none⟩ = some (.int .i64 0) := T.shapes 12 _ rfl
  have c13 : w.cell? ⟨2, 13, none⟩ = some (.int .i64 0) := T.shapes 13 _ rfl
  have c14 : w.cell? ⟨2, 14, none⟩ = some (.int .i64 0) := T.shapes 14 _ rfl
  have c15 : w.cell? ⟨2, 15, none⟩ = some (.int .i64 0) := T.shapes 15 _ rfl
  have x0 : ∀ w : World, (Instr.index 162 (.agg #[.int .i64 0, .int .i64 0, .int .i64 0, .int .i64 0, .int .i64 0, .int .i64 0, .int .i64 0, .int .i64 0, .int .i64 0, .int .i64 0, .int .i64 0, .int .i64 0]) (.int .i64 0)).run Tryd.prog w = .ok (.agg #[.int .i64 0, .int .i64 0, .int .i64 0]) w := fun _ => by kernel_rfl
  have x1 : ∀ w : World, (Instr.index 162 (.agg #[.int .i64 0, .int .i64 0, .int .i64 0, .int .i64 0, .int .i64 0, .int .i64 0, .int .i64 0, .int .i64 0, .int .i64 0, .int .i64 0, .int .i64 0, .int .i64 0]) (.int .i64 1)).run Tryd.prog w = .ok (.agg #[.int .i64 0, .int .i64 0, .int .i64 0]) w := fun _ => by kernel_rfl
  have x2 : ∀ w : World, (Instr.index 162 (.agg #[.int .i64 0, .int .i64 0, .int .i64 0, .int .i64 0, .int .i64 0, .int .i64 0, .int .i64 0, .int .i64 0, .int .i64 0, .int .i64 0, .int .i64 0, .int .i64 0]) (.int .i64 2)).run Tryd.prog w = .ok (.agg #[.int .i64 0, .int .i64 0, .int .i64 0]) w := fun _ => by kernel_rfl
  have x3 : ∀ w : World, (Instr.index 162 (.agg #[.int .i64 0, .int .i64 0, .int .i64 0, .int .i64 0, .int .i64 0, .int .i64 0, .int .i64 0, .int .i64 0, .int .i64 0, .int .i64 0, .int .i64 0, .int .i64 0]) (.int .i64 3)).run Tryd.prog w = .ok (.agg #[.int .i64 0, .int .i64 0, .int .i64 0]) w := fun _ => by kernel_rfl
  go_enter Tryd.func106, Tryd.ntmps106
  go_wp2
  clear c4 c5 c6 c7 c8 c9 c10 c11 c12 c13 c14 c15
  go_loopw [5, 13] (fun n i wr => Gr w wr ∧ ((i = .int .i64 0 ∧ n = .int .u32 (0)) ∨ (i = .int .i64 1 ∧ n = .int .u32 (0)) ∨ (i = .int .i64 2 ∧ n = .int .u32 (0)) ∨ (i = .int .i64 3 ∧ n = .int .u32 (0)) ∨ (i = .int .i64 4 ∧ n = .int .u32 (0)))) (fun _ i _ => 4 - (intOf i).toNat)
  case atStart => exact ⟨Gr.refl _, Or.inl ⟨rfl, rfl⟩⟩
  case round =>
    obtain ⟨g, h⟩ := hrel
    rcases h with ⟨rfl, rfl⟩ | ⟨rfl, rfl⟩ | ⟨rfl, rfl⟩ | ⟨rfl, rfl⟩ | ⟨rfl, rfl⟩
    · go_wp2
      refine wp_region_quiet_lit (by kernel_rfl) (by kernel_rfl) ?_
      iterate 6 go_big_quiet_step (fail)
      go_big_quiet_step (exact Calls.quiet_of (taken_as a 0 0 (0) _ h0 h1 (by omega) (by omega) (by omega) (by omega) (by show a / 1 % 1 = _; omega)))
      iterate 5 go_big_quiet_step (fail)
      refine wpQuiet_nil ?_; intro _ h; obtain ⟨nq, h2⟩ := h; subst h2
      go_wp2
      go_roundw
      case rel =>
        have G : Gr w ((wr.alloc (.cells #[.int .i64 0, .int .i64 0, .int .i64 0] 161)).drewN nq) := (g.alloc _ _).drewN _
        have N : bits .or .u32 (0) (0) = 0 := (or_add _ _ 0 (by omega) (by omega) (by omega) (by omega) (by omega)).trans (by omega)
        have R : Value.int .u32 (bits .or .u32 (0) (0)) = .int .u32 (0) := by rw [N]
        clear N
        first
          | exact ⟨G, Or.inr (Or.inl ⟨rfl, R⟩)⟩
          | ((repeat apply Exists.intro); exact ⟨⟨G, Or.inr (Or.inl ⟨rfl, R⟩)⟩, rfl⟩)
      case measure => simp [intOf]
    · go_wp2
      refine wp_region_quiet_lit (by kernel_rfl) (by kernel_rfl) ?_
      iterate 6 go_big_quiet_step (fail)
      go_big_quiet_step (exact Calls.quiet_of (taken_as a 0 0 (0) _ h0 h1 (by omega) (by omega) (by omega) (by omega) (by show a / 1 % 1 = _; omega)))
      iterate 5 go_big_quiet_step (fail)
      refine wpQuiet_nil ?_; intro _ h; obtain ⟨nq, h2⟩ := h; subst h2
      go_wp2
      go_roundw
      case rel =>
        have G : Gr w ((wr.alloc (.cells #[.int .i64 0, .int .i64 0, .int .i64 0] 161)).drewN nq) := (g.alloc _ _).drewN _
        have N : bits .or .u32 (0) (0) = 0 := (or_add _ _ 0 (by omega) (by omega) (by omega) (by omega) (by omega)).trans (by omega)
        have R : Value.int .u32 (bits .or .u32 (0) (0)) = .int .u32 (0) := by rw [N]
        clear N
        first
          | exact ⟨G, Or.inr (Or.inr (Or.inl ⟨rfl, R⟩))⟩
          | ((repeat apply Exists.intro); exact ⟨⟨G, Or.inr (Or.inr (Or.inl ⟨rfl, R⟩))⟩, rfl⟩)
      case measure => simp [intOf]
    · go_wp2
      refine wp_region_quiet_lit (by kernel_rfl) (by kernel_rfl) ?_
      iterate 6 go_big_quiet_step (fail)
      go_big_quiet_step (exact Calls.quiet_of (taken_as a 0 0 (0) _ h0 h1 (by omega) (by omega) (by omega) (by omega) (by show a / 1 % 1 = _; omega)))
      iterate 5 go_big_quiet_step (fail)
      refine wpQuiet_nil ?_; intro _ h; obtain ⟨nq, h2⟩ := h; subst h2
      go_wp2
      go_roundw
      case rel =>
        have G : Gr w ((wr.alloc (.cells #[.int .i64 0, .int .i64 0, .int .i64 0] 161)).drewN nq) := (g.alloc _ _).drewN _
        have N : bits .or .u32 (0) (0) = 0 := (or_add _ _ 0 (by omega) (by omega) (by omega) (by omega) (by omega)).trans (by omega)
        have R : Value.int .u32 (bits .or .u32 (0) (0)) = .int .u32 (0) := by rw [N]
        clear N
        first
          | exact ⟨G, Or.inr (Or.inr (Or.inr (Or.inl ⟨rfl, R⟩)))⟩
          | ((repeat apply Exists.intro); exact ⟨⟨G, Or.inr (Or.inr (Or.inr (Or.inl ⟨rfl, R⟩)))⟩, rfl⟩)
      case measure => simp [intOf]
    · go_wp2
      refine wp_region_quiet_lit (by kernel_rfl) (by kernel_rfl) ?_
      iterate 6 go_big_quiet_step (fail)
      go_big_quiet_step (exact Calls.quiet_of (taken_as a 0 0 (0) _ h0 h1 (by omega) (by omega) (by omega) (by omega) (by show a / 1 % 1 = _; omega)))
      iterate 5 go_big_quiet_step (fail)
      refine wpQuiet_nil ?_; intro _ h; obtain ⟨nq, h2⟩ := h; subst h2
      go_wp2
      go_roundw
      case rel =>
        have G : Gr w ((wr.alloc (.cells #[.int .i64 0, .int .i64 0, .int .i64 0] 161)).drewN nq) := (g.alloc _ _).drewN _
        have N : bits .or .u32 (0) (0) = 0 := (or_add _ _ 0 (by omega) (by omega) (by omega) (by omega) (by omega)).trans (by omega)
        have R : Value.int .u32 (bits .or .u32 (0) (0)) = .int .u32 (0) := by rw [N]
        clear N
        first
          | exact ⟨G, Or.inr (Or.inr (Or.inr (Or.inr (⟨rfl, R⟩))))⟩
          | ((repeat apply Exists.intro); exact ⟨⟨G, Or.inr (Or.inr (Or.inr (Or.inr (⟨rfl, R⟩))))⟩, rfl⟩)
      case measure => simp [intOf]
    · have c16 : wr.cell? ⟨2, 16, none⟩ = some (.int .i64 0) := (T.of g).shapes 16 _ rfl
      go_wp2
      go_ret
      exact ⟨ret_int (imm_0 a h0 h1), g⟩
theorem readImm_1 : ReadImm 1 := by
  intro a w T h0 h1
  have c4 : w.cell? ⟨2, 21, none⟩ = some (.int .i64 12) := T.shapes 21 _ rfl
  have c5 : w.cell? ⟨2, 22, none⟩ = some (.int .i64 12) := T.shapes 22 _ rfl
  have c6 : w.cell? ⟨2, 23, none⟩ = some (.int .i64 20) := T.shapes 23 _ rfl
  have c7 : w.cell? ⟨2, 24, none⟩ = some (.int .i64 0) := T.shapes 24 _ rfl
  have c8 : w.cell? ⟨2, 25, none⟩ = some (.int .i64 0) := T.shapes 25 _ rfl
  have c9 : w.cell? ⟨2, 26, none⟩ = some (.int .i64 0) := T.shapes 26 _ rfl
  have c10 : w.cell? ⟨2, 27, none⟩ = some (.int .i64 0) := T.shapes 27 _ rfl
  have c11 : w.cell? ⟨2, 28, none⟩ = some (.int .i64 0) := T.shapes 28 _ rfl
  have c12 : w.cell? ⟨2, 29, none⟩ = some (.int .i64 0) := T.shapes 29 _ rfl
  have c13 : w.cell? ⟨2, 30, none⟩ = some (.int .i64 0) := T.shapes 30 _ rfl
  have c14 : w.cell? ⟨2, 31, none⟩ = some (.int .i64 0) := T.shapes 31 _ rfl
  have c15 : w.cell? ⟨2, 32, none⟩ = some (.int .i64 0) := T.shapes 32 _ rfl
  have x0 : ∀ w : World, (Instr.index 162 (.agg #[.int .i64 12, .int .i64 12, .int .i64 20, .int .i64 0, .int .i64 0, .int .i64 0, .int .i64 0, .int .i64 0, .int .i64 0, .int .i64 0, .int .i64 0, .int .i64 0]) (.int .i64 0)).run Tryd.prog w = .ok (.agg #[.int .i64 12, .int .i64 12, .int .i64 20]) w := fun _ => by kernel_rfl
  have x1 : ∀ w : World, (Instr.index 162 (.agg #[.int .i64 12, .int .i64 12, .int .i64 20, .int .i64 0, .int .i64 0, .int .i64 0, .int .i64 0, .int .i64 0, .int .i64 0, .int .i64 0, .int .i64 0, .int .i64 0]) (.int .i64 1)).run Tryd.prog w = .ok (.agg #[.int .i64 0, .int .i64 0, .int .i64 0]) w := fun _ => by kernel_rfl
  have x2 : ∀ w : World, (Instr.index 162 (.agg #[.int .i64 12, .int .i64 12, .int .i64 20, .int .i64 0, .int .i64 0, .int .i64 0, .int .i64 0, .int .i64 0, .int .i64 0, .int .i64 0, .int .i64 0, .int .i64 0]) (.int .i64 2)).run Tryd.prog w = .ok (.agg #[.int .i64 0, .int .i64 0, .int .i64 0]) w := fun _ => by kernel_rfl
  have x3 : ∀ w : World, (Instr.index 162 (.agg #[.int .i64 12, .int .i64 12, .int .i64 20, .int .i64 0, .int .i64 0, .int .i64 0, .int .i64 0, .int .i64 0, .int .i64 0, .int .i64 0, .int .i64 0, .int .i64 0]) (.int .i64 3)).run Tryd.prog w = .ok (.agg #[.int .i64 0, .int .i64 0, .int .i64 0]) w := fun _ => by kernel_rfl
  go_enter Tryd.func106, Tryd.ntmps106
  go_wp2
  clear c4 c5 c6 c7 c8 c9 c10 c11 c12 c13 c14 c15
  go_loopw [5, 13] (fun n i wr => Gr w wr ∧ ((i = .int .i64 0 ∧ n = .int .u32 (0)) ∨ (i = .int .i64 1 ∧ n = .int .u32 (a / 4096 * 4096)) ∨ (i = .int .i64 2 ∧ n = .int .u32 (a / 4096 * 4096)) ∨ (i = .int .i64 3 ∧ n = .int .u32 (a / 4096 * 4096)) ∨ (i = .int .i64 4 ∧ n = .int .u32 (a / 4096 * 4096)))) (fun _ i _ => 4 - (intOf i).toNat)
  case atStart => exact ⟨Gr.refl _, Or.inl ⟨rfl, rfl⟩⟩
  case round =>
    obtain ⟨g, h⟩ := hrel
    rcases h with ⟨rfl, rfl⟩ | ⟨rfl, rfl⟩ | ⟨rfl, rfl⟩ | ⟨rfl, rfl⟩ | ⟨rfl, rfl⟩
    · go_wp2
      refine wp_region_quiet_lit (by kernel_rfl) (by kernel_rfl) ?_
      iterate 6 go_big_quiet_step (fail)
      go_big_quiet_step (exact Calls.quiet_of (taken_as a 12 20 (a / 4096) _ h0 h1 (by omega) (by omega) (by omega) (by omega) (by show a / 4096 % 1048576 = _; omega)))
      iterate 5 go_big_quiet_step (fail)
      refine wpQuiet_nil ?_; intro _ h; obtain ⟨nq, h2⟩ := h; subst h2
      go_wp2
      go_roundw
      case rel =>
        have G : Gr w ((wr.alloc (.cells #[.int .i64 12, .int .i64 12, .int .i64 20] 161)).drewN nq) := (g.alloc _ _).drewN _
        have N : bits .or .u32 (0) (a / 4096 * 4096) = a / 4096 * 4096 := (or_add _ _ 32 (by omega) (by omega) (by omega) (by omega) (by omega)).trans (by omega)
        have R : Value.int .u32 (bits .or .u32 (0) (a / 4096 * 4096)) = .int .u32 (a / 4096 * 4096) := by rw [N]
        clear N
        first
          | exact ⟨G, Or.inr (Or.inl ⟨rfl, R⟩)⟩
          | ((repeat apply Exists.intro); exact ⟨⟨G, Or.inr (Or.inl ⟨rfl, R⟩)⟩, rfl⟩)
      case measure => simp [intOf]
    · go_wp2
      refine wp_region_quiet_lit (by kernel_rfl) (by kernel_rfl) ?_
      iterate 6 go_big_quiet_step (fail)
      go_big_quiet_step (exact Calls.quiet_of (taken_as a 0 0 (0) _ h0 h1 (by omega) (by omega) (by omega) (by omega) (by show a / 1 % 1 = _; omega)))
      iterate 5 go_big_quiet_step (fail)
      refine wpQuiet_nil ?_; intro _ h; obtain ⟨nq, h2⟩ := h; subst h2
      go_wp2
      go_roundw
      case rel =>
        have G : Gr w ((wr.alloc (.cells #[.int .i64 0, .int .i64 0, .int .i64 0] 161)).drewN nq) := (g.alloc _ _).drewN _
        have N : bits .or .u32 (a / 4096 * 4096) (0) = a / 4096 * 4096 := (or_add _ _ 0 (by omega) (by omega) (by omega) (by omega) (by omega)).trans (by omega)
        have R : Value.int .u32 (bits .or .u32 (a / 4096 * 4096) (0)) = .int .u32 (a / 4096 * 4096) := by rw [N]
        clear N
        first
          | exact ⟨G, Or.inr (Or.inr (Or.inl ⟨rfl, R⟩))⟩
          | ((repeat apply Exists.intro); exact ⟨⟨G, Or.inr (Or.inr (Or.inl ⟨rfl, R⟩))⟩, rfl⟩)
      case measure => simp [intOf]
    · go_wp2
      refine wp_region_quiet_lit (by kernel_rfl) (by kernel_rfl) ?_
      iterate 6 go_big_quiet_step (fail)
      go_big_quiet_step (exact Calls.quiet_of (taken_as a 0 0 (0) _ h0 h1 (by omega) (by omega) (by omega) (by omega) (by show a / 1 % 1 = _; omega)))
      iterate 5 go_big_quiet_step (fail)
      refine wpQuiet_nil ?_; intro _ h; obtain ⟨nq, h2⟩ := h; subst h2
      go_wp2
      go_roundw
      case rel =>
        have G : Gr w ((wr.alloc (.cells #[.int .i64 0, .int .i64 0, .int .i64 0] 161)).drewN nq) := (g.alloc _ _).drewN _
        have N : bits .or .u32 (a / 4096 * 4096) (0) = a / 4096 * 4096 := (or_add _ _ 0 (by omega) (by omega) (by omega) (by omega) (by omega)).trans (by omega)
        have R : Value.int .u32 (bits .or .u32 (a / 4096 * 4096) (0)) = .int .u32 (a / 4096 * 4096) := by rw [N]
        clear N
        first
          | exact ⟨G, Or.inr (Or.inr (Or.inr (Or.inl ⟨rfl, R⟩)))⟩
          | ((repeat apply Exists.intro); exact ⟨⟨G, Or.inr (Or.inr (Or.inr (Or.inl ⟨rfl, R⟩)))⟩, rfl⟩)
      case measure => simp [intOf]
    · go_wp2
      refine wp_region_quiet_lit (by kernel_rfl) (by kernel_rfl) ?_
      iterate 6 go_big_quiet_step (fail)
      go_big_quiet_step (exact Calls.quiet_of (taken_as a 0 0 (0) _ h0 h1 (by omega) (by omega) (by omega) (by omega) (by show a / 1 % 1 = _; omega)))
      iterate 5 go_big_quiet_step (fail)
      refine wpQuiet_nil ?_; intro _ h; obtain ⟨nq, h2⟩ := h; subst h2
      go_wp2
      go_roundw
      case rel =>
        have G : Gr w ((wr.alloc (.cells #[.int .i64 0, .int .i64 0, .int .i64 0] 161)).drewN nq) := (g.alloc _ _).drewN _
        have N : bits .or .u32 (a / 4096 * 4096) (0) = a / 4096 * 4096 := (or_add _ _ 0 (by omega) (by omega) (by omega) (by omega) (by omega)).trans (by omega)
        have R : Value.int .u32 (bits .or .u32 (a / 4096 * 4096) (0)) = .int .u32 (a / 4096 * 4096) := by rw [N]
        clear N
        first
          | exact ⟨G, Or.inr (Or.inr (Or.inr (Or.inr (⟨rfl, R⟩))))⟩
          | ((repeat apply Exists.intro); exact ⟨⟨G, Or.inr (Or.inr (Or.inr (Or.inr (⟨rfl, R⟩))))⟩, rfl⟩)
      case measure => simp [intOf]
    · have c16 : wr.cell? ⟨2, 33, none⟩ = some (.int .i64 0) := (T.of g).shapes 33 _ rfl
      go_wp2
      go_ret
      exact ⟨ret_int (imm_1 a h0 h1), g⟩
theorem readImm_2 : ReadImm 2 := by
  intro a w T h0 h1
  have c4 : w.cell? ⟨2, 38, none⟩ = some (.int .i64 31) := T.shapes 38 _ rfl
  have c5 : w.cell? ⟨2, 39, none⟩ = some (.int .i64 20) := T.shapes 39 _ rfl
  have c6 : w.cell? ⟨2, 40, none⟩ = some (.int .i64 1) := T.shapes 40 _ rfl
  have c7 : w.cell? ⟨2, 41, none⟩ = some (.int .i64 12) := T.shapes 41 _ rfl
  have c8 : w.cell? ⟨2, 42, none⟩ = some (.int .i64 12) := T.shapes 42 _ rfl
  have c9 : w.cell? ⟨2, 43, none⟩ = some (.int .i64 8) := T.shapes 43 _ rfl
  have c10 : w.cell? ⟨2, 44, none⟩ = some (.int .i64 20) := T.shapes 44 _ rfl
  have c11 : w.cell? ⟨2, 45, none⟩ = some (.int .i64 11) := T.shapes 45 _ rfl
  have c12 : w.cell? ⟨2, 46, none⟩ = some (.int .i64 1) := T.shapes 46 _ rfl
  have c13 : w.cell? ⟨2, 47, none⟩ = some (.int .i64 21) := T.shapes 47 _ rfl
  have c14 : w.cell? ⟨2, 48, none⟩ = some (.int .i64 1) := T.shapes 48 _ rfl
  have c15 : w.cell? ⟨2, 49, none⟩ = some (.int .i64 10) := T.shapes 49 _ rfl
  have x0 : ∀ w : World, (Instr.index 162 (.agg #[.int .i64 31, .int .i64 20, .int .i64 1, .int .i64 12, .int .i64 12, .int .i64 8, .int .i64 20, .int .i64 11, .int .i64 1, .int .i64 21, .int .i64 1, .int .i64 10]) (.int .i64 0)).run Tryd.prog w = .ok (.agg #[.int .i64 31, .int .i64 20, .int .i64 1]) w := fun _ => by kernel_rfl
  have x1 : ∀ w : World, (Instr.index 162 (.agg #[.int .i64 31, .int .i64 20, .int .i64 1, .int .i64 12, .int .i64 12, .int .i64 8, .int .i64 20, .int .i64 11, .int .i64 1, .int .i64 21, .int .i64 1, .int .i64 10]) (.int .i64 1)).run Tryd.prog w = .ok (.agg #[.int .i64 12, .int .i64 12, .int .i64 8]) w := fun _ => by kernel_rfl
  have x2 : ∀ w : World, (Instr.index 162 (.agg #[.int .i64 31, .int .i64 20, .int .i64 1, .int .i64 12, .int .i64 12, .int .i64 8, .int .i64 20, .int .i64 11, .int .i64 1, .int .i64 21, .int .i64 1, .int .i64 10]) (.int .i64 2)).run Tryd.prog w = .ok (.agg #[.int .i64 20, .int .i64 11, .int .i64 1]) w := fun _ => by kernel_rfl
  have x3 : ∀ w : World, (Instr.index 162 (.agg #[.int .i64 31, .int .i64 20, .int .i64 1, .int .i64 12, .int .i64 12, .int .i64 8, .int .i64 20, .int .i64 11, .int .i64 1, .int .i64 21, .int .i64 1, .int .i64 10]) (.int .i64 3)).run Tryd.prog w = .ok (.agg #[.int .i64 21, .int .i64 1, .int .i64 10]) w := fun _ => by kernel_rfl
  go_enter Tryd.func106, Tryd.ntmps106
  go_wp2
  clear c4 c5 c6 c7 c8 c9 c10 c11 c12 c13 c14 c15
  go_loopw [5, 13] (fun n i wr => Gr w wr ∧ ((i = .int .i64 0 ∧ n = .int .u32 (0)) ∨ (i = .int .i64 1 ∧ n = .int .u32 (a / 2147483648 * 1048576)) ∨ (i = .int .i64 2 ∧ n = .int .u32 (a / 2147483648 * 1048576 + a / 4096 % 256 * 4096)) ∨ (i = .int .i64 3 ∧ n = .int .u32 (a / 2147483648 * 1048576 + a / 4096 % 256 * 4096 + a / 1048576 % 2 * 2048)) ∨ (i = .int .i64 4 ∧ n = .int .u32 (a / 2147483648 * 1048576 + a / 4096 % 256 * 4096 + a / 1048576 % 2 * 2048 + a / 2097152 % 1024 * 2)))) (fun _ i _ => 4 - (intOf i).toNat)
  case atStart => exact ⟨Gr.refl _, Or.inl ⟨rfl, rfl⟩⟩
  case round =>
    obtain ⟨g, h⟩ := hrel
    rcases h with ⟨rfl, rfl⟩ | ⟨rfl, rfl⟩ | ⟨rfl, rfl⟩ | ⟨rfl, rfl⟩ | ⟨rfl, rfl⟩
    · go_wp2
      refine wp_region_quiet_lit (by kernel_rfl) (by kernel_rfl) ?_
      iterate 6 go_big_quiet_step (fail)
      go_big_quiet_step (exact Calls.quiet_of (taken_as a 31 1 (a / 2147483648) _ h0 h1 (by omega) (by omega) (by omega) (by omega) (by show a / 2147483648 % 2 = _; omega)))
      iterate 5 go_big_quiet_step (fail)
      refine wpQuiet_nil ?_; intro _ h; obtain ⟨nq, h2⟩ := h; subst h2
      go_wp2
      go_roundw
      case rel =>
        have G : Gr w ((wr.alloc (.cells #[.int .i64 31, .int .i64 20, .int .i64 1] 161)).drewN nq) := (g.alloc _ _).drewN _
        have N : bits .or .u32 (0) (a / 2147483648 * 1048576) = a / 2147483648 * 1048576 := (or_add _ _ 21 (by omega) (by omega) (by omega) (by omega) (by omega)).trans (by omega)
        have R : Value.int .u32 (bits .or .u32 (0) (a / 2147483648 * 1048576)) = .int .u32 (a / 2147483648 * 1048576) := by rw [N]
        clear N
        first
          | exact ⟨G, Or.inr (Or.inl ⟨rfl, R⟩)⟩
          | ((repeat apply Exists.intro); exact ⟨⟨G, Or.inr (Or.inl ⟨rfl, R⟩)⟩, rfl⟩)
      case measure => simp [intOf]
    · go_wp2
      refine wp_region_quiet_lit (by kernel_rfl) (by kernel_rfl) ?_
      iterate 6 go_big_quiet_step (fail)
      go_big_quiet_step (exact Calls.quiet_of (taken_as a 12 8 (a / 4096 % 256) _ h0 h1 (by omega) (by omega) (by omega) (by omega) (by show a / 4096 % 256 = _; omega)))
      iterate 5 go_big_quiet_step (fail)
      refine wpQuiet_nil ?_; intro _ h; obtain ⟨nq, h2⟩ := h; subst h2
      go_wp2
      go_roundw
      case rel =>
        have G : Gr w ((wr.alloc (.cells #[.int .i64 12, .int .i64 12, .int .i64 8] 161)).drewN nq) := (g.alloc _ _).drewN _
        have N : bits .or .u32 (a / 2147483648 * 1048576) (a / 4096 % 256 * 4096) = a / 2147483648 * 1048576 + a / 4096 % 256 * 4096 := (or_add _ _ 20 (by omega) (by omega) (by omega) (by omega) (by omega)).trans (by omega)
        have R : Value.int .u32 (bits .or .u32 (a / 2147483648 * 1048576) (a / 4096 % 256 * 4096)) = .int .u32 (a / 2147483648 * 1048576 + a / 4096 % 256 * 4096) := by rw [N]
        clear N
        first
          | exact ⟨G, Or.inr (Or.inr (Or.inl ⟨rfl, R⟩))⟩
          | ((repeat apply Exists.intro); exact ⟨⟨G, Or.inr (Or.inr (Or.inl ⟨rfl, R⟩))⟩, rfl⟩)
      case measure => simp [intOf]
    · go_wp2
      refine wp_region_quiet_lit (by kernel_rfl) (by kernel_rfl) ?_
      iterate 6 go_big_quiet_step (fail)
      go_big_quiet_step (exact Calls.quiet_of (taken_as a 20 1 (a / 1048576 % 2) _ h0 h1 (by omega) (by omega) (by omega) (by omega) (by show a / 1048576 % 2 = _; omega)))
      iterate 5 go_big_quiet_step (fail)
      refine wpQuiet_nil ?_; intro _ h; obtain ⟨nq, h2⟩ := h; subst h2
      go_wp2
      go_roundw
      case rel =>
        have G : Gr w ((wr.alloc (.cells #[.int .i64 20, .int .i64 11, .int .i64 1] 161)).drewN nq) := (g.alloc _ _).drewN _
        have N : bits .or .u32 (a / 2147483648 * 1048576 + a / 4096 % 256 * 4096) (a / 1048576 % 2 * 2048) = a / 2147483648 * 1048576 + a / 4096 % 256 * 4096 + a / 1048576 % 2 * 2048 := (or_add _ _ 12 (by omega) (by omega) (by omega) (by omega) (by omega)).trans (by omega)
        have R : Value.int .u32 (bits .or .u32 (a / 2147483648 * 1048576 + a / 4096 % 256 * 4096) (a / 1048576 % 2 * 2048)) = .int .u32 (a / 2147483648 * 1048576 + a / 4096 % 256 * 4096 + a / 1048576 % 2 * 2048) := by rw [N]
        clear N
        first
          | exact ⟨G, Or.inr (Or.inr (Or.inr (Or.inl ⟨rfl, R⟩)))⟩
          | ((repeat apply Exists.intro); exact ⟨⟨G, Or.inr (Or.inr (Or.inr (Or.inl ⟨rfl, R⟩)))⟩, rfl⟩)
      case measure => simp [intOf]
    · go_wp2
      refine wp_region_quiet_lit (by kernel_rfl) (by kernel_rfl) ?_
      iterate 6 go_big_quiet_step (fail)
      go_big_quiet_step (exact Calls.quiet_of (taken_as a 21 10 (a / 2097152 % 1024) _ h0 h1 (by omega) (by omega) (by omega) (by omega) (by show a / 2097152 % 1024 = _; omega)))
      iterate 5 go_big_quiet_step (fail)
      refine wpQuiet_nil ?_; intro _ h; obtain ⟨nq, h2⟩ := h; subst h2
      go_wp2
      go_roundw
      case rel =>
        have G : Gr w ((wr.alloc (.cells #[.int .i64 21, .int .i64 1, .int .i64 10] 161)).drewN nq) := (g.alloc _ _).drewN _
        have N : bits .or .u32 (a / 2147483648 * 1048576 + a / 4096 % 256 * 4096 + a / 1048576 % 2 * 2048) (a / 2097152 % 1024 * 2) = a / 2147483648 * 1048576 + a / 4096 % 256 * 4096 + a / 1048576 % 2 * 2048 + a / 2097152 % 1024 * 2 := (or_add _ _ 11 (by omega) (by omega) (by omega) (by omega) (by omega)).trans (by omega)
        have R : Value.int .u32 (bits .or .u32 (a / 2147483648 * 1048576 + a / 4096 % 256 * 4096 + a / 1048576 % 2 * 2048) (a / 2097152 % 1024 * 2)) = .int .u32 (a / 2147483648 * 1048576 + a / 4096 % 256 * 4096 + a / 1048576 % 2 * 2048 + a / 2097152 % 1024 * 2) := by rw [N]
        clear N
        first
          | exact ⟨G, Or.inr (Or.inr (Or.inr (Or.inr (⟨rfl, R⟩))))⟩
          | ((repeat apply Exists.intro); exact ⟨⟨G, Or.inr (Or.inr (Or.inr (Or.inr (⟨rfl, R⟩))))⟩, rfl⟩)
      case measure => simp [intOf]
    · have c16 : wr.cell? ⟨2, 50, none⟩ = some (.int .i64 11) := (T.of g).shapes 50 _ rfl
      go_wp2
      go_ret
      exact ⟨ret_int (imm_2 a h0 h1), g⟩
theorem readImm_3 : ReadImm 3 := by
  intro a w T h0 h1
  have c4 : w.cell? ⟨2, 55, none⟩ = some (.int .i64 20) := T.shapes 55 _ rfl
  have c5 : w.cell? ⟨2, 56, none⟩ = some (.int .i64 0) := T.shapes 56 _ rfl
  have c6 : w.cell? ⟨2, 57, none⟩ = some (.int .i64 12) := T.shapes 57 _ rfl
  have c7 : w.cell? ⟨2, 58, none⟩ = some (.int .i64 0) := T.shapes 58 _ rfl
  have c8 : w.cell? ⟨2, 59, none⟩ = some (.int .i64 0) := T.shapes 59 _ rfl
  have c9 : w.cell? ⟨2, 60, none⟩ = some (.int .i64 0) := T.shapes 60 _ rfl
  have c10 : w.cell? ⟨2, 61, none⟩ = some (.int .i64 0) := T.shapes 61 _ rfl
  have c11 : w.cell? ⟨2, 62, none⟩ = some (.int .i64 0) := T.shapes 62 _ rfl
  have c12 : w.cell? ⟨2, 63, none⟩ = some (.int .i64 0) := T.shapes 63 _ rfl
  have c13 : w.cell? ⟨2, 64, none⟩ = some (.int .i64 0) := T.shapes 64 _ rfl
  have c14 : w.cell? ⟨2, 65, none⟩ = some (.int .i64 0) := T.shapes 65 _ rfl
  have c15 : w.cell? ⟨2, 66, none⟩ = some (.int .i64 0) := T.shapes 66 _ rfl
  have x0 : ∀ w : World, (Instr.index 162 (.agg #[.int .i64 20, .int .i64 0, .int .i64 12, .int .i64 0, .int .i64 0, .int .i64 0, .int .i64 0, .int .i64 0, .int .i64 0, .int .i64 0, .int .i64 0, .int .i64 0]) (.int .i64 0)).run Tryd.prog w = .ok (.agg #[.int .i64 20, .int .i64 0, .int .i64 12]) w := fun _ => by kernel_rfl
  have x1 : ∀ w : World, (Instr.index 162 (.agg #[.int .i64 20, .int .i64 0, .int .i64 12, .int .i64 0, .int .i64 0, .int .i64 0, .int .i64 0, .int .i64 0, .int .i64 0, .int .i64 0, .int .i64 0, .int .i64 0]) (.int .i64 1)).run Tryd.prog w = .ok (.agg #[.int .i64 0, .int .i64 0, .int .i64 0]) w := fun _ => by kernel_rfl
  have x2 : ∀ w : World, (Instr.index 162 (.agg #[.int .i64 20, .int .i64 0, .int .i64 12, .int .i64 0, .int .i64 0, .int .i64 0, .int .i64 0, .int .i64 0, .int .i64 0, .int .i64 0, .int .i64 0, .int .i64 0]) (.int .i64 2)).run Tryd.prog w = .ok (.agg #[.int .i64 0, .int .i64 0, .int .i64 0]) w := fun _ => by kernel_rfl
  have x3 : ∀ w : World, (Instr.index 162 (.agg #[.int .i64 20, .int .i64 0, .int .i64 12, .int .i64 0, .int .i64 0, .int .i64 0, .int .i64 0, .int .i64 0, .int .i64 0, .int .i64 0, .int .i64 0, .int .i64 0]) (.int .i64 3)).run Tryd.prog w = .ok (.agg #[.int .i64 0, .int .i64 0, .int .i64 0]) w := fun _ => by kernel_rfl
  go_enter Tryd.func106, Tryd.ntmps106
  go_wp2
  clear c4 c5 c6 c7 c8 c9 c10 c11 c12 c13 c14 c15
  go_loopw [5, 13] (fun n i wr => Gr w wr ∧ ((i = .int .i64 0 ∧ n = .int .u32 (0)) ∨ (i = .int .i64 1 ∧ n = .int .u32 (a / 1048576)) ∨ (i = .int .i64 2 ∧ n = .int .u32 (a / 1048576)) ∨ (i = .int .i64 3 ∧ n = .int .u32 (a / 1048576)) ∨ (i = .int .i64 4 ∧ n = .int .u32 (a / 1048576)))) (fun _ i _ => 4 - (intOf i).toNat)
  case atStart => exact ⟨Gr.refl _, Or.inl ⟨rfl, rfl⟩⟩
  case round =>
    obtain ⟨g, h⟩ := hrel
    rcases h with ⟨rfl, rfl⟩ | ⟨rfl, rfl⟩ | ⟨rfl, rfl⟩ | ⟨rfl, rfl⟩ | ⟨rfl, rfl⟩
    · go_wp2
      refine wp_region_quiet_lit (by kernel_rfl) (by kernel_rfl) ?_
      iterate 6 go_big_quiet_step (fail)
      go_big_quiet_step (exact Calls.quiet_of (taken_as a 20 12 (a / 1048576) _ h0 h1 (by omega) (by omega) (by omega) (by omega) (by show a / 1048576 % 4096 = _; omega)))
      iterate 5 go_big_quiet_step (fail)
      refine wpQuiet_nil ?_; intro _ h; obtain ⟨nq, h2⟩ := h; subst h2
      go_wp2
      go_roundw
      case rel =>
        have G : Gr w ((wr.alloc (.cells #[.int .i64 20, .int .i64 0, .int .i64 12] 161)).drewN nq) := (g.alloc _ _).drewN _
        have N : bits .or .u32 (0) (a / 1048576) = a / 1048576 := (or_add _ _ 12 (by omega) (by omega) (by omega) (by omega) (by omega)).trans (by omega)
        have R : Value.int .u32 (bits .or .u32 (0) (a / 1048576)) = .int .u32 (a / 1048576) := by rw [N]
        clear N
        first
          | exact ⟨G, Or.inr (Or.inl ⟨rfl, R⟩)⟩
          | ((repeat apply Exists.intro); exact ⟨⟨G, Or.inr (Or.inl ⟨rfl, R⟩)⟩, rfl⟩)
      case measure => simp [intOf]
    · go_wp2
      refine wp_region_quiet_lit (by kernel_rfl) (by kernel_rfl) ?_
      iterate 6 go_big_quiet_step (fail)
      go_big_quiet_step (exact Calls.quiet_of (taken_as a 0 0 (0) _ h0 h1 (by omega) (by omega) (by omega) (by omega) (by show a / 1 % 1 = _; omega)))
      iterate 5 go_big_quiet_step (fail)
      refine wpQuiet_nil ?_; intro _ h; obtain ⟨nq, h2⟩ := h; subst h2
      go_wp2
      go_roundw
      case rel =>
        have G : Gr w ((wr.alloc (.cells #[.int .i64 0, .int .i64 0, .int .i64 0] 161)).drewN nq) := (g.alloc _ _).drewN _
        have N : bits .or .u32 (a / 1048576) (0) = a / 1048576 := (or_add _ _ 0 (by omega) (by omega) (by omega) (by omega) (by omega)).trans (by omega)
        have R : Value.int .u32 (bits .or .u32 (a / 1048576) (0)) = .int .u32 (a / 1048576) := by rw [N]
        clear N
        first
          | exact ⟨G, Or.inr (Or.inr (Or.inl ⟨rfl, R⟩))⟩
          | ((repeat apply Exists.intro); exact ⟨⟨G, Or.inr (Or.inr (Or.inl ⟨rfl, R⟩))⟩, rfl⟩)
      case measure => simp [intOf]
    · go_wp2
      refine wp_region_quiet_lit (by kernel_rfl) (by kernel_rfl) ?_
      iterate 6 go_big_quiet_step (fail)
      go_big_quiet_step (exact Calls.quiet_of (taken_as a 0 0 (0) _ h0 h1 (by omega) (by omega) (by omega) (by omega) (by show a / 1 % 1 = _; omega)))
      iterate 5 go_big_quiet_step (fail)
      refine wpQuiet_nil ?_; intro _ h; obtain ⟨nq, h2⟩ := h; subst h2
      go_wp2
      go_roundw
      case rel =>
        have G : Gr w ((wr.alloc (.cells #[.int .i64 0, .int .i64 0, .int .i64 0] 161)).drewN nq) := (g.alloc _ _).drewN _
        have N : bits .or .u32 (a / 1048576) (0) = a / 1048576 := (or_add _ _ 0 (by omega) (by omega) (by omega) (by omega) (by omega)).trans (by omega)
        have R : Value.int .u32 (bits .or .u32 (a / 1048576) (0)) = .int .u32 (a / 1048576) := by rw [N]
        clear N
        first
          | exact ⟨G, Or.inr (Or.inr (Or.inr (Or.inl ⟨rfl, R⟩)))⟩
          | ((repeat apply Exists.intro); exact ⟨⟨G, Or.inr (Or.inr (Or.inr (Or.inl ⟨rfl, R⟩)))⟩, rfl⟩)
      case measure => simp [intOf]
    · go_wp2
      refine wp_region_quiet_lit (by kernel_rfl) (by kernel_rfl) ?_
      iterate 6 go_big_quiet_step (fail)
      go_big_quiet_step (exact Calls.quiet_of (taken_as a 0 0 (0) _ h0 h1 (by omega) (by omega) (by omega) (by omega) (by show a / 1 % 1 = _; omega)))
      iterate 5 go_big_quiet_step (fail)
      refine wpQuiet_nil ?_; intro _ h; obtain ⟨nq, h2⟩ := h; subst h2
      go_wp2
      go_roundw
      case rel =>
        have G : Gr w ((wr.alloc (.cells #[.int .i64 0, .int .i64 0, .int .i64 0] 161)).drewN nq) := (g.alloc _ _).drewN _
        have N : bits .or .u32 (a / 1048576) (0) = a / 1048576 := (or_add _ _ 0 (by omega) (by omega) (by omega) (by omega) (by omega)).trans (by omega)
        have R : Value.int .u32 (bits .or .u32 (a / 1048576) (0)) = .int .u32 (a / 1048576) := by rw [N]
        clear N
        first
          | exact ⟨G, Or.inr (Or.inr (Or.inr (Or.inr (⟨rfl, R⟩))))⟩
          | ((repeat apply Exists.intro); exact ⟨⟨G, Or.inr (Or.inr (Or.inr (Or.inr (⟨rfl, R⟩))))⟩, rfl⟩)
      case measure => simp [intOf]
    · have c16 : wr.cell? ⟨2, 67, none⟩ = some (.int .i64 20) := (T.of g).shapes 67 _ rfl
      go_wp2
      go_ret
      exact ⟨ret_int (imm_3 a h0 h1), g⟩
theorem readImm_4 : ReadImm 4 := by
  intro a w T h0 h1
  have c4 : w.cell? ⟨2, 72, none⟩ = some (.int .i64 20) := T.shapes 72 _ rfl
  have c5 : w.cell? ⟨2, 73, none⟩ = some (.int .i64 0) := T.shapes 73 _ rfl
  have c6 : w.cell? ⟨2, 74, none⟩ = some (.int .i64 5) := T.shapes 74 _ rfl
  have c7 : w.cell? ⟨2, 75, none⟩ = some (.int .i64 0) := T.shapes 75 _ rfl
  have c8 : w.cell? ⟨2, 76, none⟩ = some (.int .i64 0) := T.shapes 76 _ rfl
  have c9 : w.cell? ⟨2, 77, none⟩ = some (.int .i64 0) := T.shapes 77 _ rfl
  have c10 : w.cell? ⟨2, 78, none⟩ = some (.int .i64 0) := T.shapes 78 _ rfl
  have c11 : w.cell? ⟨2, 79, none⟩ = some (.int .i64 0) := T.shapes 79 _ rfl
  have c12 : w.cell? ⟨2, 80, none⟩ = some (.int .i64 0) := T.shapes 80 _ rfl
  have c13 : w.cell? ⟨2, 81, none⟩ = some (.int .i64 0) := T.shapes 81 _ rfl
  have c14 : w.cell? ⟨2, 82, none⟩ = some (.int .i64 0) := T.shapes 82 _ rfl
  have c15 : w.cell? ⟨2, 83, none⟩ = some (.int .i64 0) := T.shapes 83 _ rfl
  have x0 : ∀ w : World, (Instr.index 162 (.agg #[.int .i64 20, .int .i64 0, .int .i64 5, .int .i64 0, .int .i64 0, .int .i64 0, .int .i64 0, .int .i64 0, .int .i64 0, .int .i64 0, .int .i64 0, .int .i64 0]) (.int .i64 0)).run Tryd.prog w = .ok (.agg #[.int .i64 20, .int .i64 0, .int .i64 5]) w := fun _ => by kernel_rfl
  have x1 : ∀ w : World, (Instr.index 162 (.agg #[.int .i64 20, .int .i64 0, .int .i64 5, .int .i64 0, .int .i64 0, .int .i64 0, .int .i64 0, .int .i64 0, .int .i64 0, .int .i64 0, .int .i64 0, .int .i64 0]) (.int .i64 1)).run Tryd.prog w = .ok (.agg #[.int .i64 0, .int .i64 0, .int .i64 0]) w := fun _ => by kernel_rfl
  have x2 : ∀ w : World, (Instr.index 162 (.agg #[.int .i64 20, .int .i64 0, .int .i64 5, .int .i64 0, .int .i64 0, .int .i64 0, .int .i64 0, .int .i64 0, .int .i64 0, .int .i64 0, .int .i64 0, .int .i64 0]) (.int .i64 2)).run Tryd.prog w = .ok (.agg #[.int .i64 0, .int .i64 0, .int .i64 0]) w := fun _ => by kernel_rfl
  have x3 : ∀ w : World, (Instr.index 162 (.agg #[.int .i64 20, .int .i64 0, .int .i64 5, .int .i64 0, .int .i64 0, .int .i64 0, .int .i64 0, .int .i64 0, .int .i64 0, .int .i64 0, .int .i64 0, .int .i64 0]) (.int .i64 3)).run Tryd.prog w = .ok (.agg #[.int .i64 0, .int .i64 0, .int .i64 0]) w := fun _ => by kernel_rfl
  go_enter Tryd.func106, Tryd.ntmps106
  go_wp2
  clear c4 c5 c6 c7 c8 c9 c10 c11 c12 c13 c14 c15
  go_loopw [5, 13] (fun n i wr => Gr w wr ∧ ((i = .int .i64 0 ∧ n = .int .u32 (0)) ∨ (i = .int .i64 1 ∧ n = .int .u32 (a / 1048576 % 32)) ∨ (i = .int .i64 2 ∧ n = .int .u32 (a / 1048576 % 32)) ∨ (i = .int .i64 3 ∧ n = .int .u32 (a / 1048576 % 32)) ∨ (i = .int .i64 4 ∧ n = .int .u32 (a / 1048576 % 32)))) (fun _ i _ => 4 - (intOf i).toNat)
  case atStart => exact ⟨Gr.refl _, Or.inl ⟨rfl, rfl⟩⟩
  case round =>
    obtain ⟨g, h⟩ := hrel
    rcases h with ⟨rfl, rfl⟩ | ⟨rfl, rfl⟩ | ⟨rfl, rfl⟩ | ⟨rfl, rfl⟩ | ⟨rfl, rfl⟩
    · go_wp2
      refine wp_region_quiet_lit (by kernel_rfl) (by kernel_rfl) ?_
      iterate 6 go_big_quiet_step (fail)
      go_big_quiet_step (exact Calls.quiet_of (taken_as a 20 5 (a / 1048576 % 32) _ h0 h1 (by omega) (by omega) (by omega) (by omega) (by show a / 1048576 % 32 = _; omega)))
      iterate 5 go_big_quiet_step (fail)
      refine wpQuiet_nil ?_; intro _ h; obtain ⟨nq, h2⟩ := h; subst h2
      go_wp2
      go_roundw
      case rel =>
        have G : Gr w ((wr.alloc (.cells #[.int .i64 20, .int .i64 0, .int .i64 5] 161)).drewN nq) := (g.alloc _ _).drewN _
        have N : bits .or .u32 (0) (a / 1048576 % 32) = a / 1048576 % 32 := (or_add _ _ 5 (by omega) (by omega) (by omega) (by omega) (by omega)).trans (by omega)
        have R : Value.int .u32 (bits .or .u32 (0) (a / 1048576 % 32)) = .int .u32 (a / 1048576 % 32) := by rw [N]
        clear N
        first
          | exact ⟨G, Or.inr (Or.inl ⟨rfl, R⟩)⟩
          | ((repeat apply Exists.intro); exact ⟨⟨G, Or.inr (Or.inl ⟨rfl, R⟩)⟩, rfl⟩)
      case measure => simp [intOf]
    · go_wp2
      refine wp_region_quiet_lit (by kernel_rfl) (by kernel_rfl) ?_
      iterate 6 go_big_quiet_step (fail)
      go_big_quiet_step (exact Calls.quiet_of (taken_as a 0 0 (0) _ h0 h1 (by omega) (by omega) (by omega) (by omega) (by show a / 1 % 1 = _; omega)))
      iterate 5 go_big_quiet_step (fail)
      refine wpQuiet_nil ?_; intro _ h; obtain ⟨nq, h2⟩ := h; subst h2
      go_wp2
      go_roundw
      case rel =>
        have G : Gr w ((wr.alloc (.cells #[.int .i64 0, .int .i64 0, .int .i64 0] 161)).drewN nq) := (g.alloc _ _).drewN _
        have N : bits .or .u32 (a / 1048576 % 32) (0) = a / 1048576 % 32 := (or_add _ _ 0 (by omega) (by omega) (by omega) (by omega) (by omega)).trans (by omega)
        have R : Value.int .u32 (bits .or .u32 (a / 1048576 % 32) (0)) = .int .u32 (a / 1048576 % 32) := by rw [N]
        clear N
        first
          | exact ⟨G, Or.inr (Or.inr (Or.inl ⟨rfl, R⟩))⟩
          | ((repeat apply Exists.intro); exact ⟨⟨G, Or.inr (Or.inr (Or.inl ⟨rfl, R⟩))⟩, rfl⟩)
      case measure => simp [intOf]
    · go_wp2
      refine wp_region_quiet_lit (by kernel_rfl) (by kernel_rfl) ?_
      iterate 6 go_big_quiet_step (fail)
      go_big_quiet_step (exact Calls.quiet_of (taken_as a 0 0 (0) _ h0 h1 (by omega) (by omega) (by omega) (by omega) (by show a / 1 % 1 = _; omega)))
      iterate 5 go_big_quiet_step (fail)
      refine wpQuiet_nil ?_; intro _ h; obtain ⟨nq, h2⟩ := h; subst h2
      go_wp2
      go_roundw
      case rel =>
        have G : Gr w ((wr.alloc (.cells #[.int .i64 0, .int .i64 0, .int .i64 0] 161)).drewN nq) := (g.alloc _ _).drewN _
        have N : bits .or .u32 (a / 1048576 % 32) (0) = a / 1048576 % 32 := (or_add _ _ 0 (by omega) (by omega) (by omega) (by omega) (by omega)).trans (by omega)
        have R : Value.int .u32 (bits .or .u32 (a / 1048576 % 32) (0)) = .int .u32 (a / 1048576 % 32) := by rw [N]
        clear N
        first
          | exact ⟨G, Or.inr (Or.inr (Or.inr (Or.inl ⟨rfl, R⟩)))⟩
          | ((repeat apply Exists.intro); exact ⟨⟨G, Or.inr (Or.inr (Or.inr (Or.inl ⟨rfl, R⟩)))⟩, rfl⟩)
      case measure => simp [intOf]
    · go_wp2
      refine wp_region_quiet_lit (by kernel_rfl) (by kernel_rfl) ?_
      iterate 6 go_big_quiet_step (fail)
      go_big_quiet_step (exact Calls.quiet_of (taken_as a 0 0 (0) _ h0 h1 (by omega) (by omega) (by omega) (by omega) (by show a / 1 % 1 = _; omega)))
      iterate 5 go_big_quiet_step (fail)
      refine wpQuiet_nil ?_; intro _ h; obtain ⟨nq, h2⟩ := h; subst h2
      go_wp2
      go_roundw
      case rel =>
        have G : Gr w ((wr.alloc (.cells #[.int .i64 0, .int .i64 0, .int .i64 0] 161)).drewN nq) := (g.alloc _ _).drewN _
        have N : bits .or .u32 (a / 1048576 % 32) (0) = a / 1048576 % 32 := (or_add _ _ 0 (by omega) (by omega) (by omega) (by omega) (by omega)).trans (by omega)
        have R : Value.int .u32 (bits .or .u32 (a / 1048576 % 32) (0)) = .int .u32 (a / 1048576 % 32) := by rw [N]
        clear N
        first
          | exact ⟨G, Or.inr (Or.inr (Or.inr (Or.inr (⟨rfl, R⟩))))⟩
          | ((repeat apply Exists.intro); exact ⟨⟨G, Or.inr (Or.inr (Or.inr (Or.inr (⟨rfl, R⟩))))⟩, rfl⟩)
      case measure => simp [intOf]
    · have c16 : wr.cell? ⟨2, 84, none⟩ = some (.int .i64 0) := (T.of g).shapes 84 _ rfl
      go_wp2
      go_ret
      exact ⟨ret_int (imm_4 a h0 h1), g⟩
theorem readImm_5 : ReadImm 5 := by
  intro a w T h0 h1
  have c4 : w.cell? ⟨2, 89, none⟩ = some (.int .i64 31) := T.shapes 89 _ rfl
  have c5 : w.cell? ⟨2, 90, none⟩ = some (.int .i64 12) := T.shapes 90 _ rfl
  have c6 : w.cell? ⟨2, 91, none⟩ = some (.int .i64 1) := T.shapes 91 _ rfl
  have c7 : w.cell? ⟨2, 92, none⟩ = some (.int .i64 7) := T.shapes 92 _ rfl
  have c8 : w.cell? ⟨2, 93, none⟩ = some (.int .i64 11) := T.shapes 93 _ rfl
  have c9 : w.cell? ⟨2, 94, none⟩ = some (.int .i64 1) := T.shapes 94 _ rfl
  have c10 : w.cell? ⟨2, 95, none⟩ = some (.int .i64 25) := T.shapes 95 _ rfl
  have c11 : w.cell? ⟨2, 96, none⟩ = some (.int .i64 5) := T.shapes 96 _ rfl
  have c12 : w.cell? ⟨2, 97, none⟩ = some (.int .i64 6) := T.shapes 97 _ rfl
  have c13 : w.cell? ⟨2, 98, none⟩ = some (.int .i64 8) := T.shapes 98 _ rfl
  have c14 : w.cell? ⟨2, 99, none⟩ = some (.int .i64 1) := T.shapes 99 _ rfl
  have c15 : w.cell? ⟨2, 100, none⟩ = some (.int .i64 4) := T.shapes 100 _ rfl
  have x0 : ∀ w : World, (Instr.index 162 (.agg #[.int .i64 31, .int .i64 12, .int .i64 1, .int .i64 7, .int .i64 11, .int .i64 1, .int .i64 25, .int .i64 5, .int .i64 6, .int .i64 8, .int .i64 1, .int .i64 4]) (.int .i64 0)).run Tryd.prog w = .ok (.agg #[.int .i64 31, .int .i64 12, .int .i64 1]) w := fun _ => by kernel_rfl
  have x1 : ∀ w : World, (Instr.index 162 (.agg #[.int .i64 31, .int .i64 12, .int .i64 1, .int .i64 7, .int .i64 11, .int .i64 1, .int .i64 25, .int .i64 5, .int .i64 6, .int .i64 8, .int .i64 1, .int .i64 4]) (.int .i64 1)).run Tryd.prog w = .ok (.agg #[.int .i64 7, .int .i64 11, .int .i64 1]) w := fun _ => by kernel_rfl
  have x2 : ∀ w : World, (Instr.index 162 (.agg #[.int .i64 31, .int .i64 12, .int .i64 1, .int .i64 7, .int .i64 11, .int .i64 1, .int .i64 25, .int .i64 5, .int .i64 6, .int .i64 8, .int .i64 1, .int .i64 4]) (.int .i64 2)).run Tryd.prog w = .ok (.agg #[.int .i64 25, .int .i64 5, .int .i64 6]) w := fun _ => by kernel_rfl
  have x3 : ∀ w : World, (Instr.index 162 (.agg #[.int .i64 31, .int .i64 12, .int .i64 1, .int .i64 7, .int .i64 11, .int .i64 1, .int .i64 25, .int .i64 5, .int .i64 6, .int .i64 8, .int .i64 1, .int .i64 4]) (.int .i64 3)).run Tryd.prog w = .ok (.agg #[.int .i64 8, .int .i64 1, .int .i64 4]) w := fun _ => by kernel_rfl
  go_enter Tryd.func106, Tryd.ntmps106
  go_wp2
  clear c4 c5 c6 c7 c8 c9 c10 c11 c12 c13 c14 c15
  go_loopw [5, 13] (fun n i wr => Gr w wr ∧ ((i = .int .i64 0 ∧ n = .int .u32 (0)) ∨ (i = .int .i64 1 ∧ n = .int .u32 (a / 2147483648 * 4096)) ∨ (i = .int .i64 2 ∧ n = .int .u32 (a / 2147483648 * 4096 + a / 128 % 2 * 2048)) ∨ (i = .int .i64 3 ∧ n = .int .u32 (a / 2147483648 * 4096 + a / 128 % 2 * 2048 + a / 33554432 % 64 * 32)) ∨ (i = .int .i64 4 ∧ n = .int .u32 (a / 2147483648 * 4096 + a / 128 % 2 * 2048 + a / 33554432 % 64 * 32 + a / 256 % 16 * 2)))) (fun _ i _ => 4 - (intOf i).toNat)
  case atStart => exact ⟨Gr.refl _, Or.inl ⟨rfl, rfl⟩⟩
  case round =>
    obtain ⟨g, h⟩ := hrel
    rcases h with ⟨rfl, rfl⟩ | ⟨rfl, rfl⟩ | ⟨rfl, rfl⟩ | ⟨rfl, rfl⟩ | ⟨rfl, rfl⟩
    · go_wp2
      refine wp_region_quiet_lit (by kernel_rfl) (by kernel_rfl) ?_
      iterate 6 go_big_quiet_step (fail)
      go_big_quiet_step (exact Calls.quiet_of (taken_as a 31 1 (a / 2147483648) _ h0 h1 (by omega) (by omega) (by omega) (by omega) (by show a / 2147483648 % 2 = _; omega)))
      iterate 5 go_big_quiet_step (fail)
      refine wpQuiet_nil ?_; intro _ h; obtain ⟨nq, h2⟩ := h; subst h2
      go_wp2
      go_roundw
      case rel =>
        have G : Gr w ((wr.alloc (.cells #[.int .i64 31, .int .i64 12, .int .i64 1] 161)).drewN nq) := (g.alloc _ _).drewN _
        have N : bits .or .u32 (0) (a / 2147483648 * 4096) = a / 2147483648 * 4096 := (or_add _ _ 13 (by omega) (by omega) (by omega) (by omega) (by omega)).trans (by omega)
        have R : Value.int .u32 (bits .or .u32 (0) (a / 2147483648 * 4096)) = .int .u32 (a / 2147483648 * 4096) := by rw [N]
        clear N
        first
          | exact ⟨G, Or.inr (Or.inl ⟨rfl, R⟩)⟩
          | ((repeat apply Exists.intro); exact ⟨⟨G, Or.inr (Or.inl ⟨rfl, R⟩)⟩, rfl⟩)
      case measure => simp [intOf]
    · go_wp2
      refine wp_region_quiet_lit (by kernel_rfl) (by kernel_rfl) ?_
      iterate 6 go_big_quiet_step (fail)
      go_big_quiet_step (exact Calls.quiet_of (taken_as a 7 1 (a / 128 % 2) _ h0 h1 (by omega) (by omega) (by omega) (by omega) (by show a / 128 % 2 = _; omega)))
      iterate 5 go_big_quiet_step (fail)
      refine wpQuiet_nil ?_; intro _ h; obtain ⟨nq, h2⟩ := h; subst h2
      go_wp2
      go_roundw
      case rel =>
        have G : Gr w ((wr.alloc (.cells #[.int .i64 7, .int .i64 11, .int .i64 1] 161)).drewN nq) := (g.alloc _ _).drewN _
        have N : bits .or .u32 (a / 2147483648 * 4096) (a / 128 % 2 * 2048) = a / 2147483648 * 4096 + a / 128 % 2 * 2048 := (or_add _ _ 12 (by omega) (by omega) (by omega) (by omega) (by omega)).trans (by omega)
        have R : Value.int .u32 (bits .or .u32 (a / 2147483648 * 4096) (a / 128 % 2 * 2048)) = .int .u32 (a / 2147483648 * 4096 + a / 128 % 2 * 2048) := by rw [N]
        clear N
        first
          | exact ⟨G, Or.inr (Or.inr (Or.inl ⟨rfl, R⟩))⟩
          | ((repeat apply Exists.intro); exact ⟨⟨G, Or.inr (Or.inr (Or.inl ⟨rfl, R⟩))⟩, rfl⟩)
      case measure => simp [intOf]
    · go_wp2
      refine wp_region_quiet_lit (by kernel_rfl) (by kernel_rfl) ?_
      iterate 6 go_big_quiet_step (fail)
      go_big_quiet_step (exact Calls.quiet_of (taken_as a 25 6 (a / 33554432 % 64) _ h0 h1 (by omega) (by omega) (by omega) (by omega) (by show a / 33554432 % 64 = _; omega)))
      iterate 5 go_big_quiet_step (fail)
      refine wpQuiet_nil ?_; intro _ h; obtain ⟨nq, h2⟩ := h; subst h2
      go_wp2
      go_roundw
      case rel =>
        have G : Gr w ((wr.alloc (.cells #[.int .i64 25, .int .i64 5, .int .i64 6] 161)).drewN nq) := (g.alloc _ _).drewN _
        have N : bits .or .u32 (a / 2147483648 * 4096 + a / 128 % 2 * 2048) (a / 33554432 % 64 * 32) = a / 2147483648 * 4096 + a / 128 % 2 * 2048 + a / 33554432 % 64 * 32 := (or_add _ _ 11 (by omega) (by omega) (by omega) (by omega) (by omega)).trans (by omega)
        have R : Value.int .u32 (bits .or .u32 (a / 2147483648 * 4096 + a / 128 % 2 * 2048) (a / 33554432 % 64 * 32)) = .int .u32 (a / 2147483648 * 4096 + a / 128 % 2 * 2048 + a / 33554432 % 64 * 32) := by rw [N]
        clear N
        first
          | exact ⟨G, Or.inr (Or.inr (Or.inr (Or.inl ⟨rfl, R⟩)))⟩
          | ((repeat apply Exists.intro); exact ⟨⟨G, Or.inr (Or.inr (Or.inr (Or.inl ⟨rfl, R⟩)))⟩, rfl⟩)
      case measure => simp [intOf]
    · go_wp2
      refine wp_region_quiet_lit (by kernel_rfl) (by kernel_rfl) ?_
      iterate 6 go_big_quiet_step (fail)
      go_big_quiet_step (exact Calls.quiet_of (taken_as a 8 4 (a / 256 % 16) _ h0 h1 (by omega) (by omega) (by omega) (by omega) (by show a / 256 % 16 = _; omega)))
      iterate 5 go_big_quiet_step (fail)
      refine wpQuiet_nil ?_; intro _ h; obtain ⟨nq, h2⟩ := h; subst h2
      go_wp2
      go_roundw
      case rel =>
        have G : Gr w ((wr.alloc (.cells #[.int .i64 8, .int .i64 1, .int .i64 4] 161)).drewN nq) := (g.alloc _ _).drewN _
        have N : bits .or .u32 (a / 2147483648 * 4096 + a / 128 % 2 * 2048 + a / 33554432 % 64 * 32) (a / 256 % 16 * 2) = a / 2147483648 * 4096 + a / 128 % 2 * 2048 + a / 33554432 % 64 * 32 + a / 256 % 16 * 2 := (or_add _ _ 5 (by omega) (by omega) (by omega) (by omega) (by omega)).trans (by omega)
        have R : Value.int .u32 (bits .or .u32 (a / 2147483648 * 4096 + a / 128 % 2 * 2048 + a / 33554432 % 64 * 32) (a / 256 % 16 * 2)) = .int .u32 (a / 2147483648 * 4096 + a / 128 % 2 * 2048 + a / 33554432 % 64 * 32 + a / 256 % 16 * 2) := by rw [N]
        clear N
        first
          | exact ⟨G, Or.inr (Or.inr (Or.inr (Or.inr (⟨rfl, R⟩))))⟩
          | ((repeat apply Exists.intro); exact ⟨⟨G, Or.inr (Or.inr (Or.inr (Or.inr (⟨rfl, R⟩))))⟩, rfl⟩)
      case measure => simp [intOf]
    · have c16 : wr.cell? ⟨2, 101, none⟩ = some (.int .i64 19) := (T.of g).shapes 101 _ rfl
      go_wp2
      go_ret
      exact ⟨ret_int (imm_5 a h0 h1), g⟩
theorem readImm_6 : ReadImm 6 := by
  intro a w T h0 h1
  have c4 : w.cell? ⟨2, 106, none⟩ = some (.int .i64 25) := T.shapes 106 _ rfl
  have c5 : w.cell? ⟨2, 107, none⟩ = some (.int .i64 5) := T.shapes 107 _ rfl
  have c6 : w.cell? ⟨2, 108, none⟩ = some (.int .i64 7) := T.shapes 108 _ rfl
  have c7 : w.cell? ⟨2, 109, none⟩ = some (.int .i64 7) := T.shapes 109 _ rfl
  have c8 : w.cell? ⟨2, 110, none⟩ = some (.int .i64 0) := T.shapes 110 _ rfl
  have c9 : w.cell? ⟨2, 111, none⟩ = some (.int .i64 5) := T.shapes 111 _ rfl
  have c10 : w.cell? ⟨2, 112, none⟩ = some (.int .i64 0) := T.shapes 112 _ rfl
  have c11 : w.cell? ⟨2, 113, none⟩ = some (.int .i64 0) := T.shapes 113 _ rfl
  have c12 : w.cell? ⟨2, 114, none⟩ = some (.int .i64 0) := T.shapes 114 _ rfl
  have c13 : w.cell? ⟨2, 115, none⟩ = some (.int .i64 0) := T.shapes 115 _ rfl
  have c14 : w.cell? ⟨2, 116, none⟩ = some (.int .i64 0) := T.shapes 116 _ rfl
  have c15 : w.cell? ⟨2, 117, none⟩ = some (.int .i64 0) := T.shapes 117 _ rfl
  have x0 : ∀ w : World, (Instr.index 162 (.agg #[.int .i64 25, .int .i64 5, .int .i64 7, .int .i64 7, .int .i64 0, .int .i64 5, .int .i64 0, .int .i64 0, .int .i64 0, .int .i64 0, .int .i64 0, .int .i64 0]) (.int .i64 0)).run Tryd.prog w = .ok (.agg #[.int .i64 25, .int .i64 5, .int .i64 7]) w := fun _ => by kernel_rfl
  have x1 : ∀ w : World, (Instr.index 162 (.agg #[.int .i64 25, .int .i64 5, .int .i64 7, .int .i64 7, .int .i64 0, .int .i64 5, .int .i64 0, .int .i64 0, .int .i64 0, .int .i64 0, .int .i64 0, .int .i64 0]) (.int .i64 1)).run Tryd.prog w = .ok (.agg #[.int .i64 7, .int .i64 0, .int .i64 5]) w := fun _ => by kernel_rfl
  have x2 : ∀ w : World, (Instr.index 162 (.agg #[.int .i64 25, .int .i64 5, .int .i64 7, .int .i64 7, .int .i64 0, .int .i64 5, .int .i64 0, .int .i64 0, .int .i64 0, .int .i64 0, .int .i64 0, .int .i64 0]) (.int .i64 2)).run Tryd.prog w = .ok (.agg #[.int .i64 0, .int .i64 0, .int .i64 0]) w := fun _ => by kernel_rfl
  have x3 : ∀ w : World, (Instr.index 162 (.agg #[.int .i64 25, .int .i64 5, .int .i64 7, .int .i64 7, .int .i64 0, .int .i64 5, .int .i64 0, .int .i64 0, .int .i64 0, .int .i64 0, .int .i64 0, .int .i64 0]) (.int .i64 3)).run Tryd.prog w = .ok (.agg #[.int .i64 0, .int .i64 0, .int .i64 0]) w := fun _ => by kernel_rfl
  go_enter Tryd.func106, Tryd.ntmps106
  go_wp2
  clear c4 c5 c6 c7 c8 c9 c10 c11 c12 c13 c14 c15
  go_loopw [5, 13] (fun n i wr => Gr w wr ∧ ((i = .int .i64 0 ∧ n = .int .u32 (0)) ∨ (i = .int .i64 1 ∧ n = .int .u32 (a / 33554432 * 32)) ∨ (i = .int .i64 2 ∧ n = .int .u32 (a / 33554432 * 32 + a / 128 % 32)) ∨ (i = .int .i64 3 ∧ n = .int .u32 (a / 33554432 * 32 + a / 128 % 32)) ∨ (i = .int .i64 4 ∧ n = .int .u32 (a / 33554432 * 32 + a / 128 % 32)))) (fun _ i _ => 4 - (intOf i).toNat)
  case atStart => exact ⟨Gr.refl _, Or.inl ⟨rfl, rfl⟩⟩
  case round =>
    obtain ⟨g, h⟩ := hrel
    rcases h with ⟨rfl, rfl⟩ | ⟨rfl, rfl⟩ | ⟨rfl, rfl⟩ | ⟨rfl, rfl⟩ | ⟨rfl, rfl⟩
    · go_wp2
      refine wp_region_quiet_lit (by kernel_rfl) (by kernel_rfl) ?_
      iterate 6 go_big_quiet_step (fail)
      go_big_quiet_step (exact Calls.quiet_of (taken_as a 25 7 (a / 33554432) _ h0 h1 (by omega) (by omega) (by omega) (by omega) (by show a / 33554432 % 128 = _; omega)))
      iterate 5 go_big_quiet_step (fail)
      refine wpQuiet_nil ?_; intro _ h; obtain ⟨nq, h2⟩ := h; subst h2
      go_wp2
      go_roundw
      case rel =>
        have G : Gr w ((wr.alloc (.cells #[.int .i64 25, .int .i64 5, .int .i64 7] 161)).drewN nq) := (g.alloc _ _).drewN _
        have N : bits .or .u32 (0) (a / 33554432 * 32) = a / 33554432 * 32 := (or_add _ _ 12 (by omega) (by omega) (by omega) (by omega) (by omega)).trans (by omega)
        have R : Value.int .u32 (bits .or .u32 (0) (a / 33554432 * 32)) = .int .u32 (a / 33554432 * 32) := by rw [N]
        clear N
        first
          | exact ⟨G, Or.inr (Or.inl ⟨rfl, R⟩)⟩
          | ((repeat apply Exists.intro); exact ⟨⟨G, Or.inr (Or.inl ⟨rfl, R⟩)⟩, rfl⟩)
      case measure => simp [intOf]
    · go_wp2
      refine wp_region_quiet_lit (by kernel_rfl) (by kernel_rfl) ?_
      iterate 6 go_big_quiet_step (fail)
      go_big_quiet_step (exact Calls.quiet_of (taken_as a 7 5 (a / 128 % 32) _ h0 h1 (by omega) (by omega) (by omega) (by omega) (by show a / 128 % 32 = _; omega)))
      iterate 5 go_big_quiet_step (fail)
      refine wpQuiet_nil ?_; intro _ h; obtain ⟨nq, h2⟩ := h; subst h2
      go_wp2
      go_roundw
      case rel =>
        have G : Gr w ((wr.alloc (.cells #[.int .i64 7, .int .i64 0, .int .i64 5] 161)).drewN nq) := (g.alloc _ _).drewN _
        have N : bits .or .u32 (a / 33554432 * 32) (a / 128 % 32) = a / 33554432 * 32 + a / 128 % 32 := (or_add _ _ 5 (by omega) (by omega) (by omega) (by omega) (by omega)).trans (by omega)
        have R : Value.int .u32 (bits .or .u32 (a / 33554432 * 32) (a / 128 % 32)) = .int .u32 (a / 33554432 * 32 + a / 128 % 32) := by rw [N]
        clear N
        first
          | exact ⟨G, Or.inr (Or.inr (Or.inl ⟨rfl, R⟩))⟩
          | ((repeat apply Exists.intro); exact ⟨⟨G, Or.inr (Or.inr (Or.inl ⟨rfl, R⟩))⟩, rfl⟩)
      case measure => simp [intOf]
    · go_wp2
      refine wp_region_quiet_lit (by kernel_rfl) (by kernel_rfl) ?_
      iterate 6 go_big_quiet_step (fail)
      go_big_quiet_step (exact Calls.quiet_of (taken_as a 0 0 (0) _ h0 h1 (by omega) (by omega) (by omega) (by omega) (by show a / 1 % 1 = _; omega)))
      iterate 5 go_big_quiet_step (fail)
      refine wpQuiet_nil ?_; intro _ h; obtain ⟨nq, h2⟩ := h; subst h2
      go_wp2
      go_roundw
      case rel =>
        have G : Gr w ((wr.alloc (.cells #[.int .i64 0, .int .i64 0, .int .i64 0] 161)).drewN nq) := (g.alloc _ _).drewN _
        have N : bits .or .u32 (a / 33554432 * 32 + a / 128 % 32) (0) = a / 33554432 * 32 + a / 128 % 32 := (or_add _ _ 0 (by omega) (by omega) (by omega) (by omega) (by omega)).trans (by omega)
        have R : Value.int .u32 (bits .or .u32 (a / 33554432 * 32 + a / 128 % 32) (0)) = .int .u32 (a / 33554432 * 32 + a / 128 % 32) := by rw [N]
        clear N
        first
          | exact ⟨G, Or.inr (Or.inr (Or.inr (Or.inl ⟨rfl, R⟩)))⟩
          | ((repeat apply Exists.intro); exact ⟨⟨G, Or.inr (Or.inr (Or.inr (Or.inl ⟨rfl, R⟩)))⟩, rfl⟩)
      case measure => simp [intOf]
    · go_wp2
      refine wp_region_quiet_lit (by kernel_rfl) (by kernel_rfl) ?_
      iterate 6 go_big_quiet_step (fail)
      go_big_quiet_step (exact Calls.quiet_of (taken_as a 0 0 (0) _ h0 h1 (by omega) (by omega) (by omega) (by omega) (by show a / 1 % 1 = _; omega)))
      iterate 5 go_big_quiet_step (fail)
      refine wpQuiet_nil ?_; intro _ h; obtain ⟨nq, h2⟩ := h; subst h2
      go_wp2
      go_roundw
      case rel =>
        have G : Gr w ((wr.alloc (.cells #[.int .i64 0, .int .i64 0, .int .i64 0] 161)).drewN nq) := (g.alloc _ _).drewN _
        have N : bits .or .u32 (a / 33554432 * 32 + a / 128 % 32) (0) = a / 33554432 * 32 + a / 128 % 32 := (or_add _ _ 0 (by omega) (by omega) (by omega) (by omega) (by omega)).trans (by omega)
        have R : Value.int .u32 (bits .or .u32 (a / 33554432 * 32 + a / 128 % 32) (0)) = .int .u32 (a / 33554432 * 32 + a / 128 % 32) := by rw [N]
        clear N
        first
          | exact ⟨G, Or.inr (Or.inr (Or.inr (Or.inr (⟨rfl, R⟩))))⟩
          | ((repeat apply Exists.intro); exact ⟨⟨G, Or.inr (Or.inr (Or.inr (Or.inr (⟨rfl, R⟩))))⟩, rfl⟩)
      case measure => simp [intOf]
    · have c16 : wr.cell? ⟨2, 118, none⟩ = some (.int .i64 20) := (T.of g).shapes 118 _ rfl
      go_wp2
      go_ret
      exact ⟨ret_int (imm_6 a h0 h1), g⟩
theorem readImm_7 : ReadImm 7 := by
  intro a w T h0 h1
  have c4 : w.cell? ⟨2, 123, none⟩ = some (.int .i64 0) := T.shapes 123 _ rfl
  have c5 : w.cell? ⟨2, 124, none⟩ = some (.int .i64 0) := T.shapes 124 _ rfl
  have c6 : w.cell? ⟨2, 125, none⟩ = some (.int .i64 0) := T.shapes 125 _ rfl
  have c7 : w.cell? ⟨2, 126, none⟩ = some (.int .i64 0) := T.shapes 126 _ rfl
  have c8 : w.cell? ⟨2, 127, none⟩ = some (.int .i64 0) := T.shapes 127 _ rfl
  have c9 : w.cell? ⟨2, 128, none⟩ = some (.int .i64 0) := T.shapes 128 _ rfl
  have c10 : w.cell? ⟨2, 129, none⟩ = some (.int .i64 0) := T.shapes 129 _ rfl
  have c11 : w.cell? ⟨2, 130, none⟩ = some (.int .i64 0) := T.shapes 130 _ rfl
  have c12 : w.cell? ⟨2, 131, none⟩ = some (.int .i64 0) := T.shapes 131 _ rfl
  have c13 : w.cell? ⟨2, 132, none⟩ = some (.int .i64 0) := T.shapes 132 _ rfl
  have c14 : w.cell? ⟨2, 133, none⟩ = some (.int .i64 0) := T.shapes 133 _ rfl
  have c15 : w.cell? ⟨2, 134, none⟩ = some (.int .i64 0) := T.shapes 134 _ rfl
  have x0 : ∀ w : World, (Instr.index 162 (.agg #[.int .i64 0, .int .i64 0, .int .i64 0, .int .i64 0, .int .i64 0, .int .i64 0, .int .i64 0, .int .i64 0, .int .i64 0, .int .i64 0, .int .i64 0, .int .i64 0]) (.int .i64 0)).run Tryd.prog w = .ok (.agg #[.int .i64 0, .int .i64 0, .int .i64 0]) w := fun _ => by kernel_rfl
  have x1 : ∀ w : World, (Instr.index 162 (.agg #[.int .i64 0, .int .i64 0, .int .i64 0, .int .i64 0, .int .i64 0, .int .i64 0, .int .i64 0, .int .i64 0, .int .i64 0, .int .i64 0, .int .i64 0, .int .i64 0]) (.int .i64 1)).run Tryd.prog w = .ok (.agg #[.int .i64 0, .int .i64 0, .int .i64 0]) w := fun _ => by kernel_rfl
  have x2 : ∀ w : World, (Instr.index 162 (.agg #[.int .i64 0, .int .i64 0, .int .i64 0, .int .i64 0, .int .i64 0, .int .i64 0, .int .i64 0, .int .i64 0, .int .i64 0, .int .i64 0, .int .i64 0, .int .i64 0]) (.int .i64 2)).run Tryd.prog w = .ok (.agg #[.int .i64 0, .int .i64 0, .int .i64 0]) w := fun _ => by kernel_rfl
  have x3 : ∀ w : World, (Instr.index 162 (.agg #[.int .i64 0, .int .i64 0, .int .i64 0, .int .i64 0, .int .i64 0, .int .i64 0, .int .i64 0, .int .i64 0, .int .i64 0, .int .i64 0, .int .i64 0, .int .i64 0]) (.int .i64 3)).run Tryd.prog w = .ok (.agg #[.int .i64 0, .int .i64 0, .int .i64 0]) w := fun _ => by kernel_rfl
  go_enter Tryd.func106, Tryd.ntmps106
  go_wp2
  clear c4 c5 c6 c7 c8 c9 c10 c11 c12 c13 c14 c15
  go_loopw [5, 13] (fun n i wr => Gr w wr ∧ ((i = .int .i64 0 ∧ n = .int .u32 (0)) ∨ (i = .int .i64 1 ∧ n = .int .u32 (0)) ∨ (i = .int .i64 2 ∧ n = .int .u32 (0)) ∨ (i = .int .i64 3 ∧ n = .int .u32 (0)) ∨ (i = .int .i64 4 ∧ n = .int .u32 (0)))) (fun _ i _ => 4 - (intOf i).toNat)
  case atStart => exact ⟨Gr.refl _, Or.inl ⟨rfl, rfl⟩⟩
  case round =>
    obtain ⟨g, h⟩ := hrel
    rcases h with ⟨rfl, rfl⟩ | ⟨rfl, rfl⟩ | ⟨rfl, rfl⟩ | ⟨rfl, rfl⟩ | ⟨rfl, rfl⟩
    · go_wp2
      refine wp_region_quiet_lit (by kernel_rfl) (by kernel_rfl) ?_
      iterate 6 go_big_quiet_step (fail)
      go_big_quiet_step (exact Calls.quiet_of (taken_as a 0 0 (0) _ h0 h1 (by omega) (by omega) (by omega) (by omega) (by show a / 1 % 1 = _; omega)))
      iterate 5 go_big_quiet_step (fail)
      refine wpQuiet_nil ?_; intro _ h; obtain ⟨nq, h2⟩ := h; subst h2
      go_wp2
      go_roundw
      case rel =>
        have G : Gr w ((wr.alloc (.cells #[.int .i64 0, .int .i64 0, .int .i64 0] 161)).drewN nq) := (g.alloc _ _).drewN _
        have N : bits .or .u32 (0) (0) = 0 := (or_add _ _ 0 (by omega) (by omega) (by omega) (by omega) (by omega)).trans (by omega)
        have R : Value.int .u32 (bits .or .u32 (0) (0)) = .int .u32 (0) := by rw [N]
        clear N
        first
          | exact ⟨G, Or.inr (Or.inl ⟨rfl, R⟩)⟩
          | ((repeat apply Exists.intro); exact ⟨⟨G, Or.inr (Or.inl ⟨rfl, R⟩)⟩, rfl⟩)
      case measure => simp [intOf]
    · go_wp2
      refine wp_region_quiet_lit (by kernel_rfl) (by kernel_rfl) ?_
      iterate 6 go_big_quiet_step (fail)
      go_big_quiet_step (exact Calls.quiet_of (taken_as a 0 0 (0) _ h0 h1 (by omega) (by omega) (by omega) (by omega) (by show a / 1 % 1 = _; omega)))
      iterate 5 go_big_quiet_step (fail)
      refine wpQuiet_nil ?_; intro _ h; obtain ⟨nq, h2⟩ := h; subst h2
      go_wp2
      go_roundw
      case rel =>
        have G : Gr w ((wr.alloc (.cells #[.int .i64 0, .int .i64 0, .int .i64 0] 161)).drewN nq) := (g.alloc _ _).drewN _
        have N : bits .or .u32 (0) (0) = 0 := (or_add _ _ 0 (by omega) (by omega) (by omega) (by omega) (by omega)).trans (by omega)
        have R : Value.int .u32 (bits .or .u32 (0) (0)) = .int .u32 (0) := by rw [N]
        clear N
        first
          | exact ⟨G, Or.inr (Or.inr (Or.inl ⟨rfl, R⟩))⟩
          | ((repeat apply Exists.intro); exact ⟨⟨G, Or.inr (Or.inr (Or.inl ⟨rfl, R⟩))⟩, rfl⟩)
      case measure => simp [intOf]
    · go_wp2
      refine wp_region_quiet_lit (by kernel_rfl) (by kernel_rfl) ?_
      iterate 6 go_big_quiet_step (fail)
      go_big_quiet_step (exact Calls.quiet_of (taken_as a 0 0 (0) _ h0 h1 (by omega) (by omega) (by omega) (by omega) (by show a / 1 % 1 = _; omega)))
      iterate 5 go_big_quiet_step (fail)
      refine wpQuiet_nil ?_; intro _ h; obtain ⟨nq, h2⟩ := h; subst h2
      go_wp2
      go_roundw
      case rel =>
        have G : Gr w ((wr.alloc (.cells #[.int .i64 0, .int .i64 0, .int .i64 0] 161)).drewN nq) := (g.alloc _ _).drewN _
        have N : bits .or .u32 (0) (0) = 0 := (or_add _ _ 0 (by omega) (by omega) (by omega) (by omega) (by omega)).trans (by omega)
        have R : Value.int .u32 (bits .or .u32 (0) (0)) = .int .u32 (0) := by rw [N]
        clear N
        first
          | exact ⟨G, Or.inr (Or.inr (Or.inr (Or.inl ⟨rfl, R⟩)))⟩
          | ((repeat apply Exists.intro); exact ⟨⟨G, Or.inr (Or.inr (Or.inr (Or.inl ⟨rfl, R⟩)))⟩, rfl⟩)
      case measure => simp [intOf]
    · go_wp2
      refine wp_region_quiet_lit (by kernel_rfl) (by kernel_rfl) ?_
      iterate 6 go_big_quiet_step (fail)
      go_big_quiet_step (exact Calls.quiet_of (taken_as a 0 0 (0) _ h0 h1 (by omega) (by omega) (by omega) (by omega) (by show a / 1 % 1 = _; omega)))
      iterate 5 go_big_quiet_step (fail)
      refine wpQuiet_nil ?_; intro _ h; obtain ⟨nq, h2⟩ := h; subst h2
      go_wp2
      go_roundw
      case rel =>
        have G : Gr w ((wr.alloc (.cells #[.int .i64 0, .int .i64 0, .int .i64 0] 161)).drewN nq) := (g.alloc _ _).drewN _
        have N : bits .or .u32 (0) (0) = 0 := (or_add _ _ 0 (by omega) (by omega) (by omega) (by omega) (by omega)).trans (by omega)
        have R : Value.int .u32 (bits .or .u32 (0) (0)) = .int .u32 (0) := by rw [N]
        clear N
        first
          | exact ⟨G, Or.inr (Or.inr (Or.inr (Or.inr (⟨rfl, R⟩))))⟩
          | ((repeat apply Exists.intro); exact ⟨⟨G, Or.inr (Or.inr (Or.inr (Or.inr (⟨rfl, R⟩))))⟩, rfl⟩)
      case measure => simp [intOf]
    · have c16 : wr.cell? ⟨2, 135, none⟩ = some (.int .i64 0) := (T.of g).shapes 135 _ rfl
      go_wp2
      go_ret
      exact ⟨ret_int (imm_7 a h0 h1), g⟩
theorem readImm_8 : ReadImm 8 := by
  intro a w T h0 h1
  have c4 : w.cell? ⟨2, 140, none⟩ = some (.int .i64 25) := T.shapes 140 _ rfl
  have c5 : w.cell? ⟨2, 141, none⟩ = some (.int .i64 0) := T.shapes 141 _ rfl
  have c6 : w.cell? ⟨2, 142, none⟩ = some (.int .i64 2) := T.shapes 142 _ rfl
  have c7 : w.cell? ⟨2, 143, none⟩ = some (.int .i64 0) := T.shapes 143 _ rfl
  have c8 : w.cell? ⟨2, 144, none⟩ = some (.int .i64 0) := T.shapes 144 _ rfl
  have c9 : w.cell? ⟨2, 145, none⟩ = some (.int .i64 0) := T.shapes 145 _ rfl
  have c10 : w.cell? ⟨2, 146, none⟩ = some (.int .i64 0) := T.shapes 146 _ rfl
  have c11 : w.cell? ⟨2, 147, none⟩ = some (.int .i64 0) := T.shapes 147 _ rfl
  have c12 : w.cell? ⟨2, 148, none⟩ = some (.int .i64 0) := T.shapes 148 _ rfl
  have c13 : w.cell? ⟨2, 149, none⟩ = some (.int .i64 0) := T.shapes 149 _ rfl
  have c14 : w.cell? ⟨2, 150, none⟩ = some (.int .i64 0) := T.shapes 150 _ rfl
  have c15 : w.cell? ⟨2, 151, none⟩ = some (.int .i64 0) := T.shapes 151 _ rfl
  have x0 : ∀ w : World, (Instr.index 162 (.agg #[.int .i64 25, .int .i64 0, .int .i64 2, .int .i64 0, .int .i64 0, .int .i64 0, .int .i64 0, .int .i64 0, .int .i64 0, .int .i64 0, .int .i64 0, .int .i64 0]) (.int .i64 0)).run Tryd.prog w = .ok (.agg #[.int .i64 25, .int .i64 0, .int .i64 2]) w := fun _ => by kernel_rfl
  have x1 : ∀ w : World, (Instr.index 162 (.agg #[.int .i64 25, .int .i64 0, .int .i64 2, .int .i64 0, .int .i64 0, .int .i64 0, .int .i64 0, .int .i64 0, .int .i64 0, .int .i64 0, .int .i64 0, .int .i64 0]) (.int .i64 1)).run Tryd.prog w = .ok (.agg #[.int .i64 0, .int .i64 0, .int .i64 0]) w := fun _ => by kernel_rfl
  have x2 : ∀ w : World, (Instr.index 162 (.agg #[.int .i64 25, .int .i64 0, .int .i64 2, .int .i64 0, .int .i64 0, .int .i64 0, .int .i64 0, .int .i64 0, .int .i64 0, .int .i64 0, .int .i64 0, .int .i64 0]) (.int .i64 2)).run Tryd.prog w = .ok (.agg #[.int .i64 0, .int .i64 0, .int .i64 0]) w := fun _ => by kernel_rfl
  have x3 : ∀ w : World, (Instr.index 162 (.agg #[.int .i64 25, .int .i64 0, .int .i64 2, .int .i64 0, .int .i64 0, .int .i64 0, .int .i64 0, .int .i64 0, .int .i64 0, .int .i64 0, .int .i64 0, .int .i64 0]) (.int .i64 3)).run Tryd.prog w = .ok (.agg #[.int .i64 0, .int .i64 0, .int .i64 0]) w := fun _ => by kernel_rfl
  go_enter Tryd.func106, Tryd.ntmps106
  go_wp2
  clear c4 c5 c6 c7 c8 c9 c10 c11 c12 c13 c14 c15
  go_loopw [5, 13] (fun n i wr => Gr w wr ∧ ((i = .int .i64 0 ∧ n = .int .u32 (0)) ∨ (i = .int .i64 1 ∧ n = .int .u32 (a / 33554432 % 4)) ∨ (i = .int .i64 2 ∧ n = .int .u32 (a / 33554432 % 4)) ∨ (i = .int .i64 3 ∧ n = .int .u32 (a / 33554432 % 4)) ∨ (i = .int .i64 4 ∧ n = .int .u32 (a / 33554432 % 4)))) (fun _ i _ => 4 - (intOf i).toNat)
  case atStart => exact ⟨Gr.refl _, Or.inl ⟨rfl, rfl⟩⟩
  case round =>
    obtain ⟨g, h⟩ := hrel
    rcases h with ⟨rfl, rfl⟩ | ⟨rfl, rfl⟩ | ⟨rfl, rfl⟩ | ⟨rfl, rfl⟩ | ⟨rfl, rfl⟩
    · go_wp2
      refine wp_region_quiet_lit (by kernel_rfl) (by kernel_rfl) ?_
      iterate 6 go_big_quiet_step (fail)
      go_big_quiet_step (exact Calls.quiet_of (taken_as a 25 2 (a / 33554432 % 4) _ h0 h1 (by omega) (by omega) (by omega) (by omega) (by show a / 33554432 % 4 = _; omega)))
      iterate 5 go_big_quiet_step (fail)
      refine wpQuiet_nil ?_; intro _ h; obtain ⟨nq, h2⟩ := h; subst h2
      go_wp2
      go_roundw
      case rel =>
        have G : Gr w ((wr.alloc (.cells #[.int .i64 25, .int .i64 0, .int .i64 2] 161)).drewN nq) := (g.alloc _ _).drewN _
        have N : bits .or .u32 (0) (a / 33554432 % 4) = a / 33554432 % 4 := (or_add _ _ 2 (by omega) (by omega) (by omega) (by omega) (by omega)).trans (by omega)
        have R : Value.int .u32 (bits .or .u32 (0) (a / 33554432 % 4)) = .int .u32 (a / 33554432 % 4) := by rw [N]
        clear N
        first
          | exact ⟨G, Or.inr (Or.inl ⟨rfl, R⟩)⟩
          | ((repeat apply Exists.intro); exact ⟨⟨G, Or.inr (Or.inl ⟨rfl, R⟩)⟩, rfl⟩)
      case measure => simp [intOf]
    · go_wp2
      refine wp_region_quiet_lit (by kernel_rfl) (by kernel_rfl) ?_
      iterate 6 go_big_quiet_step (fail)
      go_big_quiet_step (exact Calls.quiet_of (taken_as a 0 0 (0) _ h0 h1 (by omega) (by omega) (by omega) (by omega) (by show a / 1 % 1 = _; omega)))
      iterate 5 go_big_quiet_step (fail)
      refine wpQuiet_nil ?_; intro _ h; obtain ⟨nq, h2⟩ := h; subst h2
      go_wp2
      go_roundw
      case rel =>
        have G : Gr w ((wr.alloc (.cells #[.int .i64 0, .int .i64 0, .int .i64 0] 161)).drewN nq) := (g.alloc _ _).drewN _
        have N : bits .or .u32 (a / 33554432 % 4) (0) = a / 33554432 % 4 := (or_add _ _ 0 (by omega) (by omega) (by omega) (by omega) (by omega)).trans (by omega)
        have R : Value.int .u32 (bits .or .u32 (a / 33554432 % 4) (0)) = .int .u32 (a / 33554432 % 4) := by rw [N]
        clear N
        first
          | exact ⟨G, Or.inr (Or.inr (Or.inl ⟨rfl, R⟩))⟩
          | ((repeat apply Exists.intro); exact ⟨⟨G, Or.inr (Or.inr (Or.inl ⟨rfl, R⟩))⟩, rfl⟩)
      case measure => simp [intOf]
    · go_wp2
      refine wp_region_quiet_lit (by kernel_rfl) (by kernel_rfl) ?_
      iterate 6 go_big_quiet_step (fail)
      go_big_quiet_step (exact Calls.quiet_of (taken_as a 0 0 (0) _ h0 h1 (by omega) (by omega) (by omega) (by omega) (by show a / 1 % 1 = _; omega)))
      iterate 5 go_big_quiet_step (fail)
      refine wpQuiet_nil ?_; intro _ h; obtain ⟨nq, h2⟩ := h; subst h2
      go_wp2
      go_roundw
      case rel =>
        have G : Gr w ((wr.alloc (.cells #[.int .i64 0, .int .i64 0, .int .i64 0] 161)).drewN nq) := (g.alloc _ _).drewN _
        have N : bits .or .u32 (a / 33554432 % 4) (0) = a / 33554432 % 4 := (or_add _ _ 0 (by omega) (by omega) (by omega) (by omega) (by omega)).trans (by omega)
        have R : Value.int .u32 (bits .or .u32 (a / 33554432 % 4) (0)) = .int .u32 (a / 33554432 % 4) := by rw [N]
        clear N
        first
          | exact ⟨G, Or.inr (Or.inr (Or.inr (Or.inl ⟨rfl, R⟩)))⟩
          | ((repeat apply Exists.intro); exact ⟨⟨G, Or.inr (Or.inr (Or.inr (Or.inl ⟨rfl, R⟩)))⟩, rfl⟩)
      case measure => simp [intOf]
    · go_wp2
      refine wp_region_quiet_lit (by kernel_rfl) (by kernel_rfl) ?_
      iterate 6 go_big_quiet_step (fail)
      go_big_quiet_step (exact Calls.quiet_of (taken_as a 0 0 (0) _ h0 h1 (by omega) (by omega) (by omega) (by omega) (by show a / 1 % 1 = _; omega)))
      iterate 5 go_big_quiet_step (fail)
      refine wpQuiet_nil ?_; intro _ h; obtain ⟨nq, h2⟩ := h; subst h2
      go_wp2
      go_roundw
      case rel =>
        have G : Gr w ((wr.alloc (.cells #[.int .i64 0, .int .i64 0, .int .i64 0] 161)).drewN nq) := (g.alloc _ _).drewN _
        have N : bits .or .u32 (a / 33554432 % 4) (0) = a / 33554432 % 4 := (or_add _ _ 0 (by omega) (by omega) (by omega) (by omega) (by omega)).trans (by omega)
        have R : Value.int .u32 (bits .or .u32 (a / 33554432 % 4) (0)) = .int .u32 (a / 33554432 % 4) := by rw [N]
        clear N
        first
          | exact ⟨G, Or.inr (Or.inr (Or.inr (Or.inr (⟨rfl, R⟩))))⟩
          | ((repeat apply Exists.intro); exact ⟨⟨G, Or.inr (Or.inr (Or.inr (Or.inr (⟨rfl, R⟩))))⟩, rfl⟩)
      case measure => simp [intOf]
    · have c16 : wr.cell? ⟨2, 152, none⟩ = some (.int .i64 0) := (T.of g).shapes 152 _ rfl
      go_wp2
      go_ret
      exact ⟨ret_int (imm_8 a h0 h1), g⟩
theorem readImm_9 : ReadImm 9 := by
  intro a w T h0 h1
  have c4 : w.cell? ⟨2, 157, none⟩ = some (.int .i64 0) := T.shapes 157 _ rfl
  have c5 : w.cell? ⟨2, 158, none⟩ = some (.int .i64 0) := T.shapes 158 _ rfl
  have c6 : w.cell? ⟨2, 159, none⟩ = some (.int .i64 0) := T.shapes 159 _ rfl
  have c7 : w.cell? ⟨2, 160, none⟩ = some (.int .i64 0) := T.shapes 160 _ rfl
  have c8 : w.cell? ⟨2, 161, none⟩ = some (.int .i64 0) := T.shapes 161 _ rfl
  have c9 : w.cell? ⟨2, 162, none⟩ = some (.int .i64 0) := T.shapes 162 _ rfl
  have c10 : w.cell? ⟨2, 163, none⟩ = some (.int .i64 0) := T.shapes 163 _ rfl
  have c11 : w.cell? ⟨2, 164, none⟩ = some (.int .i64 0) := T.shapes 164 _ rfl
  have c12 : w.cell? ⟨2, 165, none⟩ = some (.int .i64 0) := T.shapes 165 _ rfl
  have c13 : w.cell? ⟨2, 166, none⟩ = some (.int .i64 0) := T.shapes 166 _ rfl
  have c14 : w.cell? ⟨2, 167, none⟩ = some (.int .i64 0) := T.shapes 167 _ rfl
  have c15 : w.cell? ⟨2, 168, none⟩ = some (.int .i64 0) := T.shapes 168 _ rfl
  have x0 : ∀ w : World, (Instr.index 162 (.agg #[.int .i64 0, .int .i64 0, .int .i64 0, .int .i64 0, .int .i64 0, .int .i64 0, .int .i64 0, .int .i64 0, .int .i64 0, .int .i64 0, .int .i64 0, .int .i64 0]) (.int .i64 0)).run Tryd.prog w = .ok (.agg #[.int .i64 0, .int .i64 0, .int .i64 0]) w := fun _ => by kernel_rfl
  have x1 : ∀ w : World, (Instr.index 162 (.agg #[.int .i64 0, .int .i64 0, .int .i64 0, .int .i64 0, .int .i64 0, .int .i64 0, .int .i64 0, .int .i64 0, .int .i64 0, .int .i64 0, .int .i64 0, .int .i64 0]) (.int .i64 1)).run Tryd.prog w = .ok (.agg #[.int .i64 0, .int .i64 0, .int .i64 0]) w := fun _ => by kernel_rfl
  have x2 : ∀ w : World, (Instr.index 162 (.agg #[.int .i64 0, .int .i64 0, .int .i64 0, .int .i64 0, .int .i64 0, .int .i64 0, .int .i64 0, .int .i64 0, .int .i64 0, .int .i64 0, .int .i64 0, .int .i64 0]) (.int .i64 2)).run Tryd.prog w = .ok (.agg #[.int .i64 0, .int .i64 0, .int .i64 0]) w := fun _ => by kernel_rfl
  have x3 : ∀ w : World, (Instr.index 162 (.agg #[.int .i64 0, .int .i64 0, .int .i64 0, .int .i64 0, .int .i64 0, .int .i64 0, .int .i64 0, .int .i64 0, .int .i64 0, .int .i64 0, .int .i64 0, .int .i64 0]) (.int .i64 3)).run Tryd.prog w = .ok (.agg #[.int .i64 0, .int .i64 0, .int .i64 0]) w := fun _ => by kernel_rfl
  go_enter Tryd.func106, Tryd.ntmps106
  go_wp2
  clear c4 c5 c6 c7 c8 c9 c10 c11 c12 c13 c14 c15
  go_loopw [5, 13] (fun n i wr => Gr w wr ∧ ((i = .int .i64 0 ∧ n = .int .u32 (0)) ∨ (i = .int .i64 1 ∧ n = .int .u32 (0)) ∨ (i = .int .i64 2 ∧ n = .int .u32 (0)) ∨ (i = .int .i64 3 ∧ n = .int .u32 (0)) ∨ (i = .int .i64 4 ∧ n = .int .u32 (0)))) (fun _ i _ => 4 - (intOf i).toNat)
  case atStart => exact ⟨Gr.refl _, Or.inl ⟨rfl, rfl⟩⟩
  case round =>
    obtain ⟨g, h⟩ := hrel
    rcases h with ⟨rfl, rfl⟩ | ⟨rfl, rfl⟩ | ⟨rfl, rfl⟩ | ⟨rfl, rfl⟩ | ⟨rfl, rfl⟩
    · go_wp2
      refine wp_region_quiet_lit (by kernel_rfl) (by kernel_rfl) ?_
      iterate 6 go_big_quiet_step (fail)
      go_big_quiet_step (exact Calls.quiet_of (taken_as a 0 0 (0) _ h0 h1 (by omega) (by omega) (by omega) (by omega) (by show a / 1 % 1 = _; omega)))
      iterate 5 go_big_quiet_step (fail)
      refine wpQuiet_nil ?_; intro _ h; obtain ⟨nq, h2⟩ := h; subst h2
      go_wp2
      go_roundw
      case rel =>
        have G : Gr w ((wr.alloc (.cells #[.int .i64 0, .int .i64 0, .int .i64 0] 161)).drewN nq) := (g.alloc _ _).drewN _
        have N : bits .or .u32 (0) (0) = 0 := (or_add _ _ 0 (by omega) (by omega) (by omega) (by omega) (by omega)).trans (by omega)
        have R : Value.int .u32 (bits .or .u32 (0) (0)) = .int .u32 (0) := by rw [N]
        clear N
        first
          | exact ⟨G, Or.inr (Or.inl ⟨rfl, R⟩)⟩
          | ((repeat apply Exists.intro); exact ⟨⟨G, Or.inr (Or.inl ⟨rfl, R⟩)⟩, rfl⟩)
      case measure => simp [intOf]
    · go_wp2
      refine wp_region_quiet_lit (by kernel_rfl) (by kernel_rfl) ?_
      iterate 6 go_big_quiet_step (fail)
      go_big_quiet_step (exact Calls.quiet_of (taken_as a 0 0 (0) _ h0 h1 (by omega) (by omega) (by omega) (by omega) (by show a / 1 % 1 = _; omega)))
      iterate 5 go_big_quiet_step (fail)
      refine wpQuiet_nil ?_; intro _ h; obtain ⟨nq, h2⟩ := h; subst h2
      go_wp2
      go_roundw
      case rel =>
        have G : Gr w ((wr.alloc (.cells #[.int .i64 0, .int .i64 0, .int .i64 0] 161)).drewN nq) := (g.alloc _ _).drewN _
        have N : bits .or .u32 (0) (0) = 0 := (or_add _ _ 0 (by omega) (by omega) (by omega) (by omega) (by omega)).trans (by omega)
        have R : Value.int .u32 (bits .or .u32 (0) (0)) = .int .u32 (0) := by rw [N]
        clear N
        first
          | exact ⟨G, Or.inr (Or.inr (Or.inl ⟨rfl, R⟩))⟩
          | ((repeat apply Exists.intro); exact ⟨⟨G, Or.inr (Or.inr (Or.inl ⟨rfl, R⟩))⟩, rfl⟩)
      case measure => simp [intOf]
    · go_wp2
      refine wp_region_quiet_lit (by kernel_rfl) (by kernel_rfl) ?_
      iterate 6 go_big_quiet_step (fail)
      go_big_quiet_step (exact Calls.quiet_of (taken_as a 0 0 (0) _ h0 h1 (by omega) (by omega) (by omega) (by omega) (by show a / 1 % 1 = _; omega)))
      iterate 5 go_big_quiet_step (fail)
      refine wpQuiet_nil ?_; intro _ h; obtain ⟨nq, h2⟩ := h; subst h2
      go_wp2
      go_roundw
      case rel =>
        have G : Gr w ((wr.alloc (.cells #[.int .i64 0, .int .i64 0, .int .i64 0] 161)).drewN nq) := (g.alloc _ _).drewN _
        have N : bits .or .u32 (0) (0) = 0 := (or_add _ _ 0 (by omega) (by omega) (by omega) (by omega) (by omega)).trans (by omega)
        have R : Value.int .u32 (bits .or .u32 (0) (0)) = .int .u32 (0) := by rw [N]
        clear N
        first
          | exact ⟨G, Or.inr (Or.inr (Or.inr (Or.inl ⟨rfl, R⟩)))⟩
          | ((repeat apply Exists.intro); exact ⟨⟨G, Or.inr (Or.inr (Or.inr (Or.inl ⟨rfl, R⟩)))⟩, rfl⟩)
      case measure => simp [intOf]
    · go_wp2
      refine wp_region_quiet_lit (by kernel_rfl) (by kernel_rfl) ?_
      iterate 6 go_big_quiet_step (fail)
      go_big_quiet_step (exact Calls.quiet_of (taken_as a 0 0 (0) _ h0 h1 (by omega) (by omega) (by omega) (by omega) (by show a / 1 % 1 = _; omega)))
      iterate 5 go_big_quiet_step (fail)
      refine wpQuiet_nil ?_; intro _ h; obtain ⟨nq, h2⟩ := h; subst h2
      go_wp2
      go_roundw
      case rel =>
        have G : Gr w ((wr.alloc (.cells #[.int .i64 0, .int .i64 0, .int .i64 0] 161)).drewN nq) := (g.alloc _ _).drewN _
        have N : bits .or .u32 (0) (0) = 0 := (or_add _ _ 0 (by omega) (by omega) (by omega) (by omega) (by omega)).trans (by omega)
        have R : Value.int .u32 (bits .or .u32 (0) (0)) = .int .u32 (0) := by rw [N]
        clear N
        first
          | exact ⟨G, Or.inr (Or.inr (Or.inr (Or.inr (⟨rfl, R⟩))))⟩
          | ((repeat apply Exists.intro); exact ⟨⟨G, Or.inr (Or.inr (Or.inr (Or.inr (⟨rfl, R⟩))))⟩, rfl⟩)
      case measure => simp [intOf]
    · have c16 : wr.cell? ⟨2, 169, none⟩ = some (.int .i64 0) := (T.of g).shapes 169 _ rfl
      go_wp2
      go_ret
      exact ⟨ret_int (imm_9 a h0 h1), g⟩
end Go.Proofs.YtbihifipemldhabDoor.Dw
