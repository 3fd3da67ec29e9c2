/-
  Walks5: texts of ours that lie in one file.
-/
import Derived.Test.YtbihifipemldhabDoorQ12
set_option linter.unusedVariables false
set_option linter.unusedSimpArgs false
set_option maxHeartbeats 8000000
set_option maxRecDepth 100000
/-
  What writtenImm returns: an Imm's pieces, each at its place, as a sum. Conditions: the tables hold what their initialisers lay ('Tab').
-/
namespace Go.Proofs.YtbihifipemldhabDoor.Dw
open Go.ChangeShapes Go.WideShapes Go.ChangeAt Go.RowKit

theorem bor_assoc (a b c : Int) : Wd.bor (Wd.bor a b) c = Wd.bor a (Wd.bor b c) := by
  unfold Wd.bor; rw [Int.toNat_natCast, Int.toNat_natCast, Nat.or_assoc]
/-- Bits that are 0, filled. -/
theorem ins_nat (n y i c : Nat) (hz : n / 2 ^ i % 2 ^ c = 0) (hy : y < 2 ^ c) : n ||| y * 2 ^ i = n + y * 2 ^ i := by
  have e1 : n = n / 2 ^ (i + c) * 2 ^ (i + c) + n % 2 ^ i := by
    have a1 := Nat.div_add_mod n (2 ^ i)
    have a2 := Nat.div_add_mod (n / 2 ^ i) (2 ^ c)
    rw [Nat.div_div_eq_div_mul, ← Nat.pow_add, hz, Nat.add_zero] at a2
    rw [← a2, ← Nat.mul_assoc, ← Nat.pow_add, Nat.mul_comm] at a1
    exact a1.symm
  have hl : n % 2 ^ i < 2 ^ i := Nat.mod_lt _ (Nat.two_pow_pos _)
  generalize n % 2 ^ i = l at *
  generalize n / 2 ^ (i + c) = h at *
  have hx : y * 2 ^ i + l < 2 ^ (i + c) := by
    have : (y + 1) * 2 ^ i ≤ 2 ^ c * 2 ^ i := Nat.mul_le_mul_right _ hy
    rw [Nat.add_mul, Nat.one_mul] at this
    rw [Nat.pow_add, Nat.mul_comm (2 ^ i)]
    omega
  have hl' : l < 2 ^ (i + c) := by omega
  rw [e1, ← Dc.nor_add l h (i + c) hl', Nat.or_assoc, Nat.or_comm l, Dc.nor_add l y i hl, Dc.nor_add _ h (i + c) hx, Dc.nor_add l h (i + c) hl']
  omega
theorem ins_bor (n y : Int) (i c : Nat) (h0 : 0 ≤ n) (hy : 0 ≤ y) (hz : n / 2 ^ i % 2 ^ c = 0) (hl : y < 2 ^ c) : Wd.bor n (y * 2 ^ i) = n + y * 2 ^ i := by
  obtain ⟨n, rfl⟩ := Int.eq_ofNat_of_zero_le h0
  obtain ⟨y, rfl⟩ := Int.eq_ofNat_of_zero_le hy
  have p1 : ((2 : Int) ^ i) = ((2 ^ i : Nat) : Int) := by simp
  have p2 : ((2 : Int) ^ c) = ((2 ^ c : Nat) : Int) := by simp
  rw [p1, p2] at hz
  rw [p2] at hl
  have hz' : n / 2 ^ i % 2 ^ c = 0 := by exact_mod_cast hz
  have := ins_nat n y i c hz' (by omega)
  rw [p1]
  unfold Wd.bor
  rw [show (y : Int) * ((2 ^ i : Nat) : Int) = ((y * 2 ^ i : Nat) : Int) by simp, Int.toNat_natCast, Int.toNat_natCast, this]
  omega
theorem or_ins (n y : Int) (i c : Nat) (h0 : 0 ≤ n) (hy : 0 ≤ y) (hz : n / 2 ^ i % 2 ^ c = 0) (hl : y < 2 ^ c) (hb : n < 4294967296) (hx : y * 2 ^ i < 4294967296) (hx0 : 0 ≤ y * 2 ^ i) : bits .or .u32 n (y * 2 ^ i) = n + y * 2 ^ i := by
  rw [bits_or_u32 n _ h0 hb hx0 hx]
  exact ins_bor n y i c h0 hy hz hl
theorem z_2 (x y z : Int) (a1 : 0 ≤ x) (a2 : x < 2) (b1 : 0 ≤ y) (b2 : y < 256) (c1 : 0 ≤ z) (c2 : z < 2) : (x * 2147483648 + y * 4096 + z * 1048576) / 2 ^ 21 % 2 ^ 10 = 0 := by
  have : (x * 2147483648 + y * 4096 + z * 1048576) / 2 ^ 21 = x * 1024 := by omega
  rw [this]; omega
theorem z_5 (x y z : Int) (a1 : 0 ≤ x) (a2 : x < 2) (b1 : 0 ≤ y) (b2 : y < 2) (c1 : 0 ≤ z) (c2 : z < 64) : (x * 2147483648 + y * 128 + z * 33554432) / 2 ^ 8 % 2 ^ 4 = 0 := by
  have : (x * 2147483648 + y * 128 + z * 33554432) / 2 ^ 8 = x * 8388608 + z * 131072 := by omega
  rw [this]; omega
/-- An Imm's pieces at their places in a word. -/
def wI (f u : Int) : Int :=
  if f = 1 then u / 4096 % 1048576 * 4096 else if f = 2 then u / 1048576 % 2 * 2147483648 + u / 4096 % 256 * 4096 + u / 2048 % 2 * 1048576 + u / 2 % 1024 * 2097152 else if f = 3 then u % 4096 * 1048576 else if f = 4 then u % 32 * 1048576 else if f = 5 then u / 4096 % 2 * 2147483648 + u / 2048 % 2 * 128 + u / 32 % 64 * 33554432 + u / 2 % 16 * 256 else if f = 6 then u / 32 % 128 * 33554432 + u % 32 * 128 else if f = 8 then u % 4 * 33554432 else 0
/-- What writtenImm answers of a form. -/
def WrittenImm (f : Int) : Prop := ∀ (n : Int) (w : World), Tab w → -2147483648 ≤ n → n < 2147483648 → Calls Tryd.prog 115 #[.int .i64 f, .int .i32 n] w fun e w' => e = .returned (.int .u32 (wI f (n % 4294967296))) ∧ Gr w w'

theorem writtenImm_0 : WrittenImm 0 := by
  intro n w T h0 h1
  have c4 : w.cell? ⟨2, 4, none⟩ = some (.int .i64 0) := T.shapes 4 _ rfl
  have c5 : w.cell? ⟨2, 5, none⟩ = some (.int .i64 0) := T.shapes 5 _ rfl
  have c6 : w.cell? ⟨2, 6, none⟩ = some (.int .i64 0) := T.shapes 6 _ rfl
  have c7 : w.cell? ⟨2, 7, none⟩ = some (.int .i64 0) := T.shapes 7 _ rfl
  have c8 : w.cell? ⟨2, 8, none⟩ = some (.int .i64 0) := T.shapes 8 _ rfl
  have c9 : w.cell? ⟨2, 9, none⟩ = some (.int .i64 0) := T.shapes 9 _ rfl
  have c10 : w.cell? ⟨2, 10, none⟩ = some (.int .i64 0) := T.shapes 10 _ rfl
  have c11 : w.cell? ⟨2, 11, none⟩ = some (.int .i64 0) := T.shapes 11 _ rfl
  have c12 : w.cell? ⟨2, 12, none⟩ = some (.int .i64 0) := T.shapes 12 _ rfl
  have c13 : w.cell? ⟨2, 13, none⟩ = some (.int .i64 0) := T.shapes 13 _ rfl
  have c14 : w.cell? ⟨2, 14, none⟩ = some (.int .i64 0) := T.shapes 14 _ rfl
  have c15 : w.cell? ⟨2, 15, none⟩ = some (.int .i64 0) := T.shapes 15 _ rfl
  have x0 : ∀ w : World, (Instr.index 162 (.agg #[.int .i64 0, .int .i64 0, .int .i64 0, .int .i64 0, .int .i64 0, .int .i64 0, .int .i64 0, .int .i64 0, .int .i64 0, .int .i64 0, .int .i64 0, .int .i64 0]) (.int .i64 0)).run Tryd.prog w = .ok (.agg #[.int .i64 0, .int .i64 0, .int .i64 0]) w := fun _ => by kernel_rfl
  have x1 : ∀ w : World, (Instr.index 162 (.agg #[.int .i64 0, .int .i64 0, .int .i64 0, .int .i64 0, .int .i64 0, .int .i64 0, .int .i64 0, .int .i64 0, .int .i64 0, .int .i64 0, .int .i64 0, .int .i64 0]) (.int .i64 1)).run Tryd.prog w = .ok (.agg #[.int .i64 0, .int .i64 0, .int .i64 0]) w := fun _ => by kernel_rfl
  have x2 : ∀ w : World, (Instr.index 162 (.agg #[.int .i64 0, .int .i64 0, .int .i64 0, .int .i64 0, .int .i64 0, .int .i64 0, .int .i64 0, .int .i64 0, .int .i64 0, .int .i64 0, .int .i64 0, .int .i64 0]) (.int .i64 2)).run Tryd.prog w = .ok (.agg #[.int .i64 0, .int .i64 0, .int .i64 0]) w := fun _ => by kernel_rfl
  have x3 : ∀ w : World, (Instr.index 162 (.agg #[.int .i64 0, .int .i64 0, .int .i64 0, .int .i64 0, .int .i64 0, .int .i64 0, .int .i64 0, .int .i64 0, .int .i64 0, .int .i64 0, .int .i64 0, .int .i64 0]) (.int .i64 3)).run Tryd.prog w = .ok (.agg #[.int .i64 0, .int .i64 0, .int .i64 0]) w := fun _ => by kernel_rfl
  have u0 : 0 ≤ n % 4294967296 := by omega
  have u1 : n % 4294967296 < 4294967296 := by omega
  go_enter Tryd.func115, Tryd.ntmps115
  go_wp2
  clear c4 c5 c6 c7 c8 c9 c10 c11 c12 c13 c14 c15
  go_loopw [5, 12] (fun s i wr => Gr w wr ∧ ((i = .int .i64 0 ∧ s = .int .u32 (0)) ∨ (i = .int .i64 1 ∧ s = .int .u32 (0)) ∨ (i = .int .i64 2 ∧ s = .int .u32 (0)) ∨ (i = .int .i64 3 ∧ s = .int .u32 (0)) ∨ (i = .int .i64 4 ∧ s = .int .u32 (0)))) (fun _ i _ => 4 - (intOf i).toNat)
  case atStart => exact ⟨Gr.refl _, Or.inl ⟨rfl, rfl⟩⟩
  case round =>
    obtain ⟨g, h⟩ := hrel
    rcases h with ⟨rfl, rfl⟩ | ⟨rfl, rfl⟩ | ⟨rfl, rfl⟩ | ⟨rfl, rfl⟩ | ⟨rfl, rfl⟩
    · go_wp2
      refine wp_region_quiet_lit (by kernel_rfl) (by kernel_rfl) ?_
      iterate 7 go_big_quiet_step (fail)
      go_big_quiet_step (exact Calls.quiet_of (taken_as (n % 4294967296) 0 0 (0) _ u0 u1 (by omega) (by omega) (by omega) (by omega) (by show (n % 4294967296) / 1 % 1 = _; omega)))
      iterate 5 go_big_quiet_step (fail)
      refine wpQuiet_nil ?_; intro _ h; obtain ⟨nq, h2⟩ := h; subst h2
      go_wp2
      go_roundw
      case rel =>
        have G : Gr w ((wr.alloc (.cells #[.int .i64 0, .int .i64 0, .int .i64 0] 161)).drewN nq) := (g.alloc _ _).drewN _
        have N : bits .or .u32 (0) (0) = 0 := (or_add _ _ 0 (by omega) (by omega) (by omega) (by omega) (by omega)).trans (by omega)
        have R : Value.int .u32 (bits .or .u32 (0) (0)) = .int .u32 (0) := by rw [N]
        clear N
        first
          | exact ⟨G, Or.inr (Or.inl ⟨rfl, R⟩)⟩
          | ((repeat apply Exists.intro); exact ⟨⟨G, Or.inr (Or.inl ⟨rfl, R⟩)⟩, rfl⟩)
      case measure => simp [intOf]
    · go_wp2
      refine wp_region_quiet_lit (by kernel_rfl) (by kernel_rfl) ?_
      iterate 7 go_big_quiet_step (fail)
      go_big_quiet_step (exact Calls.quiet_of (taken_as (n % 4294967296) 0 0 (0) _ u0 u1 (by omega) (by omega) (by omega) (by omega) (by show (n % 4294967296) / 1 % 1 = _; omega)))
      iterate 5 go_big_quiet_step (fail)
      refine wpQuiet_nil ?_; intro _ h; obtain ⟨nq, h2⟩ := h; subst h2
      go_wp2
      go_roundw
      case rel =>
        have G : Gr w ((wr.alloc (.cells #[.int .i64 0, .int .i64 0, .int .i64 0] 161)).drewN nq) := (g.alloc _ _).drewN _
        have N : bits .or .u32 (0) (0) = 0 := (or_add _ _ 0 (by omega) (by omega) (by omega) (by omega) (by omega)).trans (by omega)
        have R : Value.int .u32 (bits .or .u32 (0) (0)) = .int .u32 (0) := by rw [N]
        clear N
        first
          | exact ⟨G, Or.inr (Or.inr (Or.inl ⟨rfl, R⟩))⟩
          | ((repeat apply Exists.intro); exact ⟨⟨G, Or.inr (Or.inr (Or.inl ⟨rfl, R⟩))⟩, rfl⟩)
      case measure => simp [intOf]
    · go_wp2
      refine wp_region_quiet_lit (by kernel_rfl) (by kernel_rfl) ?_
      iterate 7 go_big_quiet_step (fail)
      go_big_quiet_step (exact Calls.quiet_of (taken_as (n % 4294967296) 0 0 (0) _ u0 u1 (by omega) (by omega) (by omega) (by omega) (by show (n % 4294967296) / 1 % 1 = _; omega)))
      iterate 5 go_big_quiet_step (fail)
      refine wpQuiet_nil ?_; intro _ h; obtain ⟨nq, h2⟩ := h; subst h2
      go_wp2
      go_roundw
      case rel =>
        have G : Gr w ((wr.alloc (.cells #[.int .i64 0, .int .i64 0, .int .i64 0] 161)).drewN nq) := (g.alloc _ _).drewN _
        have N : bits .or .u32 (0) (0) = 0 := (or_add _ _ 0 (by omega) (by omega) (by omega) (by omega) (by omega)).trans (by omega)
        have R : Value.int .u32 (bits .or .u32 (0) (0)) = .int .u32 (0) := by rw [N]
        clear N
        first
          | exact ⟨G, Or.inr (Or.inr (Or.inr (Or.inl ⟨rfl, R⟩)))⟩
          | ((repeat apply Exists.intro); exact ⟨⟨G, Or.inr (Or.inr (Or.inr (Or.inl ⟨rfl, R⟩)))⟩, rfl⟩)
      case measure => simp [intOf]
    · go_wp2
      refine wp_region_quiet_lit (by kernel_rfl) (by kernel_rfl) ?_
      iterate 7 go_big_quiet_step (fail)
      go_big_quiet_step (exact Calls.quiet_of (taken_as (n % 4294967296) 0 0 (0) _ u0 u1 (by omega) (by omega) (by omega) (by omega) (by show (n % 4294967296) / 1 % 1 = _; omega)))
      iterate 5 go_big_quiet_step (fail)
      refine wpQuiet_nil ?_; intro _ h; obtain ⟨nq, h2⟩ := h; subst h2
      go_wp2
      go_roundw
      case rel =>
        have G : Gr w ((wr.alloc (.cells #[.int .i64 0, .int .i64 0, .int .i64 0] 161)).drewN nq) := (g.alloc _ _).drewN _
        have N : bits .or .u32 (0) (0) = 0 := (or_add _ _ 0 (by omega) (by omega) (by omega) (by omega) (by omega)).trans (by omega)
        have R : Value.int .u32 (bits .or .u32 (0) (0)) = .int .u32 (0) := by rw [N]
        clear N
        first
          | exact ⟨G, Or.inr (Or.inr (Or.inr (Or.inr (⟨rfl, R⟩))))⟩
          | ((repeat apply Exists.intro); exact ⟨⟨G, Or.inr (Or.inr (Or.inr (Or.inr (⟨rfl, R⟩))))⟩, rfl⟩)
      case measure => simp [intOf]
    · go_wp2
      go_ret
      exact ⟨ret_int (by show _ = 0; omega), g⟩
theorem writtenImm_1 : WrittenImm 1 := by
  intro n w T h0 h1
  have c4 : w.cell? ⟨2, 21, none⟩ = some (.int .i64 12) := T.shapes 21 _ rfl
  have c5 : w.cell? ⟨2, 22, none⟩ = some (.int .i64 12) := T.shapes 22 _ rfl
  have c6 : w.cell? ⟨2, 23, none⟩ = some (.int .i64 20) := T.shapes 23 _ rfl
  have c7 : w.cell? ⟨2, 24, none⟩ = some (.int .i64 0) := T.shapes 24 _ rfl
  have c8 : w.cell? ⟨2, 25, none⟩ = some (.int .i64 0) := T.shapes 25 _ rfl
  have c9 : w.cell? ⟨2, 26, none⟩ = some (.int .i64 0) := T.shapes 26 _ rfl
  have c10 : w.cell? ⟨2, 27, none⟩ = some (.int .i64 0) := T.shapes 27 _ rfl
  have c11 : w.cell? ⟨2, 28, none⟩ = some (.int .i64 0) := T.shapes 28 _ rfl
  have c12 : w.cell? ⟨2, 29, none⟩ = some (.int .i64 0) := T.shapes 29 _ rfl
  have c13 : w.cell? ⟨2, 30, none⟩ = some (.int .i64 0) := T.shapes 30 _ rfl
  have c14 : w.cell? ⟨2, 31, none⟩ = some (.int .i64 0) := T.shapes 31 _ rfl
  have c15 : w.cell? ⟨2, 32, none⟩ = some (.int .i64 0) := T.shapes 32 _ rfl
  have x0 : ∀ w : World, (Instr.index 162 (.agg #[.int .i64 12, .int .i64 12, .int .i64 20, .int .i64 0, .int .i64 0, .int .i64 0, .int .i64 0, .int .i64 0, .int .i64 0, .int .i64 0, .int .i64 0, .int .i64 0]) (.int .i64 0)).run Tryd.prog w = .ok (.agg #[.int .i64 12, .int .i64 12, .int .i64 20]) w := fun _ => by kernel_rfl
  have x1 : ∀ w : World, (Instr.index 162 (.agg #[.int .i64 12, .int .i64 12, .int .i64 20, .int .i64 0, .int .i64 0, .int .i64 0, .int .i64 0, .int .i64 0, .int .i64 0, .int .i64 0, .int .i64 0, .int .i64 0]) (.int .i64 1)).run Tryd.prog w = .ok (.agg #[.int .i64 0, .int .i64 0, .int .i64 0]) w := fun _ => by kernel_rfl
  have x2 : ∀ w : World, (Instr.index 162 (.agg #[.int .i64 12, .int .i64 12, .int .i64 20, .int .i64 0, .int .i64 0, .int .i64 0, .int .i64 0, .int .i64 0, .int .i64 0, .int .i64 0, .int .i64 0, .int .i64 0]) (.int .i64 2)).run Tryd.prog w = .ok (.agg #[.int .i64 0, .int .i64 0, .int .i64 0]) w := fun _ => by kernel_rfl
  have x3 : ∀ w : World, (Instr.index 162 (.agg #[.int .i64 12, .int .i64 12, .int .i64 20, .int .i64 0, .int .i64 0, .int .i64 0, .int .i64 0, .int .i64 0, .int .i64 0, .int .i64 0, .int .i64 0, .int .i64 0]) (.int .i64 3)).run Tryd.prog w = .ok (.agg #[.int .i64 0, .int .i64 0, .int .i64 0]) w := fun _ => by kernel_rfl
  have u0 : 0 ≤ n % 4294967296 := by omega
  have u1 : n % 4294967296 < 4294967296 := by omega
  go_enter Tryd.func115, Tryd.ntmps115
  go_wp2
  clear c4 c5 c6 c7 c8 c9 c10 c11 c12 c13 c14 c15
  go_loopw [5, 12] (fun s i wr => Gr w wr ∧ ((i = .int .i64 0 ∧ s = .int .u32 (0)) ∨ (i = .int .i64 1 ∧ s = .int .u32 ((n % 4294967296) / 4096 % 1048576 * 4096)) ∨ (i = .int .i64 2 ∧ s = .int .u32 ((n % 4294967296) / 4096 % 1048576 * 4096)) ∨ (i = .int .i64 3 ∧ s = .int .u32 ((n % 4294967296) / 4096 % 1048576 * 4096)) ∨ (i = .int .i64 4 ∧ s = .int .u32 ((n % 4294967296) / 4096 % 1048576 * 4096)))) (fun _ i _ => 4 - (intOf i).toNat)
  case atStart => exact ⟨Gr.refl _, Or.inl ⟨rfl, rfl⟩⟩
  case round =>
    obtain ⟨g, h⟩ := hrel
    rcases h with ⟨rfl, rfl⟩ | ⟨rfl, rfl⟩ | ⟨rfl, rfl⟩ | ⟨rfl, rfl⟩ | ⟨rfl, rfl⟩
    · go_wp2
      refine wp_region_quiet_lit (by kernel_rfl) (by kernel_rfl) ?_
      iterate 7 go_big_quiet_step (fail)
      go_big_quiet_step (exact Calls.quiet_of (taken_as (n % 4294967296) 12 20 ((n % 4294967296) / 4096 % 1048576) _ u0 u1 (by omega) (by omega) (by omega) (by omega) (by show (n % 4294967296) / 4096 % 1048576 = _; omega)))
      iterate 5 go_big_quiet_step (fail)
      refine wpQuiet_nil ?_; intro _ h; obtain ⟨nq, h2⟩ := h; subst h2
      go_wp2
      go_roundw
      case rel =>
        have G : Gr w ((wr.alloc (.cells #[.int .i64 12, .int .i64 12, .int .i64 20] 161)).drewN nq) := (g.alloc _ _).drewN _
        have N : bits .or .u32 (0) ((n % 4294967296) / 4096 % 1048576 * 4096) = (n % 4294967296) / 4096 % 1048576 * 4096 := (or_ins (0) ((n % 4294967296) / 4096 % 1048576) 12 20 (by omega) (by omega) (by omega) (by omega) (by omega) (by omega) (by omega)).trans (by omega)
        have R : Value.int .u32 (bits .or .u32 (0) ((n % 4294967296) / 4096 % 1048576 * 4096)) = .int .u32 ((n % 4294967296) / 4096 % 1048576 * 4096) := by rw [N]
        clear N
        first
          | exact ⟨G, Or.inr (Or.inl ⟨rfl, R⟩)⟩
          | ((repeat apply Exists.intro); exact ⟨⟨G, Or.inr (Or.inl ⟨rfl, R⟩)⟩, rfl⟩)
      case measure => simp [intOf]
    · go_wp2
      refine wp_region_quiet_lit (by kernel_rfl) (by kernel_rfl) ?_
      iterate 7 go_big_quiet_step (fail)
      go_big_quiet_step (exact Calls.quiet_of (taken_as (n % 4294967296) 0 0 (0) _ u0 u1 (by omega) (by omega) (by omega) (by omega) (by show (n % 4294967296) / 1 % 1 = _; omega)))
      iterate 5 go_big_quiet_step (fail)
      refine wpQuiet_nil ?_; intro _ h; obtain ⟨nq, h2⟩ := h; subst h2
      go_wp2
      go_roundw
      case rel =>
        have G : Gr w ((wr.alloc (.cells #[.int .i64 0, .int .i64 0, .int .i64 0] 161)).drewN nq) := (g.alloc _ _).drewN _
        have N : bits .or .u32 ((n % 4294967296) / 4096 % 1048576 * 4096) (0) = (n % 4294967296) / 4096 % 1048576 * 4096 := (or_add _ _ 0 (by omega) (by omega) (by omega) (by omega) (by omega)).trans (by omega)
        have R : Value.int .u32 (bits .or .u32 ((n % 4294967296) / 4096 % 1048576 * 4096) (0)) = .int .u32 ((n % 4294967296) / 4096 % 1048576 * 4096) := by rw [N]
        clear N
        first
          | exact ⟨G, Or.inr (Or.inr (Or.inl ⟨rfl, R⟩))⟩
          | ((repeat apply Exists.intro); exact ⟨⟨G, Or.inr (Or.inr (Or.inl ⟨rfl, R⟩))⟩, rfl⟩)
      case measure => simp [intOf]
    · go_wp2
      refine wp_region_quiet_lit (by kernel_rfl) (by kernel_rfl) ?_
      iterate 7 go_big_quiet_step (fail)
      go_big_quiet_step (exact Calls.quiet_of (taken_as (n % 4294967296) 0 0 (0) _ u0 u1 (by omega) (by omega) (by omega) (by omega) (by show (n % 4294967296) / 1 % 1 = _; omega)))
      iterate 5 go_big_quiet_step (fail)
      refine wpQuiet_nil ?_; intro _ h; obtain ⟨nq, h2⟩ := h; subst h2
      go_wp2
      go_roundw
      case rel =>
        have G : Gr w ((wr.alloc (.cells #[.int .i64 0, .int .i64 0, .int .i64 0] 161)).drewN nq) := (g.alloc _ _).drewN _
        have N : bits .or .u32 ((n % 4294967296) / 4096 % 1048576 * 4096) (0) = (n % 4294967296) / 4096 % 1048576 * 4096 := (or_add _ _ 0 (by omega) (by omega) (by omega) (by omega) (by omega)).trans (by omega)
        have R : Value.int .u32 (bits .or .u32 ((n % 4294967296) / 4096 % 1048576 * 4096) (0)) = .int .u32 ((n % 4294967296) / 4096 % 1048576 * 4096) := by rw [N]
        clear N
        first
          | exact ⟨G, Or.inr (Or.inr (Or.inr (Or.inl ⟨rfl, R⟩)))⟩
          | ((repeat apply Exists.intro); exact ⟨⟨G, Or.inr (Or.inr (Or.inr (Or.inl ⟨rfl, R⟩)))⟩, rfl⟩)
      case measure => simp [intOf]
    · go_wp2
      refine wp_region_quiet_lit (by kernel_rfl) (by kernel_rfl) ?_
      iterate 7 go_big_quiet_step (fail)
      go_big_quiet_step (exact Calls.quiet_of (taken_as (n % 4294967296) 0 0 (0) _ u0 u1 (by omega) (by omega) (by omega) (by omega) (by show (n % 4294967296) / 1 % 1 = _; omega)))
      iterate 5 go_big_quiet_step (fail)
      refine wpQuiet_nil ?_; intro _ h; obtain ⟨nq, h2⟩ := h; subst h2
      go_wp2
      go_roundw
      case rel =>
        have G : Gr w ((wr.alloc (.cells #[.int .i64 0, .int .i64 0, .int .i64 0] 161)).drewN nq) := (g.alloc _ _).drewN _
        have N : bits .or .u32 ((n % 4294967296) / 4096 % 1048576 * 4096) (0) = (n % 4294967296) / 4096 % 1048576 * 4096 := (or_add _ _ 0 (by omega) (by omega) (by omega) (by omega) (by omega)).trans (by omega)
        have R : Value.int .u32 (bits .or .u32 ((n % 4294967296) / 4096 % 1048576 * 4096) (0)) = .int .u32 ((n % 4294967296) / 4096 % 1048576 * 4096) := by rw [N]
        clear N
        first
          | exact ⟨G, Or.inr (Or.inr (Or.inr (Or.inr (⟨rfl, R⟩))))⟩
          | ((repeat apply Exists.intro); exact ⟨⟨G, Or.inr (Or.inr (Or.inr (Or.inr (⟨rfl, R⟩))))⟩, rfl⟩)
      case measure => simp [intOf]
    · go_wp2
      go_ret
      exact ⟨ret_int (by show _ = (n % 4294967296) / 4096 % 1048576 * 4096; omega), g⟩
theorem writtenImm_2 : WrittenImm 2 := by
  intro n w T h0 h1
  have c4 : w.cell? ⟨2, 38, none⟩ = some (.int .i64 31) := T.shapes 38 _ rfl
  have c5 : w.cell? ⟨2, 39, none⟩ = some (.int .i64 20) := T.shapes 39 _ rfl
  have c6 : w.cell? ⟨2, 40, none⟩ = some (.int .i64 1) := T.shapes 40 _ rfl
  have c7 : w.cell? ⟨2, 41, none⟩ = some (.int .i64 12) := T.shapes 41 _ rfl
  have c8 : w.cell? ⟨2, 42, none⟩ = some (.int .i64 12) := T.shapes 42 _ rfl
  have c9 : w.cell? ⟨2, 43, none⟩ = some (.int .i64 8) := T.shapes 43 _ rfl
  have c10 : w.cell? ⟨2, 44, none⟩ = some (.int .i64 20) := T.shapes 44 _ rfl
  have c11 : w.cell? ⟨2, 45, none⟩ = some (.int .i64 11) := T.shapes 45 _ rfl
  have c12 : w.cell? ⟨2, 46, none⟩ = some (.int .i64 1) := T.shapes 46 _ rfl
  have c13 : w.cell? ⟨2, 47, none⟩ = some (.int .i64 21) := T.shapes 47 _ rfl
  have c14 : w.cell? ⟨2, 48, none⟩ = some (.int .i64 1) := T.shapes 48 _ rfl
  have c15 : w.cell? ⟨2, 49, none⟩ = some (.int .i64 10) := T.shapes 49 _ rfl
  have x0 : ∀ w : World, (Instr.index 162 (.agg #[.int .i64 31, .int .i64 20, .int .i64 1, .int .i64 12, .int .i64 12, .int .i64 8, .int .i64 20, .int .i64 11, .int .i64 1, .int .i64 21, .int .i64 1, .int .i64 10]) (.int .i64 0)).run Tryd.prog w = .ok (.agg #[.int .i64 31, .int .i64 20, .int .i64 1]) w := fun _ => by kernel_rfl
  have x1 : ∀ w : World, (Instr.index 162 (.agg #[.int .i64 31, .int .i64 20, .int .i64 1, .int .i64 12, .int .i64 12, .int .i64 8, .int .i64 20, .int .i64 11, .int .i64 1, .int .i64 21, .int .i64 1, .int .i64 10]) (.int .i64 1)).run Tryd.prog w = .ok (.agg #[.int .i64 12, .int .i64 12, .int .i64 8]) w := fun _ => by kernel_rfl
  have x2 : ∀ w : World, (Instr.index 162 (.agg #[.int .i64 31, .int .i64 20, .int .i64 1, .int .i64 12, .int .i64 12, .int .i64 8, .int .i64 20, .int .i64 11, .int .i64 1, .int .i64 21, .int .i64 1, .int .i64 10]) (.int .i64 2)).run Tryd.prog w = .ok (.agg #[.int .i64 20, .int .i64 11, .int .i64 1]) w := fun _ => by kernel_rfl
  have x3 : ∀ w : World, (Instr.index 162 (.agg #[.int .i64 31, .int .i64 20, .int .i64 1, .int .i64 12, .int .i64 12, .int .i64 8, .int .i64 20, .int .i64 11, .int .i64 1, .int .i64 21, .int .i64 1, .int .i64 10]) (.int .i64 3)).run Tryd.prog w = .ok (.agg #[.int .i64 21, .int .i64 1, .int .i64 10]) w := fun _ => by kernel_rfl
  have u0 : 0 ≤ n % 4294967296 := by omega
  have u1 : n % 4294967296 < 4294967296 := by omega
  go_enter Tryd.func115, Tryd.ntmps115
  go_wp2
  clear c4 c5 c6 c7 c8 c9 c10 c11 c12 c13 c14 c15
  go_loopw [5, 12] (fun s i wr => Gr w wr ∧ ((i = .int .i64 0 ∧ s = .int .u32 (0)) ∨ (i = .int .i64 1 ∧ s = .int .u32 ((n % 4294967296) / 1048576 % 2 * 2147483648)) ∨ (i = .int .i64 2 ∧ s = .int .u32 ((n % 4294967296) / 1048576 % 2 * 2147483648 + (n % 4294967296) / 4096 % 256 * 4096)) ∨ (i = .int .i64 3 ∧ s = .int .u32 ((n % 4294967296) / 1048576 % 2 * 2147483648 + (n % 4294967296) / 4096 % 256 * 4096 + (n % 4294967296) / 2048 % 2 * 1048576)) ∨ (i = .int .i64 4 ∧ s = .int .u32 ((n % 4294967296) / 1048576 % 2 * 2147483648 + (n % 4294967296) / 4096 % 256 * 4096 + (n % 4294967296) / 2048 % 2 * 1048576 + (n % 4294967296) / 2 % 1024 * 2097152)))) (fun _ i _ => 4 - (intOf i).toNat)
  case atStart => exact ⟨Gr.refl _, Or.inl ⟨rfl, rfl⟩⟩
  case round =>
    obtain ⟨g, h⟩ := hrel
    rcases h with ⟨rfl, rfl⟩ | ⟨rfl, rfl⟩ | ⟨rfl, rfl⟩ | ⟨rfl, rfl⟩ | ⟨rfl, rfl⟩
    · go_wp2
      refine wp_region_quiet_lit (by kernel_rfl) (by kernel_rfl) ?_
      iterate 7 go_big_quiet_step (fail)
      go_big_quiet_step (exact Calls.quiet_of (taken_as (n % 4294967296) 20 1 ((n % 4294967296) / 1048576 % 2) _ u0 u1 (by omega) (by omega) (by omega) (by omega) (by show (n % 4294967296) / 1048576 % 2 = _; omega)))
      iterate 5 go_big_quiet_step (fail)
      refine wpQuiet_nil ?_; intro _ h; obtain ⟨nq, h2⟩ := h; subst h2
      go_wp2
      go_roundw
      case rel =>
        have G : Gr w ((wr.alloc (.cells #[.int .i64 31, .int .i64 20, .int .i64 1] 161)).drewN nq) := (g.alloc _ _).drewN _
        have N : bits .or .u32 (0) ((n % 4294967296) / 1048576 % 2 * 2147483648) = (n % 4294967296) / 1048576 % 2 * 2147483648 := (or_ins (0) ((n % 4294967296) / 1048576 % 2) 31 1 (by omega) (by omega) (by omega) (by omega) (by omega) (by omega) (by omega)).trans (by omega)
        have R : Value.int .u32 (bits .or .u32 (0) ((n % 4294967296) / 1048576 % 2 * 2147483648)) = .int .u32 ((n % 4294967296) / 1048576 % 2 * 2147483648) := by rw [N]
        clear N
        first
          | exact ⟨G, Or.inr (Or.inl ⟨rfl, R⟩)⟩
          | ((repeat apply Exists.intro); exact ⟨⟨G, Or.inr (Or.inl ⟨rfl, R⟩)⟩, rfl⟩)
      case measure => simp [intOf]
    · go_wp2
      refine wp_region_quiet_lit (by kernel_rfl) (by kernel_rfl) ?_
      iterate 7 go_big_quiet_step (fail)
      go_big_quiet_step (exact Calls.quiet_of (taken_as (n % 4294967296) 12 8 ((n % 4294967296) / 4096 % 256) _ u0 u1 (by omega) (by omega) (by omega) (by omega) (by show (n % 4294967296) / 4096 % 256 = _; omega)))
      iterate 5 go_big_quiet_step (fail)
      refine wpQuiet_nil ?_; intro _ h; obtain ⟨nq, h2⟩ := h; subst h2
      go_wp2
      go_roundw
      case rel =>
        have G : Gr w ((wr.alloc (.cells #[.int .i64 12, .int .i64 12, .int .i64 8] 161)).drewN nq) := (g.alloc _ _).drewN _
        have N : bits .or .u32 ((n % 4294967296) / 1048576 % 2 * 2147483648) ((n % 4294967296) / 4096 % 256 * 4096) = (n % 4294967296) / 1048576 % 2 * 2147483648 + (n % 4294967296) / 4096 % 256 * 4096 := (or_ins ((n % 4294967296) / 1048576 % 2 * 2147483648) ((n % 4294967296) / 4096 % 256) 12 8 (by omega) (by omega) (by omega) (by omega) (by omega) (by omega) (by omega)).trans (by omega)
        have R : Value.int .u32 (bits .or .u32 ((n % 4294967296) / 1048576 % 2 * 2147483648) ((n % 4294967296) / 4096 % 256 * 4096)) = .int .u32 ((n % 4294967296) / 1048576 % 2 * 2147483648 + (n % 4294967296) / 4096 % 256 * 4096) := by rw [N]
        clear N
        first
          | exact ⟨G, Or.inr (Or.inr (Or.inl ⟨rfl, R⟩))⟩
          | ((repeat apply Exists.intro); exact ⟨⟨G, Or.inr (Or.inr (Or.inl ⟨rfl, R⟩))⟩, rfl⟩)
      case measure => simp [intOf]
    · go_wp2
      refine wp_region_quiet_lit (by kernel_rfl) (by kernel_rfl) ?_
      iterate 7 go_big_quiet_step (fail)
      go_big_quiet_step (exact Calls.quiet_of (taken_as (n % 4294967296) 11 1 ((n % 4294967296) / 2048 % 2) _ u0 u1 (by omega) (by omega) (by omega) (by omega) (by show (n % 4294967296) / 2048 % 2 = _; omega)))
      iterate 5 go_big_quiet_step (fail)
      refine wpQuiet_nil ?_; intro _ h; obtain ⟨nq, h2⟩ := h; subst h2
      go_wp2
      go_roundw
      case rel =>
        have G : Gr w ((wr.alloc (.cells #[.int .i64 20, .int .i64 11, .int .i64 1] 161)).drewN nq) := (g.alloc _ _).drewN _
        have N : bits .or .u32 ((n % 4294967296) / 1048576 % 2 * 2147483648 + (n % 4294967296) / 4096 % 256 * 4096) ((n % 4294967296) / 2048 % 2 * 1048576) = (n % 4294967296) / 1048576 % 2 * 2147483648 + (n % 4294967296) / 4096 % 256 * 4096 + (n % 4294967296) / 2048 % 2 * 1048576 := (or_ins ((n % 4294967296) / 1048576 % 2 * 2147483648 + (n % 4294967296) / 4096 % 256 * 4096) ((n % 4294967296) / 2048 % 2) 20 1 (by omega) (by omega) (by omega) (by omega) (by omega) (by omega) (by omega)).trans (by omega)
        have R : Value.int .u32 (bits .or .u32 ((n % 4294967296) / 1048576 % 2 * 2147483648 + (n % 4294967296) / 4096 % 256 * 4096) ((n % 4294967296) / 2048 % 2 * 1048576)) = .int .u32 ((n % 4294967296) / 1048576 % 2 * 2147483648 + (n % 4294967296) / 4096 % 256 * 4096 + (n % 4294967296) / 2048 % 2 * 1048576) := by rw [N]
        clear N
        first
          | exact ⟨G, Or.inr (Or.inr (Or.inr (Or.inl ⟨rfl, R⟩)))⟩
          | ((repeat apply Exists.intro); exact ⟨⟨G, Or.inr (Or.inr (Or.inr (Or.inl ⟨rfl, R⟩)))⟩, rfl⟩)
      case measure => simp [intOf]
    · go_wp2
      refine wp_region_quiet_lit (by kernel_rfl) (by kernel_rfl) ?_
      iterate 7 go_big_quiet_step (fail)
      go_big_quiet_step (exact Calls.quiet_of (taken_as (n % 4294967296) 1 10 ((n % 4294967296) / 2 % 1024) _ u0 u1 (by omega) (by omega) (by omega) (by omega) (by show (n % 4294967296) / 2 % 1024 = _; omega)))
      iterate 5 go_big_quiet_step (fail)
      refine wpQuiet_nil ?_; intro _ h; obtain ⟨nq, h2⟩ := h; subst h2
      go_wp2
      go_roundw
      case rel =>
        have G : Gr w ((wr.alloc (.cells #[.int .i64 21, .int .i64 1, .int .i64 10] 161)).drewN nq) := (g.alloc _ _).drewN _
        have N : bits .or .u32 ((n % 4294967296) / 1048576 % 2 * 2147483648 + (n % 4294967296) / 4096 % 256 * 4096 + (n % 4294967296) / 2048 % 2 * 1048576) ((n % 4294967296) / 2 % 1024 * 2097152) = (n % 4294967296) / 1048576 % 2 * 2147483648 + (n % 4294967296) / 4096 % 256 * 4096 + (n % 4294967296) / 2048 % 2 * 1048576 + (n % 4294967296) / 2 % 1024 * 2097152 := (or_ins ((n % 4294967296) / 1048576 % 2 * 2147483648 + (n % 4294967296) / 4096 % 256 * 4096 + (n % 4294967296) / 2048 % 2 * 1048576) ((n % 4294967296) / 2 % 1024) 21 10 (by omega) (by omega) (z_2 _ _ _ (by omega) (by omega) (by omega) (by omega) (by omega) (by omega)) (by omega) (by omega) (by omega) (by omega)).trans (by omega)
        have R : Value.int .u32 (bits .or .u32 ((n % 4294967296) / 1048576 % 2 * 2147483648 + (n % 4294967296) / 4096 % 256 * 4096 + (n % 4294967296) / 2048 % 2 * 1048576) ((n % 4294967296) / 2 % 1024 * 2097152)) = .int .u32 ((n % 4294967296) / 1048576 % 2 * 2147483648 + (n % 4294967296) / 4096 % 256 * 4096 + (n % 4294967296) / 2048 % 2 * 1048576 + (n % 4294967296) / 2 % 1024 * 2097152) := by rw [N]
        clear N
        first
          | exact ⟨G, Or.inr (Or.inr (Or.inr (Or.inr (⟨rfl, R⟩))))⟩
          | ((repeat apply Exists.intro); exact ⟨⟨G, Or.inr (Or.inr (Or.inr (Or.inr (⟨rfl, R⟩))))⟩, rfl⟩)
      case measure => simp [intOf]
    · go_wp2
      go_ret
      exact ⟨ret_int (by show _ = (n % 4294967296) / 1048576 % 2 * 2147483648 + (n % 4294967296) / 4096 % 256 * 4096 + (n % 4294967296) / 2048 % 2 * 1048576 + (n % 4294967296) / 2 % 1024 * 2097152; omega), g⟩
theorem writtenImm_3 : WrittenImm 3 := by
  intro n w T h0 h1
  have c4 : w.cell? ⟨2, 55, none⟩ = some (.int .i64 20) := T.shapes 55 _ rfl
  have c5 : w.cell? ⟨2, 56, none⟩ = some (.int .i64 0) := T.shapes 56 _ rfl
  have c6 : w.cell? ⟨2, 57, none⟩ = some (.int .i64 12) := T.shapes 57 _ rfl
  have c7 : w.cell? ⟨2, 58, none⟩ = some (.int .i64 0) := T.shapes 58 _ rfl
  have c8 : w.cell? ⟨2, 59, none⟩ = some (.int .i64 0) := T.shapes 59 _ rfl
  have c9 : w.cell? ⟨2, 60, none⟩ = some (.int .i64 0) := T.shapes 60 _ rfl
  have c10 : w.cell? ⟨2, 61, none⟩ = some (.int .i64 0) := T.shapes 61 _ rfl
  have c11 : w.cell? ⟨2, 62, none⟩ = some (.int .i64 0) := T.shapes 62 _ rfl
  have c12 : w.cell? ⟨2, 63, none⟩ = some (.int .i64 0) := T.shapes 63 _ rfl
  have c13 : w.cell? ⟨2, 64, none⟩ = some (.int .i64 0) := T.shapes 64 _ rfl
  have c14 : w.cell? ⟨2, 65, none⟩ = some (.int .i64 0) := T.shapes 65 _ rfl
  have c15 : w.cell? ⟨2, 66, none⟩ = some (.int .i64 0) := T.shapes 66 _ rfl
  have x0 : ∀ w : World, (Instr.index 162 (.agg #[.int .i64 20, .int .i64 0, .int .i64 12, .int .i64 0, .int .i64 0, .int .i64 0, .int .i64 0, .int .i64 0, .int .i64 0, .int .i64 0, .int .i64 0, .int .i64 0]) (.int .i64 0)).run Tryd.prog w = .ok (.agg #[.int .i64 20, .int .i64 0, .int .i64 12]) w := fun _ => by kernel_rfl
  have x1 : ∀ w : World, (Instr.index 162 (.agg #[.int .i64 20, .int .i64 0, .int .i64 12, .int .i64 0, .int .i64 0, .int .i64 0, .int .i64 0, .int .i64 0, .int .i64 0, .int .i64 0, .int .i64 0, .int .i64 0]) (.int .i64 1)).run Tryd.prog w = .ok (.agg #[.int .i64 0, .int .i64 0, .int .i64 0]) w := fun _ => by kernel_rfl
  have x2 : ∀ w : World, (Instr.index 162 (.agg #[.int .i64 20, .int .i64 0, .int .i64 12, .int .i64 0, .int .i64 0, .int .i64 0, .int .i64 0, .int .i64 0, .int .i64 0, .int .i64 0, .int .i64 0, .int .i64 0]) (.int .i64 2)).run Tryd.prog w = .ok (.agg #[.int .i64 0, .int .i64 0, .int .i64 0]) w := fun _ => by kernel_rfl
  have x3 : ∀ w : World, (Instr.index 162 (.agg #[.int .i64 20, .int .i64 0, .int .i64 12, .int .i64 0, .int .i64 0, .int .i64 0, .int .i64 0, .int .i64 0, .int .i64 0, .int .i64 0, .int .i64 0, .int .i64 0]) (.int .i64 3)).run Tryd.prog w = .ok (.agg #[.int .i64 0, .int .i64 0, .int .i64 0]) w := fun _ => by kernel_rfl
  have u0 : 0 ≤ n % 4294967296 := by omega
  have u1 : n % 4294967296 < 4294967296 := by omega
  go_enter Tryd.func115, Tryd.ntmps115
  go_wp2
  clear c4 c5 c6 c7 c8 c9 c10 c11 c12 c13 c14 c15
  go_loopw [5, 12] (fun s i wr => Gr w wr ∧ ((i = .int .i64 0 ∧ s = .int .u32 (0)) ∨ (i = .int .i64 1 ∧ s = .int .u32 (n % 4096 * 1048576)) ∨ (i = .int .i64 2 ∧ s = .int .u32 (n % 4096 * 1048576)) ∨ (i = .int .i64 3 ∧ s = .int .u32 (n % 4096 * 1048576)) ∨ (i = .int .i64 4 ∧ s = .int .u32 (n % 4096 * 1048576)))) (fun _ i _ => 4 - (intOf i).toNat)
  case atStart => exact ⟨Gr.refl _, Or.inl ⟨rfl, rfl⟩⟩
  case round =>
    obtain ⟨g, h⟩ := hrel
    rcases h with ⟨rfl, rfl⟩ | ⟨rfl, rfl⟩ | ⟨rfl, rfl⟩ | ⟨rfl, rfl⟩ | ⟨rfl, rfl⟩
    · go_wp2
      refine wp_region_quiet_lit (by kernel_rfl) (by kernel_rfl) ?_
      iterate 7 go_big_quiet_step (fail)
      go_big_quiet_step (exact Calls.quiet_of (taken_as (n % 4294967296) 0 12 (n % 4096) _ u0 u1 (by omega) (by omega) (by omega) (by omega) (by show (n % 4294967296) / 1 % 4096 = _; omega)))
      iterate 5 go_big_quiet_step (fail)
      refine wpQuiet_nil ?_; intro _ h; obtain ⟨nq, h2⟩ := h; subst h2
      go_wp2
      go_roundw
      case rel =>
        have G : Gr w ((wr.alloc (.cells #[.int .i64 20, .int .i64 0, .int .i64 12] 161)).drewN nq) := (g.alloc _ _).drewN _
        have N : bits .or .u32 (0) (n % 4096 * 1048576) = n % 4096 * 1048576 := (or_ins (0) (n % 4096) 20 12 (by omega) (by omega) (by omega) (by omega) (by omega) (by omega) (by omega)).trans (by omega)
        have R : Value.int .u32 (bits .or .u32 (0) (n % 4096 * 1048576)) = .int .u32 (n % 4096 * 1048576) := by rw [N]
        clear N
        first
          | exact ⟨G, Or.inr (Or.inl ⟨rfl, R⟩)⟩
          | ((repeat apply Exists.intro); exact ⟨⟨G, Or.inr (Or.inl ⟨rfl, R⟩)⟩, rfl⟩)
      case measure => simp [intOf]
    · go_wp2
      refine wp_region_quiet_lit (by kernel_rfl) (by kernel_rfl) ?_
      iterate 7 go_big_quiet_step (fail)
      go_big_quiet_step (exact Calls.quiet_of (taken_as (n % 4294967296) 0 0 (0) _ u0 u1 (by omega) (by omega) (by omega) (by omega) (by show (n % 4294967296) / 1 % 1 = _; omega)))
      iterate 5 go_big_quiet_step (fail)
      refine wpQuiet_nil ?_; intro _ h; obtain ⟨nq, h2⟩ := h; subst h2
      go_wp2
      go_roundw
      case rel =>
        have G : Gr w ((wr.alloc (.cells #[.int .i64 0, .int .i64 0, .int .i64 0] 161)).drewN nq) := (g.alloc _ _).drewN _
        have N : bits .or .u32 (n % 4096 * 1048576) (0) = n % 4096 * 1048576 := (or_add _ _ 0 (by omega) (by omega) (by omega) (by omega) (by omega)).trans (by omega)
        have R : Value.int .u32 (bits .or .u32 (n % 4096 * 1048576) (0)) = .int .u32 (n % 4096 * 1048576) := by rw [N]
        clear N
        first
          | exact ⟨G, Or.inr (Or.inr (Or.inl ⟨rfl, R⟩))⟩
          | ((repeat apply Exists.intro); exact ⟨⟨G, Or.inr (Or.inr (Or.inl ⟨rfl, R⟩))⟩, rfl⟩)
      case measure => simp [intOf]
    · go_wp2
      refine wp_region_quiet_lit (by kernel_rfl) (by kernel_rfl) ?_
      iterate 7 go_big_quiet_step (fail)
      go_big_quiet_step (exact Calls.quiet_of (taken_as (n % 4294967296) 0 0 (0) _ u0 u1 (by omega) (by omega) (by omega) (by omega) (by show (n % 4294967296) / 1 % 1 = _; omega)))
      iterate 5 go_big_quiet_step (fail)
      refine wpQuiet_nil ?_; intro _ h; obtain ⟨nq, h2⟩ := h; subst h2
      go_wp2
      go_roundw
      case rel =>
        have G : Gr w ((wr.alloc (.cells #[.int .i64 0, .int .i64 0, .int .i64 0] 161)).drewN nq) := (g.alloc _ _).drewN _
        have N : bits .or .u32 (n % 4096 * 1048576) (0) = n % 4096 * 1048576 := (or_add _ _ 0 (by omega) (by omega) (by omega) (by omega) (by omega)).trans (by omega)
        have R : Value.int .u32 (bits .or .u32 (n % 4096 * 1048576) (0)) = .int .u32 (n % 4096 * 1048576) := by rw [N]
        clear N
        first
          | exact ⟨G, Or.inr (Or.inr (Or.inr (Or.inl ⟨rfl, R⟩)))⟩
          | ((repeat apply Exists.intro); exact ⟨⟨G, Or.inr (Or.inr (Or.inr (Or.inl ⟨rfl, R⟩)))⟩, rfl⟩)
      case measure => simp [intOf]
    · go_wp2
      refine wp_region_quiet_lit (by kernel_rfl) (by kernel_rfl) ?_
      iterate 7 go_big_quiet_step (fail)
      go_big_quiet_step (exact Calls.quiet_of (taken_as (n % 4294967296) 0 0 (0) _ u0 u1 (by omega) (by omega) (by omega) (by omega) (by show (n % 4294967296) / 1 % 1 = _; omega)))
      iterate 5 go_big_quiet_step (fail)
      refine wpQuiet_nil ?_; intro _ h; obtain ⟨nq, h2⟩ := h; subst h2
      go_wp2
      go_roundw
      case rel =>
        have G : Gr w ((wr.alloc (.cells #[.int .i64 0, .int .i64 0, .int .i64 0] 161)).drewN nq) := (g.alloc _ _).drewN _
        have N : bits .or .u32 (n % 4096 * 1048576) (0) = n % 4096 * 1048576 := (or_add _ _ 0 (by omega) (by omega) (by omega) (by omega) (by omega)).trans (by omega)
        have R : Value.int .u32 (bits .or .u32 (n % 4096 * 1048576) (0)) = .int .u32 (n % 4096 * 1048576) := by rw [N]
        clear N
        first
          | exact ⟨G, Or.inr (Or.inr (Or.inr (Or.inr (⟨rfl, R⟩))))⟩
          | ((repeat apply Exists.intro); exact ⟨⟨G, Or.inr (Or.inr (Or.inr (Or.inr (⟨rfl, R⟩))))⟩, rfl⟩)
      case measure => simp [intOf]
    · go_wp2
      go_ret
      exact ⟨ret_int (by show _ = n % 4294967296 % 4096 * 1048576; omega), g⟩
theorem writtenImm_4 : WrittenImm 4 := by
  intro n w T h0 h1
  have c4 : w.cell? ⟨2, 72, none⟩ = some (.int .i64 20) := T.shapes 72 _ rfl
  have c5 : w.cell? ⟨2, 73, none⟩ = some (.int .i64 0) := T.shapes 73 _ rfl
  have c6 : w.cell? ⟨2, 74, none⟩ = some (.int .i64 5) := T.shapes 74 _ rfl
  have c7 : w.cell? ⟨2, 75, none⟩ = some (.int .i64 0) := T.shapes 75 _ rfl
  have c8 : w.cell? ⟨2, 76, none⟩ = some (.int .i64 0) := T.shapes 76 _ rfl
  have c9 : w.cell? ⟨2, 77, none⟩ = some (.int .i64 0) := T.shapes 77 _ rfl
  have c10 : w.cell? ⟨2, 78, none⟩ = some (.int .i64 0) := T.shapes 78 _ rfl
  have c11 : w.cell? ⟨2, 79, none⟩ = some (.int .i64 0) := T.shapes 79 _ rfl
  have c12 : w.cell? ⟨2, 80, none⟩ = some (.int .i64 0) := T.shapes 80 _ rfl
  have c13 : w.cell? ⟨2, 81, none⟩ = some (.int .i64 0) := T.shapes 81 _ rfl
  have c14 : w.cell? ⟨2, 82, none⟩ = some (.int .i64 0) := T.shapes 82 _ rfl
  have c15 : w.cell? ⟨2, 83, none⟩ = some (.int .i64 0) := T.shapes 83 _ rfl
  have x0 : ∀ w : World, (Instr.index 162 (.agg #[.int .i64 20, .int .i64 0, .int .i64 5, .int .i64 0, .int .i64 0, .int .i64 0, .int .i64 0, .int .i64 0, .int .i64 0, .int .i64 0, .int .i64 0, .int .i64 0]) (.int .i64 0)).run Tryd.prog w = .ok (.agg #[.int .i64 20, .int .i64 0, .int .i64 5]) w := fun _ => by kernel_rfl
  have x1 : ∀ w : World, (Instr.index 162 (.agg #[.int .i64 20, .int .i64 0, .int .i64 5, .int .i64 0, .int .i64 0, .int .i64 0, .int .i64 0, .int .i64 0, .int .i64 0, .int .i64 0, .int .i64 0, .int .i64 0]) (.int .i64 1)).run Tryd.prog w = .ok (.agg #[.int .i64 0, .int .i64 0, .int .i64 0]) w := fun _ => by kernel_rfl
  have x2 : ∀ w : World, (Instr.index 162 (.agg #[.int .i64 20, .int .i64 0, .int .i64 5, .int .i64 0, .int .i64 0, .int .i64 0, .int .i64 0, .int .i64 0, .int .i64 0, .int .i64 0, .int .i64 0, .int .i64 0]) (.int .i64 2)).run Tryd.prog w = .ok (.agg #[.int .i64 0, .int .i64 0, .int .i64 0]) w := fun _ => by kernel_rfl
  have x3 : ∀ w : World, (Instr.index 162 (.agg #[.int .i64 20, .int .i64 0, .int .i64 5, .int .i64 0, .int .i64 0, .int .i64 0, .int .i64 0, .int .i64 0, .int .i64 0, .int .i64 0, .int .i64 0, .int .i64 0]) (.int .i64 3)).run Tryd.prog w = .ok (.agg #[.int .i64 0, .int .i64 0, .int .i64 0]) w := fun _ => by kernel_rfl
  have u0 : 0 ≤ n % 4294967296 := by omega
  have u1 : n % 4294967296 < 4294967296 := by omega
  go_enter Tryd.func115, Tryd.ntmps115
  go_wp2
  clear c4 c5 c6 c7 c8 c9 c10 c11 c12 c13 c14 c15
  go_loopw [5, 12] (fun s i wr => Gr w wr ∧ ((i = .int .i64 0 ∧ s = .int .u32 (0)) ∨ (i = .int .i64 1 ∧ s = .int .u32 (n % 32 * 1048576)) ∨ (i = .int .i64 2 ∧ s = .int .u32 (n % 32 * 1048576)) ∨ (i = .int .i64 3 ∧ s = .int .u32 (n % 32 * 1048576)) ∨ (i = .int .i64 4 ∧ s = .int .u32 (n % 32 * 1048576)))) (fun _ i _ => 4 - (intOf i).toNat)
  case atStart => exact ⟨Gr.refl _, Or.inl ⟨rfl, rfl⟩⟩
  case round =>
    obtain ⟨g, h⟩ := hrel
    rcases h with ⟨rfl, rfl⟩ | ⟨rfl, rfl⟩ | ⟨rfl, rfl⟩ | ⟨rfl, rfl⟩ | ⟨rfl, rfl⟩
    · go_wp2
      refine wp_region_quiet_lit (by kernel_rfl) (by kernel_rfl) ?_
      iterate 7 go_big_quiet_step (fail)
      go_big_quiet_step (exact Calls.quiet_of (taken_as (n % 4294967296) 0 5 (n % 32) _ u0 u1 (by omega) (by omega) (by omega) (by omega) (by show (n % 4294967296) / 1 % 32 = _; omega)))
      iterate 5 go_big_quiet_step (fail)
      refine wpQuiet_nil ?_; intro _ h; obtain ⟨nq, h2⟩ := h; subst h2
      go_wp2
      go_roundw
      case rel =>
        have G : Gr w ((wr.alloc (.cells #[.int .i64 20, .int .i64 0, .int .i64 5] 161)).drewN nq) := (g.alloc _ _).drewN _
        have N : bits .or .u32 (0) (n % 32 * 1048576) = n % 32 * 1048576 := (or_ins (0) (n % 32) 20 5 (by omega) (by omega) (by omega) (by omega) (by omega) (by omega) (by omega)).trans (by omega)
        have R : Value.int .u32 (bits .or .u32 (0) (n % 32 * 1048576)) = .int .u32 (n % 32 * 1048576) := by rw [N]
        clear N
        first
          | exact ⟨G, Or.inr (Or.inl ⟨rfl, R⟩)⟩
          | ((repeat apply Exists.intro); exact ⟨⟨G, Or.inr (Or.inl ⟨rfl, R⟩)⟩, rfl⟩)
      case measure => simp [intOf]
    · go_wp2
      refine wp_region_quiet_lit (by kernel_rfl) (by kernel_rfl) ?_
      iterate 7 go_big_quiet_step (fail)
      go_big_quiet_step (exact Calls.quiet_of (taken_as (n % 4294967296) 0 0 (0) _ u0 u1 (by omega) (by omega) (by omega) (by omega) (by show (n % 4294967296) / 1 % 1 = _; omega)))
      iterate 5 go_big_quiet_step (fail)
      refine wpQuiet_nil ?_; intro _ h; obtain ⟨nq, h2⟩ := h; subst h2
      go_wp2
      go_roundw
      case rel =>
        have G : Gr w ((wr.alloc (.cells #[.int .i64 0, .int .i64 0, .int .i64 0] 161)).drewN nq) := (g.alloc _ _).drewN _
        have N : bits .or .u32 (n % 32 * 1048576) (0) = n % 32 * 1048576 := (or_add _ _ 0 (by omega) (by omega) (by omega) (by omega) (by omega)).trans (by omega)
        have R : Value.int .u32 (bits .or .u32 (n % 32 * 1048576) (0)) = .int .u32 (n % 32 * 1048576) := by rw [N]
        clear N
        first
          | exact ⟨G, Or.inr (Or.inr (Or.inl ⟨rfl, R⟩))⟩
          | ((repeat apply Exists.intro); exact ⟨⟨G, Or.inr (Or.inr (Or.inl ⟨rfl, R⟩))⟩, rfl⟩)
      case measure => simp [intOf]
    · go_wp2
      refine wp_region_quiet_lit (by kernel_rfl) (by kernel_rfl) ?_
      iterate 7 go_big_quiet_step (fail)
      go_big_quiet_step (exact Calls.quiet_of (taken_as (n % 4294967296) 0 0 (0) _ u0 u1 (by omega) (by omega) (by omega) (by omega) (by show (n % 4294967296) / 1 % 1 = _; omega)))
      iterate 5 go_big_quiet_step (fail)
      refine wpQuiet_nil ?_; intro _ h; obtain ⟨nq, h2⟩ := h; subst h2
      go_wp2
      go_roundw
      case rel =>
        have G : Gr w ((wr.alloc (.cells #[.int .i64 0, .int .i64 0, .int .i64 0] 161)).drewN nq) := (g.alloc _ _).drewN _
        have N : bits .or .u32 (n % 32 * 1048576) (0) = n % 32 * 1048576 := (or_add _ _ 0 (by omega) (by omega) (by omega) (by omega) (by omega)).trans (by omega)
        have R : Value.int .u32 (bits .or .u32 (n % 32 * 1048576) (0)) = .int .u32 (n % 32 * 1048576) := by rw [N]
        clear N
        first
          | exact ⟨G, Or.inr (Or.inr (Or.inr (Or.inl ⟨rfl, R⟩)))⟩
          | ((repeat apply Exists.intro); exact ⟨⟨G, Or.inr (Or.inr (Or.inr (Or.inl ⟨rfl, R⟩)))⟩, rfl⟩)
      case measure => simp [intOf]
    · go_wp2
      refine wp_region_quiet_lit (by kernel_rfl) (by kernel_rfl) ?_
      iterate 7 go_big_quiet_step (fail)
      go_big_quiet_step (exact Calls.quiet_of (taken_as (n % 4294967296) 0 0 (0) _ u0 u1 (by omega) (by omega) (by omega) (by omega) (by show (n % 4294967296) / 1 % 1 = _; omega)))
      iterate 5 go_big_quiet_step (fail)
      refine wpQuiet_nil ?_; intro _ h; obtain ⟨nq, h2⟩ := h; subst h2
      go_wp2
      go_roundw
      case rel =>
        have G : Gr w ((wr.alloc (.cells #[.int .i64 0, .int .i64 0, .int .i64 0] 161)).drewN nq) := (g.alloc _ _).drewN _
        have N : bits .or .u32 (n % 32 * 1048576) (0) = n % 32 * 1048576 := (or_add _ _ 0 (by omega) (by omega) (by omega) (by omega) (by omega)).trans (by omega)
        have R : Value.int .u32 (bits .or .u32 (n % 32 * 1048576) (0)) = .int .u32 (n % 32 * 1048576) := by rw [N]
        clear N
        first
          | exact ⟨G, Or.inr (Or.inr (Or.inr (Or.inr (⟨rfl, R⟩))))⟩
          | ((repeat apply Exists.intro); exact ⟨⟨G, Or.inr (Or.inr (Or.inr (Or.inr (⟨rfl, R⟩))))⟩, rfl⟩)
      case measure => simp [intOf]
    · go_wp2
      go_ret
      exact ⟨ret_int (by show _ = n % 4294967296 % 32 * 1048576; omega), g⟩
theorem writtenImm_5 : WrittenImm 5 := by
  intro n w T h0 h1
  have c4 : w.cell? ⟨2, 89, none⟩ = some (.int .i64 31) := T.shapes 89 _ rfl
  have c5 : w.cell? ⟨2, 90, none⟩ = some (.int .i64 12) := T.shapes 90 _ rfl
  have c6 : w.cell? ⟨2, 91, none⟩ = some (.int .i64 1) := T.shapes 91 _ rfl
  have c7 : w.cell? ⟨2, 92, none⟩ = some (.int .i64 7) := T.shapes 92 _ rfl
  have c8 : w.cell? ⟨2, 93, none⟩ = some (.int .i64 11) := T.shapes 93 _ rfl
  have c9 : w.cell? ⟨2, 94, none⟩ = some (.int .i64 1) := T.shapes 94 _ rfl
  have c10 : w.cell? ⟨2, 95, none⟩ = some (.int .i64 25) := T.shapes 95 _ rfl
  have c11 : w.cell? ⟨2, 96, none⟩ = some (.int .i64 5) := T.shapes 96 _ rfl
  have c12 : w.cell? ⟨2, 97, none⟩ = some (.int .i64 6) := T.shapes 97 _ rfl
  have c13 : w.cell? ⟨2, 98, none⟩ = some (.int .i64 8) := T.shapes 98 _ rfl
  have c14 : w.cell? ⟨2, 99, none⟩ = some (.int .i64 1) := T.shapes 99 _ rfl
  have c15 : w.cell? ⟨2, 100, none⟩ = some (.int .i64 4) := T.shapes 100 _ rfl
  have x0 : ∀ w : World, (Instr.index 162 (.agg #[.int .i64 31, .int .i64 12, .int .i64 1, .int .i64 7, .int .i64 11, .int .i64 1, .int .i64 25, .int .i64 5, .int .i64 6, .int .i64 8, .int .i64 1, .int .i64 4]) (.int .i64 0)).run Tryd.prog w = .ok (.agg #[.int .i64 31, .int .i64 12, .int .i64 1]) w := fun _ => by kernel_rfl
  have x1 : ∀ w : World, (Instr.index 162 (.agg #[.int .i64 31, .int .i64 12, .int .i64 1, .int .i64 7, .int .i64 11, .int .i64 1, .int .i64 25, .int .i64 5, .int .i64 6, .int .i64 8, .int .i64 1, .int .i64 4]) (.int .i64 1)).run Tryd.prog w = .ok (.agg #[.int .i64 7, .int .i64 11, .int .i64 1]) w := fun _ => by kernel_rfl
  have x2 : ∀ w : World, (Instr.index 162 (.agg #[.int .i64 31, .int .i64 12, .int .i64 1, .int .i64 7, .int .i64 11, .int .i64 1, .int .i64 25, .int .i64 5, .int .i64 6, .int .i64 8, .int .i64 1, .int .i64 4]) (.int .i64 2)).run Tryd.prog w = .ok (.agg #[.int .i64 25, .int .i64 5, .int .i64 6]) w := fun _ => by kernel_rfl
  have x3 : ∀ w : World, (Instr.index 162 (.agg #[.int .i64 31, .int .i64 12, .int .i64 1, .int .i64 7, .int .i64 11, .int .i64 1, .int .i64 25, .int .i64 5, .int .i64 6, .int .i64 8, .int .i64 1, .int .i64 4]) (.int .i64 3)).run Tryd.prog w = .ok (.agg #[.int .i64 8, .int .i64 1, .int .i64 4]) w := fun _ => by kernel_rfl
  have u0 : 0 ≤ n % 4294967296 := by omega
  have u1 : n % 4294967296 < 4294967296 := by omega
  go_enter Tryd.func115, Tryd.ntmps115
  go_wp2
  clear c4 c5 c6 c7 c8 c9 c10 c11 c12 c13 c14 c15
  go_loopw [5, 12] (fun s i wr => Gr w wr ∧ ((i = .int .i64 0 ∧ s = .int .u32 (0)) ∨ (i = .int .i64 1 ∧ s = .int .u32 ((n % 4294967296) / 4096 % 2 * 2147483648)) ∨ (i = .int .i64 2 ∧ s = .int .u32 ((n % 4294967296) / 4096 % 2 * 2147483648 + (n % 4294967296) / 2048 % 2 * 128)) ∨ (i = .int .i64 3 ∧ s = .int .u32 ((n % 4294967296) / 4096 % 2 * 2147483648 + (n % 4294967296) / 2048 % 2 * 128 + (n % 4294967296) / 32 % 64 * 33554432)) ∨ (i = .int .i64 4 ∧ s = .int .u32 ((n % 4294967296) / 4096 % 2 * 2147483648 + (n % 4294967296) / 2048 % 2 * 128 + (n % 4294967296) / 32 % 64 * 33554432 + (n % 4294967296) / 2 % 16 * 256)))) (fun _ i _ => 4 - (intOf i).toNat)
  case atStart => exact ⟨Gr.refl _, Or.inl ⟨rfl, rfl⟩⟩
  case round =>
    obtain ⟨g, h⟩ := hrel
    rcases h with ⟨rfl, rfl⟩ | ⟨rfl, rfl⟩ | ⟨rfl, rfl⟩ | ⟨rfl, rfl⟩ | ⟨rfl, rfl⟩
    · go_wp2
      refine wp_region_quiet_lit (by kernel_rfl) (by kernel_rfl) ?_
      iterate 7 go_big_quiet_step (fail)
      go_big_quiet_step (exact Calls.quiet_of (taken_as (n % 4294967296) 12 1 ((n % 4294967296) / 4096 % 2) _ u0 u1 (by omega) (by omega) (by omega) (by omega) (by show (n % 4294967296) / 4096 % 2 = _; omega)))
      iterate 5 go_big_quiet_step (fail)
      refine wpQuiet_nil ?_; intro _ h; obtain ⟨nq, h2⟩ := h; subst h2
      go_wp2
      go_roundw
      case rel =>
        have G : Gr w ((wr.alloc (.cells #[.int .i64 31, .int .i64 12, .int .i64 1] 161)).drewN nq) := (g.alloc _ _).drewN _
        have N : bits .or .u32 (0) ((n % 4294967296) / 4096 % 2 * 2147483648) = (n % 4294967296) / 4096 % 2 * 2147483648 := (or_ins (0) ((n % 4294967296) / 4096 % 2) 31 1 (by omega) (by omega) (by omega) (by omega) (by omega) (by omega) (by omega)).trans (by omega)
        have R : Value.int .u32 (bits .or .u32 (0) ((n % 4294967296) / 4096 % 2 * 2147483648)) = .int .u32 ((n % 4294967296) / 4096 % 2 * 2147483648) := by rw [N]
        clear N
        first
          | exact ⟨G, Or.inr (Or.inl ⟨rfl, R⟩)⟩
          | ((repeat apply Exists.intro); exact ⟨⟨G, Or.inr (Or.inl ⟨rfl, R⟩)⟩, rfl⟩)
      case measure => simp [intOf]
    · go_wp2
      refine wp_region_quiet_lit (by kernel_rfl) (by kernel_rfl) ?_
      iterate 7 go_big_quiet_step (fail)
      go_big_quiet_step (exact Calls.quiet_of (taken_as (n % 4294967296) 11 1 ((n % 4294967296) / 2048 % 2) _ u0 u1 (by omega) (by omega) (by omega) (by omega) (by show (n % 4294967296) / 2048 % 2 = _; omega)))
      iterate 5 go_big_quiet_step (fail)
      refine wpQuiet_nil ?_; intro _ h; obtain ⟨nq, h2⟩ := h; subst h2
      go_wp2
      go_roundw
      case rel =>
        have G : Gr w ((wr.alloc (.cells #[.int .i64 7, .int .i64 11, .int .i64 1] 161)).drewN nq) := (g.alloc _ _).drewN _
        have N : bits .or .u32 ((n % 4294967296) / 4096 % 2 * 2147483648) ((n % 4294967296) / 2048 % 2 * 128) = (n % 4294967296) / 4096 % 2 * 2147483648 + (n % 4294967296) / 2048 % 2 * 128 := (or_ins ((n % 4294967296) / 4096 % 2 * 2147483648) ((n % 4294967296) / 2048 % 2) 7 1 (by omega) (by omega) (by omega) (by omega) (by omega) (by omega) (by omega)).trans (by omega)
        have R : Value.int .u32 (bits .or .u32 ((n % 4294967296) / 4096 % 2 * 2147483648) ((n % 4294967296) / 2048 % 2 * 128)) = .int .u32 ((n % 4294967296) / 4096 % 2 * 2147483648 + (n % 4294967296) / 2048 % 2 * 128) := by rw [N]
        clear N
        first
          | exact ⟨G, Or.inr (Or.inr (Or.inl ⟨rfl, R⟩))⟩
          | ((repeat apply Exists.intro); exact ⟨⟨G, Or.inr (Or.inr (Or.inl ⟨rfl, R⟩))⟩, rfl⟩)
      case measure => simp [intOf]
    · go_wp2
      refine wp_region_quiet_lit (by kernel_rfl) (by kernel_rfl) ?_
      iterate 7 go_big_quiet_step (fail)
      go_big_quiet_step (exact Calls.quiet_of (taken_as (n % 4294967296) 5 6 ((n % 4294967296) / 32 % 64) _ u0 u1 (by omega) (by omega) (by omega) (by omega) (by show (n % 4294967296) / 32 % 64 = _; omega)))
      iterate 5 go_big_quiet_step (fail)
      refine wpQuiet_nil ?_; intro _ h; obtain ⟨nq, h2⟩ := h; subst h2
      go_wp2
      go_roundw
      case rel =>
        have G : Gr w ((wr.alloc (.cells #[.int .i64 25, .int .i64 5, .int .i64 6] 161)).drewN nq) := (g.alloc _ _).drewN _
        have N : bits .or .u32 ((n % 4294967296) / 4096 % 2 * 2147483648 + (n % 4294967296) / 2048 % 2 * 128) ((n % 4294967296) / 32 % 64 * 33554432) = (n % 4294967296) / 4096 % 2 * 2147483648 + (n % 4294967296) / 2048 % 2 * 128 + (n % 4294967296) / 32 % 64 * 33554432 := (or_ins ((n % 4294967296) / 4096 % 2 * 2147483648 + (n % 4294967296) / 2048 % 2 * 128) ((n % 4294967296) / 32 % 64) 25 6 (by omega) (by omega) (by omega) (by omega) (by omega) (by omega) (by omega)).trans (by omega)
        have R : Value.int .u32 (bits .or .u32 ((n % 4294967296) / 4096 % 2 * 2147483648 + (n % 4294967296) / 2048 % 2 * 128) ((n % 4294967296) / 32 % 64 * 33554432)) = .int .u32 ((n % 4294967296) / 4096 % 2 * 2147483648 + (n % 4294967296) / 2048 % 2 * 128 + (n % 4294967296) / 32 % 64 * 33554432) := by rw [N]
        clear N
        first
          | exact ⟨G, Or.inr (Or.inr (Or.inr (Or.inl ⟨rfl, R⟩)))⟩
          | ((repeat apply Exists.intro); exact ⟨⟨G, Or.inr (Or.inr (Or.inr (Or.inl ⟨rfl, R⟩)))⟩, rfl⟩)
      case measure => simp [intOf]
    · go_wp2
      refine wp_region_quiet_lit (by kernel_rfl) (by kernel_rfl) ?_
      iterate 7 go_big_quiet_step (fail)
      go_big_quiet_step (exact Calls.quiet_of (taken_as (n % 4294967296) 1 4 ((n % 4294967296) / 2 % 16) _ u0 u1 (by omega) (by omega) (by omega) (by omega) (by show (n % 4294967296) / 2 % 16 = _; omega)))
      iterate 5 go_big_quiet_step (fail)
      refine wpQuiet_nil ?_; intro _ h; obtain ⟨nq, h2⟩ := h; subst h2
      go_wp2
      go_roundw
      case rel =>
        have G : Gr w ((wr.alloc (.cells #[.int .i64 8, .int .i64 1, .int .i64 4] 161)).drewN nq) := (g.alloc _ _).drewN _
        have N : bits .or .u32 ((n % 4294967296) / 4096 % 2 * 2147483648 + (n % 4294967296) / 2048 % 2 * 128 + (n % 4294967296) / 32 % 64 * 33554432) ((n % 4294967296) / 2 % 16 * 256) = (n % 4294967296) / 4096 % 2 * 2147483648 + (n % 4294967296) / 2048 % 2 * 128 + (n % 4294967296) / 32 % 64 * 33554432 + (n % 4294967296) / 2 % 16 * 256 := (or_ins ((n % 4294967296) / 4096 % 2 * 2147483648 + (n % 4294967296) / 2048 % 2 * 128 + (n % 4294967296) / 32 % 64 * 33554432) ((n % 4294967296) / 2 % 16) 8 4 (by omega) (by omega) (z_5 _ _ _ (by omega) (by omega) (by omega) (by omega) (by omega) (by omega)) (by omega) (by omega) (by omega) (by omega)).trans (by omega)
        have R : Value.int .u32 (bits .or .u32 ((n % 4294967296) / 4096 % 2 * 2147483648 + (n % 4294967296) / 2048 % 2 * 128 + (n % 4294967296) / 32 % 64 * 33554432) ((n % 4294967296) / 2 % 16 * 256)) = .int .u32 ((n % 4294967296) / 4096 % 2 * 2147483648 + (n % 4294967296) / 2048 % 2 * 128 + (n % 4294967296) / 32 % 64 * 33554432 + (n % 4294967296) / 2 % 16 * 256) := by rw [N]
        clear N
        first
          | exact ⟨G, Or.inr (Or.inr (Or.inr (Or.inr (⟨rfl, R⟩))))⟩
          | ((repeat apply Exists.intro); exact ⟨⟨G, Or.inr (Or.inr (Or.inr (Or.inr (⟨rfl, R⟩))))⟩, rfl⟩)
      case measure => simp [intOf]
    · go_wp2
      go_ret
      exact ⟨ret_int (by show _ = (n % 4294967296) / 4096 % 2 * 2147483648 + (n % 4294967296) / 2048 % 2 * 128 + (n % 4294967296) / 32 % 64 * 33554432 + (n % 4294967296) / 2 % 16 * 256; omega), g⟩
theorem writtenImm_6 : WrittenImm 6 := by
  intro n w T h0 h1
  have c4 : w.cell? ⟨2, 106, none⟩ = some (.int .i64 25) := T.shapes 106 _ rfl
  have c5 : w.cell? ⟨2, 107, none⟩ = some (.int .i64 5) := T.shapes 107 _ rfl
  have c6 : w.cell? ⟨2, 108, none⟩ = some (.int .i64 7) := T.shapes 108 _ rfl
  have c7 : w.cell? ⟨2, 109, none⟩ = some (.int .i64 7) := T.shapes 109 _ rfl
  have c8 : w.cell? ⟨2, 110, none⟩ = some (.int .i64 0) := T.shapes 110 _ rfl
  have c9 : w.cell? ⟨2, 111, none⟩ = some (.int .i64 5) := T.shapes 111 _ rfl
  have c10 : w.cell? ⟨2, 112, none⟩ = some (.int .i64 0) := T.shapes 112 _ rfl
  have c11 : w.cell? ⟨2, 113, none⟩ = some (.int .i64 0) := T.shapes 113 _ rfl
  have c12 : w.cell? ⟨2, 114, none⟩ = some (.int .i64 0) := T.shapes 114 _ rfl
  have c13 : w.cell? ⟨2, 115, none⟩ = some (.int .i64 0) := T.shapes 115 _ rfl
  have c14 : w.cell? ⟨2, 116, none⟩ = some (.int .i64 0) := T.shapes 116 _ rfl
  have c15 : w.cell? ⟨2, 117, none⟩ = some (.int .i64 0) := T.shapes 117 _ rfl
  have x0 : ∀ w : World, (Instr.index 162 (.agg #[.int .i64 25, .int .i64 5, .int .i64 7, .int .i64 7, .int .i64 0, .int .i64 5, .int .i64 0, .int .i64 0, .int .i64 0, .int .i64 0, .int .i64 0, .int .i64 0]) (.int .i64 0)).run Tryd.prog w = .ok (.agg #[.int .i64 25, .int .i64 5, .int .i64 7]) w := fun _ => by kernel_rfl
  have x1 : ∀ w : World, (Instr.index 162 (.agg #[.int .i64 25, .int .i64 5, .int .i64 7, .int .i64 7, .int .i64 0, .int .i64 5, .int .i64 0, .int .i64 0, .int .i64 0, .int .i64 0, .int .i64 0, .int .i64 0]) (.int .i64 1)).run Tryd.prog w = .ok (.agg #[.int .i64 7, .int .i64 0, .int .i64 5]) w := fun _ => by kernel_rfl
  have x2 : ∀ w : World, (Instr.index 162 (.agg #[.int .i64 25, .int .i64 5, .int .i64 7, .int .i64 7, .int .i64 0, .int .i64 5, .int .i64 0, .int .i64 0, .int .i64 0, .int .i64 0, .int .i64 0, .int .i64 0]) (.int .i64 2)).run Tryd.prog w = .ok (.agg #[.int .i64 0, .int .i64 0, .int .i64 0]) w := fun _ => by kernel_rfl
  have x3 : ∀ w : World, (Instr.index 162 (.agg #[.int .i64 25, .int .i64 5, .int .i64 7, .int .i64 7, .int .i64 0, .int .i64 5, .int .i64 0, .int .i64 0, .int .i64 0, .int .i64 0, .int .i64 0, .int .i64 0]) (.int .i64 3)).run Tryd.prog w = .ok (.agg #[.int .i64 0, .int .i64 0, .int .i64 0]) w := fun _ => by kernel_rfl
  have u0 : 0 ≤ n % 4294967296 := by omega
  have u1 : n % 4294967296 < 4294967296 := by omega
  go_enter Tryd.func115, Tryd.ntmps115
  go_wp2
  clear c4 c5 c6 c7 c8 c9 c10 c11 c12 c13 c14 c15
  go_loopw [5, 12] (fun s i wr => Gr w wr ∧ ((i = .int .i64 0 ∧ s = .int .u32 (0)) ∨ (i = .int .i64 1 ∧ s = .int .u32 ((n % 4294967296) / 32 % 128 * 33554432)) ∨ (i = .int .i64 2 ∧ s = .int .u32 ((n % 4294967296) / 32 % 128 * 33554432 + n % 32 * 128)) ∨ (i = .int .i64 3 ∧ s = .int .u32 ((n % 4294967296) / 32 % 128 * 33554432 + n % 32 * 128)) ∨ (i = .int .i64 4 ∧ s = .int .u32 ((n % 4294967296) / 32 % 128 * 33554432 + n % 32 * 128)))) (fun _ i _ => 4 - (intOf i).toNat)
  case atStart => exact ⟨Gr.refl _, Or.inl ⟨rfl, rfl⟩⟩
  case round =>
    obtain ⟨g, h⟩ := hrel
    rcases h with ⟨rfl, rfl⟩ | ⟨rfl, rfl⟩ | ⟨rfl, rfl⟩ | ⟨rfl, rfl⟩ | ⟨rfl, rfl⟩
    · go_wp2
      refine wp_region_quiet_lit (by kernel_rfl) (by kernel_rfl) ?_
      iterate 7 go_big_quiet_step (fail)
      go_big_quiet_step (exact Calls.quiet_of (taken_as (n % 4294967296) 5 7 ((n % 4294967296) / 32 % 128) _ u0 u1 (by omega) (by omega) (by omega) (by omega) (by show (n % 4294967296) / 32 % 128 = _; omega)))
      iterate 5 go_big_quiet_step (fail)
      refine wpQuiet_nil ?_; intro _ h; obtain ⟨nq, h2⟩ := h; subst h2
      go_wp2
      go_roundw
      case rel =>
        have G : Gr w ((wr.alloc (.cells #[.int .i64 25, .int .i64 5, .int .i64 7] 161)).drewN nq) := (g.alloc _ _).drewN _
        have N : bits .or .u32 (0) ((n % 4294967296) / 32 % 128 * 33554432) = (n % 4294967296) / 32 % 128 * 33554432 := (or_ins (0) ((n % 4294967296) / 32 % 128) 25 7 (by omega) (by omega) (by omega) (by omega) (by omega) (by omega) (by omega)).trans (by omega)
        have R : Value.int .u32 (bits .or .u32 (0) ((n % 4294967296) / 32 % 128 * 33554432)) = .int .u32 ((n % 4294967296) / 32 % 128 * 33554432) := by rw [N]
        clear N
        first
          | exact ⟨G, Or.inr (Or.inl ⟨rfl, R⟩)⟩
          | ((repeat apply Exists.intro); exact ⟨⟨G, Or.inr (Or.inl ⟨rfl, R⟩)⟩, rfl⟩)
      case measure => simp [intOf]
    · go_wp2
      refine wp_region_quiet_lit (by kernel_rfl) (by kernel_rfl) ?_
      iterate 7 go_big_quiet_step (fail)
      go_big_quiet_step (exact Calls.quiet_of (taken_as (n % 4294967296) 0 5 (n % 32) _ u0 u1 (by omega) (by omega) (by omega) (by omega) (by show (n % 4294967296) / 1 % 32 = _; omega)))
      iterate 5 go_big_quiet_step (fail)
      refine wpQuiet_nil ?_; intro _ h; obtain ⟨nq, h2⟩ := h; subst h2
      go_wp2
      go_roundw
      case rel =>
        have G : Gr w ((wr.alloc (.cells #[.int .i64 7, .int .i64 0, .int .i64 5] 161)).drewN nq) := (g.alloc _ _).drewN _
        have N : bits .or .u32 ((n % 4294967296) / 32 % 128 * 33554432) (n % 32 * 128) = (n % 4294967296) / 32 % 128 * 33554432 + n % 32 * 128 := (or_ins ((n % 4294967296) / 32 % 128 * 33554432) (n % 32) 7 5 (by omega) (by omega) (by omega) (by omega) (by omega) (by omega) (by omega)).trans (by omega)
        have R : Value.int .u32 (bits .or .u32 ((n % 4294967296) / 32 % 128 * 33554432) (n % 32 * 128)) = .int .u32 ((n % 4294967296) / 32 % 128 * 33554432 + n % 32 * 128) := by rw [N]
        clear N
        first
          | exact ⟨G, Or.inr (Or.inr (Or.inl ⟨rfl, R⟩))⟩
          | ((repeat apply Exists.intro); exact ⟨⟨G, Or.inr (Or.inr (Or.inl ⟨rfl, R⟩))⟩, rfl⟩)
      case measure => simp [intOf]
    · go_wp2
      refine wp_region_quiet_lit (by kernel_rfl) (by kernel_rfl) ?_
      iterate 7 go_big_quiet_step (fail)
      go_big_quiet_step (exact Calls.quiet_of (taken_as (n % 4294967296) 0 0 (0) _ u0 u1 (by omega) (by omega) (by omega) (by omega) (by show (n % 4294967296) / 1 % 1 = _; omega)))
      iterate 5 go_big_quiet_step (fail)
      refine wpQuiet_nil ?_; intro _ h; obtain ⟨nq, h2⟩ := h; subst h2
      go_wp2
      go_roundw
      case rel =>
        have G : Gr w ((wr.alloc (.cells #[.int .i64 0, .int .i64 0, .int .i64 0] 161)).drewN nq) := (g.alloc _ _).drewN _
        have N : bits .or .u32 ((n % 4294967296) / 32 % 128 * 33554432 + n % 32 * 128) (0) = (n % 4294967296) / 32 % 128 * 33554432 + n % 32 * 128 := (or_add _ _ 0 (by omega) (by omega) (by omega) (by omega) (by omega)).trans (by omega)
        have R : Value.int .u32 (bits .or .u32 ((n % 4294967296) / 32 % 128 * 33554432 + n % 32 * 128) (0)) = .int .u32 ((n % 4294967296) / 32 % 128 * 33554432 + n % 32 * 128) := by rw [N]
        clear N
        first
          | exact ⟨G, Or.inr (Or.inr (Or.inr (Or.inl ⟨rfl, R⟩)))⟩
          | ((repeat apply Exists.intro); exact ⟨⟨G, Or.inr (Or.inr (Or.inr (Or.inl ⟨rfl, R⟩)))⟩, rfl⟩)
      case measure => simp [intOf]
    · go_wp2
      refine wp_region_quiet_lit (by kernel_rfl) (by kernel_rfl) ?_
      iterate 7 go_big_quiet_step (fail)
      go_big_quiet_step (exact Calls.quiet_of (taken_as (n % 4294967296) 0 0 (0) _ u0 u1 (by omega) (by omega) (by omega) (by omega) (by show (n % 4294967296) / 1 % 1 = _; omega)))
      iterate 5 go_big_quiet_step (fail)
      refine wpQuiet_nil ?_; intro _ h; obtain ⟨nq, h2⟩ := h; subst h2
      go_wp2
      go_roundw
      case rel =>
        have G : Gr w ((wr.alloc (.cells #[.int .i64 0, .int .i64 0, .int .i64 0] 161)).drewN nq) := (g.alloc _ _).drewN _
        have N : bits .or .u32 ((n % 4294967296) / 32 % 128 * 33554432 + n % 32 * 128) (0) = (n % 4294967296) / 32 % 128 * 33554432 + n % 32 * 128 := (or_add _ _ 0 (by omega) (by omega) (by omega) (by omega) (by omega)).trans (by omega)
        have R : Value.int .u32 (bits .or .u32 ((n % 4294967296) / 32 % 128 * 33554432 + n % 32 * 128) (0)) = .int .u32 ((n % 4294967296) / 32 % 128 * 33554432 + n % 32 * 128) := by rw [N]
        clear N
        first
          | exact ⟨G, Or.inr (Or.inr (Or.inr (Or.inr (⟨rfl, R⟩))))⟩
          | ((repeat apply Exists.intro); exact ⟨⟨G, Or.inr (Or.inr (Or.inr (Or.inr (⟨rfl, R⟩))))⟩, rfl⟩)
      case measure => simp [intOf]
    · go_wp2
      go_ret
      exact ⟨ret_int (by show _ = (n % 4294967296) / 32 % 128 * 33554432 + n % 4294967296 % 32 * 128; omega), g⟩
theorem writtenImm_7 : WrittenImm 7 := by
  intro n w T h0 h1
  have c4 : w.cell? ⟨2, 123, none⟩ = some (.int .i64 0) := T.shapes 123 _ rfl
  have c5 : w.cell? ⟨2, 124, none⟩ = some (.int .i64 0) := T.shapes 124 _ rfl
  have c6 : w.cell? ⟨2, 125, none⟩ = some (.int .i64 0) := T.shapes 125 _ rfl
  have c7 : w.cell? ⟨2, 126, none⟩ = some (.int .i64 0) := T.shapes 126 _ rfl
  have c8 : w.cell? ⟨2, 127, none⟩ = some (.int .i64 0) := T.shapes 127 _ rfl
  have c9 : w.cell? ⟨2, 128, none⟩ = some (.int .i64 0) := T.shapes 128 _ rfl
  have c10 : w.cell? ⟨2, 129, none⟩ = some (.int .i64 0) := T.shapes 129 _ rfl
  have c11 : w.cell? ⟨2, 130, none⟩ = some (.int .i64 0) := T.shapes 130 _ rfl
  have c12 : w.cell? ⟨2, 131, none⟩ = some (.int .i64 0) := T.shapes 131 _ rfl
  have c13 : w.cell? ⟨2, 132, none⟩ = some (.int .i64 0) := T.shapes 132 _ rfl
  have c14 : w.cell? ⟨2, 133, none⟩ = some (.int .i64 0) := T.shapes 133 _ rfl
  have c15 : w.cell? ⟨2, 134, none⟩ = some (.int .i64 0) := T.shapes 134 _ rfl
  have x0 : ∀ w : World, (Instr.index 162 (.agg #[.int .i64 0, .int .i64 0, .int .i64 0, .int .i64 0, .int .i64 0, .int .i64 0, .int .i64 0, .int .i64 0, .int .i64 0, .int .i64 0, .int .i64 0, .int .i64 0]) (.int .i64 0)).run Tryd.prog w = .ok (.agg #[.int .i64 0, .int .i64 0, .int .i64 0]) w := fun _ => by kernel_rfl
  have x1 : ∀ w : World, (Instr.index 162 (.agg #[.int .i64 0, .int .i64 0, .int .i64 0, .int .i64 0, .int .i64 0, .int .i64 0, .int .i64 0, .int .i64 0, .int .i64 0, .int .i64 0, .int .i64 0, .int .i64 0]) (.int .i64 1)).run Tryd.prog w = .ok (.agg #[.int .i64 0, .int .i64 0, .int .i64 0]) w := fun _ => by kernel_rfl
  have x2 : ∀ w : World, (Instr.index 162 (.agg #[.int .i64 0, .int .i64 0, .int .i64 0, .int .i64 0, .int .i64 0, .int .i64 0, .int .i64 0, .int .i64 0, .int .i64 0, .int .i64 0, .int .i64 0, .int .i64 0]) (.int .i64 2)).run Tryd.prog w = .ok (.agg #[.int .i64 0, .int .i64 0, .int .i64 0]) w := fun _ => by kernel_rfl
  have x3 : ∀ w : World, (Instr.index 162 (.agg #[.int .i64 0, .int .i64 0, .int .i64 0, .int .i64 0, .int .i64 0, .int .i64 0, .int .i64 0, .int .i64 0, .int .i64 0, .int .i64 0, .int .i64 0, .int .i64 0]) (.int .i64 3)).run Tryd.prog w = .ok (.agg #[.int .i64 0, .int .i64 0, .int .i64 0]) w := fun _ => by kernel_rfl
  have u0 : 0 ≤ n % 4294967296 := by omega
  have u1 : n % 4294967296 < 4294967296 := by omega
  go_enter Tryd.func115, Tryd.ntmps115
  go_wp2
  clear c4 c5 c6 c7 c8 c9 c10 c11 c12 c13 c14 c15
  go_loopw [5, 12] (fun s i wr => Gr w wr ∧ ((i = .int .i64 0 ∧ s = .int .u32 (0)) ∨ (i = .int .i64 1 ∧ s = .int .u32 (0)) ∨ (i = .int .i64 2 ∧ s = .int .u32 (0)) ∨ (i = .int .i64 3 ∧ s = .int .u32 (0)) ∨ (i = .int .i64 4 ∧ s = .int .u32 (0)))) (fun _ i _ => 4 - (intOf i).toNat)
  case atStart => exact ⟨Gr.refl _, Or.inl ⟨rfl, rfl⟩⟩
  case round =>
    obtain ⟨g, h⟩ := hrel
    rcases h with ⟨rfl, rfl⟩ | ⟨rfl, rfl⟩ | ⟨rfl, rfl⟩ | ⟨rfl, rfl⟩ | ⟨rfl, rfl⟩
    · go_wp2
      refine wp_region_quiet_lit (by kernel_rfl) (by kernel_rfl) ?_
      iterate 7 go_big_quiet_step (fail)
      go_big_quiet_step (exact Calls.quiet_of (taken_as (n % 4294967296) 0 0 (0) _ u0 u1 (by omega) (by omega) (by omega) (by omega) (by show (n % 4294967296) / 1 % 1 = _; omega)))
      iterate 5 go_big_quiet_step (fail)
      refine wpQuiet_nil ?_; intro _ h; obtain ⟨nq, h2⟩ := h; subst h2
      go_wp2
      go_roundw
      case rel =>
        have G : Gr w ((wr.alloc (.cells #[.int .i64 0, .int .i64 0, .int .i64 0] 161)).drewN nq) := (g.alloc _ _).drewN _
        have N : bits .or .u32 (0) (0) = 0 := (or_add _ _ 0 (by omega) (by omega) (by omega) (by omega) (by omega)).trans (by omega)
        have R : Value.int .u32 (bits .or .u32 (0) (0)) = .int .u32 (0) := by rw [N]
        clear N
        first
          | exact ⟨G, Or.inr (Or.inl ⟨rfl, R⟩)⟩
          | ((repeat apply Exists.intro); exact ⟨⟨G, Or.inr (Or.inl ⟨rfl, R⟩)⟩, rfl⟩)
      case measure => simp [intOf]
    · go_wp2
      refine wp_region_quiet_lit (by kernel_rfl) (by kernel_rfl) ?_
      iterate 7 go_big_quiet_step (fail)
      go_big_quiet_step (exact Calls.quiet_of (taken_as (n % 4294967296) 0 0 (0) _ u0 u1 (by omega) (by omega) (by omega) (by omega) (by show (n % 4294967296) / 1 % 1 = _; omega)))
      iterate 5 go_big_quiet_step (fail)
      refine wpQuiet_nil ?_; intro _ h; obtain ⟨nq, h2⟩ := h; subst h2
      go_wp2
      go_roundw
      case rel =>
        have G : Gr w ((wr.alloc (.cells #[.int .i64 0, .int .i64 0, .int .i64 0] 161)).drewN nq) := (g.alloc _ _).drewN _
        have N : bits .or .u32 (0) (0) = 0 := (or_add _ _ 0 (by omega) (by omega) (by omega) (by omega) (by omega)).trans (by omega)
        have R : Value.int .u32 (bits .or .u32 (0) (0)) = .int .u32 (0) := by rw [N]
        clear N
        first
          | exact ⟨G, Or.inr (Or.inr (Or.inl ⟨rfl, R⟩))⟩
          | ((repeat apply Exists.intro); exact ⟨⟨G, Or.inr (Or.inr (Or.inl ⟨rfl, R⟩))⟩, rfl⟩)
      case measure => simp [intOf]
    · go_wp2
      refine wp_region_quiet_lit (by kernel_rfl) (by kernel_rfl) ?_
      iterate 7 go_big_quiet_step (fail)
      go_big_quiet_step (exact Calls.quiet_of (taken_as (n % 4294967296) 0 0 (0) _ u0 u1 (by omega) (by omega) (by omega) (by omega) (by show (n % 4294967296) / 1 % 1 = _; omega)))
      iterate 5 go_big_quiet_step (fail)
      refine wpQuiet_nil ?_; intro _ h; obtain ⟨nq, h2⟩ := h; subst h2
      go_wp2
      go_roundw
      case rel =>
        have G : Gr w ((wr.alloc (.cells #[.int .i64 0, .int .i64 0, .int .i64 0] 161)).drewN nq) := (g.alloc _ _).drewN _
        have N : bits .or .u32 (0) (0) = 0 := (or_add _ _ 0 (by omega) (by omega) (by omega) (by omega) (by omega)).trans (by omega)
        have R : Value.int .u32 (bits .or .u32 (0) (0)) = .int .u32 (0) := by rw [N]
        clear N
        first
          | exact ⟨G, Or.inr (Or.inr (Or.inr (Or.inl ⟨rfl, R⟩)))⟩
          | ((repeat apply Exists.intro); exact ⟨⟨G, Or.inr (Or.inr (Or.inr (Or.inl ⟨rfl, R⟩)))⟩, rfl⟩)
      case measure => simp [intOf]
    · go_wp2
      refine wp_region_quiet_lit (by kernel_rfl) (by kernel_rfl) ?_
      iterate 7 go_big_quiet_step (fail)
      go_big_quiet_step (exact Calls.quiet_of (taken_as (n % 4294967296) 0 0 (0) _ u0 u1 (by omega) (by omega) (by omega) (by omega) (by show (n % 4294967296) / 1 % 1 = _; omega)))
      iterate 5 go_big_quiet_step (fail)
      refine wpQuiet_nil ?_; intro _ h; obtain ⟨nq, h2⟩ := h; subst h2
      go_wp2
      go_roundw
      case rel =>
        have G : Gr w ((wr.alloc (.cells #[.int .i64 0, .int .i64 0, .int .i64 0] 161)).drewN nq) := (g.alloc _ _).drewN _
        have N : bits .or .u32 (0) (0) = 0 := (or_add _ _ 0 (by omega) (by omega) (by omega) (by omega) (by omega)).trans (by omega)
        have R : Value.int .u32 (bits .or .u32 (0) (0)) = .int .u32 (0) := by rw [N]
        clear N
        first
          | exact ⟨G, Or.inr (Or.inr (Or.inr (Or.inr (⟨rfl, R⟩))))⟩
          | ((repeat apply Exists.intro); exact ⟨⟨G, Or.inr (Or.inr (Or.inr (Or.inr (⟨rfl, R⟩))))⟩, rfl⟩)
      case measure => simp [intOf]
    · go_wp2
      go_ret
      exact ⟨ret_int (by show _ = 0; omega), g⟩
theorem writtenImm_8 : WrittenImm 8 := by
  intro n w T h0 h1
  have c4 : w.cell? ⟨2, 140, none⟩ = some (.int .i64 25) := T.shapes 140 _ rfl
  have c5 : w.cell? ⟨2, 141, none⟩ = some (.int .i64 0) := T.shapes 141 _ rfl
  have c6 : w.cell? ⟨2, 142, none⟩ = some (.int .i64 2) := T.shapes 142 _ rfl
  have c7 : w.cell? ⟨2, 143, none⟩ = some (.int .i64 0) := T.shapes 143 _ rfl
  have c8 : w.cell? ⟨2, 144, none⟩ = some (.int .i64 0) := T.shapes 144 _ rfl
  have c9 : w.cell? ⟨2, 145, none⟩ = some (.int .i64 0) := T.shapes 145 _ rfl
  have c10 : w.cell? ⟨2, 146, none⟩ = some (.int .i64 0) := T.shapes 146 _ rfl
  have c11 : w.cell? ⟨2, 147, none⟩ = some (.int .i64 0) := T.shapes 147 _ rfl
  have c12 : w.cell? ⟨2, 148, none⟩ = some (.int .i64 0) := T.shapes 148 _ rfl
  have c13 : w.cell? ⟨2, 149, none⟩ = some (.int .i64 0) := T.shapes 149 _ rfl
  have c14 : w.cell? ⟨2, 150, none⟩ = some (.int .i64 0) := T.shapes 150 _ rfl
  have c15 : w.cell? ⟨2, 151, none⟩ = some (.int .i64 0) := T.shapes 151 _ rfl
  have x0 : ∀ w : World, (Instr.index 162 (.agg #[.int .i64 25, .int .i64 0, .int .i64 2, .int .i64 0, .int .i64 0, .int .i64 0, .int .i64 0, .int .i64 0, .int .i64 0, .int .i64 0, .int .i64 0, .int .i64 0]) (.int .i64 0)).run Tryd.prog w = .ok (.agg #[.int .i64 25, .int .i64 0, .int .i64 2]) w := fun _ => by kernel_rfl
  have x1 : ∀ w : World, (Instr.index 162 (.agg #[.int .i64 25, .int .i64 0, .int .i64 2, .int .i64 0, .int .i64 0, .int .i64 0, .int .i64 0, .int .i64 0, .int .i64 0, .int .i64 0, .int .i64 0, .int .i64 0]) (.int .i64 1)).run Tryd.prog w = .ok (.agg #[.int .i64 0, .int .i64 0, .int .i64 0]) w := fun _ => by kernel_rfl
  have x2 : ∀ w : World, (Instr.index 162 (.agg #[.int .i64 25, .int .i64 0, .int .i64 2, .int .i64 0, .int .i64 0, .int .i64 0, .int .i64 0, .int .i64 0, .int .i64 0, .int .i64 0, .int .i64 0, .int .i64 0]) (.int .i64 2)).run Tryd.prog w = .ok (.agg #[.int .i64 0, .int .i64 0, .int .i64 0]) w := fun _ => by kernel_rfl
  have x3 : ∀ w : World, (Instr.index 162 (.agg #[.int .i64 25, .int .i64 0, .int .i64 2, .int .i64 0, .int .i64 0, .int .i64 0, .int .i64 0, .int .i64 0, .int .i64 0, .int .i64 0, .int .i64 0, .int .i64 0]) (.int .i64 3)).run Tryd.prog w = .ok (.agg #[.int .i64 0, .int .i64 0, .int .i64 0]) w := fun _ => by kernel_rfl
  have u0 : 0 ≤ n % 4294967296 := by omega
  have u1 : n % 4294967296 < 4294967296 := by omega
  go_enter Tryd.func115, Tryd.ntmps115
  go_wp2
  clear c4 c5 c6 c7 c8 c9 c10 c11 c12 c13 c14 c15
  go_loopw [5, 12] (fun s i wr => Gr w wr ∧ ((i = .int .i64 0 ∧ s = .int .u32 (0)) ∨ (i = .int .i64 1 ∧ s = .int .u32 (n % 4 * 33554432)) ∨ (i = .int .i64 2 ∧ s = .int .u32 (n % 4 * 33554432)) ∨ (i = .int .i64 3 ∧ s = .int .u32 (n % 4 * 33554432)) ∨ (i = .int .i64 4 ∧ s = .int .u32 (n % 4 * 33554432)))) (fun _ i _ => 4 - (intOf i).toNat)
  case atStart => exact ⟨Gr.refl _, Or.inl ⟨rfl, rfl⟩⟩
  case round =>
    obtain ⟨g, h⟩ := hrel
    rcases h with ⟨rfl, rfl⟩ | ⟨rfl, rfl⟩ | ⟨rfl, rfl⟩ | ⟨rfl, rfl⟩ | ⟨rfl, rfl⟩
    · go_wp2
      refine wp_region_quiet_lit (by kernel_rfl) (by kernel_rfl) ?_
      iterate 7 go_big_quiet_step (fail)
      go_big_quiet_step (exact Calls.quiet_of (taken_as (n % 4294967296) 0 2 (n % 4) _ u0 u1 (by omega) (by omega) (by omega) (by omega) (by show (n % 4294967296) / 1 % 4 = _; omega)))
      iterate 5 go_big_quiet_step (fail)
      refine wpQuiet_nil ?_; intro _ h; obtain ⟨nq, h2⟩ := h; subst h2
      go_wp2
      go_roundw
      case rel =>
        have G : Gr w ((wr.alloc (.cells #[.int .i64 25, .int .i64 0, .int .i64 2] 161)).drewN nq) := (g.alloc _ _).drewN _
        have N : bits .or .u32 (0) (n % 4 * 33554432) = n % 4 * 33554432 := (or_ins (0) (n % 4) 25 2 (by omega) (by omega) (by omega) (by omega) (by omega) (by omega) (by omega)).trans (by omega)
        have R : Value.int .u32 (bits .or .u32 (0) (n % 4 * 33554432)) = .int .u32 (n % 4 * 33554432) := by rw [N]
        clear N
        first
          | exact ⟨G, Or.inr (Or.inl ⟨rfl, R⟩)⟩
          | ((repeat apply Exists.intro); exact ⟨⟨G, Or.inr (Or.inl ⟨rfl, R⟩)⟩, rfl⟩)
      case measure => simp [intOf]
    · go_wp2
      refine wp_region_quiet_lit (by kernel_rfl) (by kernel_rfl) ?_
      iterate 7 go_big_quiet_step (fail)
      go_big_quiet_step (exact Calls.quiet_of (taken_as (n % 4294967296) 0 0 (0) _ u0 u1 (by omega) (by omega) (by omega) (by omega) (by show (n % 4294967296) / 1 % 1 = _; omega)))
      iterate 5 go_big_quiet_step (fail)
      refine wpQuiet_nil ?_; intro _ h; obtain ⟨nq, h2⟩ := h; subst h2
      go_wp2
      go_roundw
      case rel =>
        have G : Gr w ((wr.alloc (.cells #[.int .i64 0, .int .i64 0, .int .i64 0] 161)).drewN nq) := (g.alloc _ _).drewN _
        have N : bits .or .u32 (n % 4 * 33554432) (0) = n % 4 * 33554432 := (or_add _ _ 0 (by omega) (by omega) (by omega) (by omega) (by omega)).trans (by omega)
        have R : Value.int .u32 (bits .or .u32 (n % 4 * 33554432) (0)) = .int .u32 (n % 4 * 33554432) := by rw [N]
        clear N
        first
          | exact ⟨G, Or.inr (Or.inr (Or.inl ⟨rfl, R⟩))⟩
          | ((repeat apply Exists.intro); exact ⟨⟨G, Or.inr (Or.inr (Or.inl ⟨rfl, R⟩))⟩, rfl⟩)
      case measure => simp [intOf]
    · go_wp2
      refine wp_region_quiet_lit (by kernel_rfl) (by kernel_rfl) ?_
      iterate 7 go_big_quiet_step (fail)
      go_big_quiet_step (exact Calls.quiet_of (taken_as (n % 4294967296) 0 0 (0) _ u0 u1 (by omega) (by omega) (by omega) (by omega) (by show (n % 4294967296) / 1 % 1 = _; omega)))
      iterate 5 go_big_quiet_step (fail)
      refine wpQuiet_nil ?_; intro _ h; obtain ⟨nq, h2⟩ := h; subst h2
      go_wp2
      go_roundw
      case rel =>
        have G : Gr w ((wr.alloc (.cells #[.int .i64 0, .int .i64 0, .int .i64 0] 161)).drewN nq) := (g.alloc _ _).drewN _
        have N : bits .or .u32 (n % 4 * 33554432) (0) = n % 4 * 33554432 := (or_add _ _ 0 (by omega) (by omega) (by omega) (by omega) (by omega)).trans (by omega)
        have R : Value.int .u32 (bits .or .u32 (n % 4 * 33554432) (0)) = .int .u32 (n % 4 * 33554432) := by rw [N]
        clear N
        first
          | exact ⟨G, Or.inr (Or.inr (Or.inr (Or.inl ⟨rfl, R⟩)))⟩
          | ((repeat apply Exists.intro); exact ⟨⟨G, Or.inr (Or.inr (Or.inr (Or.inl ⟨rfl, R⟩)))⟩, rfl⟩)
      case measure => simp [intOf]
    · go_wp2
      refine wp_region_quiet_lit (by kernel_rfl) (by kernel_rfl) ?_
      iterate 7 go_big_quiet_step (fail)
      go_big_quiet_step (exact Calls.quiet_of (taken_as (n % 4294967296) 0 0 (0) _ u0 u1 (by omega) (by omega) (by omega) (by omega) (by show (n % 4294967296) / 1 % 1 = _; omega)))
      iterate 5 go_big_quiet_step (fail)
      refine wpQuiet_nil ?_; intro _ h; obtain ⟨nq, h2⟩ := h; subst h2
      go_wp2
      go_roundw
      case rel =>
        have G : Gr w ((wr.alloc (.cells #[.int .i64 0, .int .i64 0, .int .i64 0] 161)).drewN nq) := (g.alloc _ _).drewN _
        have N : bits .or .u32 (n % 4 * 33554432) (0) = n % 4 * 33554432 := (or_add _ _ 0 (by omega) (by omega) (by omega) (by omega) (by omega)).trans (by omega)
        have R : Value.int .u32 (bits .or .u32 (n % 4 * 33554432) (0)) = .int .u32 (n % 4 * 33554432) := by rw [N]
        clear N
        first
          | exact ⟨G, Or.inr (Or.inr (Or.inr (Or.inr (⟨rfl, R⟩))))⟩
          | ((repeat apply Exists.intro); exact ⟨⟨G, Or.inr (Or.inr (Or.inr (Or.inr (⟨rfl, R⟩))))⟩, rfl⟩)
      case measure => simp [intOf]
    · go_wp2
      go_ret
      exact ⟨ret_int (by show _ = n % 4294967296 % 4 * 33554432; omega), g⟩
theorem writtenImm_9 : WrittenImm 9 := by
  intro n w T h0 h1
  have c4 : w.cell? ⟨2, 157, none⟩ = some (.int .i64 0) := T.shapes 157 _ rfl
  have c5 : w.cell? ⟨2, 158, none⟩ = some (.int .i64 0) := T.shapes 158 _ rfl
  have c6 : w.cell? ⟨2, 159, none⟩ = some (.int .i64 0) := T.shapes 159 _ rfl
  have c7 : w.cell? ⟨2, 160, none⟩ = some (.int .i64 0) := T.shapes 160 _ rfl
  have c8 : w.cell? ⟨2, 161, none⟩ = some (.int .i64 0) := T.shapes 161 _ rfl
  have c9 : w.cell? ⟨2, 162, none⟩ = some (.int .i64 0) := T.shapes 162 _ rfl
  have c10 : w.cell? ⟨2, 163, none⟩ = some (.int .i64 0) := T.shapes 163 _ rfl
  have c11 : w.cell? ⟨2, 164, none⟩ = some (.int .i64 0) := T.shapes 164 _ rfl
  have c12 : w.cell? ⟨2, 165, none⟩ = some (.int .i64 0) := T.shapes 165 _ rfl
  have c13 : w.cell? ⟨2, 166, none⟩ = some (.int .i64 0) := T.shapes 166 _ rfl
  have c14 : w.cell? ⟨2, 167, none⟩ = some (.int .i64 0) := T.shapes 167 _ rfl
  have c15 : w.cell? ⟨2, 168, none⟩ = some (.int .i64 0) := T.shapes 168 _ rfl
  have x0 : ∀ w : World, (Instr.index 162 (.agg #[.int .i64 0, .int .i64 0, .int .i64 0, .int .i64 0, .int .i64 0, .int .i64 0, .int .i64 0, .int .i64 0, .int .i64 0, .int .i64 0, .int .i64 0, .int .i64 0]) (.int .i64 0)).run Tryd.prog w = .ok (.agg #[.int .i64 0, .int .i64 0, .int .i64 0]) w := fun _ => by kernel_rfl
  have x1 : ∀ w : World, (Instr.index 162 (.agg #[.int .i64 0, .int .i64 0, .int .i64 0, .int .i64 0, .int .i64 0, .int .i64 0, .int .i64 0, .int .i64 0, .int .i64 0, .int .i64 0, .int .i64 0, .int .i64 0]) (.int .i64 1)).run Tryd.prog w = .ok (.agg #[.int .i64 0, .int .i64 0, .int .i64 0]) w := fun _ => by kernel_rfl
  have x2 : ∀ w : World, (Instr.index 162 (.agg #[.int .i64 0, .int .i64 0, .int .i64 0, .int .i64 0, .int .i64 0, .int .i64 0, .int .i64 0, .int .i64 0, .int .i64 0, .int .i64 0, .int .i64 0, .int .i64 0]) (.int .i64 2)).run Tryd.prog w = .ok (.agg #[.int .i64 0, .int .i64 0, .int .i64 0]) w := fun _ => by kernel_rfl
  have x3 : ∀ w : World, (Instr.index 162 (.agg #[.int .i64 0, .int .i64 0, .int .i64 0, .int .i64 0, .int .i64 0, .int .i64 0, .int .i64 0, .int .i64 0, .int .i64 0, .int .i64 0, .int .i64 0, .int .i64 0]) (.int .i64 3)).run Tryd.prog w = .ok (.agg #[.int .i64 0, .int .i64 0, .int .i64 0]) w := fun _ => by kernel_rfl
  have u0 : 0 ≤ n % 4294967296 := by omega
  have u1 : n % 4294967296 < 4294967296 := by omega
  go_enter Tryd.func115, Tryd.ntmps115
  go_wp2
  clear c4 c5 c6 c7 c8 c9 c10 c11 c12 c13 c14 c15
  go_loopw [5, 12] (fun s i wr => Gr w wr ∧ ((i = .int .i64 0 ∧ s = .int .u32 (0)) ∨ (i = .int .i64 1 ∧ s = .int .u32 (0)) ∨ (i = .int .i64 2 ∧ s = .int .u32 (0)) ∨ (i = .int .i64 3 ∧ s = .int .u32 (0)) ∨ (i = .int .i64 4 ∧ s = .int .u32 (0)))) (fun _ i _ => 4 - (intOf i).toNat)
  case atStart => exact ⟨Gr.refl _, Or.inl ⟨rfl, rfl⟩⟩
  case round =>
    obtain ⟨g, h⟩ := hrel
    rcases h with ⟨rfl, rfl⟩ | ⟨rfl, rfl⟩ | ⟨rfl, rfl⟩ | ⟨rfl, rfl⟩ | ⟨rfl, rfl⟩
    · go_wp2
      refine wp_region_quiet_lit (by kernel_rfl) (by kernel_rfl) ?_
      iterate 7 go_big_quiet_step (fail)
      go_big_quiet_step (exact Calls.quiet_of (taken_as (n % 4294967296) 0 0 (0) _ u0 u1 (by omega) (by omega) (by omega) (by omega) (by show (n % 4294967296) / 1 % 1 = _; omega)))
      iterate 5 go_big_quiet_step (fail)
      refine wpQuiet_nil ?_; intro _ h; obtain ⟨nq, h2⟩ := h; subst h2
      go_wp2
      go_roundw
      case rel =>
        have G : Gr w ((wr.alloc (.cells #[.int .i64 0, .int .i64 0, .int .i64 0] 161)).drewN nq) := (g.alloc _ _).drewN _
        have N : bits .or .u32 (0) (0) = 0 := (or_add _ _ 0 (by omega) (by omega) (by omega) (by omega) (by omega)).trans (by omega)
        have R : Value.int .u32 (bits .or .u32 (0) (0)) = .int .u32 (0) := by rw [N]
        clear N
        first
          | exact ⟨G, Or.inr (Or.inl ⟨rfl, R⟩)⟩
          | ((repeat apply Exists.intro); exact ⟨⟨G, Or.inr (Or.inl ⟨rfl, R⟩)⟩, rfl⟩)
      case measure => simp [intOf]
    · go_wp2
      refine wp_region_quiet_lit (by kernel_rfl) (by kernel_rfl) ?_
      iterate 7 go_big_quiet_step (fail)
      go_big_quiet_step (exact Calls.quiet_of (taken_as (n % 4294967296) 0 0 (0) _ u0 u1 (by omega) (by omega) (by omega) (by omega) (by show (n % 4294967296) / 1 % 1 = _; omega)))
      iterate 5 go_big_quiet_step (fail)
      refine wpQuiet_nil ?_; intro _ h; obtain ⟨nq, h2⟩ := h; subst h2
      go_wp2
      go_roundw
      case rel =>
        have G : Gr w ((wr.alloc (.cells #[.int .i64 0, .int .i64 0, .int .i64 0] 161)).drewN nq) := (g.alloc _ _).drewN _
        have N : bits .or .u32 (0) (0) = 0 := (or_add _ _ 0 (by omega) (by omega) (by omega) (by omega) (by omega)).trans (by omega)
        have R : Value.int .u32 (bits .or .u32 (0) (0)) = .int .u32 (0) := by rw [N]
        clear N
        first
          | exact ⟨G, Or.inr (Or.inr (Or.inl ⟨rfl, R⟩))⟩
          | ((repeat apply Exists.intro); exact ⟨⟨G, Or.inr (Or.inr (Or.inl ⟨rfl, R⟩))⟩, rfl⟩)
      case measure => simp [intOf]
    · go_wp2
      refine wp_region_quiet_lit (by kernel_rfl) (by kernel_rfl) ?_
      iterate 7 go_big_quiet_step (fail)
      go_big_quiet_step (exact Calls.quiet_of (taken_as (n % 4294967296) 0 0 (0) _ u0 u1 (by omega) (by omega) (by omega) (by omega) (by show (n % 4294967296) / 1 % 1 = _; omega)))
      iterate 5 go_big_quiet_step (fail)
      refine wpQuiet_nil ?_; intro _ h; obtain ⟨nq, h2⟩ := h; subst h2
      go_wp2
      go_roundw
      case rel =>
        have G : Gr w ((wr.alloc (.cells #[.int .i64 0, .int .i64 0, .int .i64 0] 161)).drewN nq) := (g.alloc _ _).drewN _
        have N : bits .or .u32 (0) (0) = 0 := (or_add _ _ 0 (by omega) (by omega) (by omega) (by omega) (by omega)).trans (by omega)
        have R : Value.int .u32 (bits .or .u32 (0) (0)) = .int .u32 (0) := by rw [N]
        clear N
        first
          | exact ⟨G, Or.inr (Or.inr (Or.inr (Or.inl ⟨rfl, R⟩)))⟩
          | ((repeat apply Exists.intro); exact ⟨⟨G, Or.inr (Or.inr (Or.inr (Or.inl ⟨rfl, R⟩)))⟩, rfl⟩)
      case measure => simp [intOf]
    · go_wp2
      refine wp_region_quiet_lit (by kernel_rfl) (by kernel_rfl) ?_
      iterate 7 go_big_quiet_step (fail)
      go_big_quiet_step (exact Calls.quiet_of (taken_as (n % 4294967296) 0 0 (0) _ u0 u1 (by omega) (by omega) (by omega) (by omega) (by show (n % 4294967296) / 1 % 1 = _; omega)))
      iterate 5 go_big_quiet_step (fail)
      refine wpQuiet_nil ?_; intro _ h; obtain ⟨nq, h2⟩ := h; subst h2
      go_wp2
      go_roundw
      case rel =>
        have G : Gr w ((wr.alloc (.cells #[.int .i64 0, .int .i64 0, .int .i64 0] 161)).drewN nq) := (g.alloc _ _).drewN _
        have N : bits .or .u32 (0) (0) = 0 := (or_add _ _ 0 (by omega) (by omega) (by omega) (by omega) (by omega)).trans (by omega)
        have R : Value.int .u32 (bits .or .u32 (0) (0)) = .int .u32 (0) := by rw [N]
        clear N
        first
          | exact ⟨G, Or.inr (Or.inr (Or.inr (Or.inr (⟨rfl, R⟩))))⟩
          | ((repeat apply Exists.intro); exact ⟨⟨G, Or.inr (Or.inr (Or.inr (Or.inr (⟨rfl, R⟩))))⟩, rfl⟩)
      case measure => simp [intOf]
    · go_wp2
      go_ret
      exact ⟨ret_int (by show _ = 0; omega), g⟩
theorem writtenImm_any (f : Int) (h0 : 0 ≤ f) (h1 : f ≤ 9) : WrittenImm f := by
  have h : f = 0 ∨ f = 1 ∨ f = 2 ∨ f = 3 ∨ f = 4 ∨ f = 5 ∨ f = 6 ∨ f = 7 ∨ f = 8 ∨ f = 9 := by omega
  rcases h with rfl | rfl | rfl | rfl | rfl | rfl | rfl | rfl | rfl | rfl
  · exact writtenImm_0
  · exact writtenImm_1
  · exact writtenImm_2
  · exact writtenImm_3
  · exact writtenImm_4
  · exact writtenImm_5
  · exact writtenImm_6
  · exact writtenImm_7
  · exact writtenImm_8
  · exact writtenImm_9
end Go.Proofs.YtbihifipemldhabDoor.Dw
