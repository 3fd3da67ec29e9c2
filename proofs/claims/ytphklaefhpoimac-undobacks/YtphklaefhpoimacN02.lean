/-
  Hm1, Hk, Heq, Hw, Mb1, Hm2, Ref4a, Ref4b, Hm7, Mb2, Mb3, Hm3, Hm4, Hm5, Bp, Bk, Hf, Hm6, Hao, Ha, Mb4, Mb5, Mb6: texts of ours that lie in one file.
-/
import Derived.Test.YtphklaefhpoimacN01
import Derived.Test.YtphklaefhpoimacMemWalks
import Derived.Test.YtphklaefhpoimacWordWalks
import Derived.Great.BuildSlice
import Derived.ChangeKeysEq
import Derived.Laws.StructEq
import Derived.Deep.RegionLaw
import Derived.Test.YtphklaefhpoimacWord
import Derived.Test.YtphklaefhpoimacRef1Alu
import Derived.Test.YtphklaefhpoimacRef3Walks
import Derived.Deep.RegionHeld3
import Derived.Test.YtphklaefhpoimacWalks4
import Derived.Test.YtphklaefhpoimacMemArgs
import Derived.Test.YtphklaefhpoimacTabs
/-
  What the small functions and methods of package hart return, and what becomes of the core: within, May, Trap, Set, Load, next, of every hart; and ferrybridgeref4.May.
-/
namespace Go.Proofs.Ytphklaefhpoimac.Hc
open Go.ChangeShapes Go.WideShapes Go.ChangeAt Go.RowKit Mm Hh
set_option linter.unusedVariables false
set_option linter.unusedSimpArgs false

variable {h : Hv} {w : World} {base g : Nat} {l : List UInt8} {os : List Int} {ss : List (Int × Int)}
theorem within_any (n a b : Int) (w : World) : Calls Try.prog 26 #[.int .i64 n, .int .i64 a, .int .i64 b] w fun e w' => e = .returned (.bool (decide (a ≤ n) && decide (n ≤ b))) ∧ w' = w := by
  by_cases h1 : a ≤ n
  · by_cases h2 : n ≤ b
    · go_enter Try.func26, Try.ntmps26
      go_wp2
      go_ret
      exact ⟨ret_bool (by simp [h1, h2]), rfl⟩
    · go_enter Try.func26, Try.ntmps26
      go_wp2
      go_ret
      exact ⟨ret_bool (by simp [h1, h2]), rfl⟩
  · go_enter Try.func26, Try.ntmps26
    go_wp2
    go_ret
    exact ⟨ret_bool (by simp; omega), rfl⟩

theorem may_get (h : Hv) (o : h.Ok) : (hA h)[0]? = some (.int .u32 (rg h 0)) ∧ (hA h)[33]? = some (.bool h.held) ∧ (hA h)[34]? = some (.int .u32 h.heldAt) ∧ (hA h)[35]? = some (.int .i64 h.state) ∧ (hA h)[36]? = some (.int .i64 h.cause) := by
  unfold hA
  simp only [List.getElem?_toArray]
  exact ⟨hL_reg o (by omega), hL_fld o 1, hL_fld o 2, hL_fld o 3, hL_fld o 4⟩


set_option maxHeartbeats 1000000 in
theorem may_any {h : Hv} (o : h.Ok) (w : World) : Calls Try.prog 17 #[.agg (hA h)] w fun e w' => e = .returned (.bool (may h)) ∧ Gr w w' := by
  obtain ⟨c0, c1, c2, c3, c4⟩ := may_get h o
  have HM : Hid (may h = decide (rg h 0 = 0 ∧ (h.held = false → h.heldAt = 0) ∧ (((h.state = 0 ∨ h.state = 1) ∧ h.cause = 0) ∨ (h.state = 2 ∧ 1 ≤ h.cause ∧ h.cause ≤ 6)))) := rfl
  generalize may h = M at *
  generalize hA h = A at *
  generalize rg h 0 = x0 at *
  generalize h.held = x1 at *
  generalize h.heldAt = x2 at *
  generalize h.state = x3 at *
  generalize h.cause = x4 at *
  clear o
  cases x1
  all_goals
    go_enter Try.func17, Try.ntmps17
    go_wp2_with (go_at_call 26; refine (within_any _ _ _ _).mono ?_; rintro e w' ⟨rfl, rfl⟩)
    all_goals
      clear c0 c1 c2 c3 c4
      go_ret
      refine ⟨ret_bool ?_, (Gr.refl _).alloc _⟩
      rw [HM.out, Bool.eq_iff_iff]
      simp at *
      omega

set_option maxHeartbeats 1000000 in
theorem rmay_any {h : Hv} (o : h.Ok) (w : World) : Calls Try.prog 21 #[.agg (hA h)] w fun e w' => e = .returned (.bool (may h)) ∧ Gr w w' := by
  obtain ⟨c0, c1, c2, c3, c4⟩ := may_get h o
  have HM : Hid (may h = decide (rg h 0 = 0 ∧ (h.held = false → h.heldAt = 0) ∧ (((h.state = 0 ∨ h.state = 1) ∧ h.cause = 0) ∨ (h.state = 2 ∧ 1 ≤ h.cause ∧ h.cause ≤ 6)))) := rfl
  generalize may h = M at *
  generalize hA h = A at *
  generalize rg h 0 = x0 at *
  generalize h.held = x1 at *
  generalize h.heldAt = x2 at *
  generalize h.state = x3 at *
  generalize h.cause = x4 at *
  clear o
  cases x1
  all_goals
    go_enter Try.func21, Try.ntmps21
    go_wp2
    all_goals
      clear c0 c1 c2 c3 c4
      go_ret
      refine ⟨ret_bool ?_, (Gr.refl _).alloc _⟩
      rw [HM.out, Bool.eq_iff_iff]
      simp at *
      omega

theorem andNot1 (x : Int) (h0 : 0 ≤ x) (h1 : x < 4294967296) : bits .andNot .u32 x 1 = x - x % 2 := by
  obtain ⟨x, rfl⟩ := Int.eq_ofNat_of_zero_le h0
  show IntKind.u32.wrap ((BitVec.ofInt 32 (x : Int) &&& ~~~ BitVec.ofInt 32 1).toNat : Int) = _
  have e : (~~~ BitVec.ofInt 32 1).toNat = (2 ^ 31 - 1) * 2 ^ 1 := by decide
  rw [BitVec.toNat_and, ofInt32 x h1, e, Dc.nand_mask]
  show ((x / 2 ^ 1 % 2 ^ 31 * 2 ^ 1 : Nat) : Int) % 4294967296 = _
  omega
end Go.Proofs.Ytphklaefhpoimac.Hc
/-
  How a struct that begins with a hart and a slice is built; steps of a region that draws its order: a load, a build, a store of a whole struct.
-/
namespace Go.Proofs.Ytphklaefhpoimac.Hc
open Go.ChangeShapes Go.WideShapes Go.ChangeAt Go.RowKit Mm Hh
set_option linter.unusedVariables false
set_option linter.unusedSimpArgs false

variable {P : Program} {t : TypeId} {h : Hv} {ops : Array Oper} {o : Oper} {a : Act} {w : World} {K : Act → World → Prop} {Q : Exit → Act → World → Prop} {E : Prop}
theorem fold_set (off : Nat) (v cs : Array Value) : (v.zipIdx.foldl (fun cs (x : Value × Nat) => cs.setIfInBounds (off + x.2) x.1) cs).size = cs.size ∧
    ∀ k, (v.zipIdx.foldl (fun cs (x : Value × Nat) => cs.setIfInBounds (off + x.2) x.1) cs)[k]? = if off ≤ k ∧ k < off + v.size ∧ k < cs.size then v[k - off]? else cs[k]? := by
  have h := Great.foldl_set off v.toList 0 cs
  rw [← Array.foldl_toList, Array.toList_zipIdx]
  refine ⟨h.1, fun k => ?_⟩
  rw [h.2 k]
  simp
/-- A struct whose first field has n cells, and whose second field has one. -/
theorem built_two {it : TypeInfo} {z : Value} {fs : Array Field} {ps : List (Nat × Nat)} (hi : P.info? t = some it) (hu : P.underlying t = some (.struct fs)) (hz : it.zero = some z)
    (hp : fs.toList.mapM (fun f => (P.info? f.type).map fun i => (f.offset, i.size)) = some ps) {n : Nat} (p0 : ps.toArray[0]? = some (0, n)) (p1 : ps.toArray[1]? = some (n, 1)) (A : Array Value) (hA : A.size = n) (v : Value) (hv : v.cells = #[v]) (hs : n + 1 ≤ z.cells.size)
    (R : Array Value) (hR : R.size = z.cells.size) (h1 : ∀ k, k < n → R[k]? = A[k]?) (h2 : R[n]? = some v) (h3 : ∀ k, n < k → R[k]? = z.cells[k]?) : P.built t [(0, .agg A), (1, v)] = some R := by
  unfold Program.built
  simp only [hi, hu, hz, hp]
  have a1 := fold_set 0 A z.cells
  have a2 := fold_set n #[v] (A.zipIdx.foldl (fun cs (x : Value × Nat) => cs.setIfInBounds (0 + x.2) x.1) z.cells)
  unfold Instr.fill
  simp only [p0]
  have e : (Value.agg A).cells = A := rfl
  rw [e, if_neg (by simp [hA]; omega)]
  unfold Instr.fill
  simp only [p1]
  rw [hv, if_neg (by rw [a1.1]; simp; omega)]
  unfold Instr.fill
  congr 1
  apply Array.ext_getElem?
  intro k
  rw [a2.2 k, a1.2 k, a1.1]
  by_cases hk : k < n
  · rw [if_neg (by omega), if_pos (by omega), h1 k hk]; simp
  · by_cases hk2 : k = n
    · subst hk2
      rw [if_pos (by simp; omega), h2]; simp
    · rw [if_neg (by simp; omega), if_neg (by omega), h3 k (by omega)]
theorem info_zero {v : Value} (h : (P.info? t).bind (·.zero) = some v) : ∃ it, P.info? t = some it ∧ it.zero = some v := by
  cases hi : P.info? t with
  | none => simp [hi] at h
  | some it => exact ⟨it, rfl, by simpa [hi] using h⟩

/-- The empty hart. -/
def h0 : Hv := ⟨List.replicate 32 0, 0, false, 0, 0, 0⟩
theorem h0_ok : h0.Ok := ⟨rfl, fun i => by unfold rg h0; simp only [List.getD, List.getElem?_replicate]; split <;> simp, by decide, by decide, by decide, by decide⟩
def nilS : Value := .slice none 0 0
theorem one_cA (c : Cv) (h1 : c.m.oneCell' = true) (h2 : c.out.oneCell' = true) (h3 : c.sto.oneCell' = true) : (cA c).all (·.oneCell') = true := by
  refine all_oneCell_toArray ?_
  intro v hv
  simp only [hL, List.mem_append, List.mem_map, List.mem_cons, List.not_mem_nil, or_false] at hv
  rcases hv with (⟨n, _, rfl⟩ | rfl | rfl | rfl | rfl | rfl) | rfl | rfl | rfl <;> first | rfl | assumption
theorem zDid : (Try.prog.info? 65).bind (·.zero) = some (.agg (dA ⟨h0, nilS, nilS, 0, 0⟩)) := by kernel_rfl
theorem zHart : (Try.prog.info? 39).bind (·.zero) = some (.agg (hA h0)) := by kernel_rfl
theorem built_did (o : h.Ok) (v : Value) (hv : v.cells = #[v]) : Try.prog.built 65 [(0, .agg (hA h)), (1, v)] = some (dA ⟨h, v, nilS, 0, 0⟩) := by
  obtain ⟨it, hi, hz⟩ := info_zero zDid
  have hl := hL_len o
  have z := hL_len h0_ok
  refine built_two (n := 37) hi Try.underlying65 hz (ps := [(0, 37), (37, 1), (38, 1), (39, 1), (40, 1)]) (by kernel_rfl) rfl rfl (hA h) (hA_size o) v hv (by show 38 ≤ (dA _).size; rw [dA_size h0_ok]; omega) _ ?_ ?_ ?_ ?_
  · show (dA _).size = (dA _).size; rw [dA_size (d := ⟨h, v, nilS, 0, 0⟩) o, dA_size h0_ok]
  · intro k hk; rw [dA_get (d := ⟨h, v, nilS, 0, 0⟩) o hk]; simp [hA]
  · exact dA_fld (d := ⟨h, v, nilS, 0, 0⟩) o 0
  · intro k hk
    obtain ⟨j, rfl⟩ : ∃ j, k = 37 + (j + 1) := ⟨k - 38, by omega⟩
    show (dA _)[_]? = (dA _)[_]?
    rw [dA_fld (d := ⟨h, v, nilS, 0, 0⟩) o, dA_fld (d := ⟨h0, nilS, nilS, 0, 0⟩) h0_ok]
    rfl
theorem built_h0 : Try.prog.built 39 [] = some (hA h0) := by kernel_rfl
/-! Steps of a region that draws its order -/
theorem step_load (hg : o.guard = none) (ty : TypeId) (x : Operand) (ho : o.op = .load ty x)
    (b : Nat) (hx : a.eval x = .pointer (some ⟨b, 0, none⟩)) (cs : List Value) (d : TypeDesc) (hc : w.rangeAt b 0 cs) (hu : P.underlying ty = some d) (hd : d.isRow = true) (hi : (P.info? ty).map (·.size) = some cs.length)
    (h : K (a.put o.dst (.agg cs.toArray)) w) : if Region.wanted o (yielded ops a.tmps) = true then Oper.wp P o a w K Q else E := by
  rw [if_pos (by simp [Region.wanted, hg])]
  exact wp_load_mid ty x ho b 0 hx cs d hc hu hd hi h
theorem step_load_row (hgd : o.guard = none) (ty : TypeId) (x : Operand) (ho : o.op = .load ty x)
    (g : Nat) (hx : a.eval x = .pointer (some ⟨g, 0, none⟩)) (t : TypeId) (cs : Array Value) (fr : Nat × Nat) (d : TypeDesc) (hg : w.heap[g]? = some (.cells cs t fr))
    (hu : P.underlying ty = some d) (hd : (match d with | .struct _ | .array _ _ => true | _ => false) = true) (hi : (P.info? ty).map (·.size) = some cs.size)
    (h : K (a.put o.dst (.agg cs)) w) : if Region.wanted o (yielded ops a.tmps) = true then Oper.wp P o a w K Q else E := by
  rw [if_pos (by simp [Region.wanted, hgd])]
  exact wp_load_row ty x ho g hx t cs fr d hg hu hd hi h
theorem step_build (hg : o.guard = none) (t : TypeId) (parts : Array (Nat × Operand)) (ho : o.op = .build t parts)
    (cells : Array Value) (hf : P.built t (parts.map fun (i, x) => (i, a.eval x)).toList = some cells) (h : K (a.put o.dst (.agg cells)) w) : if Region.wanted o (yielded ops a.tmps) = true then Oper.wp P o a w K Q else E := by
  rw [if_pos (by simp [Region.wanted, hg])]
  unfold Oper.wp execOp
  simp only [ho, Sem.run_bind, run_build w t _ _ hf, Result.andThen_ok]
  exact h
theorem step_store (hg : o.guard = none) (ty : TypeId) (x y : Operand) (ho : o.op = .store ty x y)
    (g : Nat) (cells : Array Value) (hx : a.eval x = .pointer (some ⟨g, 0, none⟩)) (hy : a.eval y = .agg cells) (t : TypeId) (old : Array Value) (hb : w.heap[g]? = some (.cells old t (0, 0))) (hi : (P.info? ty).map (·.size) = some cells.size)
    (hold : old.size = cells.size) (h1 : cells.all (·.oneCell') = true) (h : K (a.put o.dst undef) (w.setRow g cells)) : if Region.wanted o (yielded ops a.tmps) = true then Oper.wp P o a w K Q else E := by
  rw [if_pos (by simp [Region.wanted, hg])]
  unfold Oper.wp execOp
  simp only [ho, hx, hy, Instr.storeAt, Instr.sureAddr, Sem.run_bind, Sem.run_pure, Result.andThen_ok, run_storeVar_row w g t ty old cells hb hi hold h1]
  exact h
end Go.Proofs.Ytphklaefhpoimac.Hc
/-
  Two harts that are the same compare as equal.
-/
namespace Go.Proofs.Ytphklaefhpoimac.Hc
open Go.ChangeShapes Go.WideShapes Go.ChangeAt Go.RowKit Mm Hh
set_option linter.unusedVariables false
set_option linter.unusedSimpArgs false

theorem list32 {l : List Int} (h : l.length = 32) : ∃ a0 a1 a2 a3 a4 a5 a6 a7 a8 a9 b0 b1 b2 b3 b4 b5 b6 b7 b8 b9 c0 c1 c2 c3 c4 c5 c6 c7 c8 c9 d0 d1, l = [a0, a1, a2, a3, a4, a5, a6, a7, a8, a9, b0, b1, b2, b3, b4, b5, b6, b7, b8, b9, c0, c1, c2, c3, c4, c5, c6, c7, c8, c9, d0, d1] := by
  match l, h with
  | [a0, a1, a2, a3, a4, a5, a6, a7, a8, a9, b0, b1, b2, b3, b4, b5, b6, b7, b8, b9, c0, c1, c2, c3, c4, c5, c6, c7, c8, c9, d0, d1], _ => exact ⟨_, _, _, _, _, _, _, _, _, _, _, _, _, _, _, _, _, _, _, _, _, _, _, _, _, _, _, _, _, _, _, _, rfl⟩
theorem eq_items (d : Nat) (w : World) (xs : Array Value) : ∀ is : List Nat, (∀ i ∈ is, ∃ a, xs[i * 1]? = some (.int .u32 a)) → (Op.eqItems (d + 1) 36 1 xs xs is).run Try.prog w = .ok true w
  | [], _ => by simp [Op.eqItems]
  | i :: is, h => by
    obtain ⟨a, ha⟩ := h i (by simp)
    have hp : Try.prog.plainKey 36 = true := by kernel_rfl
    have ih := eq_items d w xs is (fun j hj => h j (by simp [hj]))
    simp only [Op.eqItems, Sem.run_bind, run_part_plain w hp ha, Result.andThen_ok, run_equalIn_int w d 36 .u32 .u32 a a Try.underlying36, beq_self_eq_true, Bool.not_true, Bool.false_eq_true, if_false]
    exact ih
theorem eq_row (w : World) (xs : Array Value) (h : ∀ i, i < 32 → ∃ a, xs[i]? = some (.int .u32 a)) : (Op.equalIn 9999 37 (.agg xs) (.agg xs)).run Try.prog w = .ok true w := by
  obtain ⟨i0, hi, _, _, _⟩ := info_parts (by kernel_rfl : (Try.prog.info? 36).map (fun i => (i.zero, i.size, i.bytes)) = some (some (Value.int .u32 0), 1, 4))
  rw [run_equalIn_array w 9998 xs xs Try.underlying37 hi]
  rw [show Try.prog.cellsOf 36 = 1 by kernel_rfl]
  exact eq_items 9997 w xs _ (fun i hm => by rw [Nat.mul_one]; exact h i (List.mem_range.1 hm))
set_option maxRecDepth 100000 in
set_option maxHeartbeats 4000000 in
theorem eql_hart {h : Hv} (o : h.Ok) (w : World) : (binOp .eql 39 (.agg (hA h)) (.agg (hA h))).run Try.prog w = .ok (.bool true) w := by
  obtain ⟨a0, a1, a2, a3, a4, a5, a6, a7, a8, a9, b0, b1, b2, b3, b4, b5, b6, b7, b8, b9, c0, c1, c2, c3, c4, c5, c6, c7, c8, c9, d0, d1, e⟩ := list32 o.len
  obtain ⟨rs, pc, held, hat, st, cs⟩ := h
  subst e
  show (binOp .eql 39 (.agg #[.int .u32 a0, .int .u32 a1, .int .u32 a2, .int .u32 a3, .int .u32 a4, .int .u32 a5, .int .u32 a6, .int .u32 a7, .int .u32 a8, .int .u32 a9, .int .u32 b0, .int .u32 b1, .int .u32 b2, .int .u32 b3, .int .u32 b4, .int .u32 b5, .int .u32 b6, .int .u32 b7, .int .u32 b8, .int .u32 b9, .int .u32 c0, .int .u32 c1, .int .u32 c2, .int .u32 c3, .int .u32 c4, .int .u32 c5, .int .u32 c6, .int .u32 c7, .int .u32 c8, .int .u32 c9, .int .u32 d0, .int .u32 d1, .int .u32 pc, .bool held, .int .u32 hat, .int .i64 st, .int .i64 cs]) (.agg #[.int .u32 a0, .int .u32 a1, .int .u32 a2, .int .u32 a3, .int .u32 a4, .int .u32 a5, .int .u32 a6, .int .u32 a7, .int .u32 a8, .int .u32 a9, .int .u32 b0, .int .u32 b1, .int .u32 b2, .int .u32 b3, .int .u32 b4, .int .u32 b5, .int .u32 b6, .int .u32 b7, .int .u32 b8, .int .u32 b9, .int .u32 c0, .int .u32 c1, .int .u32 c2, .int .u32 c3, .int .u32 c4, .int .u32 c5, .int .u32 c6, .int .u32 c7, .int .u32 c8, .int .u32 c9, .int .u32 d0, .int .u32 d1, .int .u32 pc, .bool held, .int .u32 hat, .int .i64 st, .int .i64 cs])).run Try.prog w = .ok (.bool true) w
  have hr := eq_row w #[.int .u32 a0, .int .u32 a1, .int .u32 a2, .int .u32 a3, .int .u32 a4, .int .u32 a5, .int .u32 a6, .int .u32 a7, .int .u32 a8, .int .u32 a9, .int .u32 b0, .int .u32 b1, .int .u32 b2, .int .u32 b3, .int .u32 b4, .int .u32 b5, .int .u32 b6, .int .u32 b7, .int .u32 b8, .int .u32 b9, .int .u32 c0, .int .u32 c1, .int .u32 c2, .int .u32 c3, .int .u32 c4, .int .u32 c5, .int .u32 c6, .int .u32 c7, .int .u32 c8, .int .u32 c9, .int .u32 d0, .int .u32 d1] (fun i hi => by
    match i, hi with
    | 0, _ => exact ⟨_, rfl⟩
    | 1, _ => exact ⟨_, rfl⟩
    | 2, _ => exact ⟨_, rfl⟩
    | 3, _ => exact ⟨_, rfl⟩
    | 4, _ => exact ⟨_, rfl⟩
    | 5, _ => exact ⟨_, rfl⟩
    | 6, _ => exact ⟨_, rfl⟩
    | 7, _ => exact ⟨_, rfl⟩
    | 8, _ => exact ⟨_, rfl⟩
    | 9, _ => exact ⟨_, rfl⟩
    | 10, _ => exact ⟨_, rfl⟩
    | 11, _ => exact ⟨_, rfl⟩
    | 12, _ => exact ⟨_, rfl⟩
    | 13, _ => exact ⟨_, rfl⟩
    | 14, _ => exact ⟨_, rfl⟩
    | 15, _ => exact ⟨_, rfl⟩
    | 16, _ => exact ⟨_, rfl⟩
    | 17, _ => exact ⟨_, rfl⟩
    | 18, _ => exact ⟨_, rfl⟩
    | 19, _ => exact ⟨_, rfl⟩
    | 20, _ => exact ⟨_, rfl⟩
    | 21, _ => exact ⟨_, rfl⟩
    | 22, _ => exact ⟨_, rfl⟩
    | 23, _ => exact ⟨_, rfl⟩
    | 24, _ => exact ⟨_, rfl⟩
    | 25, _ => exact ⟨_, rfl⟩
    | 26, _ => exact ⟨_, rfl⟩
    | 27, _ => exact ⟨_, rfl⟩
    | 28, _ => exact ⟨_, rfl⟩
    | 29, _ => exact ⟨_, rfl⟩
    | 30, _ => exact ⟨_, rfl⟩
    | 31, _ => exact ⟨_, rfl⟩
    | n + 32, h => omega)
  go_simp
end Go.Proofs.Ytphklaefhpoimac.Hc
/-
  Words as slices; what ferrybridgeref4.Words answers of two that are the same; loads of whole structs behind a guard.
-/
namespace Go.Proofs.Ytphklaefhpoimac.Hc
open Go.ChangeShapes Go.WideShapes Go.ChangeAt Go.RowKit Mm Hh
set_option linter.unusedVariables false
set_option linter.unusedSimpArgs false

/-- In world w, the slice at ao of n elements reads as the words os. -/
structure Wm (w : World) (ao : Option Addr) (n : Nat) (os : List Int) : Prop where
  len : os.length = n
  nil : ao = none → n = 0
  cell : ∀ ad, ao = some ad → ∀ t, t < n → w.cell? (ad.add t) = some (.int .u32 (os.getD t 0))
theorem Wm.of {w w' : World} {ao : Option Addr} {n : Nat} {os : List Int} (h : Wm w ao n os) (g : Gr w w') : Wm w' ao n os :=
  ⟨h.len, h.nil, fun ad e t ht => (g.cell _ (World.block_lt_of_cell? w _ (h.cell ad e t ht))).trans (h.cell ad e t ht)⟩
theorem Wm.spot {w : World} {ao : Option Addr} {n : Nat} {os : List Int} (h : Wm w ao n os) (hn : 0 < n) :
    ∃ b o, ao = some ⟨b, o, none⟩ ∧ b < w.heap.size ∧ ∀ t, t < n → w.cell? ⟨b, o + t, none⟩ = some (.int .u32 (os.getD t 0)) := by
  cases ao with
  | none => exact absurd (h.nil rfl) (by omega)
  | some ad =>
    obtain ⟨b, o, s⟩ := ad
    have hs : s = none := by simpa [Addr.add] using World.cell?_spot (h.cell _ rfl 0 hn)
    subst hs
    have hb : b < w.heap.size := by simpa [Addr.add] using World.block_lt_of_cell? w _ (h.cell _ rfl 0 hn)
    exact ⟨b, o, rfl, hb, fun t ht => by rw [← add_at]; exact h.cell _ rfl t ht⟩
theorem wm_own {w : World} {base n : Nat} {v : Value} {os : List Int} (hl : os.length = n) (h : w.ownsRow base 36 1 v n (os.map (Value.int .u32))) : ∃ ao cap, v = .slice ao n cap ∧ Wm w ao n os := by
  obtain ⟨_, h⟩ := h
  rcases h with ⟨rfl, h0⟩ | ⟨g, cap, cur, rfl, hb, hg, hn, hm, hs, ht⟩
  · subst h0
    exact ⟨none, 0, rfl, hl, fun _ => rfl, fun ad e => (by cases e)⟩
  · refine ⟨_, cap, rfl, hl, fun e => (by cases e), fun ad e t htn => ?_⟩
    obtain rfl := Option.some.inj e
    rw [add_at, Nat.zero_add, cr hg]
    have h1 : (cur.toList.take (n * 1))[t]? = some (.int .u32 (os.getD t 0)) := by
      rw [ht, List.getElem?_map]
      simp [List.getD, List.getElem?_eq_getElem (show t < os.length by omega)]
    rw [List.getElem?_take_of_lt (by omega)] at h1
    simpa using h1

set_option maxHeartbeats 1000000 in
theorem Words_zero (a b : Option Addr) (c d : Nat) (w : World) : Calls Try.prog 25 #[.slice a 0 c, .slice b 0 d] w fun e w' => e = .returned (.bool true) ∧ Gr w w' := by
  go_enter Try.func25, Try.ntmps25
  go_wp2
  go_loopw [5] (fun i wr => i = .int .i64 0 ∧ wr = w) (fun _ _ => 0)
  case atStart => exact ⟨rfl, rfl⟩
  case round =>
    obtain ⟨rfl, rfl⟩ := hrel
    go_wp2
    go_ret
    exact ⟨rfl, Gr.refl _⟩
set_option maxHeartbeats 1000000 in
theorem Words_pos {w : World} {b1 o1 b2 o2 n : Nat} {os : List Int} (c d : Nat) (hn : n ≤ 1000000) (h1 : ∀ t, t < n → w.cell? ⟨b1, o1 + t, none⟩ = some (.int .u32 (os.getD t 0))) (h2 : ∀ t, t < n → w.cell? ⟨b2, o2 + t, none⟩ = some (.int .u32 (os.getD t 0))) :
    Calls Try.prog 25 #[.slice (some ⟨b1, o1, none⟩) n c, .slice (some ⟨b2, o2, none⟩) n d] w fun e w' => e = .returned (.bool true) ∧ Gr w w' := by
  have H1 : Hid _ := h1
  have H2 : Hid _ := h2
  clear h1 h2
  go_enter Try.func25, Try.ntmps25
  go_wp2
  go_loopw [5] (fun i wr => ∃ k : Nat, k ≤ n ∧ i = .int .i64 k ∧ ∃ m, wr = w.drewN m) (fun i _ => n - (intOf i).toNat)
  case atStart => exact ⟨0, Nat.zero_le _, rfl, 0, rfl⟩
  case round =>
    obtain ⟨k, hk, rfl, m, rfl⟩ := hrel
    by_cases hlt : k < n
    · have q1 := H1.out k hlt
      have q2 := H2.out k hlt
      generalize os.getD k 0 = y at *
      go_wp2_with fail
      go_quiet (fail)
      go_wp2_with fail
      go_roundw
      case rel => exact ⟨k + 1, by omega, by go_num, _, rfl⟩
      case measure => simp [intOf]; omega
    · go_wp2
      go_ret
      exact ⟨rfl, (Gr.refl _).drewN _⟩
/-- Words, of two that are the same. -/
theorem Words_same {w : World} {a b : Option Addr} {n : Nat} {os : List Int} (c d : Nat) (hn : n ≤ 1000000) (A : Wm w a n os) (B : Wm w b n os) : Calls Try.prog 25 #[.slice a n c, .slice b n d] w fun e w' => e = .returned (.bool true) ∧ Gr w w' := by
  by_cases h0 : n = 0
  · subst h0; exact Words_zero a b c d w
  · obtain ⟨b1, o1, rfl, _, h1⟩ := A.spot (by omega)
    obtain ⟨b2, o2, rfl, _, h2⟩ := B.spot (by omega)
    exact Words_pos c d hn h1 h2

/-! Behind a guard that holds -/
section
variable {P : Program} {ops : Array Oper} {rest : List Oper} {op : Oper} {a : Act} {w : World} {Q : Exit → Act → World → Prop}
theorem wpList_want (hw : Region.wanted op (yielded ops a.tmps) = true) (h : ∀ K : Act → World → Prop, (∀ a w, wpList P ops Q rest a w → K a w) → op.wp P a w K Q) : wpList P ops Q (op :: rest) a w :=
  wpList_step fun K hK => by rw [if_pos hw]; exact h K hK
theorem wpList_gload_row (hw : Region.wanted op (yielded ops a.tmps) = true) (ty : TypeId) (x : Operand) (ho : op.op = .load ty x)
    (g : Nat) (hx : a.eval x = .pointer (some ⟨g, 0, none⟩)) (t : TypeId) (cs : Array Value) (fr : Nat × Nat) (d : TypeDesc) (hg : w.heap[g]? = some (.cells cs t fr))
    (hu : P.underlying ty = some d) (hd : (match d with | .struct _ | .array _ _ => true | _ => false) = true) (hi : (P.info? ty).map (·.size) = some cs.size)
    (h : wpList P ops Q rest (a.put op.dst (.agg cs)) w) : wpList P ops Q (op :: rest) a w :=
  wpList_want hw fun _ hK => wp_load_row ty x ho g hx t cs fr d hg hu hd hi (hK _ _ h)
theorem wpList_gload_mid (hw : Region.wanted op (yielded ops a.tmps) = true) (ty : TypeId) (x : Operand) (ho : op.op = .load ty x)
    (b o : Nat) (hx : a.eval x = .pointer (some ⟨b, o, none⟩)) (cs : List Value) (d : TypeDesc) (hc : w.rangeAt b o cs)
    (hu : P.underlying ty = some d) (hd : d.isRow = true) (hi : (P.info? ty).map (·.size) = some cs.length)
    (h : wpList P ops Q rest (a.put op.dst (.agg cs.toArray)) w) : wpList P ops Q (op :: rest) a w :=
  wpList_want hw fun _ hK => wp_load_mid ty x ho b o hx cs d hc hu hd hi (hK _ _ h)
end
end Go.Proofs.Ytphklaefhpoimac.Hc
/-
  What package machine's meets, May and wrong answer, of every machine and script.
-/
namespace Go.Proofs.Ytphklaefhpoimac.Mc
open Go.ChangeShapes Go.WideShapes Go.ChangeAt Go.RowKit Mm Hh Hc
set_option linter.unusedVariables false
set_option linter.unusedSimpArgs false

theorem ret_bool {a b : Bool} (h : a = b) : Ending.returned (.bool a) = .returned (.bool b) := by rw [h]
/-- A machine of mn bytes and the harts hs may be. -/
def mayM (mn : Nat) (hs : List Hv) : Bool := decide (mn ≤ 4096 ∧ 1 ≤ hs.length ∧ hs.length ≤ 4) && hs.all may
theorem wrong_may (m : List UInt8) (hs : List Hv) (ps : List (Int × Int)) : wrong m hs ps = if mayM m.length hs = false then 2 else if 300 < ps.length then 1 else if ps.all (pickOk hs.length) = false then 3 else 0 := by
  unfold wrong mayM
  by_cases h : 4096 < m.length ∨ hs.length < 1 ∨ 4 < hs.length
  · rw [if_pos h, if_pos]; rw [decide_eq_false (by omega)]; rfl
  · rw [if_neg h, decide_eq_true (show m.length ≤ 4096 ∧ 1 ≤ hs.length ∧ hs.length ≤ 4 by omega)]; simp only [Bool.true_and]

set_option maxHeartbeats 1000000 in
set_option maxRecDepth 100000 in
theorem MMay_any {ma ha : Option Addr} {hn : Nat} (mc hc : Nat) {hs : List Hv} {w : World} (mn : Nat) (H : Hs w ha hn hs) (b1 : mn ≤ 140737488351232) (b2 : hn ≤ 140737488351232) :
    Calls Try.prog 7 #[.agg #[.slice ma mn mc, .slice ha hn hc]] w fun e w' => e = .returned (.bool (mayM mn hs)) ∧ Gr w w' := by
  have hl := H.len
  by_cases c1 : 4096 < mn ∨ hn < 1 ∨ 4 < hn
  · have HE : Hid (mayM mn hs = false) := by unfold Hid mayM; rw [decide_eq_false (by omega)]; rfl
    clear H
    have c2 : 4096 < mn ∨ (¬ 4096 < mn ∧ hn < 1) ∨ (¬ 4096 < mn ∧ ¬ hn < 1 ∧ 4 < hn) := by omega
    clear c1
    rcases c2 with c | ⟨c, d⟩ | ⟨c, d, e⟩
    all_goals
      go_enter Try.func7, Try.ntmps7
      go_wp2
      go_ret
      exact ⟨ret_bool HE.out.symm, (Gr.refl _).alloc _⟩
  · have n1 : ¬ 4096 < mn := by omega
    have n2 : ¬ hn < 1 := by omega
    have n3 : ¬ 4 < hn := by omega
    obtain ⟨b, o, rfl, hb, hcell⟩ := H.spot (by omega)
    have HW : Hid (mayM mn hs = hs.all may) := by unfold Hid mayM; rw [decide_eq_true (by omega)]; rfl
    have HK : Hid (∀ i h, hs[i]? = some h → w.rangeAt b (o + i * 37) (hL h)) := hcell
    have HO : Hid (∀ h ∈ hs, h.Ok) := H.ok
    have HL : Hid (hs.length = hn) := hl
    clear hcell H c1 hl
    go_enter Try.func7, Try.ntmps7
    go_wp2
    go_loopw [24] (fun i wr => ∃ k : Nat, k ≤ hn ∧ i = .int .i64 k ∧ (hs.take k).all may = true ∧ Gr w wr) (fun i _ => hn - (intOf i).toNat)
    case atStart => exact ⟨0, Nat.zero_le _, rfl, rfl, (Gr.refl _).alloc _⟩
    case round =>
      obtain ⟨k, hk, rfl, hall, G⟩ := hrel
      have HG : Hid (Gr w wr) := G
      have HA : Hid ((hs.take k).all may = true) := hall
      clear G hall
      by_cases hlt : k < hn
      · obtain ⟨h, hh⟩ : ∃ h, hs[k]? = some h := ⟨_, List.getElem?_eq_getElem (by rw [HL.out]; exact hlt)⟩
        have HH : Hid (hs[k]? = some h) := hh
        have okh := HO.out h (List.mem_of_getElem? hh)
        have RG : Hid (wr.rangeAt b (o + k * 37) (hL h)) := fun j v hv => (HG.out.cell _ (by exact hb)).trans (HK.out k h hh j v hv)
        have HLL : Hid ((hL h).length = 37) := hL_len okh
        have HSZ : Hid ((hL h).toArray.size = 37) := by unfold Hid; simp [HLL.out]
        have HONE : Hid ((hL h).toArray.all (·.oneCell') = true) := one_hA h
        have M1 : Hid (∀ W : World, Calls Try.prog 17 #[.agg (hL h).toArray] W fun e w' => e = .returned (.bool (may h)) ∧ Gr W w') := fun W => may_any okh W
        have HW4 : Hid (∀ Y : Array Value, Gr wr ((wr.alloc (.cells Y 39)).setRow wr.heap.size (hL h).toArray)) := fun Y => gr_setRow ((Gr.refl _).alloc _) (Nat.le_refl _) _
        have HX4 : Hid (∀ Y : Array Value, ((wr.alloc (.cells Y 39)).setRow wr.heap.size (hL h).toArray).heap[wr.heap.size]? = some (.cells (hL h).toArray 39 (0, 0))) := fun Y => setRow_heap _ _ _ _ _ (0, 0) (heap_alloc_new wr _)
        clear hh okh
        cases hmb : may h with
        | true =>
          have M2 : Hid (∀ W : World, Calls Try.prog 17 #[.agg (hL h).toArray] W fun e w' => e = .returned (.bool true) ∧ Gr W w') := fun W => by have := M1.out W; rwa [hmb] at this
          have HN : Hid ((hs.take (k + 1)).all may = true) := by unfold Hid; rw [all_take may hs k h HH.out, HA.out, hmb]; rfl
          clear M1 hmb
          go_wp2_with (first
            | (refine wpList_load_mid rfl 39 _ rfl b (o + k * 37) rfl (hL h) _ ?r1 Try.underlying39 rfl (by rw [HLL.out]; exact iH) ?_; (case r1 => exact RG.out))
            | (refine wpList_store_row rfl 39 _ _ rfl wr.heap.size (hL h).toArray rfl rfl 39 _ (heap_alloc_new wr _) (by rw [HSZ.out]; exact iH) (by rw [HSZ.out]; rfl) HONE.out ?_)
            | (refine wpList_load_row rfl 39 _ rfl wr.heap.size rfl 39 (hL h).toArray (0, 0) _ ?r2 Try.underlying39 rfl (by rw [HSZ.out]; exact iH) ?_; (case r2 => exact HX4.out _)))
          refine (M2.out _).mono ?_
          rintro e w1 ⟨rfl, G1⟩
          have HG1 : Hid (Gr w w1) := HG.out.trans ((HW4.out _).trans G1)
          clear G1 M2 HG RG HW4 HX4
          go_wp2_with fail
          go_roundw
          case rel => exact ⟨k + 1, by omega, by go_num, HN.out, HG1.out⟩
          case measure => simp [intOf]; omega
        | false =>
          have M2 : Hid (∀ W : World, Calls Try.prog 17 #[.agg (hL h).toArray] W fun e w' => e = .returned (.bool false) ∧ Gr W w') := fun W => by have := M1.out W; rwa [hmb] at this
          have HE : Hid (mayM mn hs = false) := by unfold Hid; rw [HW.out]; exact all_false HH.out hmb
          clear M1 hmb
          go_wp2_with (first
            | (refine wpList_load_mid rfl 39 _ rfl b (o + k * 37) rfl (hL h) _ ?r1 Try.underlying39 rfl (by rw [HLL.out]; exact iH) ?_; (case r1 => exact RG.out))
            | (refine wpList_store_row rfl 39 _ _ rfl wr.heap.size (hL h).toArray rfl rfl 39 _ (heap_alloc_new wr _) (by rw [HSZ.out]; exact iH) (by rw [HSZ.out]; rfl) HONE.out ?_)
            | (refine wpList_load_row rfl 39 _ rfl wr.heap.size rfl 39 (hL h).toArray (0, 0) _ ?r2 Try.underlying39 rfl (by rw [HSZ.out]; exact iH) ?_; (case r2 => exact HX4.out _)))
          refine (M2.out _).mono ?_
          rintro e w1 ⟨rfl, G1⟩
          have HG1 : Hid (Gr w w1) := HG.out.trans ((HW4.out _).trans G1)
          clear G1 M2 HG RG HW4 HX4
          go_wp2_with fail
          go_ret
          exact ⟨ret_bool HE.out.symm, HG1.out⟩
      · have HE : Hid (mayM mn hs = true) := by have := HA.out; rw [show k = hn by omega, ← HL.out, List.take_length] at this; unfold Hid; rw [HW.out]; exact this
        go_wp2_with fail
        go_ret
        exact ⟨ret_bool HE.out.symm, HG.out⟩
end Go.Proofs.Ytphklaefhpoimac.Mc
/-
  What the methods of package hart's core that store do: Store, Call.
-/
namespace Go.Proofs.Ytphklaefhpoimac.Hc
open Go.ChangeShapes Go.WideShapes Go.ChangeAt Go.RowKit Mm Hh
set_option linter.unusedVariables false
set_option linter.unusedSimpArgs false

variable {a op : Int} {w w' W : World} {base g n b : Nat} {h : Hv} {l : List UInt8} {os : List Int} {ss : List (Int × Int)} {x v : Value} {xs : List Value}
/-- append to a slice of the program's own, as one step of a region that draws its order. -/
theorem step_append_own {P : Program} {ops : Array Oper} {o : Oper} {a : Act} {K : Act → World → Prop} {Q : Exit → Act → World → Prop} {E : Prop}
    (hg : o.guard = none) (s x : Operand) (t : TypeId) (hop : o.op = Op.call { callee := Callee.builtin Builtin.append, args := #[s, x], argTypes := #[t, t] })
    (base : Nat) (e : TypeId) (i : TypeInfo) (z : Value) (size bytes : Nat) (h1 : P.underlying t = some (.slice e)) (h2 : P.info? e = some i) (h3 : i.zero = some z) (h4 : i.size = size) (h5 : i.bytes = bytes) (h6 : z.cells.size = size) (h7 : 0 < size)
    (v : Value) (n : Nat) (olds : List Value) (hs : a.eval s = v) (hown : w.ownsRow base e size v n olds)
    (ad : Addr) (m c : Nat) (news : List Value) (hx : a.eval x = .slice (some ad) m c) (hn : news.length = m * size) (hc : ∀ j u, news[j]? = some u → w.cell? (ad.add j) = some u) (h1c : ∀ u ∈ news, u.oneCell' = true)
    (b1 : n + m ≤ maxLen) (b2 : (n + m) * bytes ≤ 140737488355328) (hbase : base ≤ w.heap.size)
    (hK : ∀ v' w', w'.ownsRow base e size v' (n + m) (olds ++ news) → w.grownBy w' v.ownBlock → K (a.put o.dst v') w') :
    if Region.wanted o (yielded ops a.tmps) = true then Oper.wp P o a w K Q else E := by
  have hw : Region.wanted o (yielded ops a.tmps) = true := by simp [Region.wanted, hg]
  rw [if_pos hw]
  obtain ⟨v', w', hrun, r1, r2, _⟩ := run_append_own (P := P) w base t o.type e i z size bytes h1 h2 h3 h4 h5 h6 h7 v n olds hown ad m c news hn hc h1c b1 b2 hbase
  unfold Oper.wp
  simp [execOp, hop, resolve, invoke, builtin, hs, hx, hrun, Result.andThen]
  exact hK v' w' r1 r2

theorem infoU : (Try.prog.info? 36).map (fun i => (i.zero, i.size, i.bytes)) = some (some (.int .u32 0), 1, 4) := by kernel_rfl

theorem stL_len {x : Int} (ok : stOk l op a = true) : (stL l op a x).length = l.length := by unfold stL; rw [ok]; exact len_put _ _ _ _
theorem stOk_op (ok : stOk l op a = true) : op = 16 ∨ op = 17 ∨ op = 18 := by
  have h : ¬ ssz op = 0 := by
    intro h
    simp [stOk, thr, h] at ok
  unfold ssz at h
  repeat' split at h
  all_goals omega
theorem Gr.drew {a : World} (h : Gr a w) : Gr a w.drew := h.drewN 1

theorem owns_gr {e sz : Nat} (h : w.ownsRow base e sz v n xs) (q : Gr w w') : w'.ownsRow base e sz v n xs :=
  owns_to h fun k o f hk => q.block k (gs hk).1
theorem own_form {size : Nat} {e : TypeId} (h : w.ownsRow base e size v n xs) (hn : 0 < n) : ∃ g cap, v = .slice (some ⟨g, 0, none⟩) n cap := by
  rcases h.2 with ⟨_, h0⟩ | ⟨g, cap, _, hv, _⟩
  · omega
  · exact ⟨g, cap, hv⟩
theorem two_cells {y : Value} (h0 : W.cell? ⟨b, 0, none⟩ = some x) (h1 : W.cell? ⟨b, 1, none⟩ = some y) : ∀ j u, ([x, y] : List Value)[j]? = some u → W.cell? ((⟨b, 0, none⟩ : Addr).add j) = some u := by
  intro j u hj
  rw [add_at]
  match j, hj with
  | 0, hj => simp at hj; subst hj; exact h0
  | 1, hj => simp at hj; subst hj; exact h1
theorem two_one (a b : Int) : ∀ u ∈ [Value.int .u32 a, Value.int .u32 b], u.oneCell' = true := by
  intro u hu
  simp at hu
  rcases hu with rfl | rfl <;> rfl
theorem one_cell (h0 : W.cell? ⟨b, 0, none⟩ = some x) : ∀ j u, ([x] : List Value)[j]? = some u → W.cell? ((⟨b, 0, none⟩ : Addr).add j) = some u := by
  intro j u hj
  rw [add_at]
  match j, hj with
  | 0, hj => simp at hj; subst hj; exact h0
theorem one_one (a : Int) : ∀ u ∈ [Value.int .u32 a], u.oneCell' = true := by
  intro u hu
  simp at hu
  subst hu
  rfl
end Go.Proofs.Ytphklaefhpoimac.Hc
/-
  What the small functions of package ferrybridgeref4 return: trap, set, each of every struct that a step did; and nothing old in memory turns.
-/
namespace Go.Proofs.Ytphklaefhpoimac.Hr
open Go.ChangeShapes Go.WideShapes Go.ChangeAt Go.RowKit Mm Hh
set_option linter.unusedVariables false
set_option linter.unusedSimpArgs false

variable {d : Dv}
theorem iD : (Try.prog.info? 65).map (·.size) = some 41 := by kernel_rfl
theorem iH : (Try.prog.info? 39).map (·.size) = some 37 := by kernel_rfl
theorem ret_int {k : IntKind} {a b : Int} (h : a = b) : Ending.returned (.int k a) = .returned (.int k b) := by rw [h]

theorem sum_any (a b : Int) (w : World) (ha : 0 ≤ a) (ha' : a < 4294967296) (hb : 0 ≤ b) (hb' : b < 4294967296) :
    Calls Try.prog 31 #[.int .u32 a, .int .u32 b] w fun e w' => e = .returned (.int .u32 (Wd.lo (a + b))) ∧ w' = w := by
  go_enter Try.func31, Try.ntmps31
  go_wp2_with (go_at_call 35; refine (Rw.alu_28 _ _ _ ha ha' hb hb').mono ?_; rintro e w' ⟨rfl, rfl⟩)
  go_ret
  exact ⟨ret_int rfl, rfl⟩
theorem operation_any (op : Int) (w : World) : Calls Try.prog 36 #[.int .i64 op] w fun e w' => e = .returned (.int .i64 (opn op)) ∧ w' = w := by
  go_enter Try.func36, Try.ntmps36
  go_wp2
  all_goals
    go_ret
    refine ⟨ret_int ?_, rfl⟩
    simp only [beq_iff_eq, beq_eq_false_iff_ne, ne_eq] at *
    unfold opn
    repeat' split
    all_goals omega

theorem trap_any (o : d.Ok) (c : Int) (w : World) :
    Calls Try.prog 28 #[.agg (dA d), .int .i64 c] w fun e w' => e = .returned (.agg (dA (d.setH (d.h.trap c)))) ∧ Gr w w' := by
  have o1 : Hv.Ok { d.h with state := 2 } := ⟨o.h.len, o.h.reg, o.h.pc0, o.h.pc1, o.h.at0, o.h.at1⟩
  have e1 : (dA d).setIfInBounds 35 (.int .i64 2) = dA { d with h := { d.h with state := 2 } } := dA_set o.h (by omega) (set_state o.h 2)
  have e2 : (dA { d with h := { d.h with state := 2 } }).setIfInBounds 36 (.int .i64 c) = dA (d.setH (d.h.trap c)) := dA_set (d := { d with h := { d.h with state := 2 } }) o1 (by omega) (set_cause o1 c)
  have hs := dA_size o.h
  have s1 : (dA { d with h := { d.h with state := 2 } }).size = 41 := dA_size (d := { d with h := { d.h with state := 2 } }) o1
  have S2 : Hid ((dA (d.setH (d.h.trap c))).size = 41) := dA_size (d := d.setH (d.h.trap c)) (o.h.trap c)
  have H1 : Hid ((dA (d.setH (d.h.trap c))).all (·.oneCell') = true) := one_dA (o.setH (o.h.trap c))
  generalize dA { d with h := { d.h with state := 2 } } = D1 at *
  generalize dA (d.setH (d.h.trap c)) = D2 at *
  generalize dA d = D0 at *
  clear o1 o
  go_enter Try.func28, Try.ntmps28
  go_wp2_with (first
    | (refine wpList_load_row rfl 65 _ rfl _ rfl _ _ _ _ (heap_alloc2_old w _ _) Try.underlying65 rfl (by rw [S2.out]; exact iD) ?_)
    | (refine wpList_store_row rfl 65 _ _ rfl _ _ rfl rfl _ _ (heap_alloc2_new w _ _) (by rw [S2.out]; exact iD) (by rw [S2.out]; rfl) H1.out ?_))
  refine bodyPost_ret (v := .agg D2) (results_cell_row rfl _ _ _ _ _ (0, 0) _ rfl (heap_setRow2 w _ _ _ _) Try.underlying65 rfl (by rw [S2.out]; exact iD)) rfl ⟨rfl, ?_⟩
  exact gr_setRow (((Gr.refl _).alloc _).alloc _) (Nat.le_succ _) _

set_option maxHeartbeats 400000 in
theorem set_any (o : d.Ok) (r x : Int) (w : World) (h0 : 0 ≤ r) (h1 : r < 32) (hx0 : 0 ≤ x) (hx1 : x < 4294967296) :
    Calls Try.prog 32 #[.agg (dA d), .int .i64 r, .int .u32 x] w fun e w' => e = .returned (.agg (dA (d.setH (d.h.set r.toNat x)))) ∧ Gr w w' := by
  have hs := dA_size o.h
  have S2 : Hid ((dA (d.setH (d.h.set r.toNat x))).size = 41) := dA_size (d := d.setH (d.h.set r.toNat x)) (o.h.set _ hx0 hx1)
  have H1 : Hid ((dA (d.setH (d.h.set r.toNat x))).all (·.oneCell') = true) := one_dA (o.setH (o.h.set _ hx0 hx1))
  obtain ⟨r, rfl⟩ := Int.eq_ofNat_of_zero_le h0
  simp only [Int.toNat_natCast] at *
  by_cases hr : r = 0
  · subst hr
    have e : d.setH (d.h.set 0 x) = d := rfl
    rw [e] at S2 H1 ⊢
    generalize dA d = D2 at *
    clear o e
    go_enter Try.func32, Try.ntmps32
    go_wp2_with (first
      | (refine wpList_load_row rfl 65 _ rfl _ rfl _ _ _ _ (heap_alloc2_old w _ _) Try.underlying65 rfl (by rw [S2.out]; exact iD) ?_)
      | (refine wpList_store_row rfl 65 _ _ rfl _ _ rfl rfl _ _ (heap_alloc2_new w _ _) (by rw [S2.out]; exact iD) (by rw [S2.out]; rfl) H1.out ?_))
    refine bodyPost_ret (v := .agg D2) (results_cell_row rfl _ _ _ _ _ (0, 0) _ rfl (heap_setRow2 w _ _ _ _) Try.underlying65 rfl (by rw [S2.out]; exact iD)) rfl ⟨rfl, ?_⟩
    exact gr_setRow (((Gr.refl _).alloc _).alloc _) (Nat.le_succ _) _
  · have e1 : (dA d).setIfInBounds r (.int .u32 x) = dA (d.setH (d.h.set r x)) := by
      have : d.h.set r x = { d.h with regs := d.h.regs.set r x } := if_neg hr
      rw [this]
      exact dA_set o.h (by omega) (set_reg o.h (by omega) x)
    have hr' : ¬ (r : Int) = 0 := by omega
    have hr2 : r < 32 := by omega
    have hget : (dA d)[r]? = some (.int .u32 (rg d.h r)) := by rw [dA_get o.h (by omega)]; exact hL_reg o.h hr2
    generalize rg d.h r = y at *
    generalize dA (d.setH (d.h.set r x)) = D2 at *
    generalize dA d = D0 at *
    clear o
    clear hs
    go_enter Try.func32, Try.ntmps32
    go_wp2_with (first
      | (refine wpList_load_row rfl 65 _ rfl _ rfl _ _ _ _ (heap_alloc2_old w _ _) Try.underlying65 rfl (by rw [S2.out]; exact iD) ?_)
      | (refine wpList_store_row rfl 65 _ _ rfl _ _ rfl rfl _ _ (heap_alloc2_new w _ _) (by rw [S2.out]; exact iD) (by rw [S2.out]; rfl) H1.out ?_))
    refine bodyPost_ret (v := .agg D2) (results_cell_row rfl _ _ _ _ _ (0, 0) _ rfl (heap_setRow2 w _ _ _ _) Try.underlying65 rfl (by rw [S2.out]; exact iD)) rfl ⟨rfl, ?_⟩
    exact gr_setRow (((Gr.refl _).alloc _).alloc _) (Nat.le_succ _) _
end Go.Proofs.Ytphklaefhpoimac.Hr
/-
  What ferrybridgeref4.store returns: the struct with the memory stored in, or as it was; and nothing old in memory turns.
-/
namespace Go.Proofs.Ytphklaefhpoimac.Hr
open Go.ChangeShapes Go.WideShapes Go.ChangeAt Go.RowKit Mm Hh
set_option linter.unusedVariables false
set_option linter.unusedSimpArgs false

variable {d : Dv} {w w' : World} {ao : Option Addr} {n cap : Nat} {l : List UInt8}
theorem dA_setM (o : d.Ok) (m : Value) (a k : Int) : (((dA d).setIfInBounds 37 m).setIfInBounds 39 (.int .u32 a)).setIfInBounds 40 (.int .i64 k) = dA (d.setM m a k) := by
  have := hL_len o.h
  unfold dA Dv.setM
  simp only [List.setIfInBounds_toArray]
  rw [List.set_append_right _ _ (by omega), List.set_append_right _ _ (by omega), List.set_append_right _ _ (by omega), this]
  rfl
theorem results_cell_tmp' {P : Program} {fn : Func} {p t : Tmp} {ty : TypeId} (h : fn.results = #[.cell p ty, .tmp t]) (tmps : Array Value) (w : World) (g : Nat) (tt : TypeId) (cs : Array Value) (fr : Nat × Nat) (d : TypeDesc)
    (v : Value) (hp : tmps.getD p undef = .pointer (some ⟨g, 0, none⟩)) (hv : tmps.getD t undef = v) (hg : w.heap[g]? = some (.cells cs tt fr))
    (hu : P.underlying ty = some d) (hd : (match d with | .struct _ | .array _ _ => true | _ => false) = true) (hi : (P.info? ty).map (·.size) = some cs.size) :
    (results fn tmps).run P w = .ok (.tuple #[.agg cs, v]) w := by
  subst hv
  have hp' : tmps[p]?.getD undef = .pointer (some ⟨g, 0, none⟩) := by simpa using hp
  simp [results, h, hp', asAddr, run_loadVar_row w g tt ty cs fr d hg hu hd hi]
theorem heap_of_gr (g : Gr w w') {k : Nat} {x : Obj} (h : w.heap[k]? = some x) : w'.heap[k]? = some x := by
  rw [Below.block g k (gs h).1]; exact h
/-- Two blocks made one behind the other, in every later world. -/
theorem two_blocks {A : Array Value} {t : Nat} {Z : Array Value} (g : Gr ((w.alloc (.cells A t)).alloc (.cells Z t)) w') (hz : Z.size = 41) :
    w'.heap[w.heap.size]? = some (.cells A t (0, 0)) ∧ ∃ Z : Array Value, Z.size = 41 ∧ w'.heap[w.heap.size + 1]? = some (.cells Z t (0, 0)) :=
  ⟨heap_of_gr g (heap_alloc2_old w _ _), Z, hz, heap_of_gr g (heap_alloc2_new w _ _)⟩

set_option maxHeartbeats 1000000 in
theorem store_no (o : d.Ok) (hm : d.m = .slice ao n cap) (op a x : Int) (M : Mem w ao n l) (hn : n ≤ 140737488351232) (h0 : 0 ≤ a) (h1 : a < 4294967296) (hx0 : 0 ≤ x) (hx1 : x < 4294967296) (ok : stOk l op a = false) :
    Calls Try.prog 34 #[.agg (dA d), .int .i64 op, .int .u32 a, .int .u32 x] w fun e w' => e = .returned (.tuple #[.agg (dA d), .bool false]) ∧ Gr w w' := by
  have S : Hid (∀ W : World, Gr w W → Calls Try.prog 44 #[.slice ao n cap, .int .i64 op, .int .u32 a, .int .u32 x] W fun e w' => ∃ ao' n' cap', e = .returned (.tuple #[.slice ao' n' cap', .bool false]) ∧ Mem w' ao' n' (stL l op a x) ∧ Gr W w') := fun W G => by
    have := Mr.Store_any cap op a x (M.of G) hn h0 h1 hx0 hx1
    rwa [ok] at this
  have g37 : (dA d)[37]? = some (.slice ao n cap) := by rw [dA_fld o.h 0]; simp [hm]
  have hs : Hid ((dA d).size = 41) := dA_size o.h
  have H1 : Hid ((dA d).all (·.oneCell') = true) := one_dA o
  generalize dA d = D0 at *
  clear M hm ok o
  go_enter Try.func34, Try.ntmps34
  go_wp2_with fail
  refine (S.out _ (((Gr.refl _).alloc _).alloc _)).mono ?_
  rintro e w1 ⟨a1, n1, c1, rfl, M1, G1⟩
  obtain ⟨hB, Z, hz, hR⟩ := two_blocks G1 rfl
  have HG : Hid (Gr w w1) := (((Gr.refl _).alloc _).alloc _).trans G1
  have HB : Hid _ := hB
  have HR : Hid _ := hR
  clear M1 G1 S hB hR
  go_wp2_with (first
    | (refine wpList_load_row rfl 65 _ rfl _ rfl _ _ _ _ HB.out Try.underlying65 rfl (by rw [hs.out]; exact iD) ?_)
    | (refine wpList_store_row rfl 65 _ _ rfl _ _ rfl rfl _ _ HR.out (by rw [hs.out]; exact iD) (by rw [hs.out, hz]) H1.out ?_))
  refine bodyPost_ret (v := .tuple #[.agg D0, .bool false]) (results_cell_tmp' Try.results34 _ _ _ _ _ (0, 0) _ _ rfl rfl (srh HR.out) Try.underlying65 rfl (by rw [hs.out]; exact iD)) rfl ⟨rfl, ?_⟩
  exact gr_setRow HG.out (Nat.le_succ _) _

set_option maxHeartbeats 1000000 in
theorem store_yes {d : Dv} (o : d.Ok) {ao : Option Addr} {n cap : Nat} {l : List UInt8} (hm : d.m = .slice ao n cap) (op a x : Int) {w : World} (M : Mem w ao n l) (hn : n ≤ 140737488351232) (h0 : 0 ≤ a) (h1 : a < 4294967296) (hx0 : 0 ≤ x) (hx1 : x < 4294967296) (ok : stOk l op a = true) :
    Calls Try.prog 34 #[.agg (dA d), .int .i64 op, .int .u32 a, .int .u32 x] w fun e w' => ∃ ao' n' cap', e = .returned (.tuple #[.agg (dA (d.setM (.slice ao' n' cap') a (ssz op : Nat))), .bool true]) ∧ Mem w' ao' n' (stL l op a x) ∧ Gr w w' ∧ ∀ ad, ao' = some ad → w.heap.size ≤ ad.block ∧ n' ≤ cap' := by
  have S : Hid (∀ W : World, Gr w W → Calls Try.prog 44 #[.slice ao n cap, .int .i64 op, .int .u32 a, .int .u32 x] W fun e w' => ∃ ao' n' cap', e = .returned (.tuple #[.slice ao' n' cap', .bool true]) ∧ Mem w' ao' n' (stL l op a x) ∧ Gr W w' ∧ ∀ ad, ao' = some ad → W.heap.size ≤ ad.block ∧ n' ≤ cap') := fun W G => by
    have := Mr.Store_new cap op a x (M.of G) hn h0 h1 hx0 hx1
    rwa [ok] at this
  have g37 : (dA d)[37]? = some (.slice ao n cap) := by rw [dA_fld o.h 0]; simp [hm]
  have g39 : (dA d)[39]? = some (.int .u32 d.fro) := by rw [dA_fld o.h 2]; rfl
  have g40 : (dA d)[40]? = some (.int .i64 d.many) := by rw [dA_fld o.h 3]; rfl
  have hs : Hid ((dA d).size = 41) := dA_size o.h
  have E : Hid (∀ (a1 : Option Addr) (n1 c1 : Nat), (((dA d).setIfInBounds 37 (.slice a1 n1 c1)).setIfInBounds 39 (.int .u32 a)).setIfInBounds 40 (.int .i64 (ssz op : Nat)) = dA (d.setM (.slice a1 n1 c1) a (ssz op : Nat))) := fun a1 n1 c1 => dA_setM o _ _ _
  have SE : Hid (∀ (a1 : Option Addr) (n1 c1 : Nat), (dA (d.setM (.slice a1 n1 c1) a (ssz op : Nat))).size = 41) := fun a1 n1 c1 => dA_size (d := d.setM _ _ _) o.h
  have H1 : Hid (∀ (a1 : Option Addr) (n1 c1 : Nat), (dA (d.setM (.slice a1 n1 c1) a (ssz op : Nat))).all (·.oneCell') = true) := fun a1 n1 c1 => one_dA ⟨o.h, rfl, o.out⟩
  generalize d.fro = y1 at *
  generalize d.many = y2 at *
  generalize dA d = D0 at *
  clear M hm ok o
  go_enter Try.func34, Try.ntmps34
  go_wp2_with fail
  refine (S.out _ (((Gr.refl _).alloc _).alloc _)).mono ?_
  rintro e w1 ⟨a1, n1, c1, rfl, M1, G1, F1⟩
  have HF : Hid (∀ ad, a1 = some ad → w.heap.size + 1 < ad.block ∧ n1 ≤ c1) := fun ad q => by have := F1 ad q; simp at this; omega
  obtain ⟨hB, Z, hz, hR⟩ := two_blocks G1 rfl
  have HG : Hid (Gr w w1) := (((Gr.refl _).alloc _).alloc _).trans G1
  have HM : Hid (Mem w1 a1 n1 (stL l op a x)) := M1
  have c37 : w1.cell? ⟨w.heap.size, 37, none⟩ = some (.slice ao n cap) := by rw [cell_of_row _ _ _ _ _ _ hB]; exact g37
  have c39 : w1.cell? ⟨w.heap.size, 39, none⟩ = some (.int .u32 y1) := by rw [cell_of_row _ _ _ _ _ _ hB]; exact g39
  have c40 : w1.cell? ⟨w.heap.size, 40, none⟩ = some (.int .i64 y2) := by rw [cell_of_row _ _ _ _ _ _ hB]; exact g40
  have fz : ∀ j, w1.frozen? ⟨w.heap.size, j, none⟩ = false := fun j => frozen_of_row _ _ j _ _ hB
  have hSE := SE.out a1 n1 c1
  have hE := E.out a1 n1 c1
  have hH := H1.out a1 n1 c1
  clear SE E H1
  generalize hD : dA (d.setM (.slice a1 n1 c1) a (ssz op : Nat)) = D2 at *
  have HD : Hid (dA (d.setM (.slice a1 n1 c1) a (ssz op : Nat)) = D2) := hD
  clear hD F1
  have HB : Hid ((((w1.setCell ⟨w.heap.size, 37, none⟩ (.slice a1 n1 c1)).setCell ⟨w.heap.size, 39, none⟩ (.int .u32 a)).setCell ⟨w.heap.size, 40, none⟩ (.int .i64 (ssz op : Nat))).heap[w.heap.size]? = some (.cells D2 65 (0, 0))) := by
    rw [← hE]
    exact heap_setCell_same _ _ _ _ _ _ (heap_setCell_same _ _ _ _ _ _ (heap_setCell_same _ _ _ _ _ _ hB))
  have HR : Hid ((((w1.setCell ⟨w.heap.size, 37, none⟩ (.slice a1 n1 c1)).setCell ⟨w.heap.size, 39, none⟩ (.int .u32 a)).setCell ⟨w.heap.size, 40, none⟩ (.int .i64 (ssz op : Nat))).heap[w.heap.size + 1]? = some (.cells Z 65 (0, 0))) := by
    show _ = _
    rw [heap_setCell_other _ _ _ _ (by simp), heap_setCell_other _ _ _ _ (by simp), heap_setCell_other _ _ _ _ (by simp)]
    exact hR
  have HS : Hid (D2.size = 41) := hSE
  have HO : Hid (D2.all (·.oneCell') = true) := hH
  clear M1 G1 S hB hR hSE hE hH g37 g39 g40 hs
  go_wp2_with (first
    | (go_at_call 38; refine (Mr.Size_store _ _).mono ?_; rintro e w' ⟨rfl, rfl⟩)
    | (refine wpList_load_row rfl 65 _ rfl w.heap.size rfl 65 D2 (0, 0) _ ?hb1 Try.underlying65 rfl (by rw [HS.out]; exact iD) ?_; (case hb1 => exact HB.out))
    | (refine wpList_store_row rfl 65 _ _ rfl (w.heap.size + 1) D2 rfl rfl 65 Z ?hb2 (by rw [HS.out]; exact iD) (by rw [HS.out, hz]) HO.out ?_; (case hb2 => exact HR.out)))
  refine bodyPost_ret (v := .tuple #[.agg D2, .bool true]) (results_cell_tmp' Try.results34 _ _ _ _ _ (0, 0) _ _ rfl rfl (setRow_heap _ _ _ _ _ (0, 0) HR.out) Try.underlying65 rfl (by rw [HS.out]; exact iD)) rfl ⟨a1, n1, c1, by rw [HD.out], ?_, ?_, fun ad q => by have := HF.out ad q; omega⟩
  · refine HM.out.apart fun ad q => ?_
    have := HF.out ad q
    rw [setRow_other _ _ _ _ (by omega), heap_setCell_other _ _ _ _ (by simp; omega), heap_setCell_other _ _ _ _ (by simp; omega), heap_setCell_other _ _ _ _ (by simp; omega)]
  · exact gr_setRow (((HG.out.setCell (Nat.le_refl _) _).setCell (Nat.le_refl _) _).setCell (Nat.le_refl _) _) (Nat.le_succ _) _
end Go.Proofs.Ytphklaefhpoimac.Hr
/-
  What bytes.Clone, and package hart's NewCore, return.
-/
namespace Go.Proofs.Ytphklaefhpoimac.Hc
open Go.ChangeShapes Go.WideShapes Go.ChangeAt Go.RowKit Mm Hh
set_option linter.unusedVariables false
set_option linter.unusedSimpArgs false

theorem mem_bc {w w' : World} {ad : Addr} {n : Nat} {l : List UInt8} (M : Mem w (some ad) n l) (G : Gr w w') : ∀ j u, (bc l)[j]? = some u → w'.cell? (ad.add j) = some u := by
  intro j u hj
  obtain ⟨h1, rfl⟩ := bc_get hj
  have hl := M.len
  exact (M.of G).cell ad rfl j (by omega)
theorem own_of {w : World} {base n : Nat} {v : Value} {l : List UInt8} (hl : l.length = n) (h : w.ownsRow base 5 1 v n (bc l)) : Own w base v l := by
  subst hl
  obtain ⟨_, h⟩ := h
  rcases h with ⟨rfl, h0⟩ | ⟨g, cap, cur, rfl, hb, hg, hn, hm, hs, ht⟩
  · exact .inl ⟨rfl, List.eq_nil_of_length_eq_zero h0⟩
  · refine .inr ⟨g, cap, rfl, ⟨hb, hn⟩, cur.toList.drop (l.length * 1), ?_⟩
    rw [← ht, List.take_append_drop]
    exact hg
set_option maxHeartbeats 1000000 in
set_option maxRecDepth 100000 in
theorem Clone_any {w : World} {ao : Option Addr} {n cap : Nat} {l : List UInt8} (M : Mem w ao n l) (hcap : ao = none → cap = 0) (hn : n ≤ 140737488351232) :
    Calls Try.prog 9 #[.slice ao n cap] w fun e w' => ∃ v, e = .returned v ∧ Own w' w.heap.size v l ∧ Gr w w' := by
  have hl := M.len
  cases ao with
  | none =>
    obtain rfl := M.nil rfl
    obtain rfl := hcap rfl
    obtain rfl : l = [] := List.eq_nil_of_length_eq_zero hl
    clear M hcap
    have he : ∀ w : World, (binOp .eql 22 (.slice none 0 0) (.slice none 0 0)).run Try.prog w = .ok (.bool true) w := fun _ => by kernel_rfl
    go_enter Try.func9, Try.ntmps9
    go_wp2
    go_ret
    exact ⟨_, rfl, .inl ⟨rfl, rfl⟩, Gr.refl _⟩
  | some ad =>
    obtain ⟨i0, hi, hz0, hz1, hz2⟩ := info_parts info5
    have HM : Hid (Mem w (some ad) n l) := M
    have he : ∀ w : World, (binOp .eql 22 (.slice (some ad) n cap) (.slice none 0 0)).run Try.prog w = .ok (.bool false) w := fun _ => by kernel_rfl
    clear M hcap
    go_enter Try.func9, Try.ntmps9
    go_wp2_with (at_builtin; refine wpList_append_own _ rfl (.tmp 5) (.tmp 6) 22 rfl w.heap.size 5 i0 (.int .u8 0) 1 1 Try.underlying22 hi hz0 hz1 hz2 rfl (by decide) _ 0 [] rfl (World.ownsRow_made w #[] 0 (Nat.le_refl _) (by decide) rfl) ad n cap (bc l) rfl (by rw [bc_len, hl]; simp) (mem_bc HM.out ((Gr.refl _).alloc _)) (bc_one l) (by unfold maxLen; omega) (by omega) (by simp) ?_; intro v' w1 hown hgrow _; have HO : Hid (Own w1 w.heap.size v' l) := own_of hl (by simpa using hown); have HG : Hid (Gr w w1) := ((Gr.refl _).alloc _).grown hgrow (fun k e => Nat.le_of_eq (Option.some.inj e)); clear hown hgrow)
    go_ret
    exact ⟨_, rfl, HO.out, HG.out⟩

theorem two_of {w w' : World} {A Z : Array Value} {t u : Nat} (g : Gr ((w.alloc (.cells A t)).alloc (.cells Z u)) w') : w'.heap[w.heap.size]? = some (.cells A t (0, 0)) ∧ w'.heap[w.heap.size + 1]? = some (.cells Z u (0, 0)) :=
  ⟨Hr.heap_of_gr g (heap_alloc2_old w _ _), Hr.heap_of_gr g (heap_alloc2_new w _ _)⟩
theorem Own.cells {w : World} {base : Nat} {v : Value} {l : List UInt8} (h : Own w base v l) : v.cells = #[v] ∧ v.oneCell' = true := by
  rcases h with ⟨rfl, _⟩ | ⟨k, cap, rfl, _⟩ <;> exact ⟨rfl, rfl⟩
theorem Own.base {w w' : World} {b b' : Nat} {v : Value} {l : List UInt8} (h : Own w b v l) (hb : b' ≤ b) : Own w b' v l := by
  rcases h with h | ⟨k, cap, e, q, R⟩
  · exact .inl h
  · exact .inr ⟨k, cap, e, ⟨Nat.le_trans hb q.1, q.2⟩, R⟩
theorem range_of {w : World} {b : Nat} {h : Hv} {t : Nat} (e : w.heap[b]? = some (.cells (hA h) t (0, 0))) : w.rangeAt b 0 (hL h) := fun j v hv => by
  rw [Nat.zero_add, cell_of_row _ _ _ _ _ _ e]
  simpa [hA] using hv
end Go.Proofs.Ytphklaefhpoimac.Hc
/-
  What package machine's wrong and slices.Clone (of harts) answer.
-/
namespace Go.Proofs.Ytphklaefhpoimac.Mc
open Go.ChangeShapes Go.WideShapes Go.ChangeAt Go.RowKit Mm Hh Hc
set_option linter.unusedVariables false
set_option linter.unusedSimpArgs false

variable {hs : List Hv} {w : World} {n : Nat}
theorem owns_at {base e sz : Nat} {v : Value} {xs : List Value} (h : w.ownsRow base e sz v n xs) (hn : 1 ≤ n) : ∃ g cap, v = .slice (some ⟨g, 0, none⟩) n cap ∧ base ≤ g := by
  obtain ⟨_, h⟩ := h
  rcases h with ⟨_, h0⟩ | ⟨g, cap, cur, hv, hb, _⟩
  · omega
  · exact ⟨g, cap, hv, hb⟩
theorem infoH : (Try.prog.info? 39).map (fun i => (i.zero, i.size, i.bytes)) = some (some (.agg (hA h0)), 37, 160) := by kernel_rfl
set_option maxHeartbeats 1000000 in
set_option maxRecDepth 100000 in
/-- slices.Clone, of harts. -/
theorem HClone_any {ad : Addr} (cap : Nat) (H : Hs w (some ad) n hs) (hn1 : 1 ≤ n) (hn : n ≤ 4) :
    Calls Try.prog 10 #[.slice (some ad) n cap] w fun e w' => ∃ g c, e = .returned (.slice (some ⟨g, 0, none⟩) n c) ∧ w.heap.size ≤ g ∧ HRow w' g hs ∧ Gr w w' := by
  obtain ⟨i0, hi, hz0, hz1, hz2⟩ := info_parts infoH
  have HH : Hid _ := H
  have HL : Hid _ := H.len
  have HO : Hid _ := H.ok
  have he : ∀ w : World, (binOp .eql 23 (.slice (some ad) n cap) (.slice none 0 0)).run Try.prog w = .ok (.bool false) w := fun _ => by kernel_rfl
  clear H
  go_enter Try.func10, Try.ntmps10
  go_wp2_with (at_builtin; refine wpList_append_own _ rfl (.tmp 5) (.tmp 6) 23 rfl w.heap.size 39 i0 (.agg (hA h0)) 37 160 Try.underlying23 hi hz0 hz1 hz2 rfl (by decide) _ 0 [] rfl (World.ownsRow_made w #[] 0 (Nat.le_refl _) (by decide) rfl) ad n cap (hC hs) rfl (by rw [hC_len HO.out, HL.out]) (HH.out.of ((Gr.refl _).alloc _)).src (hC_one hs) (by unfold maxLen; omega) (by omega) (by simp) ?_; intro v' w1 hown hgrow _; have HOw : Hid (w1.ownsRow w.heap.size 39 37 v' n (hC hs)) := (by unfold Hid; simpa using hown); have HG : Hid (Gr w w1) := ((Gr.refl _).alloc _).grown hgrow (fun k e => Nat.le_of_eq (Option.some.inj e)); clear hown hgrow)
  obtain ⟨g, c, rfl, hg⟩ := owns_at HOw.out hn1
  have HR : Hid (HRow w1 g hs) := HRow.own HO.out HOw.out
  clear HOw
  go_ret
  exact ⟨g, c, rfl, hg, HR.out, HG.out⟩
end Go.Proofs.Ytphklaefhpoimac.Mc
/-
  A board of package machine, as cells of memory; what NewBoard answers.
-/
namespace Go.Proofs.Ytphklaefhpoimac.Mc
open Go.ChangeShapes Go.WideShapes Go.ChangeAt Go.RowKit Mm Hh Hc
set_option linter.unusedVariables false
set_option linter.unusedSimpArgs false

variable {ty : Nat} {rs : List Value}
theorem HRow.of {w w' : World} {g : Nat} {hs : List Hv} (r : HRow w g hs) (G : Gr w w') : HRow w' g hs := by
  obtain ⟨rest, e⟩ := r.row
  exact ⟨r.ok, rest, (G.block _ (gs e).1).trans e⟩
theorem own_gr {w w' : World} {base : Nat} {v : Value} {l : List UInt8} (h : Own w base v l) (G : Gr w w') : Own w' base v l :=
  h.to fun k o f e => G.block _ (gs e).1
/-- A board at the beginning of block g, which is of type ty (the cells behind the board: rs): its memory M, its harts in block gh, what came out O. -/
structure Bw (ty : Nat) (rs : List Value) (w : World) (base g : Nat) (M : Value) (gh hc : Nat) (O : Value) (s : Sh) : Prop where
  t1 : ty ≠ 5
  t2 : ty ≠ 36
  t3 : ty ≠ 39
  bg : base ≤ g
  blk : w.heap[g]? = some (.cells (M :: .slice (some ⟨gh, 0, none⟩) s.hs.length hc :: O :: .int .i64 s.steps :: rs).toArray ty (0, 0))
  mem : Own w 0 M s.m
  bh : base ≤ gh
  row : HRow w gh s.hs
  out : w.ownsRow base 36 1 O s.out.length (s.out.map (Value.int .u32))
def Bd (ty : Nat) (rs : List Value) (w : World) (base g : Nat) (s : Sh) : Prop := ∃ M gh hc O, Bw ty rs w base g M gh hc O s
theorem Bw.of {w w' : World} {base g : Nat} {M : Value} {gh hc : Nat} {O : Value} {s : Sh} (B : Bw ty rs w base g M gh hc O s) (G : Gr w w') : Bw ty rs w' base g M gh hc O s :=
  ⟨B.t1, B.t2, B.t3, B.bg, (G.block _ (gs B.blk).1).trans B.blk, own_gr B.mem G, B.bh, B.row.of G, owns_to B.out fun k o f e => G.block _ (gs e).1⟩
theorem Bd.of {w w' : World} {base g : Nat} {s : Sh} (B : Bd ty rs w base g s) (G : Gr w w') : Bd ty rs w' base g s := by
  obtain ⟨M, gh, hc, O, B⟩ := B
  exact ⟨M, gh, hc, O, B.of G⟩
section
variable {w : World} {base g gh hc : Nat} {M O : Value} {s : Sh}
theorem Bw.lt (B : Bw ty rs w base g M gh hc O s) : g < w.heap.size := (gs B.blk).1
theorem Bw.c0 (B : Bw ty rs w base g M gh hc O s) : w.cell? ⟨g, 0, none⟩ = some M := (cr B.blk).trans (by simp)
theorem Bw.c1 (B : Bw ty rs w base g M gh hc O s) : w.cell? ⟨g, 1, none⟩ = some (.slice (some ⟨gh, 0, none⟩) s.hs.length hc) := (cr B.blk).trans (by simp)
theorem Bw.c2 (B : Bw ty rs w base g M gh hc O s) : w.cell? ⟨g, 2, none⟩ = some O := (cr B.blk).trans (by simp)
theorem Bw.c3 (B : Bw ty rs w base g M gh hc O s) : w.cell? ⟨g, 3, none⟩ = some (.int .i64 s.steps) := (cr B.blk).trans (by simp)
theorem Bw.rest (B : Bw ty rs w base g M gh hc O s) (i : Nat) : w.cell? ⟨g, 4 + i, none⟩ = rs[i]? := (cr B.blk).trans (by rw [List.getElem?_toArray, Nat.add_comm]; rfl)
end

theorem one_bd (a b c : Option Addr) (n1 n2 n3 c1 c2 c3 : Nat) (x : Int) : (#[.slice a n1 c1, .slice b n2 c2, .slice c n3 c3, .int .i64 x] : Array Value).all (·.oneCell') = true := by
  refine all_oneCell_toArray ?_
  intro v hv
  simp only [List.mem_cons, List.not_mem_nil, or_false] at hv
  rcases hv with rfl | rfl | rfl | rfl <;> rfl
theorem clone_own {ma : Option Addr} {mc : Nat} {m : List UInt8} {w : World} {mn : Nat} (M : Mem w ma mn m) (hcap : ma = none → mc = 0) (hn : mn ≤ 4096) :
    Calls Try.prog 9 #[.slice ma mn mc] w fun e w' => ∃ a c, e = .returned (.slice a mn c) ∧ Own w' 0 (.slice a mn c) m ∧ Gr w w' :=
  (Clone_any M hcap (by omega)).mono fun e w' ⟨v, e1, e2, e3⟩ => by
    obtain ⟨a, c, rfl, _⟩ := e2.mem
    have := M.len
    rw [this] at e1 e2
    exact ⟨a, c, e1, e2.base (w' := w') (Nat.zero_le _), e3⟩
end Go.Proofs.Ytphklaefhpoimac.Mc
/-
  What the methods of package hart's core do: reserve, storeHeld, Atom, effect.
-/
namespace Go.Proofs.Ytphklaefhpoimac.Hc
open Go.ChangeShapes Go.WideShapes Go.ChangeAt Go.RowKit Mm Hh
set_option linter.unusedVariables false
set_option linter.unusedSimpArgs false

abbrev Ptr (g : Nat) : Value := .pointer (some ⟨g, 0, none⟩)
def ret2 (r : Option Int) : Value := .tuple #[.int .u32 (r.getD 0), .bool r.isSome]

end Go.Proofs.Ytphklaefhpoimac.Hc
/-
  What the method effect of package hart's core does, of every instruction.
-/
namespace Go.Proofs.Ytphklaefhpoimac.Hc
open Go.ChangeShapes Go.WideShapes Go.ChangeAt Go.RowKit Mm Hh
set_option linter.unusedVariables false
set_option linter.unusedSimpArgs false

variable {w : World} {base g : Nat} {h : Hv} {l : List UInt8} {os : List Int} {ss : List (Int × Int)}
theorem within_yes (n a b : Int) (w : World) (h : a ≤ n ∧ n ≤ b) : Calls Try.prog 26 #[.int .i64 n, .int .i64 a, .int .i64 b] w fun e w' => e = .returned (.bool true) ∧ w = w' := by
  have := within_any n a b w
  rw [show (decide (a ≤ n) && decide (n ≤ b)) = true by simp; omega] at this
  exact this.mono fun e w' h => ⟨h.1, h.2.symm⟩
theorem within_no (n a b : Int) (w : World) (h : ¬ (a ≤ n ∧ n ≤ b)) : Calls Try.prog 26 #[.int .i64 n, .int .i64 a, .int .i64 b] w fun e w' => e = .returned (.bool false) ∧ w = w' := by
  have := within_any n a b w
  rw [show (decide (a ≤ n) && decide (n ≤ b)) = false by simp; omega] at this
  exact this.mono fun e w' h => ⟨h.1, h.2.symm⟩
def opers : List Int := [0, 0, 0, 0, 0, 0, 0, 0, 0, 0, 0, 0, 0, 0, 0, 0, 0, 0, 0, 28, 31, 32, 33, 36, 37, 30, 34, 35]
end Go.Proofs.Ytphklaefhpoimac.Hc
/-
  What the methods do and Step of package hart's core do, of every instruction and every word.
-/
namespace Go.Proofs.Ytphklaefhpoimac.Hc
open Go.ChangeShapes Go.WideShapes Go.ChangeAt Go.RowKit Mm Hh
set_option linter.unusedVariables false
set_option linter.unusedSimpArgs false

end Go.Proofs.Ytphklaefhpoimac.Hc
/-
  A block as plain data: the words of its instructions ('blk').
-/
namespace Go.Proofs.Ytphklaefhpoimac.Bk
open Mm Hh
set_option linter.unusedVariables false

variable {l : List UInt8} {pc : Int} {n k : Nat}
/-- Why no instruction stands at pc: 1, no word; 2, none is; 0: one stands there. -/
def ftC (l : List UInt8) (pc : Int) : Int := if ldOk l 13 pc = true then (if Dc.dop (ldV l 13 pc) = 0 then 2 else 0) else 1
/-- Does a block end with it? -/
def lastOp (op : Int) : Bool := decide ((3 ≤ op ∧ op ≤ 10) ∨ op = 58 ∨ op = 59)
/-- The place of the k-th instruction. -/
def at4 (pc : Int) (k : Nat) : Int := Wd.lo (pc + 4 * k)
/-- The words of at most n instructions, from the k-th one on. -/
def blk (l : List UInt8) (pc : Int) : Nat → Nat → List Int
  | 0, _ => []
  | n + 1, k => if ftC l (at4 pc k) = 0 then ldV l 13 (at4 pc k) :: (if lastOp (Dc.dop (ldV l 13 (at4 pc k))) = true then [] else blk l pc n (k + 1)) else []
theorem at4_bd (pc : Int) (k : Nat) : 0 ≤ at4 pc k ∧ at4 pc k < 4294967296 := by unfold at4 Wd.lo; omega
theorem blk_stop (h : ¬ ftC l (at4 pc k) = 0) : blk l pc (n + 1) k = [] := by unfold blk; rw [if_neg h]
theorem blk_last (h : ftC l (at4 pc k) = 0) (hl : lastOp (Dc.dop (ldV l 13 (at4 pc k))) = true) : blk l pc (n + 1) k = [ldV l 13 (at4 pc k)] := by unfold blk; rw [if_pos h, if_pos hl]
theorem blk_on (h : ftC l (at4 pc k) = 0) (hl : lastOp (Dc.dop (ldV l 13 (at4 pc k))) = false) : blk l pc (n + 1) k = ldV l 13 (at4 pc k) :: blk l pc n (k + 1) := by
  rw [blk, if_pos h, if_neg (by simp [hl])]
theorem blk_zero (l : List UInt8) (pc : Int) (k : Nat) : blk l pc (16 - 16) k = [] := rfl
theorem ldV_no (h : ldOk l 13 pc = false) : ldV l 13 pc = 0 := by unfold ldV; rw [h]; rfl
theorem dop0 : Dc.dop 0 = 0 := by decide
end Go.Proofs.Ytphklaefhpoimac.Bk
/-
  A block as cells of memory ('blC').
-/
namespace Go.Proofs.Ytphklaefhpoimac.Bk
open Go.ChangeShapes Go.WideShapes Go.ChangeAt Go.RowKit Mm Hh
set_option linter.unusedVariables false

/-- An instruction's cells. -/
def insC (x : Int) : List Value := [.int .i64 (Dc.dop x), .int .i64 (Dc.rdF (Dc.frm (Dc.dop x)) x), .int .i64 (Dc.rs1F (Dc.frm (Dc.dop x)) x), .int .i64 (Dc.rs2F (Dc.frm (Dc.dop x)) x), .int .i32 (Dc.immF (Dc.frm (Dc.dop x)) x)]
theorem decV_insC (x : Int) : Dw.decV x = .agg (insC x).toArray := rfl
def blC (xs : List Int) : List Value := xs.flatMap insC
theorem blC_snoc (xs : List Int) (x : Int) : blC (xs ++ [x]) = blC xs ++ insC x := by simp [blC]
theorem blC_len (xs : List Int) : (blC xs).length = xs.length * 5 := by
  induction xs with
  | nil => rfl
  | cons p r ih => simp only [blC, List.flatMap_cons, List.length_append, List.length_cons] at ih ⊢; rw [ih]; simp [insC]; omega
theorem blC_get : ∀ (xs : List Int) (i j : Nat) (x : Int), xs[i]? = some x → j < 5 → (blC xs)[i * 5 + j]? = (insC x)[j]?
  | [], i, j, x, h, _ => by simp at h
  | p :: r, 0, j, x, h, hj => by
    simp at h; subst h
    show (insC p ++ blC r)[0 * 5 + j]? = _
    rw [Nat.zero_mul, Nat.zero_add, List.getElem?_append_left (by simpa [insC] using hj)]
  | p :: r, i + 1, j, x, h, hj => by
    have ih := blC_get r i j x (by simpa using h) hj
    show (insC p ++ blC r)[(i + 1) * 5 + j]? = _
    rw [List.getElem?_append_right (by simp [insC]; omega)]
    rw [show (i + 1) * 5 + j - (insC p).length = i * 5 + j by simp [insC]; omega]
    exact ih
theorem insC_one (x : Int) : ∀ u ∈ insC x, u.oneCell' = true := by
  intro u hu
  simp only [insC, List.mem_cons, List.not_mem_nil, or_false] at hu
  rcases hu with rfl | rfl | rfl | rfl | rfl <;> rfl
end Go.Proofs.Ytphklaefhpoimac.Bk
/-
  What package hart's Fetch answers: the instruction at a place, and 0; else an empty one, and why. Conditions: the place is from 0 to 2^32 - 1; the memory is one that a machine can hold; the tables of package decode hold what their initialisers lay.
-/
namespace Go.Proofs.Ytphklaefhpoimac.Hf
open Go.ChangeShapes Go.WideShapes Go.ChangeAt Go.RowKit Mm Hh
set_option linter.unusedVariables false
set_option linter.unusedSimpArgs false

theorem five_set {W : World} {g t : Nat} {z0 z1 z2 z3 z4 : Value} (h : W.heap[g]? = some (.cells #[z0, z1, z2, z3, z4] t (0, 0))) (a b c d e : Value) (o : Obj) :
    ((((((W.setCell ⟨g, 0, none⟩ a).setCell ⟨g, 1, none⟩ b).setCell ⟨g, 2, none⟩ c).setCell ⟨g, 3, none⟩ d).setCell ⟨g, 4, none⟩ e).alloc o).heap[g]? = some (.cells #[a, b, c, d, e] t (0, 0)) := by
  have h0 := heap_setCell_same W g 0 _ _ a h
  have h1 := heap_setCell_same _ g 1 _ _ b h0
  have h2 := heap_setCell_same _ g 2 _ _ c h1
  have h3 := heap_setCell_same _ g 3 _ _ d h2
  have h4 := heap_setCell_same _ g 4 _ _ e h3
  exact (((Gr.refl _).alloc o).block _ (gs h4).1).trans h4
theorem ins_one (x0 x1 x2 x3 x4 : Int) : (#[.int .i64 x0, .int .i64 x1, .int .i64 x2, .int .i64 x3, .int .i32 x4] : Array Value).all (·.oneCell') = true := by
  refine all_oneCell_toArray (cs := [.int .i64 x0, .int .i64 x1, .int .i64 x2, .int .i64 x3, .int .i32 x4]) ?_
  intro u hu
  simp only [List.mem_cons, List.not_mem_nil, or_false] at hu
  rcases hu with rfl | rfl | rfl | rfl | rfl <;> rfl
theorem iI : (Try.prog.info? 76).map (·.size) = some 5 := by kernel_rfl
theorem results_cell_tmp1 {P : Program} {fn : Func} {p t : Tmp} {ty : TypeId} (h : fn.results = #[.cell p ty, .tmp t]) (tmps : Array Value) (w : World) (g : Nat) (tt : TypeId) (cs : Array Value) (fr : Nat × Nat) (d : TypeDesc)
    (v : Value) (hp : tmps.getD p undef = .pointer (some ⟨g, 0, none⟩)) (hv : tmps.getD t undef = v) (hg : w.heap[g]? = some (.cells cs tt fr))
    (hu : P.underlying ty = some d) (hd : (match d with | .struct _ | .array _ _ => true | _ => false) = true) (hi : (P.info? ty).map (·.size) = some cs.size) :
    (results fn tmps).run P w = .ok (.tuple #[.agg cs, v]) w := by
  subst hv
  have hp' : tmps[p]?.getD undef = .pointer (some ⟨g, 0, none⟩) := by simpa using hp
  simp [results, h, hp', asAddr, run_loadVar_row w g tt ty cs fr d hg hu hd hi]
end Go.Proofs.Ytphklaefhpoimac.Hf
/-
  What the method Step of package hart's core does: one step ('stp'), of every hart and memory.
-/
namespace Go.Proofs.Ytphklaefhpoimac.Hc
open Go.ChangeShapes Go.WideShapes Go.ChangeAt Go.RowKit Mm Hh
set_option linter.unusedVariables false
set_option linter.unusedSimpArgs false

variable {w w' : World} {base g : Nat} {h : Hv} {l : List UInt8} {os : List Int} {ss : List (Int × Int)}
theorem rd_bd (f x : Int) : 0 ≤ Dc.rdF f x ∧ Dc.rdF f x < 32 := by unfold Dc.rdF; split <;> omega
theorem r1_bd (f x : Int) : 0 ≤ Dc.rs1F f x ∧ Dc.rs1F f x < 32 := by unfold Dc.rs1F; split <;> omega
theorem r2_bd (f x : Int) : 0 ≤ Dc.rs2F f x ∧ Dc.rs2F f x < 32 := by unfold Dc.rs2F; split <;> omega
theorem imm_bd {v : Int} (f : Int) (h0 : 0 ≤ v) (h1 : v < 4294967296) : -2147483648 ≤ Dc.immF f v ∧ Dc.immF f v < 2147483648 := by
  unfold Dc.immF Wd.sg Dc.sgn
  repeat' split
  all_goals omega
theorem ret_eq {v v' : Value} (h : v = v') : Ending.returned v = .returned v' := by rw [h]

theorem held_store_row {P : Program} {md : Region.Mode} {ops : Array Oper} {Q : Exit → Act → World → Prop} {S : World → Prop} {fuel i : Nat} {listed : Array Bool} {o : Oper} {a : Act} (hr : Region.ready md ops listed = [i]) (hoi : ops[i]? = some o) (hg : o.guard = none) (ty : TypeId) (x y : Operand) (ho : o.op = .store ty x y)
    (g : Nat) (cells : Array Value) (hx : a.eval x = .pointer (some ⟨g, 0, none⟩)) (hy : a.eval y = .agg cells) (t : TypeId) (old : Array Value) (hb : w.heap[g]? = some (.cells old t (0, 0))) (hi : (P.info? ty).map (·.size) = some cells.size) (hold : old.size = cells.size) (h1 : cells.all (·.oneCell') = true)
    (hS : S (w.setRow g cells)) (h : wpAnyH P md ops Q S fuel (listed.setIfInBounds i true) (a.put o.dst undef) (w.setRow g cells)) : wpAnyH P md ops Q S (fuel + 1) listed a w :=
  wpAnyH_ready hr (by simp) (AllReadyH.cons hoi (fun K hK => step_store hg ty x y ho g cells hx hy t old hb hi hold h1 (hK.out _ _ hS fun _ => h)) AllReadyH.nil)
theorem at_world {p : World → Prop} {x : World} (F : World → Prop) (hF : F x) (h : ∀ y, F y → p y) : p x := h x hF
theorem heap_gr (g : Gr w w') {k : Nat} {x : Obj} (h : w.heap[k]? = some x) : w'.heap[k]? = some x := by
  rw [Below.block g k (gs h).1]; exact h
/-- A step, by what stands at the hart's PC. -/
theorem stp_no (hc : ¬ Bk.ftC l h.pc = 0) : stp h l = ⟨h.trap (Bk.ftC l h.pc), l, [], []⟩ := by
  unfold stp Bk.ftC at *
  by_cases ok : ldOk l 13 h.pc = true
  · rw [if_pos ok] at hc ⊢
    rw [if_pos ok]
    by_cases hd : Dc.dop (ldV l 13 h.pc) = 0
    · rw [if_pos hd]; unfold insW; rw [if_pos hd]
    · rw [if_neg hd] at hc; exact absurd rfl hc
  · rw [if_neg ok, if_neg ok]
theorem stp_yes (hc : Bk.ftC l h.pc = 0) : stp h l = ins h l (Dc.dop (ldV l 13 h.pc)) (Dc.rdF (Dc.frm (Dc.dop (ldV l 13 h.pc))) (ldV l 13 h.pc)) (Dc.rs1F (Dc.frm (Dc.dop (ldV l 13 h.pc))) (ldV l 13 h.pc)) (Dc.rs2F (Dc.frm (Dc.dop (ldV l 13 h.pc))) (ldV l 13 h.pc)) (Dc.immF (Dc.frm (Dc.dop (ldV l 13 h.pc))) (ldV l 13 h.pc)) := by
  unfold stp
  unfold Bk.ftC at hc
  by_cases ok : ldOk l 13 h.pc = true
  · rw [if_pos ok] at hc ⊢
    by_cases hd : Dc.dop (ldV l 13 h.pc) = 0
    · rw [if_pos hd] at hc; omega
    · unfold insW; rw [if_neg hd]
  · rw [if_neg ok] at hc; omega
end Go.Proofs.Ytphklaefhpoimac.Hc
/-
  A hart that is handed in, opened.
-/
namespace Go.Proofs.Ytphklaefhpoimac.Hc
open Go.ChangeShapes Go.WideShapes Go.ChangeAt Go.RowKit Mm Hh
set_option linter.unusedVariables false
set_option linter.unusedSimpArgs false

variable {v : Value}
theorem c34 : Try.prog.cellsOf 39 = 37 := by kernel_rfl
theorem c32 : Try.prog.cellsOf 37 = 32 := by kernel_rfl
theorem c22 : Try.prog.cellsOf 36 = 1 := by kernel_rfl
theorem c4 : Try.prog.cellsOf 4 = 1 := by kernel_rfl
theorem c3 : Try.prog.cellsOf 3 = 1 := by kernel_rfl
theorem list6 {α : Type} {l : List α} (h : l.length = 6) : ∃ a b c d e f, l = [a, b, c, d, e, f] := by
  match l, h with
  | [a, b, c, d, e, f], _ => exact ⟨a, b, c, d, e, f, rfl⟩
theorem cut_one {l : List Value} {k : Nat} (h : (l.drop k).take 1 = [v]) : l[k]? = some v := by
  have := congrArg (fun x => x[0]?) h
  simpa using this
theorem u32_bd {n : Int} (h : (Lit.int .u32 n).wf = true) : 0 ≤ n ∧ n < 4294967296 := by
  have : 0 ≤ n ∧ n ≤ 4294967295 := by simpa [Lit.wf, IntKind.min, IntKind.max, IntKind.signed, IntKind.bits] using h
  omega
set_option maxRecDepth 100000 in
theorem open_hart {H : Type} {enc : TypeId × Value → H} {W : World} {base b0 : Nat} {sp : Nat → Bool} {held : Bool} {d : DataW H} {p : List MemPlace}
    (hv : Value.okWide Try.prog W .any base 39 v) (h : DataW.Trod enc Try.prog W b0 sp held 39 v d p) : ∃ hh : Hv, v = .agg (hA hh) ∧ hh.Ok := by
  obtain ⟨cs, rfl, hsz⟩ := okWide_struct Try.underlying39 hv
  rw [c34] at hsz
  obtain ⟨l⟩ := cs
  obtain ⟨fuel, hf⟩ := h
  obtain ⟨xs, m, rfl, hx, _, hlen, hel⟩ := DataW.trod_struct Try.underlying39 hf
  obtain ⟨y0, y1, y2, y3, y4, y5, rfl⟩ := list6 (l := xs) hlen
  clear hf hv hlen hx
  have k0 : DataW.trod enc Try.prog W b0 sp held m 37 ((l.drop 0).take (Try.prog.cellsOf 37)) = some y0 := hel 0 _ rfl
  have k1 : DataW.trod enc Try.prog W b0 sp held m 36 ((l.drop 32).take (Try.prog.cellsOf 36)) = some y1 := hel 1 _ rfl
  have k2 : DataW.trod enc Try.prog W b0 sp held m 4 ((l.drop 33).take (Try.prog.cellsOf 4)) = some y2 := hel 2 _ rfl
  have k3 : DataW.trod enc Try.prog W b0 sp held m 36 ((l.drop 34).take (Try.prog.cellsOf 36)) = some y3 := hel 3 _ rfl
  have k4 : DataW.trod enc Try.prog W b0 sp held m 3 ((l.drop 35).take (Try.prog.cellsOf 3)) = some y4 := hel 4 _ rfl
  have k5 : DataW.trod enc Try.prog W b0 sp held m 3 ((l.drop 36).take (Try.prog.cellsOf 3)) = some y5 := hel 5 _ rfl
  clear hel
  have hl : l.length = 37 := by simpa using hsz
  obtain ⟨pc, e1, _, w1⟩ := DataW.trod_int Try.underlying36 k1
  obtain ⟨hd, e2, _⟩ := DataW.trod_bool Try.underlying4 k2
  obtain ⟨ha, e3, _, w3⟩ := DataW.trod_int Try.underlying36 k3
  obtain ⟨st, e4, _, _⟩ := DataW.trod_int Try.underlying3 k4
  obtain ⟨ca, e5, _, _⟩ := DataW.trod_int Try.underlying3 k5
  obtain ⟨zs, m2, rfl, _, _, hzl, hze⟩ := DataW.trod_array Try.underlying37 k0
  clear k0 k1 k2 k3 k4 k5
  rw [c22] at e1 e3
  rw [c4] at e2
  rw [c3] at e4 e5
  have q1 := cut_one e1
  have q2 := cut_one e2
  have q3 := cut_one e3
  have q4 := cut_one e4
  have q5 := cut_one e5
  have qr : ∀ i, i < 32 → ∃ n, l[i]? = some (.int .u32 n) ∧ 0 ≤ n ∧ n < 4294967296 := fun i hi => by
    have ki := hze i hi
    rw [List.getElem?_eq_getElem (by omega)] at ki
    obtain ⟨n, en, _, wn⟩ := DataW.trod_int Try.underlying36 ki
    rw [c22, c32] at en
    refine ⟨n, ?_, u32_bd wn⟩
    have := congrArg (fun x => x[0]?) en
    simp only [List.getElem?_take, List.getElem?_drop] at this
    rw [if_pos (by omega), if_pos (by omega)] at this
    simpa using this
  clear hze e1 e2 e3 e4 e5
  have qn : ∀ i, i < 32 → l[i]? = some (.int .u32 (intOf (l.getD i undef))) ∧ 0 ≤ intOf (l.getD i undef) ∧ intOf (l.getD i undef) < 4294967296 := fun i hi => by
    obtain ⟨n, en, b⟩ := qr i hi
    simp only [List.getD, en, Option.getD_some, intOf]
    exact ⟨trivial, b⟩
  refine ⟨⟨(List.range 32).map fun i => intOf (l.getD i undef), pc, hd, ha, st, ca⟩, ?_, ?_⟩
  · have : l = hL ⟨(List.range 32).map fun i => intOf (l.getD i undef), pc, hd, ha, st, ca⟩ := by
      apply List.ext_getElem?
      intro i
      unfold hL
      by_cases hi : i < 32
      · rw [List.getElem?_append_left (by simpa using hi), (qn i hi).1]
        simp [hi]
      · rw [List.getElem?_append_right (by simp; omega)]
        simp only [List.length_map, List.length_range]
        by_cases h37 : i < 37
        · have : i = 32 ∨ i = 33 ∨ i = 34 ∨ i = 35 ∨ i = 36 := by omega
          rcases this with rfl | rfl | rfl | rfl | rfl
          · exact q1
          · exact q2
          · exact q3
          · exact q4
          · exact q5
        · rw [List.getElem?_eq_none (by omega), List.getElem?_eq_none (by simp; omega)]
    unfold hA
    rw [← this]
  · refine ⟨by simp, fun i => ?_, (u32_bd w1).1, (u32_bd w1).2, (u32_bd w3).1, (u32_bd w3).2⟩
    unfold rg
    simp only [List.getD, List.getElem?_map]
    by_cases hi : i < 32
    · rw [List.getElem?_eq_getElem (by simpa using hi)]
      simp only [List.getElem_range, Option.map_some, Option.getD_some]
      exact (qn i hi).2
    · rw [List.getElem?_eq_none (by simp; omega)]
      simp
end Go.Proofs.Ytphklaefhpoimac.Hc
/-
  What the condition on the package's tables gives.
-/
namespace Go.Proofs.Ytphklaefhpoimac.Hc
open Go.ChangeShapes Go.WideShapes Go.ChangeAt Go.RowKit Mm Hh
set_option linter.unusedVariables false
set_option linter.unusedSimpArgs false

def sizesL : List Int := [0, 0, 0, 0, 0, 0, 0, 0, 0, 0, 0, 0, 0, 0, 0, 0, 1, 2, 4]
def opersL : List Int := [0, 0, 0, 0, 0, 0, 0, 0, 0, 0, 0, 0, 0, 0, 0, 0, 0, 0, 0, 28, 31, 32, 33, 36, 37, 30, 34, 35]
end Go.Proofs.Ytphklaefhpoimac.Hc
/-
  What a hart of a board did, as the cells of a struct (api.Did); what Board's Work answers.
-/
namespace Go.Proofs.Ytphklaefhpoimac.Mc
open Go.ChangeShapes Go.WideShapes Go.ChangeAt Go.RowKit Mm Hh Hc
set_option linter.unusedVariables false
set_option linter.unusedSimpArgs false

/-- What a hart did: the hart, the memory, what came out, steps, where was stored (as slices). -/
structure Qv where
  h : Hv
  m : Value
  out : Value
  n : Int
  sto : Value
def qA (d : Qv) : Array Value := (hL d.h ++ [d.m, d.out, .int .i64 d.n, d.sto]).toArray
theorem qA_size {d : Qv} (o : d.h.Ok) : (qA d).size = 41 := by simp [qA, hL_len o]
theorem qA_get {d : Qv} (o : d.h.Ok) {i : Nat} (hi : i < 37) : (qA d)[i]? = (hL d.h)[i]? := by
  have := hL_len o
  unfold qA
  rw [List.getElem?_toArray, List.getElem?_append_left (by omega)]
theorem qA_fld {d : Qv} (o : d.h.Ok) (j : Nat) : (qA d)[37 + j]? = [d.m, d.out, .int .i64 d.n, d.sto][j]? := by
  unfold qA
  rw [List.getElem?_toArray, List.getElem?_append_right (by simp [hL_len o])]
  simp [hL_len o]
theorem one_qA {d : Qv} (h1 : d.m.oneCell' = true) (h2 : d.out.oneCell' = true) (h3 : d.sto.oneCell' = true) : (qA d).all (·.oneCell') = true := by
  refine all_oneCell_toArray ?_
  intro v hv
  simp only [hL, List.mem_append, List.mem_map, List.mem_cons, List.not_mem_nil, or_false] at hv
  rcases hv with (⟨n, _, rfl⟩ | rfl | rfl | rfl | rfl | rfl) | rfl | rfl | rfl | rfl <;> first | rfl | assumption
theorem fold_one (off : Nat) (v : Value) (cs : Array Value) : ((#[v] : Array Value).zipIdx.foldl (fun cs (x : Value × Nat) => cs.setIfInBounds (off + x.2) x.1) cs) = cs.setIfInBounds off v := rfl
theorem fold_hart {h : Hv} (o : h.Ok) (d : Qv) (od : d.h.Ok) : ((hA h).zipIdx.foldl (fun cs (x : Value × Nat) => cs.setIfInBounds (0 + x.2) x.1) (qA d)) = qA { d with h := h } := by
  have a1 := fold_set 0 (hA h) (qA d)
  have s1 := hA_size o
  have s2 := qA_size od
  apply Array.ext_getElem?
  intro k
  rw [a1.2 k]
  by_cases hk : k < 37
  · rw [if_pos (by omega), qA_get (d := { d with h := h }) o hk]
    simp [hA]
  · rw [if_neg (by omega)]
    obtain ⟨j, rfl⟩ : ∃ j, k = 37 + j := ⟨k - 37, by omega⟩
    rw [qA_fld od, qA_fld (d := { d with h := h }) o]
theorem qA_set {d : Qv} (o : d.h.Ok) (i : Nat) (v : Value) : (qA d).setIfInBounds (37 + i) v = (hL d.h ++ ([d.m, d.out, .int .i64 d.n, d.sto].set i v)).toArray := by
  have := hL_len o
  unfold qA
  simp only [List.setIfInBounds_toArray]
  rw [List.set_append_right _ _ (by omega), this, Nat.add_sub_cancel_left]
theorem built_five {P : Program} {t : TypeId} {it : TypeInfo} {z : Value} {fs : Array Field} {ps : List (Nat × Nat)} (hi : P.info? t = some it) (hu : P.underlying t = some (.struct fs)) (hz : it.zero = some z)
    (hp : fs.toList.mapM (fun f => (P.info? f.type).map fun i => (f.offset, i.size)) = some ps) {n : Nat} (p0 : ps.toArray[0]? = some (0, n)) (p1 : ps.toArray[1]? = some (n, 1)) (p2 : ps.toArray[2]? = some (n + 1, 1)) (p3 : ps.toArray[3]? = some (n + 2, 1)) (p4 : ps.toArray[4]? = some (n + 3, 1))
    (A : Array Value) (hA : A.size = n) (v1 v2 v3 v4 : Value) (h1 : v1.cells = #[v1]) (h2 : v2.cells = #[v2]) (h3 : v3.cells = #[v3]) (h4 : v4.cells = #[v4]) (hs : z.cells.size = n + 4) :
    P.built t [(0, .agg A), (1, v1), (2, v2), (3, v3), (4, v4)] = some ((((((A.zipIdx.foldl (fun cs (x : Value × Nat) => cs.setIfInBounds (0 + x.2) x.1) z.cells).setIfInBounds n v1).setIfInBounds (n + 1) v2).setIfInBounds (n + 2) v3).setIfInBounds (n + 3) v4)) := by
  unfold Program.built
  simp only [hi, hu, hz, hp]
  have a1 := (fold_set 0 A z.cells).1
  unfold Instr.fill
  simp only [p0]
  have e : (Value.agg A).cells = A := rfl
  rw [e, if_neg (by simp [hA]; omega)]
  unfold Instr.fill
  simp only [p1]
  rw [h1, if_neg (by rw [a1]; simp; omega), fold_one]
  unfold Instr.fill
  simp only [p2]
  rw [h2, if_neg (by rw [Array.size_setIfInBounds, a1]; simp; omega), fold_one]
  unfold Instr.fill
  simp only [p3]
  rw [h3, if_neg (by rw [Array.size_setIfInBounds, Array.size_setIfInBounds, a1]; simp; omega), fold_one]
  unfold Instr.fill
  simp only [p4]
  rw [h4, if_neg (by rw [Array.size_setIfInBounds, Array.size_setIfInBounds, Array.size_setIfInBounds, a1]; simp; omega), fold_one]
  unfold Instr.fill
  rfl
end Go.Proofs.Ytphklaefhpoimac.Mc
/-
  What Board's Work answers: what its hart does in so many steps ('wk').
-/
namespace Go.Proofs.Ytphklaefhpoimac.Mc
open Go.ChangeShapes Go.WideShapes Go.ChangeAt Go.RowKit Mm Hh Hc
set_option linter.unusedVariables false
set_option linter.unusedSimpArgs false

variable {ty : Nat} {rs : List Value}
theorem yieldsIf_build {P : Program} {ops : Array Oper} {S : World → Prop} {o : Oper} {a : Act} (hw : Region.wanted o (yielded ops a.tmps) = true) (t : TypeId) (parts : Array (Nat × Operand)) (ho : o.op = .build t parts)
    (cells : Array Value) (hf : P.built t (parts.map fun (i, x) => (i, a.eval x)).toList = some cells) : YieldsIf P ops S o (.agg cells) a :=
  .inl ⟨hw, fun w _ => by
    unfold execOp
    simp only [ho, Sem.run_bind, run_build w t _ _ hf, Result.andThen_ok]
    rfl⟩
theorem owns_cells {w : World} {base e sz n : Nat} {v : Value} {xs : List Value} (h : w.ownsRow base e sz v n xs) : v.cells = #[v] ∧ v.oneCell' = true ∧ ∃ a c, v = .slice a n c := by
  rcases h.2 with ⟨rfl, rfl⟩ | ⟨g, cap, _, rfl, _⟩
  · exact ⟨rfl, rfl, none, 0, rfl⟩
  · exact ⟨rfl, rfl, _, cap, rfl⟩
theorem heap3_new (w : World) (a b c : Obj) : (((w.alloc a).alloc b).alloc c).drew.heap[w.heap.size + 2]? = some c := by
  have := heap_alloc_new ((w.alloc a).alloc b) c
  have e : ((w.alloc a).alloc b).heap.size = w.heap.size + 2 := by simp
  rw [e] at this
  exact this
theorem heap3_gr (w : World) (a b c : Obj) : Gr w (((w.alloc a).alloc b).alloc c).drew := Gr.drew (Gr.alloc (Gr.alloc (Gr.alloc (Gr.refl _) _) _) _)
theorem heap3_old (w : World) (A : Array Value) (t : Nat) (b c : Obj) : (((w.alloc (.cells A t)).alloc b).alloc c).drew.heap[w.heap.size]? = some (.cells A t (0, 0)) := Hr.heap_of_gr (Gr.drew (Gr.alloc (Gr.refl _) _)) (heap_alloc2_old w _ _)
theorem heap3_mid (w : World) (a : Obj) (A : Array Value) (t : Nat) (c : Obj) : (((w.alloc a).alloc (.cells A t)).alloc c).drew.heap[w.heap.size + 1]? = some (.cells A t (0, 0)) := Hr.heap_of_gr (Gr.drew (Gr.alloc (Gr.refl _) _)) (heap_alloc2_new w _ _)
theorem Gr.toBelow {w w' : World} (h : Below w.heap.size w w') : Gr w w' := h
end Go.Proofs.Ytphklaefhpoimac.Mc
/-
  What Board's Lost answers: the harts that lose what they have reserved ('lostU').
-/
namespace Go.Proofs.Ytphklaefhpoimac.Mc
open Go.ChangeShapes Go.WideShapes Go.ChangeAt Go.RowKit Mm Hh Hc
set_option linter.unusedVariables false
set_option linter.unusedSimpArgs false

variable {ty : Nat} {rs : List Value}
def lsC (ls : List (Nat × Int)) : List Value := ls.flatMap fun q => [.int .i64 q.1, .int .u32 q.2]
theorem lsC_snoc (ls : List (Nat × Int)) (q : Nat × Int) : lsC (ls ++ [q]) = lsC ls ++ [.int .i64 q.1, .int .u32 q.2] := by simp [lsC]
theorem lsC_len (ls : List (Nat × Int)) : (lsC ls).length = ls.length * 2 := by
  induction ls with
  | nil => rfl
  | cons p r ih => simp only [lsC, List.flatMap_cons, List.length_append, List.length_cons, List.length_nil] at ih ⊢; omega
theorem lsC_get : ∀ (ls : List (Nat × Int)) (i : Nat) (q : Nat × Int), ls[i]? = some q → (lsC ls)[i * 2]? = some (.int .i64 q.1) ∧ (lsC ls)[i * 2 + 1]? = some (.int .u32 q.2)
  | [], i, q, h => by simp at h
  | p :: r, 0, q, h => by simp at h; subst h; exact ⟨rfl, rfl⟩
  | p :: r, i + 1, q, h => by
    have ih := lsC_get r i q (by simpa using h)
    have e : lsC (p :: r) = [.int .i64 p.1, .int .u32 p.2] ++ lsC r := rfl
    rw [e, List.getElem?_append_right (by simp; omega), List.getElem?_append_right (by simp; omega)]
    simp only [List.length_cons, List.length_nil]
    rw [show (i + 1) * 2 - (0 + 1 + 1) = i * 2 by omega, show (i + 1) * 2 + 1 - (0 + 1 + 1) = i * 2 + 1 by omega]
    exact ih
theorem two_lost (a b : Int) : ∀ u ∈ [Value.int .i64 a, Value.int .u32 b], u.oneCell' = true := by
  intro u hu
  simp only [List.mem_cons, List.not_mem_nil, or_false] at hu
  rcases hu with rfl | rfl <;> rfl
theorem infoL : (Try.prog.info? 55).map (fun i => (i.zero, i.size, i.bytes)) = some (some (.agg #[.int .i64 0, .int .u32 0]), 2, 16) := by kernel_rfl
end Go.Proofs.Ytphklaefhpoimac.Mc
