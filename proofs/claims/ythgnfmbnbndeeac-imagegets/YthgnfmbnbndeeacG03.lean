/-
  WordWalks, Hm1, Hk, Heq, Hw, Mb1, Ip: texts of ours that lie in one file.
-/
import Derived.Test.YthgnfmbnbndeeacRows
import Derived.Test.YthgnfmbnbndeeacG01
import Derived.WalkKit
import Derived.ProofKit
import Derived.OpenShut
import Derived.Test.YthgnfmbnbndeeacG02
import Derived.Great.BuildSlice
import Derived.ChangeKeysEq
import Derived.Laws.StructEq
/-
  What the functions of package word return, each for every two words: word.Alu returns 'Wd.alu', word.Holds 'Wd.holds', word.Amo 'Wd.amo', and nothing in memory turns. Conditions: the words are from 0 to 2^32 - 1.
-/
namespace Go.Proofs.Ythgnfmbnbndeeac.Ww
open Go.ChangeShapes Go.WideShapes Go.ChangeAt Go.RowKit
set_option linter.unusedVariables false

theorem ret_int {k : IntKind} {a b : Int} (h : a = b) : Ending.returned (.int k a) = .returned (.int k b) := by rw [h]
theorem ret_bool {a b : Bool} (h : a = b) : Ending.returned (.bool a) = .returned (.bool b) := by rw [h]
theorem wrap_u32' (n : Int) : IntKind.u32.wrap n = n % 4294967296 := by rfl
theorem ofInt32 (a : Nat) (ha : (a : Int) < 4294967296) : (BitVec.ofInt 32 (a : Int)).toNat = a := by
  rw [BitVec.ofInt_natCast, BitVec.toNat_ofNat]; exact Nat.mod_eq_of_lt (by omega)
theorem bits_and_u32 (a b : Int) (ha : 0 ≤ a) (ha' : a < 4294967296) (hb : 0 ≤ b) (hb' : b < 4294967296) : bits .and .u32 a b = Wd.band a b := by
  obtain ⟨a, rfl⟩ := Int.eq_ofNat_of_zero_le ha
  obtain ⟨b, rfl⟩ := Int.eq_ofNat_of_zero_le hb
  have hx : a &&& b < 2 ^ 32 := Nat.and_lt_two_pow _ (by omega)
  show IntKind.u32.wrap ((BitVec.ofInt 32 (a : Int) &&& BitVec.ofInt 32 (b : Int)).toNat : Int) = _
  rw [BitVec.toNat_and, ofInt32 a ha', ofInt32 b hb', wrap_u32']
  simp only [Wd.band, Int.toNat_natCast]
  omega
theorem bits_or_u32 (a b : Int) (ha : 0 ≤ a) (ha' : a < 4294967296) (hb : 0 ≤ b) (hb' : b < 4294967296) : bits .or .u32 a b = Wd.bor a b := by
  obtain ⟨a, rfl⟩ := Int.eq_ofNat_of_zero_le ha
  obtain ⟨b, rfl⟩ := Int.eq_ofNat_of_zero_le hb
  have hx : a ||| b < 2 ^ 32 := Nat.or_lt_two_pow (by omega) (by omega)
  show IntKind.u32.wrap ((BitVec.ofInt 32 (a : Int) ||| BitVec.ofInt 32 (b : Int)).toNat : Int) = _
  rw [BitVec.toNat_or, ofInt32 a ha', ofInt32 b hb', wrap_u32']
  simp only [Wd.bor, Int.toNat_natCast]
  omega
theorem bits_xor_u32 (a b : Int) (ha : 0 ≤ a) (ha' : a < 4294967296) (hb : 0 ≤ b) (hb' : b < 4294967296) : bits .xor .u32 a b = Wd.bxor a b := by
  obtain ⟨a, rfl⟩ := Int.eq_ofNat_of_zero_le ha
  obtain ⟨b, rfl⟩ := Int.eq_ofNat_of_zero_le hb
  have hx : a ^^^ b < 2 ^ 32 := Nat.xor_lt_two_pow (by omega) (by omega)
  show IntKind.u32.wrap ((BitVec.ofInt 32 (a : Int) ^^^ BitVec.ofInt 32 (b : Int)).toNat : Int) = _
  rw [BitVec.toNat_xor, ofInt32 a ha', ofInt32 b hb', wrap_u32']
  simp only [Wd.bxor, Int.toNat_natCast]
  omega
theorem wrap32_sg (a : Int) (ha : 0 ≤ a) (ha' : a < 4294967296) : wrap32 a = Wd.sg a := by
  unfold wrap32 Wd.sg; split <;> omega
theorem wrap32_lo (n : Int) : wrap32 n % 4294967296 = Wd.lo n := by
  unfold wrap32 Wd.lo; omega
theorem band_31 (a : Int) (ha : 0 ≤ a) : Wd.band a 31 = a % 32 := by
  unfold Wd.band
  have h : a.toNat &&& (31 : Int).toNat = a.toNat % 32 := Nat.and_two_pow_sub_one_eq_mod a.toNat 5
  rw [h]; omega
theorem upper_hi (a : Int) : IntKind.u64.wrap a / 4294967296 % 4294967296 = Wd.hi a := by
  rw [IntKind.wrap_u64]; unfold Wd.hi; omega

end Go.Proofs.Ythgnfmbnbndeeac.Ww
/-
  What the small functions and methods of package hart return, and what becomes of the core: within, May, Trap, Set, Load, next, of every hart; and ferrybridgeref4.May.
-/
namespace Go.Proofs.Ythgnfmbnbndeeac.Hc
open Go.ChangeShapes Go.WideShapes Go.ChangeAt Go.RowKit Mm Hh
set_option linter.unusedVariables false
set_option linter.unusedSimpArgs false

variable {h : Hv} {w : World} {base g : Nat} {l : List UInt8} {os : List Int} {ss : List (Int × Int)}
theorem within_any (n a b : Int) (w : World) : Calls Try.prog 43 #[.int .i64 n, .int .i64 a, .int .i64 b] w fun e w' => e = .returned (.bool (decide (a ≤ n) && decide (n ≤ b))) ∧ w' = w := by
  by_cases h1 : a ≤ n
  · by_cases h2 : n ≤ b
    · go_enter Try.func43, Try.ntmps43
      go_wp2
      go_ret
      exact ⟨ret_bool (by simp [h1, h2]), rfl⟩
    · go_enter Try.func43, Try.ntmps43
      go_wp2
      go_ret
      exact ⟨ret_bool (by simp [h1, h2]), rfl⟩
  · go_enter Try.func43, Try.ntmps43
    go_wp2
    go_ret
    exact ⟨ret_bool (by simp; omega), rfl⟩

theorem may_get (h : Hv) (o : h.Ok) : (hA h)[0]? = some (.int .u32 (rg h 0)) ∧ (hA h)[33]? = some (.bool h.held) ∧ (hA h)[34]? = some (.int .u32 h.heldAt) ∧ (hA h)[35]? = some (.int .i64 h.state) ∧ (hA h)[36]? = some (.int .i64 h.cause) := by
  unfold hA
  simp only [List.getElem?_toArray]
  exact ⟨hL_reg o (by omega), hL_fld o 1, hL_fld o 2, hL_fld o 3, hL_fld o 4⟩


set_option maxHeartbeats 1000000 in
theorem may_any {h : Hv} (o : h.Ok) (w : World) : Calls Try.prog 31 #[.agg (hA h)] w fun e w' => e = .returned (.bool (may h)) ∧ Gr w w' := by
  obtain ⟨c0, c1, c2, c3, c4⟩ := may_get h o
  have HM : Hid (may h = decide (rg h 0 = 0 ∧ (h.held = false → h.heldAt = 0) ∧ (((h.state = 0 ∨ h.state = 1) ∧ h.cause = 0) ∨ (h.state = 2 ∧ 1 ≤ h.cause ∧ h.cause ≤ 6)))) := rfl
  generalize may h = M at *
  generalize hA h = A at *
  generalize rg h 0 = x0 at *
  generalize h.held = x1 at *
  generalize h.heldAt = x2 at *
  generalize h.state = x3 at *
  generalize h.cause = x4 at *
  clear o
  cases x1
  all_goals
    go_enter Try.func31, Try.ntmps31
    go_wp2_with (go_at_call 43; refine (within_any _ _ _ _).mono ?_; rintro e w' ⟨rfl, rfl⟩)
    all_goals
      clear c0 c1 c2 c3 c4
      go_ret
      refine ⟨ret_bool ?_, (Gr.refl _).alloc _⟩
      rw [HM.out, Bool.eq_iff_iff]
      simp at *
      omega

set_option maxHeartbeats 1000000 in
theorem rmay_any {h : Hv} (o : h.Ok) (w : World) : Calls Try.prog 27 #[.agg (hA h)] w fun e w' => e = .returned (.bool (may h)) ∧ Gr w w' := by
  obtain ⟨c0, c1, c2, c3, c4⟩ := may_get h o
  have HM : Hid (may h = decide (rg h 0 = 0 ∧ (h.held = false → h.heldAt = 0) ∧ (((h.state = 0 ∨ h.state = 1) ∧ h.cause = 0) ∨ (h.state = 2 ∧ 1 ≤ h.cause ∧ h.cause ≤ 6)))) := rfl
  generalize may h = M at *
  generalize hA h = A at *
  generalize rg h 0 = x0 at *
  generalize h.held = x1 at *
  generalize h.heldAt = x2 at *
  generalize h.state = x3 at *
  generalize h.cause = x4 at *
  clear o
  cases x1
  all_goals
    go_enter Try.func27, Try.ntmps27
    go_wp2
    all_goals
      clear c0 c1 c2 c3 c4
      go_ret
      refine ⟨ret_bool ?_, (Gr.refl _).alloc _⟩
      rw [HM.out, Bool.eq_iff_iff]
      simp at *
      omega

theorem andNot1 (x : Int) (h0 : 0 ≤ x) (h1 : x < 4294967296) : bits .andNot .u32 x 1 = x - x % 2 := by
  obtain ⟨x, rfl⟩ := Int.eq_ofNat_of_zero_le h0
  show IntKind.u32.wrap ((BitVec.ofInt 32 (x : Int) &&& ~~~ BitVec.ofInt 32 1).toNat : Int) = _
  have e : (~~~ BitVec.ofInt 32 1).toNat = (2 ^ 31 - 1) * 2 ^ 1 := by decide
  rw [BitVec.toNat_and, ofInt32 x h1, e, Dc.nand_mask]
  show ((x / 2 ^ 1 % 2 ^ 31 * 2 ^ 1 : Nat) : Int) % 4294967296 = _
  omega
end Go.Proofs.Ythgnfmbnbndeeac.Hc
/-
  How a struct that begins with a hart and a slice is built; steps of a region that draws its order: a load, a build, a store of a whole struct.
-/
namespace Go.Proofs.Ythgnfmbnbndeeac.Hc
open Go.ChangeShapes Go.WideShapes Go.ChangeAt Go.RowKit Mm Hh
set_option linter.unusedVariables false
set_option linter.unusedSimpArgs false

variable {P : Program} {t : TypeId} {h : Hv} {ops : Array Oper} {o : Oper} {a : Act} {w : World} {K : Act → World → Prop} {Q : Exit → Act → World → Prop} {E : Prop}
theorem fold_set (off : Nat) (v cs : Array Value) : (v.zipIdx.foldl (fun cs (x : Value × Nat) => cs.setIfInBounds (off + x.2) x.1) cs).size = cs.size ∧
    ∀ k, (v.zipIdx.foldl (fun cs (x : Value × Nat) => cs.setIfInBounds (off + x.2) x.1) cs)[k]? = if off ≤ k ∧ k < off + v.size ∧ k < cs.size then v[k - off]? else cs[k]? := by
  have h := Great.foldl_set off v.toList 0 cs
  rw [← Array.foldl_toList, Array.toList_zipIdx]
  refine ⟨h.1, fun k => ?_⟩
  rw [h.2 k]
  simp
/-- A struct whose first field has n cells, and whose second field has one. -/
theorem built_two {it : TypeInfo} {z : Value} {fs : Array Field} {ps : List (Nat × Nat)} (hi : P.info? t = some it) (hu : P.underlying t = some (.struct fs)) (hz : it.zero = some z)
    (hp : fs.toList.mapM (fun f => (P.info? f.type).map fun i => (f.offset, i.size)) = some ps) {n : Nat} (p0 : ps.toArray[0]? = some (0, n)) (p1 : ps.toArray[1]? = some (n, 1)) (A : Array Value) (hA : A.size = n) (v : Value) (hv : v.cells = #[v]) (hs : n + 1 ≤ z.cells.size)
    (R : Array Value) (hR : R.size = z.cells.size) (h1 : ∀ k, k < n → R[k]? = A[k]?) (h2 : R[n]? = some v) (h3 : ∀ k, n < k → R[k]? = z.cells[k]?) : P.built t [(0, .agg A), (1, v)] = some R := by
  unfold Program.built
  simp only [hi, hu, hz, hp]
  have a1 := fold_set 0 A z.cells
  have a2 := fold_set n #[v] (A.zipIdx.foldl (fun cs (x : Value × Nat) => cs.setIfInBounds (0 + x.2) x.1) z.cells)
  unfold Instr.fill
  simp only [p0]
  have e : (Value.agg A).cells = A := rfl
  rw [e, if_neg (by simp [hA]; omega)]
  unfold Instr.fill
  simp only [p1]
  rw [hv, if_neg (by rw [a1.1]; simp; omega)]
  unfold Instr.fill
  congr 1
  apply Array.ext_getElem?
  intro k
  rw [a2.2 k, a1.2 k, a1.1]
  by_cases hk : k < n
  · rw [if_neg (by omega), if_pos (by omega), h1 k hk]; simp
  · by_cases hk2 : k = n
    · subst hk2
      rw [if_pos (by simp; omega), h2]; simp
    · rw [if_neg (by simp; omega), if_neg (by omega), h3 k (by omega)]
theorem info_zero {v : Value} (h : (P.info? t).bind (·.zero) = some v) : ∃ it, P.info? t = some it ∧ it.zero = some v := by
  cases hi : P.info? t with
  | none => simp [hi] at h
  | some it => exact ⟨it, rfl, by simpa [hi] using h⟩

/-- The empty hart. -/
def h0 : Hv := ⟨List.replicate 32 0, 0, false, 0, 0, 0⟩
theorem h0_ok : h0.Ok := ⟨rfl, fun i => by unfold rg h0; simp only [List.getD, List.getElem?_replicate]; split <;> simp, by decide, by decide, by decide, by decide⟩
def nilS : Value := .slice none 0 0
theorem one_cA (c : Cv) (h1 : c.m.oneCell' = true) (h2 : c.out.oneCell' = true) (h3 : c.sto.oneCell' = true) : (cA c).all (·.oneCell') = true := by
  refine all_oneCell_toArray ?_
  intro v hv
  simp only [hL, List.mem_append, List.mem_map, List.mem_cons, List.not_mem_nil, or_false] at hv
  rcases hv with (⟨n, _, rfl⟩ | rfl | rfl | rfl | rfl | rfl) | rfl | rfl | rfl <;> first | rfl | assumption
theorem zDid : (Try.prog.info? 81).bind (·.zero) = some (.agg (dA ⟨h0, nilS, nilS, 0, 0⟩)) := by kernel_rfl
theorem zHart : (Try.prog.info? 48).bind (·.zero) = some (.agg (hA h0)) := by kernel_rfl
theorem built_did (o : h.Ok) (v : Value) (hv : v.cells = #[v]) : Try.prog.built 81 [(0, .agg (hA h)), (1, v)] = some (dA ⟨h, v, nilS, 0, 0⟩) := by
  obtain ⟨it, hi, hz⟩ := info_zero zDid
  have hl := hL_len o
  have z := hL_len h0_ok
  refine built_two (n := 37) hi Try.underlying81 hz (ps := [(0, 37), (37, 1), (38, 1), (39, 1), (40, 1)]) (by kernel_rfl) rfl rfl (hA h) (hA_size o) v hv (by show 38 ≤ (dA _).size; rw [dA_size h0_ok]; omega) _ ?_ ?_ ?_ ?_
  · show (dA _).size = (dA _).size; rw [dA_size (d := ⟨h, v, nilS, 0, 0⟩) o, dA_size h0_ok]
  · intro k hk; rw [dA_get (d := ⟨h, v, nilS, 0, 0⟩) o hk]; simp [hA]
  · exact dA_fld (d := ⟨h, v, nilS, 0, 0⟩) o 0
  · intro k hk
    obtain ⟨j, rfl⟩ : ∃ j, k = 37 + (j + 1) := ⟨k - 38, by omega⟩
    show (dA _)[_]? = (dA _)[_]?
    rw [dA_fld (d := ⟨h, v, nilS, 0, 0⟩) o, dA_fld (d := ⟨h0, nilS, nilS, 0, 0⟩) h0_ok]
    rfl
theorem built_h0 : Try.prog.built 48 [] = some (hA h0) := by kernel_rfl
/-! Steps of a region that draws its order -/
theorem step_load (hg : o.guard = none) (ty : TypeId) (x : Operand) (ho : o.op = .load ty x)
    (b : Nat) (hx : a.eval x = .pointer (some ⟨b, 0, none⟩)) (cs : List Value) (d : TypeDesc) (hc : w.rangeAt b 0 cs) (hu : P.underlying ty = some d) (hd : d.isRow = true) (hi : (P.info? ty).map (·.size) = some cs.length)
    (h : K (a.put o.dst (.agg cs.toArray)) w) : if Region.wanted o (yielded ops a.tmps) = true then Oper.wp P o a w K Q else E := by
  rw [if_pos (by simp [Region.wanted, hg])]
  exact wp_load_mid ty x ho b 0 hx cs d hc hu hd hi h
theorem step_load_row (hgd : o.guard = none) (ty : TypeId) (x : Operand) (ho : o.op = .load ty x)
    (g : Nat) (hx : a.eval x = .pointer (some ⟨g, 0, none⟩)) (t : TypeId) (cs : Array Value) (fr : Nat × Nat) (d : TypeDesc) (hg : w.heap[g]? = some (.cells cs t fr))
    (hu : P.underlying ty = some d) (hd : (match d with | .struct _ | .array _ _ => true | _ => false) = true) (hi : (P.info? ty).map (·.size) = some cs.size)
    (h : K (a.put o.dst (.agg cs)) w) : if Region.wanted o (yielded ops a.tmps) = true then Oper.wp P o a w K Q else E := by
  rw [if_pos (by simp [Region.wanted, hgd])]
  exact wp_load_row ty x ho g hx t cs fr d hg hu hd hi h
theorem step_build (hg : o.guard = none) (t : TypeId) (parts : Array (Nat × Operand)) (ho : o.op = .build t parts)
    (cells : Array Value) (hf : P.built t (parts.map fun (i, x) => (i, a.eval x)).toList = some cells) (h : K (a.put o.dst (.agg cells)) w) : if Region.wanted o (yielded ops a.tmps) = true then Oper.wp P o a w K Q else E := by
  rw [if_pos (by simp [Region.wanted, hg])]
  unfold Oper.wp execOp
  simp only [ho, Sem.run_bind, run_build w t _ _ hf, Result.andThen_ok]
  exact h
theorem step_store (hg : o.guard = none) (ty : TypeId) (x y : Operand) (ho : o.op = .store ty x y)
    (g : Nat) (cells : Array Value) (hx : a.eval x = .pointer (some ⟨g, 0, none⟩)) (hy : a.eval y = .agg cells) (t : TypeId) (old : Array Value) (hb : w.heap[g]? = some (.cells old t (0, 0))) (hi : (P.info? ty).map (·.size) = some cells.size)
    (hold : old.size = cells.size) (h1 : cells.all (·.oneCell') = true) (h : K (a.put o.dst undef) (w.setRow g cells)) : if Region.wanted o (yielded ops a.tmps) = true then Oper.wp P o a w K Q else E := by
  rw [if_pos (by simp [Region.wanted, hg])]
  unfold Oper.wp execOp
  simp only [ho, hx, hy, Instr.storeAt, Instr.sureAddr, Sem.run_bind, Sem.run_pure, Result.andThen_ok, run_storeVar_row w g t ty old cells hb hi hold h1]
  exact h
end Go.Proofs.Ythgnfmbnbndeeac.Hc
/-
  Two harts that are the same compare as equal.
-/
namespace Go.Proofs.Ythgnfmbnbndeeac.Hc
open Go.ChangeShapes Go.WideShapes Go.ChangeAt Go.RowKit Mm Hh
set_option linter.unusedVariables false
set_option linter.unusedSimpArgs false

theorem list32 {l : List Int} (h : l.length = 32) : ∃ a0 a1 a2 a3 a4 a5 a6 a7 a8 a9 b0 b1 b2 b3 b4 b5 b6 b7 b8 b9 c0 c1 c2 c3 c4 c5 c6 c7 c8 c9 d0 d1, l = [a0, a1, a2, a3, a4, a5, a6, a7, a8, a9, b0, b1, b2, b3, b4, b5, b6, b7, b8, b9, c0, c1, c2, c3, c4, c5, c6, c7, c8, c9, d0, d1] := by
  match l, h with
  | [a0, a1, a2, a3, a4, a5, a6, a7, a8, a9, b0, b1, b2, b3, b4, b5, b6, b7, b8, b9, c0, c1, c2, c3, c4, c5, c6, c7, c8, c9, d0, d1], _ => exact ⟨_, _, _, _, _, _, _, _, _, _, _, _, _, _, _, _, _, _, _, _, _, _, _, _, _, _, _, _, _, _, _, _, rfl⟩
theorem eq_items (d : Nat) (w : World) (xs : Array Value) : ∀ is : List Nat, (∀ i ∈ is, ∃ a, xs[i * 1]? = some (.int .u32 a)) → (Op.eqItems (d + 1) 45 1 xs xs is).run Try.prog w = .ok true w
  | [], _ => by simp [Op.eqItems]
  | i :: is, h => by
    obtain ⟨a, ha⟩ := h i (by simp)
    have hp : Try.prog.plainKey 45 = true := by kernel_rfl
    have ih := eq_items d w xs is (fun j hj => h j (by simp [hj]))
    simp only [Op.eqItems, Sem.run_bind, run_part_plain w hp ha, Result.andThen_ok, run_equalIn_int w d 45 .u32 .u32 a a Try.underlying45, beq_self_eq_true, Bool.not_true, Bool.false_eq_true, if_false]
    exact ih
theorem eq_row (w : World) (xs : Array Value) (h : ∀ i, i < 32 → ∃ a, xs[i]? = some (.int .u32 a)) : (Op.equalIn 9999 46 (.agg xs) (.agg xs)).run Try.prog w = .ok true w := by
  obtain ⟨i0, hi, _, _, _⟩ := info_parts (by kernel_rfl : (Try.prog.info? 45).map (fun i => (i.zero, i.size, i.bytes)) = some (some (Value.int .u32 0), 1, 4))
  rw [run_equalIn_array w 9998 xs xs Try.underlying46 hi]
  rw [show Try.prog.cellsOf 45 = 1 by kernel_rfl]
  exact eq_items 9997 w xs _ (fun i hm => by rw [Nat.mul_one]; exact h i (List.mem_range.1 hm))
set_option maxRecDepth 100000 in
set_option maxHeartbeats 4000000 in
theorem eql_hart {h : Hv} (o : h.Ok) (w : World) : (binOp .eql 48 (.agg (hA h)) (.agg (hA h))).run Try.prog w = .ok (.bool true) w := by
  obtain ⟨a0, a1, a2, a3, a4, a5, a6, a7, a8, a9, b0, b1, b2, b3, b4, b5, b6, b7, b8, b9, c0, c1, c2, c3, c4, c5, c6, c7, c8, c9, d0, d1, e⟩ := list32 o.len
  obtain ⟨rs, pc, held, hat, st, cs⟩ := h
  subst e
  show (binOp .eql 48 (.agg #[.int .u32 a0, .int .u32 a1, .int .u32 a2, .int .u32 a3, .int .u32 a4, .int .u32 a5, .int .u32 a6, .int .u32 a7, .int .u32 a8, .int .u32 a9, .int .u32 b0, .int .u32 b1, .int .u32 b2, .int .u32 b3, .int .u32 b4, .int .u32 b5, .int .u32 b6, .int .u32 b7, .int .u32 b8, .int .u32 b9, .int .u32 c0, .int .u32 c1, .int .u32 c2, .int .u32 c3, .int .u32 c4, .int .u32 c5, .int .u32 c6, .int .u32 c7, .int .u32 c8, .int .u32 c9, .int .u32 d0, .int .u32 d1, .int .u32 pc, .bool held, .int .u32 hat, .int .i64 st, .int .i64 cs]) (.agg #[.int .u32 a0, .int .u32 a1, .int .u32 a2, .int .u32 a3, .int .u32 a4, .int .u32 a5, .int .u32 a6, .int .u32 a7, .int .u32 a8, .int .u32 a9, .int .u32 b0, .int .u32 b1, .int .u32 b2, .int .u32 b3, .int .u32 b4, .int .u32 b5, .int .u32 b6, .int .u32 b7, .int .u32 b8, .int .u32 b9, .int .u32 c0, .int .u32 c1, .int .u32 c2, .int .u32 c3, .int .u32 c4, .int .u32 c5, .int .u32 c6, .int .u32 c7, .int .u32 c8, .int .u32 c9, .int .u32 d0, .int .u32 d1, .int .u32 pc, .bool held, .int .u32 hat, .int .i64 st, .int .i64 cs])).run Try.prog w = .ok (.bool true) w
  have hr := eq_row w #[.int .u32 a0, .int .u32 a1, .int .u32 a2, .int .u32 a3, .int .u32 a4, .int .u32 a5, .int .u32 a6, .int .u32 a7, .int .u32 a8, .int .u32 a9, .int .u32 b0, .int .u32 b1, .int .u32 b2, .int .u32 b3, .int .u32 b4, .int .u32 b5, .int .u32 b6, .int .u32 b7, .int .u32 b8, .int .u32 b9, .int .u32 c0, .int .u32 c1, .int .u32 c2, .int .u32 c3, .int .u32 c4, .int .u32 c5, .int .u32 c6, .int .u32 c7, .int .u32 c8, .int .u32 c9, .int .u32 d0, .int .u32 d1] (fun i hi => by
    match i, hi with
    | 0, _ => exact ⟨_, rfl⟩
    | 1, _ => exact ⟨_, rfl⟩
    | 2, _ => exact ⟨_, rfl⟩
    | 3, _ => exact ⟨_, rfl⟩
    | 4, _ => exact ⟨_, rfl⟩
    | 5, _ => exact ⟨_, rfl⟩
    | 6, _ => exact ⟨_, rfl⟩
    | 7, _ => exact ⟨_, rfl⟩
    | 8, _ => exact ⟨_, rfl⟩
    | 9, _ => exact ⟨_, rfl⟩
    | 10, _ => exact ⟨_, rfl⟩
    | 11, _ => exact ⟨_, rfl⟩
    | 12, _ => exact ⟨_, rfl⟩
    | 13, _ => exact ⟨_, rfl⟩
    | 14, _ => exact ⟨_, rfl⟩
    | 15, _ => exact ⟨_, rfl⟩
    | 16, _ => exact ⟨_, rfl⟩
    | 17, _ => exact ⟨_, rfl⟩
    | 18, _ => exact ⟨_, rfl⟩
    | 19, _ => exact ⟨_, rfl⟩
    | 20, _ => exact ⟨_, rfl⟩
    | 21, _ => exact ⟨_, rfl⟩
    | 22, _ => exact ⟨_, rfl⟩
    | 23, _ => exact ⟨_, rfl⟩
    | 24, _ => exact ⟨_, rfl⟩
    | 25, _ => exact ⟨_, rfl⟩
    | 26, _ => exact ⟨_, rfl⟩
    | 27, _ => exact ⟨_, rfl⟩
    | 28, _ => exact ⟨_, rfl⟩
    | 29, _ => exact ⟨_, rfl⟩
    | 30, _ => exact ⟨_, rfl⟩
    | 31, _ => exact ⟨_, rfl⟩
    | n + 32, h => omega)
  go_simp
end Go.Proofs.Ythgnfmbnbndeeac.Hc
/-
  Words as slices; what ferrybridgeref4.Words answers of two that are the same; loads of whole structs behind a guard.
-/
namespace Go.Proofs.Ythgnfmbnbndeeac.Hc
open Go.ChangeShapes Go.WideShapes Go.ChangeAt Go.RowKit Mm Hh
set_option linter.unusedVariables false
set_option linter.unusedSimpArgs false

/-- In world w, the slice at ao of n elements reads as the words os. -/
structure Wm (w : World) (ao : Option Addr) (n : Nat) (os : List Int) : Prop where
  len : os.length = n
  nil : ao = none → n = 0
  cell : ∀ ad, ao = some ad → ∀ t, t < n → w.cell? (ad.add t) = some (.int .u32 (os.getD t 0))
theorem Wm.of {w w' : World} {ao : Option Addr} {n : Nat} {os : List Int} (h : Wm w ao n os) (g : Gr w w') : Wm w' ao n os :=
  ⟨h.len, h.nil, fun ad e t ht => (g.cell _ (World.block_lt_of_cell? w _ (h.cell ad e t ht))).trans (h.cell ad e t ht)⟩
theorem Wm.spot {w : World} {ao : Option Addr} {n : Nat} {os : List Int} (h : Wm w ao n os) (hn : 0 < n) :
    ∃ b o, ao = some ⟨b, o, none⟩ ∧ b < w.heap.size ∧ ∀ t, t < n → w.cell? ⟨b, o + t, none⟩ = some (.int .u32 (os.getD t 0)) := by
  cases ao with
  | none => exact absurd (h.nil rfl) (by omega)
  | some ad =>
    obtain ⟨b, o, s⟩ := ad
    have hs : s = none := by simpa [Addr.add] using World.cell?_spot (h.cell _ rfl 0 hn)
    subst hs
    have hb : b < w.heap.size := by simpa [Addr.add] using World.block_lt_of_cell? w _ (h.cell _ rfl 0 hn)
    exact ⟨b, o, rfl, hb, fun t ht => by rw [← add_at]; exact h.cell _ rfl t ht⟩
theorem wm_own {w : World} {base n : Nat} {v : Value} {os : List Int} (hl : os.length = n) (h : w.ownsRow base 45 1 v n (os.map (Value.int .u32))) : ∃ ao cap, v = .slice ao n cap ∧ Wm w ao n os := by
  obtain ⟨_, h⟩ := h
  rcases h with ⟨rfl, h0⟩ | ⟨g, cap, cur, rfl, hb, hg, hn, hm, hs, ht⟩
  · subst h0
    exact ⟨none, 0, rfl, hl, fun _ => rfl, fun ad e => (by cases e)⟩
  · refine ⟨_, cap, rfl, hl, fun e => (by cases e), fun ad e t htn => ?_⟩
    obtain rfl := Option.some.inj e
    rw [add_at, Nat.zero_add, cr hg]
    have h1 : (cur.toList.take (n * 1))[t]? = some (.int .u32 (os.getD t 0)) := by
      rw [ht, List.getElem?_map]
      simp [List.getD, List.getElem?_eq_getElem (show t < os.length by omega)]
    rw [List.getElem?_take_of_lt (by omega)] at h1
    simpa using h1

set_option maxHeartbeats 1000000 in
theorem Words_zero (a b : Option Addr) (c d : Nat) (w : World) : Calls Try.prog 37 #[.slice a 0 c, .slice b 0 d] w fun e w' => e = .returned (.bool true) ∧ Gr w w' := by
  go_enter Try.func37, Try.ntmps37
  go_wp2
  go_loopw [5] (fun i wr => i = .int .i64 0 ∧ wr = w) (fun _ _ => 0)
  case atStart => exact ⟨rfl, rfl⟩
  case round =>
    obtain ⟨rfl, rfl⟩ := hrel
    go_wp2
    go_ret
    exact ⟨rfl, Gr.refl _⟩
set_option maxHeartbeats 1000000 in
theorem Words_pos {w : World} {b1 o1 b2 o2 n : Nat} {os : List Int} (c d : Nat) (hn : n ≤ 1000000) (h1 : ∀ t, t < n → w.cell? ⟨b1, o1 + t, none⟩ = some (.int .u32 (os.getD t 0))) (h2 : ∀ t, t < n → w.cell? ⟨b2, o2 + t, none⟩ = some (.int .u32 (os.getD t 0))) :
    Calls Try.prog 37 #[.slice (some ⟨b1, o1, none⟩) n c, .slice (some ⟨b2, o2, none⟩) n d] w fun e w' => e = .returned (.bool true) ∧ Gr w w' := by
  have H1 : Hid _ := h1
  have H2 : Hid _ := h2
  clear h1 h2
  go_enter Try.func37, Try.ntmps37
  go_wp2
  go_loopw [5] (fun i wr => ∃ k : Nat, k ≤ n ∧ i = .int .i64 k ∧ ∃ m, wr = w.drewN m) (fun i _ => n - (intOf i).toNat)
  case atStart => exact ⟨0, Nat.zero_le _, rfl, 0, rfl⟩
  case round =>
    obtain ⟨k, hk, rfl, m, rfl⟩ := hrel
    by_cases hlt : k < n
    · have q1 := H1.out k hlt
      have q2 := H2.out k hlt
      generalize os.getD k 0 = y at *
      go_wp2_with fail
      go_quiet (fail)
      go_wp2_with fail
      go_roundw
      case rel => exact ⟨k + 1, by omega, by go_num, _, rfl⟩
      case measure => simp [intOf]; omega
    · go_wp2
      go_ret
      exact ⟨rfl, (Gr.refl _).drewN _⟩
/-- Words, of two that are the same. -/
theorem Words_same {w : World} {a b : Option Addr} {n : Nat} {os : List Int} (c d : Nat) (hn : n ≤ 1000000) (A : Wm w a n os) (B : Wm w b n os) : Calls Try.prog 37 #[.slice a n c, .slice b n d] w fun e w' => e = .returned (.bool true) ∧ Gr w w' := by
  by_cases h0 : n = 0
  · subst h0; exact Words_zero a b c d w
  · obtain ⟨b1, o1, rfl, _, h1⟩ := A.spot (by omega)
    obtain ⟨b2, o2, rfl, _, h2⟩ := B.spot (by omega)
    exact Words_pos c d hn h1 h2

/-! Behind a guard that holds -/
section
variable {P : Program} {ops : Array Oper} {rest : List Oper} {op : Oper} {a : Act} {w : World} {Q : Exit → Act → World → Prop}
theorem wpList_want (hw : Region.wanted op (yielded ops a.tmps) = true) (h : ∀ K : Act → World → Prop, (∀ a w, wpList P ops Q rest a w → K a w) → op.wp P a w K Q) : wpList P ops Q (op :: rest) a w :=
  wpList_step fun K hK => by rw [if_pos hw]; exact h K hK
theorem wpList_gload_row (hw : Region.wanted op (yielded ops a.tmps) = true) (ty : TypeId) (x : Operand) (ho : op.op = .load ty x)
    (g : Nat) (hx : a.eval x = .pointer (some ⟨g, 0, none⟩)) (t : TypeId) (cs : Array Value) (fr : Nat × Nat) (d : TypeDesc) (hg : w.heap[g]? = some (.cells cs t fr))
    (hu : P.underlying ty = some d) (hd : (match d with | .struct _ | .array _ _ => true | _ => false) = true) (hi : (P.info? ty).map (·.size) = some cs.size)
    (h : wpList P ops Q rest (a.put op.dst (.agg cs)) w) : wpList P ops Q (op :: rest) a w :=
  wpList_want hw fun _ hK => wp_load_row ty x ho g hx t cs fr d hg hu hd hi (hK _ _ h)
theorem wpList_gload_mid (hw : Region.wanted op (yielded ops a.tmps) = true) (ty : TypeId) (x : Operand) (ho : op.op = .load ty x)
    (b o : Nat) (hx : a.eval x = .pointer (some ⟨b, o, none⟩)) (cs : List Value) (d : TypeDesc) (hc : w.rangeAt b o cs)
    (hu : P.underlying ty = some d) (hd : d.isRow = true) (hi : (P.info? ty).map (·.size) = some cs.length)
    (h : wpList P ops Q rest (a.put op.dst (.agg cs.toArray)) w) : wpList P ops Q (op :: rest) a w :=
  wpList_want hw fun _ hK => wp_load_mid ty x ho b o hx cs d hc hu hd hi (hK _ _ h)
end
end Go.Proofs.Ythgnfmbnbndeeac.Hc
/-
  What package machine's meets, May and wrong answer, of every machine and script.
-/
namespace Go.Proofs.Ythgnfmbnbndeeac.Mc
open Go.ChangeShapes Go.WideShapes Go.ChangeAt Go.RowKit Mm Hh Hc
set_option linter.unusedVariables false
set_option linter.unusedSimpArgs false

theorem ret_bool {a b : Bool} (h : a = b) : Ending.returned (.bool a) = .returned (.bool b) := by rw [h]
/-- A machine of mn bytes and the harts hs may be. -/
def mayM (mn : Nat) (hs : List Hv) : Bool := decide (mn ≤ 4096 ∧ 1 ≤ hs.length ∧ hs.length ≤ 4) && hs.all may
theorem wrong_may (m : List UInt8) (hs : List Hv) (ps : List (Int × Int)) : wrong m hs ps = if mayM m.length hs = false then 2 else if 300 < ps.length then 1 else if ps.all (pickOk hs.length) = false then 3 else 0 := by
  unfold wrong mayM
  by_cases h : 4096 < m.length ∨ hs.length < 1 ∨ 4 < hs.length
  · rw [if_pos h, if_pos]; rw [decide_eq_false (by omega)]; rfl
  · rw [if_neg h, decide_eq_true (show m.length ≤ 4096 ∧ 1 ≤ hs.length ∧ hs.length ≤ 4 by omega)]; simp only [Bool.true_and]

set_option maxHeartbeats 1000000 in
set_option maxRecDepth 100000 in
theorem MMay_any {ma ha : Option Addr} {hn : Nat} (mc hc : Nat) {hs : List Hv} {w : World} (mn : Nat) (H : Hs w ha hn hs) (b1 : mn ≤ 140737488351232) (b2 : hn ≤ 140737488351232) :
    Calls Try.prog 17 #[.agg #[.slice ma mn mc, .slice ha hn hc]] w fun e w' => e = .returned (.bool (mayM mn hs)) ∧ Gr w w' := by
  have hl := H.len
  by_cases c1 : 4096 < mn ∨ hn < 1 ∨ 4 < hn
  · have HE : Hid (mayM mn hs = false) := by unfold Hid mayM; rw [decide_eq_false (by omega)]; rfl
    clear H
    have c2 : 4096 < mn ∨ (¬ 4096 < mn ∧ hn < 1) ∨ (¬ 4096 < mn ∧ ¬ hn < 1 ∧ 4 < hn) := by omega
    clear c1
    rcases c2 with c | ⟨c, d⟩ | ⟨c, d, e⟩
    all_goals
      go_enter Try.func17, Try.ntmps17
      go_wp2
      go_ret
      exact ⟨ret_bool HE.out.symm, (Gr.refl _).alloc _⟩
  · have n1 : ¬ 4096 < mn := by omega
    have n2 : ¬ hn < 1 := by omega
    have n3 : ¬ 4 < hn := by omega
    obtain ⟨b, o, rfl, hb, hcell⟩ := H.spot (by omega)
    have HW : Hid (mayM mn hs = hs.all may) := by unfold Hid mayM; rw [decide_eq_true (by omega)]; rfl
    have HK : Hid (∀ i h, hs[i]? = some h → w.rangeAt b (o + i * 37) (hL h)) := hcell
    have HO : Hid (∀ h ∈ hs, h.Ok) := H.ok
    have HL : Hid (hs.length = hn) := hl
    clear hcell H c1 hl
    go_enter Try.func17, Try.ntmps17
    go_wp2
    go_loopw [24] (fun i wr => ∃ k : Nat, k ≤ hn ∧ i = .int .i64 k ∧ (hs.take k).all may = true ∧ Gr w wr) (fun i _ => hn - (intOf i).toNat)
    case atStart => exact ⟨0, Nat.zero_le _, rfl, rfl, (Gr.refl _).alloc _⟩
    case round =>
      obtain ⟨k, hk, rfl, hall, G⟩ := hrel
      have HG : Hid (Gr w wr) := G
      have HA : Hid ((hs.take k).all may = true) := hall
      clear G hall
      by_cases hlt : k < hn
      · obtain ⟨h, hh⟩ : ∃ h, hs[k]? = some h := ⟨_, List.getElem?_eq_getElem (by rw [HL.out]; exact hlt)⟩
        have HH : Hid (hs[k]? = some h) := hh
        have okh := HO.out h (List.mem_of_getElem? hh)
        have RG : Hid (wr.rangeAt b (o + k * 37) (hL h)) := fun j v hv => (HG.out.cell _ (by exact hb)).trans (HK.out k h hh j v hv)
        have HLL : Hid ((hL h).length = 37) := hL_len okh
        have HSZ : Hid ((hL h).toArray.size = 37) := by unfold Hid; simp [HLL.out]
        have HONE : Hid ((hL h).toArray.all (·.oneCell') = true) := one_hA h
        have M1 : Hid (∀ W : World, Calls Try.prog 31 #[.agg (hL h).toArray] W fun e w' => e = .returned (.bool (may h)) ∧ Gr W w') := fun W => may_any okh W
        have HW4 : Hid (∀ Y : Array Value, Gr wr ((wr.alloc (.cells Y 48)).setRow wr.heap.size (hL h).toArray)) := fun Y => gr_setRow ((Gr.refl _).alloc _) (Nat.le_refl _) _
        have HX4 : Hid (∀ Y : Array Value, ((wr.alloc (.cells Y 48)).setRow wr.heap.size (hL h).toArray).heap[wr.heap.size]? = some (.cells (hL h).toArray 48 (0, 0))) := fun Y => setRow_heap _ _ _ _ _ (0, 0) (heap_alloc_new wr _)
        clear hh okh
        cases hmb : may h with
        | true =>
          have M2 : Hid (∀ W : World, Calls Try.prog 31 #[.agg (hL h).toArray] W fun e w' => e = .returned (.bool true) ∧ Gr W w') := fun W => by have := M1.out W; rwa [hmb] at this
          have HN : Hid ((hs.take (k + 1)).all may = true) := by unfold Hid; rw [all_take may hs k h HH.out, HA.out, hmb]; rfl
          clear M1 hmb
          go_wp2_with (first
            | (refine wpList_load_mid rfl 48 _ rfl b (o + k * 37) rfl (hL h) _ ?r1 Try.underlying48 rfl (by rw [HLL.out]; exact iH) ?_; (case r1 => exact RG.out))
            | (refine wpList_store_row rfl 48 _ _ rfl wr.heap.size (hL h).toArray rfl rfl 48 _ (heap_alloc_new wr _) (by rw [HSZ.out]; exact iH) (by rw [HSZ.out]; rfl) HONE.out ?_)
            | (refine wpList_load_row rfl 48 _ rfl wr.heap.size rfl 48 (hL h).toArray (0, 0) _ ?r2 Try.underlying48 rfl (by rw [HSZ.out]; exact iH) ?_; (case r2 => exact HX4.out _)))
          refine (M2.out _).mono ?_
          rintro e w1 ⟨rfl, G1⟩
          have HG1 : Hid (Gr w w1) := HG.out.trans ((HW4.out _).trans G1)
          clear G1 M2 HG RG HW4 HX4
          go_wp2_with fail
          go_roundw
          case rel => exact ⟨k + 1, by omega, by go_num, HN.out, HG1.out⟩
          case measure => simp [intOf]; omega
        | false =>
          have M2 : Hid (∀ W : World, Calls Try.prog 31 #[.agg (hL h).toArray] W fun e w' => e = .returned (.bool false) ∧ Gr W w') := fun W => by have := M1.out W; rwa [hmb] at this
          have HE : Hid (mayM mn hs = false) := by unfold Hid; rw [HW.out]; exact all_false HH.out hmb
          clear M1 hmb
          go_wp2_with (first
            | (refine wpList_load_mid rfl 48 _ rfl b (o + k * 37) rfl (hL h) _ ?r1 Try.underlying48 rfl (by rw [HLL.out]; exact iH) ?_; (case r1 => exact RG.out))
            | (refine wpList_store_row rfl 48 _ _ rfl wr.heap.size (hL h).toArray rfl rfl 48 _ (heap_alloc_new wr _) (by rw [HSZ.out]; exact iH) (by rw [HSZ.out]; rfl) HONE.out ?_)
            | (refine wpList_load_row rfl 48 _ rfl wr.heap.size rfl 48 (hL h).toArray (0, 0) _ ?r2 Try.underlying48 rfl (by rw [HSZ.out]; exact iH) ?_; (case r2 => exact HX4.out _)))
          refine (M2.out _).mono ?_
          rintro e w1 ⟨rfl, G1⟩
          have HG1 : Hid (Gr w w1) := HG.out.trans ((HW4.out _).trans G1)
          clear G1 M2 HG RG HW4 HX4
          go_wp2_with fail
          go_ret
          exact ⟨ret_bool HE.out.symm, HG1.out⟩
      · have HE : Hid (mayM mn hs = true) := by have := HA.out; rw [show k = hn by omega, ← HL.out, List.take_length] at this; unfold Hid; rw [HW.out]; exact this
        go_wp2_with fail
        go_ret
        exact ⟨ret_bool HE.out.symm, HG.out⟩
end Go.Proofs.Ythgnfmbnbndeeac.Mc
/-
  A machine's bytes as plain data ('mB'), and a reader of bytes ('Rd'): what it reads of a machine's bytes is that machine, and of what it reads without a fault the bytes are those that it has read.
-/
namespace Go.Proofs.Ythgnfmbnbndeeac.Im
open Mm Hh Mc
set_option linter.unusedVariables false

/-- A number as four bytes, the lowest one first. -/
def n4 (n : Int) : List UInt8 := [UInt8.ofNat (n % 256).toNat, UInt8.ofNat (n / 256 % 256).toNat, UInt8.ofNat (n / 65536 % 256).toNat, UInt8.ofNat (n / 16777216 % 256).toNat]
def nB (ns : List Int) : List UInt8 := ns.flatMap n4
def bi (b : Bool) : Int := if b = true then 1 else 0
/-- A hart's numbers; its bytes; a machine's. -/
def hN (h : Hv) : List Int := h.regs ++ [h.pc, bi h.held, h.heldAt, h.state, h.cause]
def hB (h : Hv) : List UInt8 := nB (hN h)
def hsB (hs : List Hv) : List UInt8 := hs.flatMap hB
def mB (m : List UInt8) (hs : List Hv) : List UInt8 := n4 m.length ++ (m ++ (n4 hs.length ++ hsB hs))
/-- A number of four bytes. -/
def fit4 (n : Int) : Prop := 0 ≤ n ∧ n < 4294967296

theorem n4_len (n : Int) : (n4 n).length = 4 := rfl
theorem nB_len (ns : List Int) : (nB ns).length = 4 * ns.length := by
  induction ns with
  | nil => rfl
  | cons n r ih => simp only [nB, List.flatMap_cons, List.length_append, List.length_cons, n4_len] at ih ⊢; omega
theorem nB_snoc (ns : List Int) (n : Int) : nB (ns ++ [n]) = nB ns ++ n4 n := by simp [nB]
theorem nB_app (a b : List Int) : nB (a ++ b) = nB a ++ nB b := by simp [nB]
theorem hN_len {h : Hv} (o : h.Ok) : (hN h).length = 37 := by simp [hN, o.len]
theorem hB_len {h : Hv} (o : h.Ok) : (hB h).length = 148 := by rw [hB, nB_len, hN_len o]
theorem hsB_len : ∀ {hs : List Hv}, (∀ h ∈ hs, h.Ok) → (hsB hs).length = 148 * hs.length
  | [], _ => rfl
  | h :: r, o => by
    have ih := hsB_len (hs := r) (fun q hq => o q (by simp [hq]))
    unfold hsB at ih ⊢
    simp only [List.flatMap_cons, List.length_append, List.length_cons, hB_len (o h (by simp)), ih]
    omega
theorem hsB_snoc (hs : List Hv) (h : Hv) : hsB (hs ++ [h]) = hsB hs ++ hB h := by simp [hsB]
theorem mB_len {m : List UInt8} {hs : List Hv} (o : ∀ h ∈ hs, h.Ok) : (mB m hs).length = 8 + m.length + 148 * hs.length := by
  simp only [mB, List.length_append, n4_len, hsB_len o]; omega

theorem bv_app (a b : List UInt8) (k : Nat) : bv (a ++ b) (a.length + k) = bv b k := by
  unfold bv
  rw [List.getD_eq_getElem?_getD, List.getD_eq_getElem?_getD, List.getElem?_append_right (by omega), Nat.add_sub_cancel_left]
theorem bv_app_lt (a b : List UInt8) {k : Nat} (h : k < a.length) : bv (a ++ b) k = bv a k := by
  unfold bv
  rw [List.getD_eq_getElem?_getD, List.getD_eq_getElem?_getD, List.getElem?_append_left h]
theorem raw_app (a b : List UInt8) (k : Nat) : ∀ n, raw (a ++ b) (a.length + k) n = raw b k n
  | 0 => rfl
  | n + 1 => by
    unfold raw
    rw [raw_app a b k n, Nat.add_assoc, bv_app]
theorem raw_app_lt (a b : List UInt8) (k : Nat) : ∀ n, k + n ≤ a.length → raw (a ++ b) k n = raw a k n
  | 0, _ => rfl
  | n + 1, h => by
    unfold raw
    rw [raw_app_lt a b k n (by omega), bv_app_lt a b (by omega)]
theorem raw4 (l : List UInt8) (k : Nat) : raw l k 4 = bv l k + bv l (k + 1) * 256 + bv l (k + 2) * 65536 + bv l (k + 3) * 16777216 := by
  simp only [raw, Nat.add_zero]
  omega
theorem bvn (n : Int) : bv (n4 n) 0 = n % 256 ∧ bv (n4 n) 1 = n / 256 % 256 ∧ bv (n4 n) 2 = n / 65536 % 256 ∧ bv (n4 n) 3 = n / 16777216 % 256 := by
  unfold bv n4
  simp only [List.getD_cons_zero, List.getD_cons_succ, UInt8.toNat_ofNat']
  omega
theorem raw_n4 {n : Int} (h : fit4 n) : raw (n4 n) 0 4 = n := by
  obtain ⟨h0, h1⟩ := h
  obtain ⟨b0, b1, b2, b3⟩ := bvn n
  rw [raw4, Nat.zero_add, Nat.zero_add, Nat.zero_add, b0, b1, b2, b3]
  omega
theorem raw_u4 (l : List UInt8) (k : Nat) : fit4 (raw l k 4) := by
  have := raw_bd l k 4
  exact ⟨this.1, by simpa using this.2⟩
theorem n4_raw {l : List UInt8} (h : 4 ≤ l.length) : n4 (raw l 0 4) = l.take 4 := by
  refine ext_bv (by rw [n4_len, List.length_take]; omega) fun i hi => ?_
  obtain ⟨c0, c1, c2, c3⟩ := bvn (raw l 0 4)
  have e := raw4 l 0
  rw [Nat.zero_add, Nat.zero_add, Nat.zero_add] at e
  have d0 := bv_bd l 0
  have d1 := bv_bd l 1
  have d2 := bv_bd l 2
  have d3 := bv_bd l 3
  have t : bv (l.take 4) i = bv l i := by
    rw [n4_len] at hi
    unfold bv
    rw [List.getD_eq_getElem?_getD, List.getD_eq_getElem?_getD, List.getElem?_take_of_lt hi]
  rw [t]
  match i, hi with
  | 0, _ => rw [c0]; omega
  | 1, _ => rw [c1]; omega
  | 2, _ => rw [c2]; omega
  | 3, _ => rw [c3]; omega
/-- The k-th number. -/
theorem raw_nB {ns : List Int} (hu : ∀ n ∈ ns, fit4 n) (s : List UInt8) {k : Nat} {x : Int} (hk : ns[k]? = some x) : raw (nB ns ++ s) (4 * k) 4 = x := by
  have hl : k < ns.length := (List.getElem?_eq_some_iff.1 hk).1
  have e : ns = ns.take k ++ (x :: ns.drop (k + 1)) := by
    obtain ⟨h1, h2⟩ := List.getElem?_eq_some_iff.1 hk
    rw [← h2, List.getElem_cons_drop, List.take_append_drop]
  have lt : (nB (ns.take k)).length = 4 * k := by rw [nB_len, List.length_take]; omega
  rw [e, nB_app, List.append_assoc, show 4 * k = (nB (ns.take k)).length + 0 by omega, raw_app]
  rw [show nB (x :: ns.drop (k + 1)) = n4 x ++ nB (ns.drop (k + 1)) by simp [nB], List.append_assoc, raw_app_lt _ _ _ _ (by rw [n4_len]; omega)]
  exact raw_n4 (hu x (List.mem_of_getElem? hk))

/-! A reader -/
structure Rd where
  rest : List UInt8
  wrong : Bool
def tk (r : Rd) (n : Nat) : Rd := if n ≤ r.rest.length then ⟨r.rest.drop n, r.wrong⟩ else ⟨r.rest, true⟩
def tkV (r : Rd) (n : Nat) : List UInt8 := if n ≤ r.rest.length then r.rest.take n else []
def nm (r : Rd) : Rd := tk r 4
def nmV (r : Rd) : Int := if 4 ≤ r.rest.length then raw r.rest 0 4 else 0
def ut (r : Rd) (most : Int) : Rd := if most < nmV r then ⟨(nm r).rest, true⟩ else nm r
def utV (r : Rd) (most : Int) : Int := if most < nmV r then 0 else nmV r
def nmI (r : Rd) : Nat → Rd
  | 0 => r
  | i + 1 => nm (nmI r i)
def nmL (r : Rd) : Nat → List Int
  | 0 => []
  | i + 1 => nmL r i ++ [nmV (nmI r i)]
def h1 (r : Rd) : Rd := nmI r 32
def r32 (r : Rd) : List Int := nmL r 32
def h2 (r : Rd) : Rd := nm (h1 r)
def h3 (r : Rd) : Rd := ut (h2 r) 1
def h4 (r : Rd) : Rd := nm (h3 r)
def h5 (r : Rd) : Rd := ut (h4 r) 2
def hrR (r : Rd) : Rd := ut (h5 r) 6
def hrV (r : Rd) : Hv := ⟨r32 r, nmV (h1 r), decide (utV (h2 r) 1 = 1), nmV (h3 r), utV (h4 r) 2, utV (h5 r) 6⟩
def hrI (r : Rd) : Nat → Rd
  | 0 => r
  | i + 1 => hrR (hrI r i)
def hrL (r : Rd) : Nat → List Hv
  | 0 => []
  | i + 1 => hrL r i ++ [hrV (hrI r i)]
def m1 (r : Rd) : Rd := ut r 4096
def mrM (r : Rd) : List UInt8 := tkV (m1 r) (utV r 4096).toNat
def m2 (r : Rd) : Rd := tk (m1 r) (utV r 4096).toNat
def m3 (r : Rd) : Rd := ut (m2 r) 4
def mrN (r : Rd) : Nat := (utV (m2 r) 4).toNat
def mrR (r : Rd) : Rd := hrI (m3 r) (mrN r)
def mrH (r : Rd) : List Hv := hrL (m3 r) (mrN r)
/-- These bytes are read without a fault, to their end, and as a machine that may be. -/
def gotB (b : List UInt8) : Bool := !(mrR ⟨b, false⟩).wrong && decide ((mrR ⟨b, false⟩).rest.length = 0) && mayM (mrM ⟨b, false⟩).length (mrH ⟨b, false⟩)

theorem nmV_u4 (r : Rd) : fit4 (nmV r) := by
  unfold nmV
  split
  · exact raw_u4 _ _
  · exact ⟨by omega, by omega⟩
theorem utV_bd (r : Rd) {most : Int} (hm : 0 ≤ most) : 0 ≤ utV r most ∧ utV r most ≤ most := by
  have := nmV_u4 r
  unfold fit4 at this
  unfold utV
  split <;> omega
theorem nmL_len (r : Rd) : ∀ i, (nmL r i).length = i
  | 0 => rfl
  | i + 1 => by simp [nmL, nmL_len r i]
theorem nmL_u4 (r : Rd) : ∀ i, ∀ n ∈ nmL r i, fit4 n
  | 0, n, h => by simp [nmL] at h
  | i + 1, n, h => by
    simp only [nmL, List.mem_append, List.mem_singleton] at h
    rcases h with h | rfl
    · exact nmL_u4 r i n h
    · exact nmV_u4 _
theorem r32_len (r : Rd) : (r32 r).length = 32 := by unfold r32; rw [nmL_len]
theorem r32_u4 (r : Rd) : ∀ n ∈ r32 r, fit4 n := by unfold r32; exact nmL_u4 r 32
theorem hrV_ok (r : Rd) : (hrV r).Ok := by
  have a := nmV_u4 (h1 r)
  have b := nmV_u4 (h3 r)
  have c := r32_len r
  have d := r32_u4 r
  unfold hrV
  generalize nmV (h1 r) = x1 at *
  generalize nmV (h3 r) = x2 at *
  generalize r32 r = x3 at *
  refine ⟨c, fun i => ?_, a.1, a.2, b.1, b.2⟩
  unfold rg
  rw [List.getD_eq_getElem?_getD]
  cases h : x3[i]? with
  | none => simp
  | some x => exact d x (List.mem_of_getElem? h)
theorem hrL_len (r : Rd) : ∀ i, (hrL r i).length = i
  | 0 => rfl
  | i + 1 => by simp [hrL, hrL_len r i]
theorem hrL_ok (r : Rd) : ∀ i, ∀ h ∈ hrL r i, h.Ok
  | 0, n, h => by simp [hrL] at h
  | i + 1, n, h => by
    simp only [hrL, List.mem_append, List.mem_singleton] at h
    rcases h with h | rfl
    · exact hrL_ok r i n h
    · exact hrV_ok _
theorem tk_len (r : Rd) (n : Nat) : (tk r n).rest.length ≤ r.rest.length := by unfold tk; split <;> simp
theorem nm_len (r : Rd) : (nm r).rest.length ≤ r.rest.length := tk_len r 4
theorem ut_len (r : Rd) (n : Int) : (ut r n).rest.length ≤ r.rest.length := by
  have := nm_len r
  unfold ut; split <;> exact this

/-! What was read without a fault -/
theorem tk_no {r : Rd} {n : Nat} (h : (tk r n).wrong = false) : r.wrong = false ∧ r.rest = tkV r n ++ (tk r n).rest ∧ (tkV r n).length = n := by
  unfold tk tkV at *
  by_cases c : n ≤ r.rest.length
  · simp only [if_pos c] at *
    exact ⟨h, (List.take_append_drop _ _).symm, by rw [List.length_take]; omega⟩
  · simp only [if_neg c] at h
    cases h
theorem nm_no {r : Rd} (h : (nm r).wrong = false) : r.wrong = false ∧ r.rest = n4 (nmV r) ++ (nm r).rest := by
  obtain ⟨h1, h2, h3⟩ := tk_no h
  have c : 4 ≤ r.rest.length := by rw [h2, List.length_append]; omega
  refine ⟨h1, ?_⟩
  unfold nmV
  rw [if_pos c, n4_raw c]
  unfold nm tk
  rw [if_pos c]
  exact (List.take_append_drop _ _).symm
theorem ut_no {r : Rd} {most : Int} (h : (ut r most).wrong = false) : r.wrong = false ∧ r.rest = n4 (utV r most) ++ (ut r most).rest := by
  unfold ut utV at *
  by_cases c : most < nmV r
  · simp only [if_pos c] at h
    cases h
  · simp only [if_neg c] at *
    exact nm_no h
theorem nmI_no (r : Rd) : ∀ i, (nmI r i).wrong = false → r.wrong = false ∧ r.rest = nB (nmL r i) ++ (nmI r i).rest
  | 0, h => ⟨h, rfl⟩
  | i + 1, h => by
    obtain ⟨a, b⟩ := nm_no (r := nmI r i) h
    obtain ⟨c, d⟩ := nmI_no r i a
    refine ⟨c, ?_⟩
    rw [d, b]
    show _ = nB (nmL r i ++ [nmV (nmI r i)]) ++ _
    rw [nB_snoc, List.append_assoc]
    rfl
theorem bi_of {x : Int} (h : 0 ≤ x ∧ x ≤ 1) : bi (decide (x = 1)) = x := by
  unfold bi
  by_cases c : x = 1
  · simp [c]
  · simp [c]; omega
theorem hrR_no {r : Rd} (h : (hrR r).wrong = false) : r.wrong = false ∧ r.rest = hB (hrV r) ++ (hrR r).rest := by
  obtain ⟨a6, b6⟩ := ut_no (r := h5 r) h
  obtain ⟨a5, b5⟩ := ut_no (r := h4 r) a6
  obtain ⟨a4, b4⟩ := nm_no (r := h3 r) a5
  obtain ⟨a3, b3⟩ := ut_no (r := h2 r) a4
  obtain ⟨a2, b2⟩ := nm_no (r := h1 r) a3
  obtain ⟨a1, b1⟩ := nmI_no r 32 a2
  have b1 : r.rest = nB (r32 r) ++ (h1 r).rest := b1
  refine ⟨a1, b1.trans ?_⟩
  have e : hB (hrV r) = nB (r32 r) ++ (n4 (nmV (h1 r)) ++ (n4 (utV (h2 r) 1) ++ (n4 (nmV (h3 r)) ++ (n4 (utV (h4 r) 2) ++ n4 (utV (h5 r) 6))))) := by
    unfold hB hN
    rw [nB_app]
    unfold hrV
    simp only []
    rw [bi_of (utV_bd _ (by omega))]
    simp only [nB, List.flatMap_cons, List.flatMap_nil, List.append_nil]
  rw [e]
  simp only [List.append_assoc]
  have f1 : (h1 r).rest = n4 (nmV (h1 r)) ++ (h2 r).rest := b2
  have f3 : (h2 r).rest = n4 (utV (h2 r) 1) ++ (h3 r).rest := b3
  have f4 : (h3 r).rest = n4 (nmV (h3 r)) ++ (h4 r).rest := b4
  have f5 : (h4 r).rest = n4 (utV (h4 r) 2) ++ (h5 r).rest := b5
  have f6 : (h5 r).rest = n4 (utV (h5 r) 6) ++ (hrR r).rest := b6
  rw [← f6, ← f5, ← f4, ← f3, ← f1]
theorem hrI_no (r : Rd) (i : Nat) (h : (hrI r i).wrong = false) : r.wrong = false ∧ r.rest = hsB (hrL r i) ++ (hrI r i).rest := by
  induction i with
  | zero => exact ⟨h, rfl⟩
  | succ i ih =>
    have e1 : hrL r (i + 1) = hrL r i ++ [hrV (hrI r i)] := rfl
    have e2 : hrI r (i + 1) = hrR (hrI r i) := rfl
    rw [e2] at h
    obtain ⟨a, b⟩ := hrR_no h
    obtain ⟨c, d⟩ := ih a
    refine ⟨c, ?_⟩
    rw [e1, e2, hsB_snoc, List.append_assoc, ← b]
    exact d
/-- The bytes are a machine's that may be. -/
structure Is (b : List UInt8) (m : List UInt8) (hs : List Hv) : Prop where
  may : mayM m.length hs = true
  ok : ∀ h ∈ hs, h.Ok
  eq : mB m hs = b
theorem got_is {b : List UInt8} (h : gotB b = true) : Is b (mrM ⟨b, false⟩) (mrH ⟨b, false⟩) := by
  unfold gotB at h
  simp only [Bool.and_eq_true, Bool.not_eq_true', decide_eq_true_eq] at h
  obtain ⟨⟨a, c⟩, d⟩ := h
  refine ⟨d, hrL_ok _ _, ?_⟩
  obtain ⟨a3, b3⟩ := hrI_no (m3 ⟨b, false⟩) _ a
  obtain ⟨a2, b2⟩ := ut_no (r := m2 ⟨b, false⟩) a3
  obtain ⟨a1, b1, l1⟩ := tk_no (r := m1 ⟨b, false⟩) a2
  obtain ⟨_, b0⟩ := ut_no (r := ⟨b, false⟩) a1
  have e0 : (mrR ⟨b, false⟩).rest = [] := List.eq_nil_of_length_eq_zero c
  have u0 := utV_bd (⟨b, false⟩ : Rd) (most := 4096) (by omega)
  have u1 := utV_bd (m2 ⟨b, false⟩) (most := 4) (by omega)
  have f0 : ((mrM ⟨b, false⟩).length : Int) = utV ⟨b, false⟩ 4096 := by
    have : (mrM ⟨b, false⟩).length = (utV ⟨b, false⟩ 4096).toNat := l1
    omega
  have f1 : ((mrH ⟨b, false⟩).length : Int) = utV (m2 ⟨b, false⟩) 4 := by
    have : (mrH ⟨b, false⟩).length = (utV (m2 ⟨b, false⟩) 4).toNat := hrL_len _ _
    omega
  unfold mB
  rw [f0, f1]
  have g3 : (m3 ⟨b, false⟩).rest = hsB (mrH ⟨b, false⟩) := by
    have : (m3 ⟨b, false⟩).rest = hsB (mrH ⟨b, false⟩) ++ (mrR ⟨b, false⟩).rest := b3
    rw [this, e0, List.append_nil]
  have g2 : (m2 ⟨b, false⟩).rest = n4 (utV (m2 ⟨b, false⟩) 4) ++ (m3 ⟨b, false⟩).rest := b2
  have g1 : (m1 ⟨b, false⟩).rest = mrM ⟨b, false⟩ ++ (m2 ⟨b, false⟩).rest := b1
  have g0 : b = n4 (utV ⟨b, false⟩ 4096) ++ (m1 ⟨b, false⟩).rest := b0
  rw [← g3, ← g2, ← g1]
  exact g0.symm

/-! A machine's bytes are read as that machine -/
theorem tk_app (a s : List UInt8) (f : Bool) : tk ⟨a ++ s, f⟩ a.length = ⟨s, f⟩ ∧ tkV ⟨a ++ s, f⟩ a.length = a := by
  unfold tk tkV
  have h : a.length ≤ (a ++ s).length := by simp
  simp only [if_pos h]
  simp
theorem nm_app {n : Int} (h : fit4 n) (s : List UInt8) (f : Bool) : nm ⟨n4 n ++ s, f⟩ = ⟨s, f⟩ ∧ nmV ⟨n4 n ++ s, f⟩ = n := by
  refine ⟨(tk_app (n4 n) s f).1, ?_⟩
  unfold nmV
  rw [if_pos (by simp [n4_len])]
  show raw (n4 n ++ s) 0 4 = n
  rw [raw_app_lt _ _ _ _ (by rw [n4_len]; omega), raw_n4 h]
theorem ut_app {n most : Int} (h : fit4 n) (hm : n ≤ most) (s : List UInt8) (f : Bool) : ut ⟨n4 n ++ s, f⟩ most = ⟨s, f⟩ ∧ utV ⟨n4 n ++ s, f⟩ most = n := by
  obtain ⟨a, b⟩ := nm_app h s f
  unfold ut utV
  rw [b, if_neg (by omega), if_neg (by omega)]
  exact ⟨a, rfl⟩
theorem take_one {α : Type} {l : List α} {i : Nat} (h : i < l.length) : l.take (i + 1) = l.take i ++ [l[i]] := by
  rw [List.take_add_one, List.getElem?_eq_getElem h]
  rfl
theorem drop_one {α : Type} {l : List α} {i : Nat} (h : i < l.length) : l.drop i = l[i] :: l.drop (i + 1) := (List.getElem_cons_drop h).symm
theorem nmI_app {ns : List Int} (hu : ∀ n ∈ ns, fit4 n) (s : List UInt8) (f : Bool) : ∀ i, i ≤ ns.length → nmI ⟨nB ns ++ s, f⟩ i = ⟨nB (ns.drop i) ++ s, f⟩ ∧ nmL ⟨nB ns ++ s, f⟩ i = ns.take i
  | 0, _ => ⟨rfl, rfl⟩
  | i + 1, h => by
    obtain ⟨a, b⟩ := nmI_app hu s f i (by omega)
    have hi : i < ns.length := by omega
    have e : nB (ns.drop i) ++ s = n4 ns[i] ++ (nB (ns.drop (i + 1)) ++ s) := by
      rw [drop_one hi]
      simp only [nB, List.flatMap_cons, List.append_assoc]
    obtain ⟨c, d⟩ := nm_app (hu ns[i] (List.getElem_mem hi)) (nB (ns.drop (i + 1)) ++ s) f
    constructor
    · show nm (nmI _ i) = _
      rw [a, e, c]
    · show nmL _ i ++ [nmV (nmI _ i)] = _
      rw [b, a, e, d, take_one hi]
theorem may_nums {h : Hv} (o : h.Ok) (hm : may h = true) : (0 ≤ h.state ∧ h.state ≤ 2) ∧ (0 ≤ h.cause ∧ h.cause ≤ 6) := by
  unfold may at hm
  rw [decide_eq_true_eq] at hm
  omega
theorem bi_bd (b : Bool) : 0 ≤ bi b ∧ bi b ≤ 1 := by cases b <;> simp [bi]
theorem regs_u4 {h : Hv} (o : h.Ok) : ∀ n ∈ h.regs, fit4 n := by
  intro n hn
  obtain ⟨i, hi⟩ := List.mem_iff_getElem?.1 hn
  have := o.reg i
  unfold rg at this
  rw [List.getD_eq_getElem?_getD, hi] at this
  exact this
theorem hN_u4 {h : Hv} (o : h.Ok) (hm : may h = true) : ∀ n ∈ hN h, fit4 n := by
  intro n hn
  obtain ⟨⟨s0, s1⟩, c0, c1⟩ := may_nums o hm
  have b := bi_bd h.held
  simp only [hN, List.mem_append, List.mem_cons, List.not_mem_nil, or_false] at hn
  rcases hn with hn | rfl | rfl | rfl | rfl | rfl
  · exact regs_u4 o n hn
  · exact ⟨o.pc0, o.pc1⟩
  · exact ⟨b.1, by omega⟩
  · exact ⟨o.at0, o.at1⟩
  · exact ⟨s0, by omega⟩
  · exact ⟨c0, by omega⟩
theorem bi_back (b : Bool) : decide (bi b = 1) = b := by cases b <;> simp [bi]
theorem hr_app {h : Hv} (o : h.Ok) (hm : may h = true) (s : List UInt8) (f : Bool) : hrR ⟨hB h ++ s, f⟩ = ⟨s, f⟩ ∧ hrV ⟨hB h ++ s, f⟩ = h := by
  obtain ⟨⟨s0, s1⟩, c0, c1⟩ := may_nums o hm
  have b := bi_bd h.held
  have e : hB h ++ s = nB h.regs ++ (n4 h.pc ++ (n4 (bi h.held) ++ (n4 h.heldAt ++ (n4 h.state ++ (n4 h.cause ++ s))))) := by
    unfold hB hN
    rw [nB_app]
    simp [nB]
  obtain ⟨i1, v1⟩ := nmI_app (regs_u4 o) (n4 h.pc ++ (n4 (bi h.held) ++ (n4 h.heldAt ++ (n4 h.state ++ (n4 h.cause ++ s))))) f 32 (by rw [o.len]; omega)
  rw [← e] at i1 v1
  rw [List.drop_eq_nil_of_le (by rw [o.len]; omega)] at i1
  rw [List.take_of_length_le (by rw [o.len]; omega)] at v1
  have v1 : r32 ⟨hB h ++ s, f⟩ = h.regs := v1
  have j1 : h1 ⟨hB h ++ s, f⟩ = ⟨n4 h.pc ++ (n4 (bi h.held) ++ (n4 h.heldAt ++ (n4 h.state ++ (n4 h.cause ++ s)))), f⟩ := i1
  obtain ⟨i2, v2⟩ := nm_app (n := h.pc) ⟨o.pc0, o.pc1⟩ (n4 (bi h.held) ++ (n4 h.heldAt ++ (n4 h.state ++ (n4 h.cause ++ s)))) f
  rw [← j1] at i2 v2
  have j2 : h2 ⟨hB h ++ s, f⟩ = _ := i2
  obtain ⟨i3, v3⟩ := ut_app (n := bi h.held) (most := 1) ⟨b.1, by omega⟩ b.2 (n4 h.heldAt ++ (n4 h.state ++ (n4 h.cause ++ s))) f
  rw [← j2] at i3 v3
  have j3 : h3 ⟨hB h ++ s, f⟩ = _ := i3
  obtain ⟨i4, v4⟩ := nm_app (n := h.heldAt) ⟨o.at0, o.at1⟩ (n4 h.state ++ (n4 h.cause ++ s)) f
  rw [← j3] at i4 v4
  have j4 : h4 ⟨hB h ++ s, f⟩ = _ := i4
  obtain ⟨i5, v5⟩ := ut_app (n := h.state) (most := 2) ⟨s0, by omega⟩ s1 (n4 h.cause ++ s) f
  rw [← j4] at i5 v5
  have j5 : h5 ⟨hB h ++ s, f⟩ = _ := i5
  obtain ⟨i6, v6⟩ := ut_app (n := h.cause) (most := 6) ⟨c0, by omega⟩ c1 s f
  rw [← j5] at i6 v6
  refine ⟨i6, ?_⟩
  unfold hrV
  rw [v1, v2, v3, v4, v5, v6, bi_back]
theorem hrI_app {hs : List Hv} (ho : ∀ h ∈ hs, h.Ok) (hm : ∀ h ∈ hs, may h = true) (s : List UInt8) (f : Bool) : ∀ i, i ≤ hs.length → hrI ⟨hsB hs ++ s, f⟩ i = ⟨hsB (hs.drop i) ++ s, f⟩ ∧ hrL ⟨hsB hs ++ s, f⟩ i = hs.take i
  | 0, _ => ⟨rfl, rfl⟩
  | i + 1, h => by
    obtain ⟨a, b⟩ := hrI_app ho hm s f i (by omega)
    have hi : i < hs.length := by omega
    have e : hsB (hs.drop i) ++ s = hB hs[i] ++ (hsB (hs.drop (i + 1)) ++ s) := by
      rw [drop_one hi]
      simp only [hsB, List.flatMap_cons, List.append_assoc]
    obtain ⟨c, d⟩ := hr_app (ho hs[i] (List.getElem_mem hi)) (hm hs[i] (List.getElem_mem hi)) (hsB (hs.drop (i + 1)) ++ s) f
    constructor
    · show hrR (hrI _ i) = _
      rw [a, e, c]
    · show hrL _ i ++ [hrV (hrI _ i)] = _
      rw [b, a, e, d, take_one hi]
theorem mayM_of {n : Nat} {hs : List Hv} (h : mayM n hs = true) : n ≤ 4096 ∧ 1 ≤ hs.length ∧ hs.length ≤ 4 ∧ ∀ h ∈ hs, may h = true := by
  unfold mayM at h
  simp only [Bool.and_eq_true, decide_eq_true_eq, List.all_eq_true] at h
  exact ⟨h.1.1, h.1.2.1, h.1.2.2, h.2⟩
theorem is_got {b m : List UInt8} {hs : List Hv} (h : Is b m hs) : gotB b = true ∧ mrM ⟨b, false⟩ = m ∧ mrH ⟨b, false⟩ = hs := by
  obtain ⟨hm, ho, rfl⟩ := h
  obtain ⟨k1, k2, k3, k4⟩ := mayM_of hm
  obtain ⟨a0, v0⟩ := ut_app (n := (m.length : Int)) (most := 4096) ⟨by omega, by omega⟩ (by omega) (m ++ (n4 hs.length ++ hsB hs)) false
  have j0 : m1 ⟨mB m hs, false⟩ = ⟨m ++ (n4 hs.length ++ hsB hs), false⟩ := a0
  have w0 : utV ⟨mB m hs, false⟩ 4096 = (m.length : Int) := v0
  obtain ⟨a1, v1⟩ := tk_app m (n4 hs.length ++ hsB hs) false
  have j1 : m2 ⟨mB m hs, false⟩ = ⟨n4 hs.length ++ hsB hs, false⟩ := by unfold m2; rw [j0, w0]; exact a1
  have w1 : mrM ⟨mB m hs, false⟩ = m := by unfold mrM; rw [j0, w0]; exact v1
  obtain ⟨a2, v2⟩ := ut_app (n := (hs.length : Int)) (most := 4) ⟨by omega, by omega⟩ (by omega) (hsB hs) false
  have j2 : m3 ⟨mB m hs, false⟩ = ⟨hsB hs, false⟩ := by unfold m3; rw [j1]; exact a2
  have w2 : mrN ⟨mB m hs, false⟩ = hs.length := by unfold mrN; rw [j1, v2]; omega
  obtain ⟨a3, v3⟩ := hrI_app ho k4 [] false hs.length (Nat.le_refl _)
  rw [List.append_nil] at a3 v3
  have j3 : mrR ⟨mB m hs, false⟩ = ⟨[], false⟩ := by unfold mrR; rw [j2, w2, a3]; simp [hsB]
  have w3 : mrH ⟨mB m hs, false⟩ = hs := by unfold mrH; rw [j2, w2, v3]; simp
  refine ⟨?_, w1, w3⟩
  unfold gotB
  rw [j3, w1, w3, hm]
  rfl
/-- One machine alone has these bytes. -/
theorem is_one {b m m' : List UInt8} {hs hs' : List Hv} (h : Is b m hs) (h' : Is b m' hs') : m = m' ∧ hs = hs' := by
  obtain ⟨_, a, c⟩ := is_got h
  obtain ⟨_, a', c'⟩ := is_got h'
  exact ⟨a.symm.trans a', c.symm.trans c'⟩
/-- No shorter row of bytes is a machine's. -/
theorem is_short {b m : List UInt8} {hs : List Hv} (h : Is b m hs) {n : Nat} (hn : n < b.length) : gotB (b.take n) = false := by
  cases hg : gotB (b.take n) with
  | false => rfl
  | true =>
    exfalso
    have h' := got_is hg
    generalize mrM ⟨b.take n, false⟩ = m' at h'
    generalize mrH ⟨b.take n, false⟩ = hs' at h'
    obtain ⟨k1, k2, k3, _⟩ := mayM_of h.may
    obtain ⟨k1', k2', k3', _⟩ := mayM_of h'.may
    have l := mB_len (m := m) h.ok
    have l' := mB_len (m := m') h'.ok
    rw [h.eq] at l
    rw [h'.eq, List.length_take] at l'
    -- the first number, and the second one, stand in both
    have e0 : (m.length : Int) = m'.length := by
      have q : raw b 0 4 = m.length := by rw [← h.eq]; unfold mB; rw [raw_app_lt _ _ _ _ (by rw [n4_len]; omega), raw_n4 ⟨by omega, by omega⟩]
      have q' : raw (b.take n) 0 4 = m'.length := by rw [← h'.eq]; unfold mB; rw [raw_app_lt _ _ _ _ (by rw [n4_len]; omega), raw_n4 ⟨by omega, by omega⟩]
      have t := raw_app_lt (b.take n) (b.drop n) 0 4 (by rw [List.length_take]; omega)
      rw [List.take_append_drop] at t
      omega
    have e1 : (hs.length : Int) = hs'.length := by
      have q : raw b (4 + m.length) 4 = hs.length := by
        rw [← h.eq]; unfold mB
        rw [← List.append_assoc, show 4 + m.length = (n4 m.length ++ m).length + 0 by simp [n4_len], raw_app, raw_app_lt _ _ _ _ (by rw [n4_len]; omega), raw_n4 ⟨by omega, by omega⟩]
      have q' : raw (b.take n) (4 + m'.length) 4 = hs'.length := by
        rw [← h'.eq]; unfold mB
        rw [← List.append_assoc, show 4 + m'.length = (n4 m'.length ++ m').length + 0 by simp [n4_len], raw_app, raw_app_lt _ _ _ _ (by rw [n4_len]; omega), raw_n4 ⟨by omega, by omega⟩]
      have t := raw_app_lt (b.take n) (b.drop n) (4 + m'.length) 4 (by rw [List.length_take]; omega)
      rw [List.take_append_drop, show 4 + m'.length = 4 + m.length by omega] at t
      rw [show 4 + m'.length = 4 + m.length by omega] at q'
      omega
    omega
end Go.Proofs.Ythgnfmbnbndeeac.Im
