/-
  Heq, Hw, Mb1, Hm2: texts of ours that lie in one file.
-/
import Derived.Test.YtjooaobmbndkfaaDoorK05
import Derived.ChangeKeysEq
import Derived.Laws.StructEq
import Derived.Test.YtjooaobmbndkfaaDoorK03
import Derived.Deep.RegionLaw
/-
  Two harts that are the same compare as equal.
-/
namespace Go.Proofs.YtjooaobmbndkfaaDoor.Hc
open Go.ChangeShapes Go.WideShapes Go.ChangeAt Go.RowKit Mm Hh
set_option linter.unusedVariables false
set_option linter.unusedSimpArgs false

theorem list32 {l : List Int} (h : l.length = 32) : ∃ a0 a1 a2 a3 a4 a5 a6 a7 a8 a9 b0 b1 b2 b3 b4 b5 b6 b7 b8 b9 c0 c1 c2 c3 c4 c5 c6 c7 c8 c9 d0 d1, l = [a0, a1, a2, a3, a4, a5, a6, a7, a8, a9, b0, b1, b2, b3, b4, b5, b6, b7, b8, b9, c0, c1, c2, c3, c4, c5, c6, c7, c8, c9, d0, d1] := by
  match l, h with
  | [a0, a1, a2, a3, a4, a5, a6, a7, a8, a9, b0, b1, b2, b3, b4, b5, b6, b7, b8, b9, c0, c1, c2, c3, c4, c5, c6, c7, c8, c9, d0, d1], _ => exact ⟨_, _, _, _, _, _, _, _, _, _, _, _, _, _, _, _, _, _, _, _, _, _, _, _, _, _, _, _, _, _, _, _, rfl⟩
theorem eq_items (d : Nat) (w : World) (xs : Array Value) : ∀ is : List Nat, (∀ i ∈ is, ∃ a, xs[i * 1]? = some (.int .u32 a)) → (Op.eqItems (d + 1) 22 1 xs xs is).run Tryd.prog w = .ok true w
  | [], _ => by simp [Op.eqItems]
  | i :: is, h => by
    obtain ⟨a, ha⟩ := h i (by simp)
    have hp : Tryd.prog.plainKey 22 = true := by kernel_rfl
    have ih := eq_items d w xs is (fun j hj => h j (by simp [hj]))
    simp only [Op.eqItems, Sem.run_bind, run_part_plain w hp ha, Result.andThen_ok, run_equalIn_int w d 22 .u32 .u32 a a Tryd.underlying22, beq_self_eq_true, Bool.not_true, Bool.false_eq_true, if_false]
    exact ih
theorem eq_row (w : World) (xs : Array Value) (h : ∀ i, i < 32 → ∃ a, xs[i]? = some (.int .u32 a)) : (Op.equalIn 9999 32 (.agg xs) (.agg xs)).run Tryd.prog w = .ok true w := by
  obtain ⟨i0, hi, _, _, _⟩ := info_parts (by kernel_rfl : (Tryd.prog.info? 22).map (fun i => (i.zero, i.size, i.bytes)) = some (some (Value.int .u32 0), 1, 4))
  rw [run_equalIn_array w 9998 xs xs Tryd.underlying32 hi]
  rw [show Tryd.prog.cellsOf 22 = 1 by kernel_rfl]
  exact eq_items 9997 w xs _ (fun i hm => by rw [Nat.mul_one]; exact h i (List.mem_range.1 hm))
set_option maxRecDepth 100000 in
set_option maxHeartbeats 4000000 in
theorem eql_hart {h : Hv} (o : h.Ok) (w : World) : (binOp .eql 34 (.agg (hA h)) (.agg (hA h))).run Tryd.prog w = .ok (.bool true) w := by
  obtain ⟨a0, a1, a2, a3, a4, a5, a6, a7, a8, a9, b0, b1, b2, b3, b4, b5, b6, b7, b8, b9, c0, c1, c2, c3, c4, c5, c6, c7, c8, c9, d0, d1, e⟩ := list32 o.len
  obtain ⟨rs, pc, held, hat, st, cs⟩ := h
  subst e
  show (binOp .eql 34 (.agg #[.int .u32 a0, .int .u32 a1, .int .u32 a2, .int .u32 a3, .int .u32 a4, .int .u32 a5, .int .u32 a6, .int .u32 a7, .int .u32 a8, .int .u32 a9, .int .u32 b0, .int .u32 b1, .int .u32 b2, .int .u32 b3, .int .u32 b4, .int .u32 b5, .int .u32 b6, .int .u32 b7, .int .u32 b8, .int .u32 b9, .int .u32 c0, .int .u32 c1, .int .u32 c2, .int .u32 c3, .int .u32 c4, .int .u32 c5, .int .u32 c6, .int .u32 c7, .int .u32 c8, .int .u32 c9, .int .u32 d0, .int .u32 d1, .int .u32 pc, .bool held, .int .u32 hat, .int .i64 st, .int .i64 cs]) (.agg #[.int .u32 a0, .int .u32 a1, .int .u32 a2, .int .u32 a3, .int .u32 a4, .int .u32 a5, .int .u32 a6, .int .u32 a7, .int .u32 a8, .int .u32 a9, .int .u32 b0, .int .u32 b1, .int .u32 b2, .int .u32 b3, .int .u32 b4, .int .u32 b5, .int .u32 b6, .int .u32 b7, .int .u32 b8, .int .u32 b9, .int .u32 c0, .int .u32 c1, .int .u32 c2, .int .u32 c3, .int .u32 c4, .int .u32 c5, .int .u32 c6, .int .u32 c7, .int .u32 c8, .int .u32 c9, .int .u32 d0, .int .u32 d1, .int .u32 pc, .bool held, .int .u32 hat, .int .i64 st, .int .i64 cs])).run Tryd.prog w = .ok (.bool true) w
  have hr := eq_row w #[.int .u32 a0, .int .u32 a1, .int .u32 a2, .int .u32 a3, .int .u32 a4, .int .u32 a5, .int .u32 a6, .int .u32 a7, .int .u32 a8, .int .u32 a9, .int .u32 b0, .int .u32 b1, .int .u32 b2, .int .u32 b3, .int .u32 b4, .int .u32 b5, .int .u32 b6, .int .u32 b7, .int .u32 b8, .int .u32 b9, .int .u32 c0, .int .u32 c1, .int .u32 c2, .int .u32 c3, .int .u32 c4, .int .u32 c5, .int .u32 c6, .int .u32 c7, .int .u32 c8, .int .u32 c9, .int .u32 d0, .int .u32 d1] (fun i hi => by
    match i, hi with
    | 0, _ => exact ⟨_, rfl⟩
    | 1, _ => exact ⟨_, rfl⟩
    | 2, _ => exact ⟨_, rfl⟩
    | 3, _ => exact ⟨_, rfl⟩
    | 4, _ => exact ⟨_, rfl⟩
    | 5, _ => exact ⟨_, rfl⟩
    | 6, _ => exact ⟨_, rfl⟩
    | 7, _ => exact ⟨_, rfl⟩
    | 8, _ => exact ⟨_, rfl⟩
    | 9, _ => exact ⟨_, rfl⟩
    | 10, _ => exact ⟨_, rfl⟩
    | 11, _ => exact ⟨_, rfl⟩
    | 12, _ => exact ⟨_, rfl⟩
    | 13, _ => exact ⟨_, rfl⟩
    | 14, _ => exact ⟨_, rfl⟩
    | 15, _ => exact ⟨_, rfl⟩
    | 16, _ => exact ⟨_, rfl⟩
    | 17, _ => exact ⟨_, rfl⟩
    | 18, _ => exact ⟨_, rfl⟩
    | 19, _ => exact ⟨_, rfl⟩
    | 20, _ => exact ⟨_, rfl⟩
    | 21, _ => exact ⟨_, rfl⟩
    | 22, _ => exact ⟨_, rfl⟩
    | 23, _ => exact ⟨_, rfl⟩
    | 24, _ => exact ⟨_, rfl⟩
    | 25, _ => exact ⟨_, rfl⟩
    | 26, _ => exact ⟨_, rfl⟩
    | 27, _ => exact ⟨_, rfl⟩
    | 28, _ => exact ⟨_, rfl⟩
    | 29, _ => exact ⟨_, rfl⟩
    | 30, _ => exact ⟨_, rfl⟩
    | 31, _ => exact ⟨_, rfl⟩
    | n + 32, h => omega)
  go_simp
end Go.Proofs.YtjooaobmbndkfaaDoor.Hc
/-
  Words as slices; what ferrybridgeref4.Words answers of two that are the same; loads of whole structs behind a guard.
-/
namespace Go.Proofs.YtjooaobmbndkfaaDoor.Hc
open Go.ChangeShapes Go.WideShapes Go.ChangeAt Go.RowKit Mm Hh
set_option linter.unusedVariables false
set_option linter.unusedSimpArgs false

/-- In world w, the slice at ao of n elements reads as the words os. -/
structure Wm (w : World) (ao : Option Addr) (n : Nat) (os : List Int) : Prop where
  len : os.length = n
  nil : ao = none → n = 0
  cell : ∀ ad, ao = some ad → ∀ t, t < n → w.cell? (ad.add t) = some (.int .u32 (os.getD t 0))
theorem Wm.of {w w' : World} {ao : Option Addr} {n : Nat} {os : List Int} (h : Wm w ao n os) (g : Gr w w') : Wm w' ao n os :=
  ⟨h.len, h.nil, fun ad e t ht => (g.cell _ (World.block_lt_of_cell? w _ (h.cell ad e t ht))).trans (h.cell ad e t ht)⟩
theorem Wm.spot {w : World} {ao : Option Addr} {n : Nat} {os : List Int} (h : Wm w ao n os) (hn : 0 < n) :
    ∃ b o, ao = some ⟨b, o, none⟩ ∧ b < w.heap.size ∧ ∀ t, t < n → w.cell? ⟨b, o + t, none⟩ = some (.int .u32 (os.getD t 0)) := by
  cases ao with
  | none => exact absurd (h.nil rfl) (by omega)
  | some ad =>
    obtain ⟨b, o, s⟩ := ad
    have hs : s = none := by simpa [Addr.add] using World.cell?_spot (h.cell _ rfl 0 hn)
    subst hs
    have hb : b < w.heap.size := by simpa [Addr.add] using World.block_lt_of_cell? w _ (h.cell _ rfl 0 hn)
    exact ⟨b, o, rfl, hb, fun t ht => by rw [← add_at]; exact h.cell _ rfl t ht⟩
theorem wm_own {w : World} {base n : Nat} {v : Value} {os : List Int} (hl : os.length = n) (h : w.ownsRow base 22 1 v n (os.map (Value.int .u32))) : ∃ ao cap, v = .slice ao n cap ∧ Wm w ao n os := by
  obtain ⟨_, h⟩ := h
  rcases h with ⟨rfl, h0⟩ | ⟨g, cap, cur, rfl, hb, hg, hn, hm, hs, ht⟩
  · subst h0
    exact ⟨none, 0, rfl, hl, fun _ => rfl, fun ad e => (by cases e)⟩
  · refine ⟨_, cap, rfl, hl, fun e => (by cases e), fun ad e t htn => ?_⟩
    obtain rfl := Option.some.inj e
    rw [add_at, Nat.zero_add, cell_of_row _ _ _ _ _ _ hg]
    have h1 : (cur.toList.take (n * 1))[t]? = some (.int .u32 (os.getD t 0)) := by
      rw [ht, List.getElem?_map]
      simp [List.getD, List.getElem?_eq_getElem (show t < os.length by omega)]
    rw [List.getElem?_take_of_lt (by omega)] at h1
    simpa using h1

set_option maxHeartbeats 1000000 in
theorem Words_zero (a b : Option Addr) (c d : Nat) (w : World) : Calls Tryd.prog 19 #[.slice a 0 c, .slice b 0 d] w fun e w' => e = .returned (.bool true) ∧ Gr w w' := by
  go_enter Tryd.func19, Tryd.ntmps19
  go_wp2
  go_loopw [5] (fun i wr => i = .int .i64 0 ∧ wr = w) (fun _ _ => 0)
  case atStart => exact ⟨rfl, rfl⟩
  case round =>
    obtain ⟨rfl, rfl⟩ := hrel
    go_wp2
    go_ret
    exact ⟨rfl, Gr.refl _⟩
set_option maxHeartbeats 1000000 in
theorem Words_pos {w : World} {b1 o1 b2 o2 n : Nat} {os : List Int} (c d : Nat) (hn : n ≤ 1000000) (h1 : ∀ t, t < n → w.cell? ⟨b1, o1 + t, none⟩ = some (.int .u32 (os.getD t 0))) (h2 : ∀ t, t < n → w.cell? ⟨b2, o2 + t, none⟩ = some (.int .u32 (os.getD t 0))) :
    Calls Tryd.prog 19 #[.slice (some ⟨b1, o1, none⟩) n c, .slice (some ⟨b2, o2, none⟩) n d] w fun e w' => e = .returned (.bool true) ∧ Gr w w' := by
  have H1 : Hid (∀ t, t < n → w.cell? ⟨b1, o1 + t, none⟩ = some (.int .u32 (os.getD t 0))) := h1
  have H2 : Hid (∀ t, t < n → w.cell? ⟨b2, o2 + t, none⟩ = some (.int .u32 (os.getD t 0))) := h2
  clear h1 h2
  go_enter Tryd.func19, Tryd.ntmps19
  go_wp2
  go_loopw [5] (fun i wr => ∃ k : Nat, k ≤ n ∧ i = .int .i64 k ∧ ∃ m, wr = w.drewN m) (fun i _ => n - (intOf i).toNat)
  case atStart => exact ⟨0, Nat.zero_le _, rfl, 0, rfl⟩
  case round =>
    obtain ⟨k, hk, rfl, m, rfl⟩ := hrel
    by_cases hlt : k < n
    · have q1 := H1.out k hlt
      have q2 := H2.out k hlt
      generalize os.getD k 0 = y at *
      go_wp2_with fail
      go_quiet (fail)
      go_wp2_with fail
      go_roundw
      case rel => exact ⟨k + 1, by omega, by go_num, _, rfl⟩
      case measure => simp [intOf]; omega
    · go_wp2
      go_ret
      exact ⟨rfl, (Gr.refl _).drewN _⟩
/-- Words, of two that are the same. -/
theorem Words_same {w : World} {a b : Option Addr} {n : Nat} {os : List Int} (c d : Nat) (hn : n ≤ 1000000) (A : Wm w a n os) (B : Wm w b n os) : Calls Tryd.prog 19 #[.slice a n c, .slice b n d] w fun e w' => e = .returned (.bool true) ∧ Gr w w' := by
  by_cases h0 : n = 0
  · subst h0; exact Words_zero a b c d w
  · obtain ⟨b1, o1, rfl, _, h1⟩ := A.spot (by omega)
    obtain ⟨b2, o2, rfl, _, h2⟩ := B.spot (by omega)
    exact Words_pos c d hn h1 h2

/-! Behind a guard that holds -/
section
variable {P : Program} {ops : Array Oper} {rest : List Oper} {op : Oper} {a : Act} {w : World} {Q : Exit → Act → World → Prop}
theorem wpList_want (hw : Region.wanted op (yielded ops a.tmps) = true) (h : ∀ K : Act → World → Prop, (∀ a w, wpList P ops Q rest a w → K a w) → op.wp P a w K Q) : wpList P ops Q (op :: rest) a w :=
  wpList_step fun K hK => by rw [if_pos hw]; exact h K hK
theorem wpList_gload_row (hw : Region.wanted op (yielded ops a.tmps) = true) (ty : TypeId) (x : Operand) (ho : op.op = .load ty x)
    (g : Nat) (hx : a.eval x = .pointer (some ⟨g, 0, none⟩)) (t : TypeId) (cs : Array Value) (fr : Nat × Nat) (d : TypeDesc) (hg : w.heap[g]? = some (.cells cs t fr))
    (hu : P.underlying ty = some d) (hd : (match d with | .struct _ | .array _ _ => true | _ => false) = true) (hi : (P.info? ty).map (·.size) = some cs.size)
    (h : wpList P ops Q rest (a.put op.dst (.agg cs)) w) : wpList P ops Q (op :: rest) a w :=
  wpList_want hw fun _ hK => wp_load_row ty x ho g hx t cs fr d hg hu hd hi (hK _ _ h)
theorem wpList_gload_mid (hw : Region.wanted op (yielded ops a.tmps) = true) (ty : TypeId) (x : Operand) (ho : op.op = .load ty x)
    (b o : Nat) (hx : a.eval x = .pointer (some ⟨b, o, none⟩)) (cs : List Value) (d : TypeDesc) (hc : w.rangeAt b o cs)
    (hu : P.underlying ty = some d) (hd : d.isRow = true) (hi : (P.info? ty).map (·.size) = some cs.length)
    (h : wpList P ops Q rest (a.put op.dst (.agg cs.toArray)) w) : wpList P ops Q (op :: rest) a w :=
  wpList_want hw fun _ hK => wp_load_mid ty x ho b o hx cs d hc hu hd hi (hK _ _ h)
end
end Go.Proofs.YtjooaobmbndkfaaDoor.Hc
/-
  What package machine's meets, May and wrong answer, of every machine and script.
-/
namespace Go.Proofs.YtjooaobmbndkfaaDoor.Mc
open Go.ChangeShapes Go.WideShapes Go.ChangeAt Go.RowKit Mm Hh Hc
set_option linter.unusedVariables false
set_option linter.unusedSimpArgs false

theorem ret_bool {a b : Bool} (h : a = b) : Ending.returned (.bool a) = .returned (.bool b) := by rw [h]
set_option maxHeartbeats 1000000 in
set_option maxRecDepth 100000 in
theorem meets_any {x f t : Int} (hx0 : 0 ≤ x) (hx : x < 4294967296) (hf0 : 0 ≤ f) (hf : f < 4294967296) (w : World) :
    Calls Tryd.prog 80 #[.int .u32 x, .agg #[.int .u32 f, .int .u32 t]] w fun e w' => e = .returned (.bool (decide (x < t) && decide (f < x + 4))) ∧ Gr w w' := by
  by_cases h1 : x < t
  · have HE : Hid ((decide (x < t) && decide (f < x + 4)) = decide (f < x + 4)) := by unfold Hid; simp [h1]
    rw [HE.out]
    go_enter Tryd.func80, Tryd.ntmps80
    go_wp2
    go_ret
    exact ⟨rfl, (Gr.refl _).alloc _⟩
  · have HE : Hid ((decide (x < t) && decide (f < x + 4)) = false) := by unfold Hid; simp [h1]
    rw [HE.out]
    go_enter Tryd.func80, Tryd.ntmps80
    go_wp2
    go_ret
    exact ⟨rfl, (Gr.refl _).alloc _⟩

/-- A machine of mn bytes and the harts hs may be. -/
def mayM (mn : Nat) (hs : List Hv) : Bool := decide (mn ≤ 4096 ∧ 1 ≤ hs.length ∧ hs.length ≤ 4) && hs.all may
theorem wrong_may (m : List UInt8) (hs : List Hv) (ps : List (Int × Int)) : wrong m hs ps = if mayM m.length hs = false then 2 else if 300 < ps.length then 1 else if ps.all (pickOk hs.length) = false then 3 else 0 := by
  unfold wrong mayM
  by_cases h : 4096 < m.length ∨ hs.length < 1 ∨ 4 < hs.length
  · rw [if_pos h, if_pos]; rw [decide_eq_false (by omega)]; rfl
  · rw [if_neg h, decide_eq_true (show m.length ≤ 4096 ∧ 1 ≤ hs.length ∧ hs.length ≤ 4 by omega)]; simp only [Bool.true_and]

set_option maxHeartbeats 1000000 in
set_option maxRecDepth 100000 in
theorem MMay_any {ma ha : Option Addr} {hn : Nat} (mc hc : Nat) {hs : List Hv} {w : World} (mn : Nat) (H : Hs w ha hn hs) (b1 : mn ≤ 140737488351232) (b2 : hn ≤ 140737488351232) :
    Calls Tryd.prog 79 #[.agg #[.slice ma mn mc, .slice ha hn hc]] w fun e w' => e = .returned (.bool (mayM mn hs)) ∧ Gr w w' := by
  have hl := H.len
  by_cases c1 : 4096 < mn ∨ hn < 1 ∨ 4 < hn
  · have HE : Hid (mayM mn hs = false) := by unfold Hid mayM; rw [decide_eq_false (by omega)]; rfl
    clear H
    have c2 : 4096 < mn ∨ (¬ 4096 < mn ∧ hn < 1) ∨ (¬ 4096 < mn ∧ ¬ hn < 1 ∧ 4 < hn) := by omega
    clear c1
    rcases c2 with c | ⟨c, d⟩ | ⟨c, d, e⟩
    all_goals
      go_enter Tryd.func79, Tryd.ntmps79
      go_wp2
      go_ret
      exact ⟨ret_bool HE.out.symm, (Gr.refl _).alloc _⟩
  · have n1 : ¬ 4096 < mn := by omega
    have n2 : ¬ hn < 1 := by omega
    have n3 : ¬ 4 < hn := by omega
    obtain ⟨b, o, rfl, hb, hcell⟩ := H.spot (by omega)
    have HW : Hid (mayM mn hs = hs.all may) := by unfold Hid mayM; rw [decide_eq_true (by omega)]; rfl
    have HK : Hid (∀ i h, hs[i]? = some h → w.rangeAt b (o + i * 37) (hL h)) := hcell
    have HO : Hid (∀ h ∈ hs, h.Ok) := H.ok
    have HL : Hid (hs.length = hn) := hl
    clear hcell H c1 hl
    go_enter Tryd.func79, Tryd.ntmps79
    go_wp2
    go_loopw [24] (fun i wr => ∃ k : Nat, k ≤ hn ∧ i = .int .i64 k ∧ (hs.take k).all may = true ∧ Gr w wr) (fun i _ => hn - (intOf i).toNat)
    case atStart => exact ⟨0, Nat.zero_le _, rfl, rfl, (Gr.refl _).alloc _⟩
    case round =>
      obtain ⟨k, hk, rfl, hall, G⟩ := hrel
      have HG : Hid (Gr w wr) := G
      have HA : Hid ((hs.take k).all may = true) := hall
      clear G hall
      by_cases hlt : k < hn
      · obtain ⟨h, hh⟩ : ∃ h, hs[k]? = some h := ⟨_, List.getElem?_eq_getElem (by rw [HL.out]; exact hlt)⟩
        have HH : Hid (hs[k]? = some h) := hh
        have okh := HO.out h (List.mem_of_getElem? hh)
        have RG : Hid (wr.rangeAt b (o + k * 37) (hL h)) := fun j v hv => (HG.out.cell _ (by exact hb)).trans (HK.out k h hh j v hv)
        have HLL : Hid ((hL h).length = 37) := hL_len okh
        have HSZ : Hid ((hL h).toArray.size = 37) := by unfold Hid; simp [HLL.out]
        have HONE : Hid ((hL h).toArray.all (·.oneCell') = true) := one_hA h
        have M1 : Hid (∀ W : World, Calls Tryd.prog 14 #[.agg (hL h).toArray] W fun e w' => e = .returned (.bool (may h)) ∧ Gr W w') := fun W => may_any okh W
        have HW4 : Hid (∀ Y : Array Value, Gr wr ((wr.alloc (.cells Y 34)).setRow wr.heap.size (hL h).toArray)) := fun Y => gr_setRow ((Gr.refl _).alloc _) (Nat.le_refl _) _
        have HX4 : Hid (∀ Y : Array Value, ((wr.alloc (.cells Y 34)).setRow wr.heap.size (hL h).toArray).heap[wr.heap.size]? = some (.cells (hL h).toArray 34 (0, 0))) := fun Y => setRow_heap _ _ _ _ _ (0, 0) (heap_alloc_new wr _)
        clear hh okh
        cases hmb : may h with
        | true =>
          have M2 : Hid (∀ W : World, Calls Tryd.prog 14 #[.agg (hL h).toArray] W fun e w' => e = .returned (.bool true) ∧ Gr W w') := fun W => by have := M1.out W; rwa [hmb] at this
          have HN : Hid ((hs.take (k + 1)).all may = true) := by unfold Hid; rw [all_take may hs k h HH.out, HA.out, hmb]; rfl
          clear M1 hmb
          go_wp2_with (first
            | (refine wpList_load_mid rfl 34 _ rfl b (o + k * 37) rfl (hL h) _ ?r1 Tryd.underlying34 rfl (by rw [HLL.out]; exact iH) ?_; (case r1 => exact RG.out))
            | (refine wpList_store_row rfl 34 _ _ rfl wr.heap.size (hL h).toArray rfl rfl 34 _ (heap_alloc_new wr _) (by rw [HSZ.out]; exact iH) (by rw [HSZ.out]; rfl) HONE.out ?_)
            | (refine wpList_load_row rfl 34 _ rfl wr.heap.size rfl 34 (hL h).toArray (0, 0) _ ?r2 Tryd.underlying34 rfl (by rw [HSZ.out]; exact iH) ?_; (case r2 => exact HX4.out _)))
          refine (M2.out _).mono ?_
          rintro e w1 ⟨rfl, G1⟩
          have HG1 : Hid (Gr w w1) := HG.out.trans ((HW4.out _).trans G1)
          clear G1 M2 HG RG HW4 HX4
          go_wp2_with fail
          go_roundw
          case rel => exact ⟨k + 1, by omega, by go_num, HN.out, HG1.out⟩
          case measure => simp [intOf]; omega
        | false =>
          have M2 : Hid (∀ W : World, Calls Tryd.prog 14 #[.agg (hL h).toArray] W fun e w' => e = .returned (.bool false) ∧ Gr W w') := fun W => by have := M1.out W; rwa [hmb] at this
          have HE : Hid (mayM mn hs = false) := by unfold Hid; rw [HW.out]; exact all_false HH.out hmb
          clear M1 hmb
          go_wp2_with (first
            | (refine wpList_load_mid rfl 34 _ rfl b (o + k * 37) rfl (hL h) _ ?r1 Tryd.underlying34 rfl (by rw [HLL.out]; exact iH) ?_; (case r1 => exact RG.out))
            | (refine wpList_store_row rfl 34 _ _ rfl wr.heap.size (hL h).toArray rfl rfl 34 _ (heap_alloc_new wr _) (by rw [HSZ.out]; exact iH) (by rw [HSZ.out]; rfl) HONE.out ?_)
            | (refine wpList_load_row rfl 34 _ rfl wr.heap.size rfl 34 (hL h).toArray (0, 0) _ ?r2 Tryd.underlying34 rfl (by rw [HSZ.out]; exact iH) ?_; (case r2 => exact HX4.out _)))
          refine (M2.out _).mono ?_
          rintro e w1 ⟨rfl, G1⟩
          have HG1 : Hid (Gr w w1) := HG.out.trans ((HW4.out _).trans G1)
          clear G1 M2 HG RG HW4 HX4
          go_wp2_with fail
          go_ret
          exact ⟨ret_bool HE.out.symm, HG1.out⟩
      · have HE : Hid (mayM mn hs = true) := by have := HA.out; rw [show k = hn by omega, ← HL.out, List.take_length] at this; unfold Hid; rw [HW.out]; exact this
        go_wp2_with fail
        go_ret
        exact ⟨ret_bool HE.out.symm, HG.out⟩
end Go.Proofs.YtjooaobmbndkfaaDoor.Mc
/-
  What the methods of package hart's core that store do: Store, Call.
-/
namespace Go.Proofs.YtjooaobmbndkfaaDoor.Hc
open Go.ChangeShapes Go.WideShapes Go.ChangeAt Go.RowKit Mm Hh
set_option linter.unusedVariables false
set_option linter.unusedSimpArgs false

/-- append to a slice of the program's own, as one step of a region that draws its order. -/
theorem step_append_own {P : Program} {ops : Array Oper} {o : Oper} {a : Act} {w : World} {K : Act → World → Prop} {Q : Exit → Act → World → Prop} {E : Prop}
    (hg : o.guard = none) (s x : Operand) (t : TypeId) (hop : o.op = Op.call { callee := Callee.builtin Builtin.append, args := #[s, x], argTypes := #[t, t] })
    (base : Nat) (e : TypeId) (i : TypeInfo) (z : Value) (size bytes : Nat) (h1 : P.underlying t = some (.slice e)) (h2 : P.info? e = some i) (h3 : i.zero = some z) (h4 : i.size = size) (h5 : i.bytes = bytes) (h6 : z.cells.size = size) (h7 : 0 < size)
    (v : Value) (n : Nat) (olds : List Value) (hs : a.eval s = v) (hown : w.ownsRow base e size v n olds)
    (ad : Addr) (m c : Nat) (news : List Value) (hx : a.eval x = .slice (some ad) m c) (hn : news.length = m * size) (hc : ∀ j u, news[j]? = some u → w.cell? (ad.add j) = some u) (h1c : ∀ u ∈ news, u.oneCell' = true)
    (b1 : n + m ≤ maxLen) (b2 : (n + m) * bytes ≤ 140737488355328) (hbase : base ≤ w.heap.size)
    (hK : ∀ v' w', w'.ownsRow base e size v' (n + m) (olds ++ news) → w.grownBy w' v.ownBlock → K (a.put o.dst v') w') :
    if Region.wanted o (yielded ops a.tmps) = true then Oper.wp P o a w K Q else E := by
  have hw : Region.wanted o (yielded ops a.tmps) = true := by simp [Region.wanted, hg]
  rw [if_pos hw]
  obtain ⟨v', w', hrun, r1, r2, _⟩ := run_append_own (P := P) w base t o.type e i z size bytes h1 h2 h3 h4 h5 h6 h7 v n olds hown ad m c news hn hc h1c b1 b2 hbase
  unfold Oper.wp
  simp [execOp, hop, resolve, invoke, builtin, hs, hx, hrun, Result.andThen]
  exact hK v' w' r1 r2

/-- The two tables of package hart hold what their initialisers lay. -/
structure Tb (w : World) (base : Nat) : Prop where
  sizes : ∀ i n, ([0, 0, 0, 0, 0, 0, 0, 0, 0, 0, 0, 0, 0, 0, 0, 0, 1, 2, 4] : List Int)[i]? = some n → w.cell? ⟨3, i, none⟩ = some (.int .u32 n)
  opers : ∀ i n, ([0, 0, 0, 0, 0, 0, 0, 0, 0, 0, 0, 0, 0, 0, 0, 0, 0, 0, 0, 28, 31, 32, 33, 36, 37, 30, 34, 35] : List Int)[i]? = some n → w.cell? ⟨2, i, none⟩ = some (.int .i64 n)
  b1 : 3 < base
  b2 : 2 < base
theorem Tb.of {w w' : World} {base : Nat} (T : Tb w base) (h : Fr base w w') : Tb w' base :=
  ⟨fun i n e => (Below.cell h.below (by exact T.b1)).trans (T.sizes i n e), fun i n e => (Below.cell h.below (by exact T.b2)).trans (T.opers i n e), T.b1, T.b2⟩

theorem infoR : (Tryd.prog.info? 130).map (fun i => (i.zero, i.size, i.bytes)) = some (some (.agg #[.int .u32 0, .int .u32 0]), 2, 8) := by kernel_rfl
theorem infoU : (Tryd.prog.info? 22).map (fun i => (i.zero, i.size, i.bytes)) = some (some (.int .u32 0), 1, 4) := by kernel_rfl

set_option maxHeartbeats 1000000 in
theorem Store_no {w : World} {base g : Nat} {h : Hv} {l : List UInt8} {os : List Int} {ss : List (Int × Int)} (I : In w base g h l os ss) (hl : l.length ≤ 140737488351232) (op a x : Int) (h0 : 0 ≤ a) (h1 : a < 4294967296) (hx0 : 0 ≤ x) (hx1 : x < 4294967296) (ok : stOk l op a = false) :
    Calls Tryd.prog 83 #[.pointer (some ⟨g, 0, none⟩), .int .i64 op, .int .u32 a, .int .u32 x] w fun e w' => e = .returned (.tuple #[]) ∧ In w' base g (h.trap 4) l os ss ∧ Ch g w w' := by
  have T : Hid (∀ W, In W base g h l os ss → ∀ c, Calls Tryd.prog 60 #[.pointer (some ⟨g, 0, none⟩), .int .i64 c] W fun e w' => e = .returned (.tuple #[]) ∧ In w' base g (h.trap c) l os ss ∧ Ch g W w') := fun W I c => trap_any I c
  have HI : Hid (In w base g h l os ss) := I
  obtain ⟨c0, rfl, I⟩ := I
  obtain ⟨ao, cap, hm, M⟩ := I.mem.mem
  have k1 : w.cell? ⟨g, 37, none⟩ = some (.slice ao l.length cap) := (I.fcell 0).trans (by rw [hm]; rfl)
  have L : Hid (Calls Tryd.prog 88 #[.slice ao l.length cap, .int .i64 op, .int .u32 a, .int .u32 x] w fun e w' => ∃ ao' n' cap', e = .returned (.tuple #[.slice ao' n' cap', .bool false]) ∧ Gr w w') := by
    have := Mm.Store_any cap op a x M hl h0 h1 hx0 hx1
    rw [ok] at this
    exact this.mono fun e w' ⟨a1, n1, c1, e1, _, e3⟩ => ⟨a1, n1, c1, e1, e3⟩
  clear I M hm ok
  generalize l.length = n at *
  go_enter Tryd.func83, Tryd.ntmps83
  go_wp2_with fail
  refine L.out.mono ?_
  rintro e w1 ⟨a1, n1, c1, rfl, G1⟩
  have HI1 : Hid (In w1 base g c0.h l os ss) := HI.out.of G1
  have HC1 : Hid (Ch g w w1) := (Ch.refl g w).gr G1
  clear L k1 G1
  go_wp2_with fail
  refine (T.out _ HI1.out 4).mono ?_
  rintro e w2 ⟨rfl, I2, C2⟩
  have HI2 : Hid (In w2 base g (c0.h.trap 4) l os ss) := I2
  have HC2 : Hid (Ch g w w2) := HC1.out.trans C2
  clear T I2 C2
  go_wp2
  refine bodyPost_ret (results_none Tryd.results83 _ _ _) rfl ?_
  exact ⟨rfl, HI2.out, HC2.out⟩

theorem mem_store {ao : Option Addr} {n : Nat} (cap : Nat) {l : List UInt8} (op a x : Int) {w : World} (M : Mem w ao n l) (hn : n ≤ 140737488351232) (h0 : 0 ≤ a) (h1 : a < 4294967296) (hx0 : 0 ≤ x) (hx1 : x < 4294967296) (ok : stOk l op a = true) :
    Calls Tryd.prog 88 #[.slice ao n cap, .int .i64 op, .int .u32 a, .int .u32 x] w fun e w' => e = .returned (.tuple #[.slice (some ⟨w.heap.size, 0, none⟩) n n, .bool true]) ∧ Row w' w.heap.size (stL l op a x) ∧ Gr w w' := by
  have hl := M.len
  have hok : thr n (ssz op) a = true := by unfold stOk at ok; rw [hl] at ok; exact ok
  have e2 : stL l op a x = put l a.toNat x (ssz op) := by unfold stL; rw [ok]; rfl
  rw [e2]
  obtain ⟨b, o, rfl, hb, hc⟩ := M.spot (thr_pos hok h0)
  obtain ⟨a, rfl⟩ := Int.eq_ofNat_of_zero_le h0
  exact Mm.Store_yes b o n cap l op x a w hn hl (by omega) hb hx0 hx1 hc hok
theorem stL_len {l : List UInt8} {op a x : Int} (ok : stOk l op a = true) : (stL l op a x).length = l.length := by unfold stL; rw [ok]; exact len_put _ _ _ _
theorem stOk_op {l : List UInt8} {op a : Int} (ok : stOk l op a = true) : op = 16 ∨ op = 17 ∨ op = 18 := by
  have h : ¬ ssz op = 0 := by
    intro h
    simp [stOk, thr, h] at ok
  unfold ssz at h
  repeat' split at h
  all_goals omega
theorem Gr.drew {a w : World} (h : Gr a w) : Gr a w.drew := h.drewN 1

theorem owns_gr {w w' : World} {base e n sz : Nat} {v : Value} {xs : List Value} (h : w.ownsRow base e sz v n xs) (q : Gr w w') : w'.ownsRow base e sz v n xs :=
  owns_to h fun k o f hk => q.block k (Array.getElem?_eq_some_iff.1 hk).1
theorem own_form {w : World} {base size n : Nat} {e : TypeId} {v : Value} {xs : List Value} (h : w.ownsRow base e size v n xs) (hn : 0 < n) : ∃ g cap, v = .slice (some ⟨g, 0, none⟩) n cap := by
  rcases h.2 with ⟨_, h0⟩ | ⟨g, cap, _, hv, _⟩
  · omega
  · exact ⟨g, cap, hv⟩
theorem two_cells {W : World} {b : Nat} {x y : Value} (h0 : W.cell? ⟨b, 0, none⟩ = some x) (h1 : W.cell? ⟨b, 1, none⟩ = some y) : ∀ j u, ([x, y] : List Value)[j]? = some u → W.cell? ((⟨b, 0, none⟩ : Addr).add j) = some u := by
  intro j u hj
  rw [add_at]
  match j, hj with
  | 0, hj => simp at hj; subst hj; exact h0
  | 1, hj => simp at hj; subst hj; exact h1
theorem two_one (a b : Int) : ∀ u ∈ [Value.int .u32 a, Value.int .u32 b], u.oneCell' = true := by
  intro u hu
  simp at hu
  rcases hu with rfl | rfl <;> rfl
set_option maxHeartbeats 1000000 in
theorem Store_yes {w : World} {base g : Nat} {h : Hv} {l : List UInt8} {os : List Int} {ss : List (Int × Int)} (I : In w base g h l os ss) (T : Tb w base) (hl : l.length ≤ 140737488351232) (hss : ss.length ≤ 1000000) (op a x : Int) (h0 : 0 ≤ a) (h1 : a < 4294967296) (hx0 : 0 ≤ x) (hx1 : x < 4294967296) (ok : stOk l op a = true) :
    Calls Tryd.prog 83 #[.pointer (some ⟨g, 0, none⟩), .int .i64 op, .int .u32 a, .int .u32 x] w fun e w' => e = .returned (.tuple #[]) ∧ In w' base g h (stL l op a x) os (ss ++ [(a, ((ssz op : Nat) : Int))]) ∧ Fr base w w' := by
  obtain ⟨c0, rfl, I⟩ := I
  obtain ⟨ao, cap, hm, M⟩ := I.mem.mem
  have k1 : w.cell? ⟨g, 37, none⟩ = some (.slice ao l.length cap) := (I.fcell 0).trans (by rw [hm]; rfl)
  have L : Hid (Calls Tryd.prog 88 #[.slice ao l.length cap, .int .i64 op, .int .u32 a, .int .u32 x] w fun e w' => e = .returned (.tuple #[.slice (some ⟨w.heap.size, 0, none⟩) l.length l.length, .bool true]) ∧ Row w' w.heap.size (stL l op a x) ∧ Gr w w') := mem_store cap op a x M hl h0 h1 hx0 hx1 ok
  have hk := stL_len (x := x) ok
  have hop := stOk_op ok
  obtain ⟨i0, hi, hz0, hz1, hz2⟩ := info_parts infoR
  generalize stL l op a x = k at *
  have HI : Hid (Inv w base g c0 l os ss) := I
  have HT : Hid (Tb w base) := T
  clear I M hm ok T
  rcases hop with rfl | rfl | rfl
  · rw [show ((ssz 16 : Nat) : Int) = 1 from rfl]
    go_enter Tryd.func83, Tryd.ntmps83
    go_wp2_with fail
    refine L.out.mono ?_
    rintro e w1 ⟨rfl, R1, G1⟩
    have J := HI.out.stored G1 R1 hk
    have q1 : w1.cell? ⟨g, 37, none⟩ = some (.slice ao l.length cap) := (Gr.cell G1 _ (by exact HI.out.lt)).trans k1
    have q2 : w1.frozen? ⟨g, 37, none⟩ = false := (HI.out.of G1).fz 37
    have B : Fr base w (w1.setCell ⟨g, 37, none⟩ (.slice (some ⟨w.heap.size, 0, none⟩) l.length l.length)) := HI.out.inn.below (((Ch.refl g w).gr G1).setCell _ _)
    clear L k1 R1 G1
    go_wp2_with fail
    generalize w1.setCell ⟨g, 37, none⟩ (.slice (some ⟨w.heap.size, 0, none⟩) l.length l.length) = w2 at *
    have k39 : w2.cell? ⟨g, 39, none⟩ = some c0.sto := J.fcell 2
    have fz := J.fz
    have hg := J.lt
    have ks : w2.cell? ⟨3, 16, none⟩ = some (.int .u32 1) := (HT.out.of B).sizes 16 1 rfl
    have HJ : Hid (Inv w2 base g _ k os ss) := J
    have HB : Hid (Fr base w w2) := B
    clear J B q1 q2
    go_region_law (refine step_append_own rfl (.tmp 33) (.tmp 41) 79 rfl base 130 i0 _ 2 8 Tryd.underlying79 hi hz0 hz1 hz2 rfl (by decide) c0.sto ss.length (rgs ss) (by simp [Act.eval, Act.put]) (owns_gr HJ.out.sto (by repeat (first | exact Gr.refl _ | refine Gr.drew ?_ | refine Gr.alloc ?_ _))) ⟨w2.heap.size, 0, none⟩ 1 1 [.int .u32 a, .int .u32 (IntKind.u32.wrap (a + 1))] (by simp [Act.eval, Act.put]) rfl (two_cells (by simp) (by simp)) (two_one _ _) (by unfold maxLen; omega) (by omega) (by have := HJ.out.base_le; simp; omega) ?_; intro v' w' hown hgrow; obtain ⟨g', cp, rfl⟩ := own_form hown (by omega); obtain ⟨c39, f39, F⟩ := HJ.out.sto_grown (n := ss.length + 1) (by repeat (first | exact Gr.refl _ | refine Gr.drew ?_ | refine Gr.alloc ?_ _)) hgrow (ss' := ss ++ [(a, 1)]) (by simp) (by rw [rgs_snoc]; exact hown); have HF : Hid _ := F; clear F hown hgrow)
    all_goals
      go_end0
      exact ⟨rfl, HF.out.1.inn, HB.out.trans HF.out.2⟩
  · rw [show ((ssz 17 : Nat) : Int) = 2 from rfl]
    go_enter Tryd.func83, Tryd.ntmps83
    go_wp2_with fail
    refine L.out.mono ?_
    rintro e w1 ⟨rfl, R1, G1⟩
    have J := HI.out.stored G1 R1 hk
    have q1 : w1.cell? ⟨g, 37, none⟩ = some (.slice ao l.length cap) := (Gr.cell G1 _ (by exact HI.out.lt)).trans k1
    have q2 : w1.frozen? ⟨g, 37, none⟩ = false := (HI.out.of G1).fz 37
    have B : Fr base w (w1.setCell ⟨g, 37, none⟩ (.slice (some ⟨w.heap.size, 0, none⟩) l.length l.length)) := HI.out.inn.below (((Ch.refl g w).gr G1).setCell _ _)
    clear L k1 R1 G1
    go_wp2_with fail
    generalize w1.setCell ⟨g, 37, none⟩ (.slice (some ⟨w.heap.size, 0, none⟩) l.length l.length) = w2 at *
    have k39 : w2.cell? ⟨g, 39, none⟩ = some c0.sto := J.fcell 2
    have fz := J.fz
    have hg := J.lt
    have ks : w2.cell? ⟨3, 17, none⟩ = some (.int .u32 2) := (HT.out.of B).sizes 17 2 rfl
    have HJ : Hid (Inv w2 base g _ k os ss) := J
    have HB : Hid (Fr base w w2) := B
    clear J B q1 q2
    go_region_law (refine step_append_own rfl (.tmp 33) (.tmp 41) 79 rfl base 130 i0 _ 2 8 Tryd.underlying79 hi hz0 hz1 hz2 rfl (by decide) c0.sto ss.length (rgs ss) (by simp [Act.eval, Act.put]) (owns_gr HJ.out.sto (by repeat (first | exact Gr.refl _ | refine Gr.drew ?_ | refine Gr.alloc ?_ _))) ⟨w2.heap.size, 0, none⟩ 1 1 [.int .u32 a, .int .u32 (IntKind.u32.wrap (a + 2))] (by simp [Act.eval, Act.put]) rfl (two_cells (by simp) (by simp)) (two_one _ _) (by unfold maxLen; omega) (by omega) (by have := HJ.out.base_le; simp; omega) ?_; intro v' w' hown hgrow; obtain ⟨g', cp, rfl⟩ := own_form hown (by omega); obtain ⟨c39, f39, F⟩ := HJ.out.sto_grown (n := ss.length + 1) (by repeat (first | exact Gr.refl _ | refine Gr.drew ?_ | refine Gr.alloc ?_ _)) hgrow (ss' := ss ++ [(a, 2)]) (by simp) (by rw [rgs_snoc]; exact hown); have HF : Hid _ := F; clear F hown hgrow)
    all_goals
      go_end0
      exact ⟨rfl, HF.out.1.inn, HB.out.trans HF.out.2⟩
  · rw [show ((ssz 18 : Nat) : Int) = 4 from rfl]
    go_enter Tryd.func83, Tryd.ntmps83
    go_wp2_with fail
    refine L.out.mono ?_
    rintro e w1 ⟨rfl, R1, G1⟩
    have J := HI.out.stored G1 R1 hk
    have q1 : w1.cell? ⟨g, 37, none⟩ = some (.slice ao l.length cap) := (Gr.cell G1 _ (by exact HI.out.lt)).trans k1
    have q2 : w1.frozen? ⟨g, 37, none⟩ = false := (HI.out.of G1).fz 37
    have B : Fr base w (w1.setCell ⟨g, 37, none⟩ (.slice (some ⟨w.heap.size, 0, none⟩) l.length l.length)) := HI.out.inn.below (((Ch.refl g w).gr G1).setCell _ _)
    clear L k1 R1 G1
    go_wp2_with fail
    generalize w1.setCell ⟨g, 37, none⟩ (.slice (some ⟨w.heap.size, 0, none⟩) l.length l.length) = w2 at *
    have k39 : w2.cell? ⟨g, 39, none⟩ = some c0.sto := J.fcell 2
    have fz := J.fz
    have hg := J.lt
    have ks : w2.cell? ⟨3, 18, none⟩ = some (.int .u32 4) := (HT.out.of B).sizes 18 4 rfl
    have HJ : Hid (Inv w2 base g _ k os ss) := J
    have HB : Hid (Fr base w w2) := B
    clear J B q1 q2
    go_region_law (refine step_append_own rfl (.tmp 33) (.tmp 41) 79 rfl base 130 i0 _ 2 8 Tryd.underlying79 hi hz0 hz1 hz2 rfl (by decide) c0.sto ss.length (rgs ss) (by simp [Act.eval, Act.put]) (owns_gr HJ.out.sto (by repeat (first | exact Gr.refl _ | refine Gr.drew ?_ | refine Gr.alloc ?_ _))) ⟨w2.heap.size, 0, none⟩ 1 1 [.int .u32 a, .int .u32 (IntKind.u32.wrap (a + 4))] (by simp [Act.eval, Act.put]) rfl (two_cells (by simp) (by simp)) (two_one _ _) (by unfold maxLen; omega) (by omega) (by have := HJ.out.base_le; simp; omega) ?_; intro v' w' hown hgrow; obtain ⟨g', cp, rfl⟩ := own_form hown (by omega); obtain ⟨c39, f39, F⟩ := HJ.out.sto_grown (n := ss.length + 1) (by repeat (first | exact Gr.refl _ | refine Gr.drew ?_ | refine Gr.alloc ?_ _)) hgrow (ss' := ss ++ [(a, 4)]) (by simp) (by rw [rgs_snoc]; exact hown); have HF : Hid _ := F; clear F hown hgrow)
    all_goals
      go_end0
      exact ⟨rfl, HF.out.1.inn, HB.out.trans HF.out.2⟩

/-- Store: what it stores, or a trap. -/
theorem Store_any {w : World} {base g : Nat} {h : Hv} {l : List UInt8} {os : List Int} {ss : List (Int × Int)} (I : In w base g h l os ss) (T : Tb w base) (hl : l.length ≤ 140737488351232) (hss : ss.length ≤ 1000000) (op a x : Int) (h0 : 0 ≤ a) (h1 : a < 4294967296) (hx0 : 0 ≤ x) (hx1 : x < 4294967296) :
    Calls Tryd.prog 83 #[.pointer (some ⟨g, 0, none⟩), .int .i64 op, .int .u32 a, .int .u32 x] w fun e w' => e = .returned (.tuple #[]) ∧ In w' base g (efStore h l op a x).h (efStore h l op a x).m os (ss ++ (efStore h l op a x).sto) ∧ Fr base w w' := by
  unfold efStore
  cases ok : stOk l op a with
  | false =>
    refine (Store_no I hl op a x h0 h1 hx0 hx1 ok).mono ?_
    rintro e w' ⟨rfl, J, C⟩
    exact ⟨rfl, by simpa using J, I.below C⟩
  | true => exact Store_yes I T hl hss op a x h0 h1 hx0 hx1 ok

theorem one_cell {W : World} {b : Nat} {x : Value} (h0 : W.cell? ⟨b, 0, none⟩ = some x) : ∀ j u, ([x] : List Value)[j]? = some u → W.cell? ((⟨b, 0, none⟩ : Addr).add j) = some u := by
  intro j u hj
  rw [add_at]
  match j, hj with
  | 0, hj => simp at hj; subst hj; exact h0
theorem one_one (a : Int) : ∀ u ∈ [Value.int .u32 a], u.oneCell' = true := by
  intro u hu
  simp at hu
  subst hu
  rfl
set_option maxHeartbeats 1000000 in
theorem Call_out {w : World} {base g : Nat} {h : Hv} {l : List UInt8} {os : List Int} {ss : List (Int × Int)} (I : In w base g h l os ss) (hos : os.length ≤ 1000000) (h17 : rg h 17 = 1) :
    Calls Tryd.prog 86 #[.pointer (some ⟨g, 0, none⟩)] w fun e w' => e = .returned (.tuple #[]) ∧ In w' base g h l (os ++ [rg h 10]) ss ∧ Fr base w w' := by
  obtain ⟨c0, rfl, I⟩ := I
  have k17 : w.cell? ⟨g, 17, none⟩ = some (.int .u32 1) := by rw [← h17]; exact I.reg (by omega)
  have k10 : w.cell? ⟨g, 10, none⟩ = some (.int .u32 (rg c0.h 10)) := I.reg (by omega)
  have k38 : w.cell? ⟨g, 38, none⟩ = some c0.out := I.fcell 1
  have fz := I.fz
  have hg := I.lt
  have HJ : Hid (Inv w base g c0 l os ss) := I
  obtain ⟨i0, hi, hz0, hz1, hz2⟩ := info_parts infoU
  generalize rg c0.h 10 = x at *
  clear I h17
  go_enter Tryd.func86, Tryd.ntmps86
  go_wp2_with fail
  go_region_law (refine step_append_own rfl (.tmp 22) (.tmp 29) 37 rfl base 22 i0 _ 1 4 Tryd.underlying37 hi hz0 hz1 hz2 rfl (by decide) c0.out os.length (os.map (Value.int .u32)) (by simp [Act.eval, Act.put]) (owns_gr HJ.out.out (by repeat (first | exact Gr.refl _ | refine Gr.drew ?_ | refine Gr.alloc ?_ _))) ⟨w.heap.size, 0, none⟩ 1 1 [.int .u32 x] (by simp [Act.eval, Act.put]) rfl (one_cell (by simp)) (one_one _) (by unfold maxLen; omega) (by omega) (by have := HJ.out.base_le; simp; omega) ?_; intro v' w' hown hgrow; obtain ⟨g', cp, rfl⟩ := own_form hown (by omega); obtain ⟨c38, f38, F⟩ := HJ.out.out_grown (n := os.length + 1) (by repeat (first | exact Gr.refl _ | refine Gr.drew ?_ | refine Gr.alloc ?_ _)) hgrow (os' := os ++ [x]) (by simp) (by rw [List.map_append]; exact hown); have HF : Hid _ := F; clear F hown hgrow)
  all_goals
    go_end0
    exact ⟨rfl, HF.out.1.inn, HF.out.2⟩
set_option maxHeartbeats 1000000 in
theorem Call_not {w : World} {base g : Nat} {h : Hv} {l : List UInt8} {os : List Int} {ss : List (Int × Int)} (I : In w base g h l os ss) (h17 : ¬ rg h 17 = 1) :
    Calls Tryd.prog 86 #[.pointer (some ⟨g, 0, none⟩)] w fun e w' => e = .returned (.tuple #[]) ∧ In w' base g (if rg h 17 = 0 then h.halt else h.trap 5) l os ss ∧ Fr base w w' := by
  have T : Hid (∀ c, Calls Tryd.prog 60 #[.pointer (some ⟨g, 0, none⟩), .int .i64 c] w fun e w' => e = .returned (.tuple #[]) ∧ In w' base g (h.trap c) l os ss ∧ Ch g w w') := fun c => trap_any I c
  have HI : Hid (In w base g h l os ss) := I
  obtain ⟨c0, rfl, I⟩ := I
  have k17 : w.cell? ⟨g, 17, none⟩ = some (.int .u32 (rg c0.h 17)) := I.reg (by omega)
  have k35 : w.cell? ⟨g, 35, none⟩ = some (.int .i64 c0.h.state) := (I.hcell (by omega)).trans (hL_fld I.ok 3)
  have fz := I.fz
  have o1 : c0.h.halt.Ok := I.ok.halt
  have HJ : Hid (Inv (w.setCell ⟨g, 35, none⟩ (.int .i64 1)) base g { c0 with h := c0.h.halt } l os ss) := I.set (by omega) (set_state I.ok 1) o1
  clear I o1
  generalize c0.h.state = y at *
  generalize hx : rg c0.h 17 = x at *
  clear hx
  by_cases h0 : x = 0
  · subst h0
    rw [if_pos rfl]
    clear T
    go_enter Tryd.func86, Tryd.ntmps86
    go_wp2_with fail
    go_end0
    exact ⟨rfl, HJ.out.inn, HI.out.below ((Ch.refl g w).setCell _ _)⟩
  · rw [if_neg h0]
    have b0 : (x == 0) = false := by simp [h0]
    have b1 : (x == 1) = false := by simp [h17]
    clear h0 h17
    go_enter Tryd.func86, Tryd.ntmps86
    go_wp2_with fail
    refine (T.out 5).mono ?_
    rintro e w' ⟨rfl, I2, C2⟩
    have HI2 : Hid (In w' base g (c0.h.trap 5) l os ss) := I2
    have HC2 : Hid (Ch g w w') := C2
    clear I2 C2 T k17 k35 fz HJ
    go_wp2_with fail
    go_end0
    exact ⟨rfl, HI2.out, HI.out.below HC2.out⟩
theorem Call_any {w : World} {base g : Nat} {h : Hv} {l : List UInt8} {os : List Int} {ss : List (Int × Int)} (I : In w base g h l os ss) (hos : os.length ≤ 1000000) :
    Calls Tryd.prog 86 #[.pointer (some ⟨g, 0, none⟩)] w fun e w' => e = .returned (.tuple #[]) ∧ In w' base g (efCall h l).h l (os ++ (efCall h l).out) ss ∧ Fr base w w' := by
  unfold efCall
  by_cases h1 : rg h 17 = 1
  · rw [if_neg (by omega), if_pos h1]
    exact Call_out I hos h1
  · refine (Call_not I h1).mono ?_
    rintro e w' ⟨rfl, J, B⟩
    refine ⟨rfl, ?_, B⟩
    by_cases h0 : rg h 17 = 0
    · rw [if_pos h0] at J ⊢; simpa using J
    · rw [if_neg h0] at J; rw [if_neg h0, if_neg h1]; simpa using J
end Go.Proofs.YtjooaobmbndkfaaDoor.Hc
