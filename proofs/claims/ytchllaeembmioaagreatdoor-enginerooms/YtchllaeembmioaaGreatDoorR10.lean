/-
  Tb, Tabs, Ref2a, Ref2b, Walks1: texts of ours that lie in one file.
-/
import Derived.Test.YtchllaeembmioaaGreatDoorR09
import Derived.Test.YtchllaeembmioaaGreatDoorRows
import Derived.Test.YtchllaeembmioaaGreatDoorR02
import Derived.WalkKit
import Derived.ProofKit
import Derived.OpenShut
import Derived.LaidMore
import Derived.RowKit3
import Derived.Deep.QuietTactic
import Derived.BigQuiet
set_option linter.unusedVariables false
set_option linter.unusedSimpArgs false
set_option maxHeartbeats 8000000
set_option maxRecDepth 100000
namespace Go.Proofs.YtchllaeembmioaaGreatDoor.Ts
open Mm Wd Mi Bk
open Hh hiding Rn

theorem blk_facts (l : List UInt8) (pc : Int) : ∀ n k, (blk l pc n k).length ≤ n ∧ ∀ j, j < (blk l pc n k).length → ftC l (at4 pc (k + j)) = 0 ∧ (blk l pc n k)[j]? = some (ldV l 13 (at4 pc (k + j))) ∧ (lastOp (Dc.dop (ldV l 13 (at4 pc (k + j)))) = true → j + 1 = (blk l pc n k).length)
  | 0, k => ⟨Nat.le_refl _, fun j hj => absurd hj (by simp [blk])⟩
  | n + 1, k => by
    by_cases h : ftC l (at4 pc k) = 0
    · cases hl : lastOp (Dc.dop (ldV l 13 (at4 pc k))) with
      | true =>
        rw [blk_last h hl]
        refine ⟨by simp, fun j hj => ?_⟩
        have hj0 : j = 0 := by simp at hj; omega
        subst hj0
        exact ⟨h, rfl, fun _ => rfl⟩
      | false =>
        rw [blk_on h hl]
        obtain ⟨ih1, ih2⟩ := blk_facts l pc n (k + 1)
        refine ⟨by simp; omega, fun j hj => ?_⟩
        match j, hj with
        | 0, _ => exact ⟨h, rfl, fun q => by rw [Nat.add_zero] at q; rw [hl] at q; cases q⟩
        | j + 1, hj =>
          obtain ⟨a, b, c⟩ := ih2 j (by simp at hj; omega)
          rw [show k + 1 + j = k + (j + 1) by omega] at a b c
          exact ⟨a, by simpa using b, fun q => by have := c q; simp; omega⟩
    · rw [blk_stop h]
      exact ⟨by simp, fun j hj => absurd hj (by simp)⟩
theorem ft_zero {l : List UInt8} {pc : Int} (h : ftC l pc = 0) : ldOk l 13 pc = true ∧ ¬ Dc.dop (ldV l 13 pc) = 0 := by
  unfold ftC at h
  split at h
  · rename_i q
    split at h
    · cases h
    · rename_i q2
      exact ⟨q, q2⟩
  · cases h
theorem ld13 {l : List UInt8} {a : Int} (h : ldOk l 13 a = true) : a + 4 ≤ l.length := by
  unfold ldOk thr at h
  simp only [decide_eq_true_eq] at h
  exact h.2.2
theorem blkd_of {l : List UInt8} {pc : Int} (hl : l.length ≤ 4096) (h0 : 0 ≤ pc) (h1 : pc < 4294967296) (hp : 0 < (blk l pc 16 0).length) : Blkd l pc (pc + 4 * ((blk l pc 16 0).length : Int)) (blk l pc 16 0).length (fun j => ldV l 13 (at4 pc j)) := by
  obtain ⟨_, f⟩ := blk_facts l pc 16 0
  have f : ∀ j, j < (blk l pc 16 0).length → ftC l (at4 pc j) = 0 ∧ (blk l pc 16 0)[j]? = some (ldV l 13 (at4 pc j)) ∧ (lastOp (Dc.dop (ldV l 13 (at4 pc j))) = true → j + 1 = (blk l pc 16 0).length) := fun j hj => by
    have := f j hj
    rwa [Nat.zero_add] at this
  have at_ : ∀ j, j ≤ (blk l pc 16 0).length → at4 pc j = pc + 4 * j := by
    intro j
    induction j with
    | zero => intro _; unfold at4; have : lo (pc + 4 * ((0 : Nat) : Int)) = pc := by rw [show pc + 4 * ((0 : Nat) : Int) = pc by omega]; exact Int.emod_eq_of_lt h0 h1
              rw [this]; omega
    | succ j ih =>
      intro hj
      have e := ih (by omega)
      have := ld13 (ft_zero (f j (by omega)).1).1
      unfold at4 at e ⊢
      rw [show lo (pc + 4 * ((j + 1 : Nat) : Int)) = pc + 4 * ((j + 1 : Nat) : Int) from Int.emod_eq_of_lt (by omega) (by unfold at4 at this; omega)]
  have hlast := ld13 (ft_zero (f ((blk l pc 16 0).length - 1) (by omega)).1).1
  rw [at_ _ (by omega)] at hlast
  exact ⟨hp, h0, rfl, hl, by omega, at_, fun j hj => (ft_zero (f j hj).1).1, fun j hj => (ft_zero (f j hj).1).2, fun j hj q => (f j hj).2.2 q⟩
theorem rd_bd (f x : Int) : 0 ≤ Dc.rdF f x ∧ Dc.rdF f x < 32 := by unfold Dc.rdF; split <;> omega
theorem rs1_bd (f x : Int) : 0 ≤ Dc.rs1F f x ∧ Dc.rs1F f x < 32 := by unfold Dc.rs1F; split <;> omega
theorem rs2_bd (f x : Int) : 0 ≤ Dc.rs2F f x ∧ Dc.rs2F f x < 32 := by unfold Dc.rs2F; split <;> omega
end Go.Proofs.YtchllaeembmioaaGreatDoor.Ts
namespace Go.Proofs.YtchllaeembmioaaGreatDoor.Dw
open Go.ChangeShapes Go.WideShapes Go.ChangeAt Go.RowKit

def Gr (w w' : World) : Prop := Below w.heap.size w w' ∧ ∀ a, w'.frozen? a = w.frozen? a
theorem Gr.refl (w : World) : Gr w w := ⟨Below.refl _ _, fun _ => rfl⟩
theorem Gr.size {w w' : World} (h : Gr w w') : w.heap.size ≤ w'.heap.size := h.1.size
theorem Gr.trans {a b c : World} (h : Gr a b) (k : Gr b c) : Gr a c := ⟨h.1.trans (k.1.mono h.1.size), fun x => (k.2 x).trans (h.2 x)⟩
theorem Gr.alloc {a w : World} (h : Gr a w) (c : Array Value) (t : TypeId) : Gr a (w.alloc (.cells c t)) := ⟨h.1.alloc h.1.size _, fun x => (frozen?_alloc_cells _ _ _ x).trans (h.2 x)⟩
theorem Gr.setCell {a w : World} (h : Gr a w) {p : Addr} (hp : a.heap.size ≤ p.block) (v : Value) : Gr a (w.setCell p v) := ⟨h.1.setCell hp v, fun x => (World.frozen?_setCell _ _ _ _).trans (h.2 x)⟩
theorem Gr.drewN {a w : World} (h : Gr a w) (n : Nat) : Gr a (w.drewN n) := ⟨⟨h.1.os, h.1.tape, h.1.output, h.1.size, h.1.block⟩, h.2⟩
theorem Gr.cell {w w' : World} (h : Gr w w') (b o : Nat) (hb : b < w.heap.size) : w'.cell? ⟨b, o, none⟩ = w.cell? ⟨b, o, none⟩ := h.1.cell (p := ⟨b, o, none⟩) hb
theorem lt_of_cell {w : World} {b o : Nat} {v : Value} (h : w.cell? ⟨b, o, none⟩ = some v) : b < w.heap.size := by
  by_cases hb : b < w.heap.size
  · exact hb
  · have : w.heap[b]? = none := by simp; omega
    simp [World.cell?, this] at h

def look {H : Type} (P : Program) : Nat → TypeId → DataW H → Nat → Option Value
  | 0, _, _, _ => none
  | n + 1, t, d, i =>
    match P.underlying t, d with
    | some .bool, .lit (.bool b) => if i = 0 then some (.bool b) else none
    | some (.int _), .lit (.int k m) => if i = 0 then some (.int k m) else none
    | some (.struct fs), .agg ds =>
      match (List.range fs.size).find? (fun j => match fs[j]? with | some f => decide (f.offset ≤ i) && decide (i < f.offset + P.cellsOf f.type) | none => false) with
      | some j => match fs[j]?, ds[j]? with
        | some f, some e => if f.offset ≤ i ∧ i < f.offset + P.cellsOf f.type then look P n f.type e (i - f.offset) else none
        | _, _ => none
      | none => none
    | some (.array k e), .agg ds =>
      match ds[i / P.cellsOf e]? with
      | some x => if 0 < P.cellsOf e ∧ i / P.cellsOf e < k then look P n e x (i % P.cellsOf e) else none
      | none => none
    | _, _ => none

theorem take_drop_get {α : Type} (cs : List α) (a n i : Nat) (v : α) (h : ((cs.drop a).take n)[i]? = some v) : cs[a + i]? = some v := by
  rw [List.getElem?_take] at h
  split at h
  · rwa [List.getElem?_drop] at h
  · cases h

theorem look_cell {H : Type} {enc : TypeId × Value → H} {P : Program} {w : World} {base : Nat} {spare : Nat → Bool} {held : Bool} : (n : Nat) → ∀ {fuel : Nat} {t : TypeId} {cs : List Value} {d : DataW H} {ps : List MemPlace} {i : Nat} {v : Value},
    DataW.trod enc P w base spare held fuel t cs = some (d, ps) → look P n t d i = some v → cs[i]? = some v
  | 0, _, _, _, _, _, _, _, _, hl => by cases hl
  | n + 1, fuel, t, cs, d, ps, i, v, h, hl => by
    unfold look at hl
    split at hl
    · rename_i ht
      obtain ⟨b, rfl, hx⟩ := DataW.trod_bool ht h
      simp at hx
      split at hl
      · subst_vars; simpa [hx.1] using hl
      · cases hl
    · rename_i ht
      obtain ⟨b, rfl, hx, _⟩ := DataW.trod_int ht h
      simp at hx
      split at hl
      · subst_vars; simp at hl; rw [← hl, hx.1.1, hx.1.2]; rfl
      · cases hl
    · rename_i fs ds ht
      obtain ⟨xs, m, rfl, hx, _, hlen, hel⟩ := DataW.trod_struct ht h
      simp only [Prod.mk.injEq, DataW.agg.injEq] at hx
      split at hl
      · rename_i j _
        split at hl
        · rename_i f e hf he
          split at hl
          · rename_i hi
            have hE := hel j f hf
            rw [hx.1, List.getElem?_map] at he
            cases hy : xs[j]? with
            | none => simp [hy] at he
            | some y =>
              rw [hy] at hE he
              simp at he
              have := look_cell n (d := e) (ps := y.2) (by rw [hE, ← he]) hl
              have := take_drop_get _ _ _ _ _ this
              rwa [show f.offset + (i - f.offset) = i by omega] at this
          · cases hl
        · cases hl
      · cases hl
    · rename_i k e ds ht
      obtain ⟨xs, m, rfl, hx, _, hlen, hel⟩ := DataW.trod_array ht h
      simp only [Prod.mk.injEq, DataW.agg.injEq] at hx
      split at hl
      · rename_i x he
        split at hl
        · rename_i hi
          have hE := hel _ hi.2
          rw [hx.1, List.getElem?_map] at he
          cases hy : xs[i / P.cellsOf e]? with
          | none => simp [hy] at he
          | some y =>
            rw [hy] at hE he
            simp at he
            have := look_cell n (d := x) (ps := y.2) (by rw [hE, ← he]) hl
            have := take_drop_get _ _ _ _ _ this
            rwa [Nat.mul_comm, Nat.div_add_mod] at this
        · cases hl
      · cases hl
    · cases hl

def shape (told : Int) (rd rs1 rs2 : Bool) (imm : List Int) (spare : Int) : List Value := [.int .u32 told, .bool rd, .bool rs1, .bool rs2] ++ imm.map (fun n => .int .i64 n) ++ [.int .i64 spare]
def pieces (f : Nat) : List Int := match f with
  | 1 => [12, 12, 20, 0, 0, 0, 0, 0, 0, 0, 0, 0] | 2 => [31, 20, 1, 12, 12, 8, 20, 11, 1, 21, 1, 10] | 3 => [20, 0, 12, 0, 0, 0, 0, 0, 0, 0, 0, 0] | 4 => [20, 0, 5, 0, 0, 0, 0, 0, 0, 0, 0, 0]
  | 5 => [31, 12, 1, 7, 11, 1, 25, 5, 6, 8, 1, 4] | 6 => [25, 5, 7, 7, 0, 5, 0, 0, 0, 0, 0, 0] | 8 => [25, 0, 2, 0, 0, 0, 0, 0, 0, 0, 0, 0] | _ => [0, 0, 0, 0, 0, 0, 0, 0, 0, 0, 0, 0]
def spare (f : Nat) : Int := match f with | 2 => 11 | 3 => 20 | 5 => 19 | 6 => 20 | _ => 0
def shapes : List Value := (List.range 10).flatMap fun (f : Nat) => shape (Dc.mask f) (Dc.hasRd f) (Dc.hasRs1 f) (Dc.hasRs2 f) (pieces f) (spare f)

structure Tab (w : World) : Prop where
  shapes : ∀ i v, shapes[i]? = some v → w.cell? ⟨0, i, none⟩ = some v
  uppers : ∀ i n, Dc.uppers[i]? = some n → w.cell? ⟨5, i, none⟩ = some (.int .u32 n)
theorem Tab.of {w w' : World} (h : Tab w) (g : Gr w w') : Tab w' :=
  ⟨fun i v hi => (g.cell _ _ (lt_of_cell (h.shapes i v hi))).trans (h.shapes i v hi), fun i v hi => (g.cell _ _ (lt_of_cell (h.uppers i v hi))).trans (h.uppers i v hi)⟩

theorem gShapes : Tryz.prog.globalNamed "ferrybridge/decode.shapes" = some 0 := by kernel_rfl
theorem gUppers : Tryz.prog.globalNamed "ferrybridge/decode.uppers" = some 5 := by kernel_rfl
theorem tShapes : (Tryz.prog.globals[0]?).map (·.type) = some 185 := by kernel_rfl
theorem tUppers : (Tryz.prog.globals[5]?).map (·.type) = some 216 := by kernel_rfl
theorem lookShapes : (List.range 170).map (look Tryz.prog 5 185 (Rows.laid_ferrybridge_decode_shapes (H := Unit))) = shapes.map some := by kernel_rfl
theorem lookUppers : (List.range 60).map (look Tryz.prog 3 216 (Rows.laid_ferrybridge_decode_uppers (H := Unit))) = Dc.uppers.map fun n => some (.int .u32 n) := by kernel_rfl
theorem look_of {d : DataW Unit} {n t N : Nat} {l : List Value} (h : (List.range N).map (look Tryz.prog n t d) = l.map some) {i : Nat} {v : Value} (hi : l[i]? = some v) : look Tryz.prog n t d i = some v := by
  have e := congrArg (·[i]?) h
  simp only [List.getElem?_map, hi, Option.map_some] at e
  cases hr : (List.range N)[i]? with
  | none => simp [hr] at e
  | some j =>
    rw [hr] at e
    have : j = i := by
      rw [List.getElem?_eq_some_iff] at hr
      obtain ⟨_, hr⟩ := hr
      simpa using hr.symm
    subst this
    simpa using e
end Go.Proofs.YtchllaeembmioaaGreatDoor.Dw
namespace Go.Proofs.YtchllaeembmioaaGreatDoor.Re
open Go.ChangeShapes Go.WideShapes Go.ChangeAt Go.RowKit Dw

end Go.Proofs.YtchllaeembmioaaGreatDoor.Re
namespace Go.Proofs.YtchllaeembmioaaGreatDoor.Re
open Go.ChangeShapes Go.WideShapes Go.ChangeAt Go.RowKit Dw

end Go.Proofs.YtchllaeembmioaaGreatDoor.Re
namespace Go.Proofs.YtchllaeembmioaaGreatDoor.Dw
open Go.ChangeShapes Go.WideShapes Go.ChangeAt Go.RowKit

theorem ret_int {k : IntKind} {a b : Int} (h : a = b) : Ending.returned (.int k a) = .returned (.int k b) := by rw [h]
theorem ret_bool {a b : Bool} (h : a = b) : Ending.returned (.bool a) = .returned (.bool b) := by rw [h]
theorem wrap_u32' (n : Int) : IntKind.u32.wrap n = n % 4294967296 := by rfl
theorem ofInt32 (a : Nat) (ha : (a : Int) < 4294967296) : (BitVec.ofInt 32 (a : Int)).toNat = a := by
  rw [BitVec.ofInt_natCast, BitVec.toNat_ofNat]; exact Nat.mod_eq_of_lt (by omega)
theorem bits_and_u32 (a b : Int) (ha : 0 ≤ a) (ha' : a < 4294967296) (hb : 0 ≤ b) (hb' : b < 4294967296) : bits .and .u32 a b = Wd.band a b := by
  obtain ⟨a, rfl⟩ := Int.eq_ofNat_of_zero_le ha
  obtain ⟨b, rfl⟩ := Int.eq_ofNat_of_zero_le hb
  have hx : a &&& b < 2 ^ 32 := Nat.and_lt_two_pow _ (by omega)
  show IntKind.u32.wrap ((BitVec.ofInt 32 (a : Int) &&& BitVec.ofInt 32 (b : Int)).toNat : Int) = _
  rw [BitVec.toNat_and, ofInt32 a ha', ofInt32 b hb', wrap_u32']
  simp only [Wd.band, Int.toNat_natCast]
  omega
theorem bits_or_u32 (a b : Int) (ha : 0 ≤ a) (ha' : a < 4294967296) (hb : 0 ≤ b) (hb' : b < 4294967296) : bits .or .u32 a b = Wd.bor a b := by
  obtain ⟨a, rfl⟩ := Int.eq_ofNat_of_zero_le ha
  obtain ⟨b, rfl⟩ := Int.eq_ofNat_of_zero_le hb
  have hx : a ||| b < 2 ^ 32 := Nat.or_lt_two_pow (by omega) (by omega)
  show IntKind.u32.wrap ((BitVec.ofInt 32 (a : Int) ||| BitVec.ofInt 32 (b : Int)).toNat : Int) = _
  rw [BitVec.toNat_or, ofInt32 a ha', ofInt32 b hb', wrap_u32']
  simp only [Wd.bor, Int.toNat_natCast]
  omega

theorem within_any (a b c : Int) (w : World) :
    Calls Tryz.prog 126 #[.int .i64 a, .int .i64 b, .int .i64 c] w fun e w' => e = .returned (.bool (decide (b ≤ a) && decide (a ≤ c))) ∧ w' = w := by
  by_cases h : b ≤ a
  all_goals
    go_enter Tryz.func126, Tryz.ntmps126
    go_wp2
    go_ret
    exact ⟨ret_bool (by simp [h]; try omega), rfl⟩
theorem and_mask (x : Int) (n : Nat) (h0 : 0 ≤ x) (h1 : x < 4294967296) (hn : n ≤ 31) : bits .and .u32 x ((2 ^ n - 1) % 4294967296) = x % 2 ^ n := by
  have hp : (2 : Int) ^ n = ((2 ^ n : Nat) : Int) := by simp
  have hb : (2 : Nat) ^ n ≤ 2 ^ 31 := Nat.pow_le_pow_right (by omega) hn
  have hb0 : 0 < (2 : Nat) ^ n := Nat.two_pow_pos _
  obtain ⟨x, rfl⟩ := Int.eq_ofNat_of_zero_le h0
  have e : ((2 : Int) ^ n - 1) % 4294967296 = ((2 ^ n - 1 : Nat) : Int) := by rw [hp]; omega
  rw [e, bits_and_u32 _ _ h0 h1 (by omega) (by omega)]
  unfold Wd.band
  rw [Int.toNat_natCast, Int.toNat_natCast, Nat.and_two_pow_sub_one_eq_mod, hp]
  omega
theorem bor_lo (x y : Int) (i : Nat) (hx : 0 ≤ x) (hy : 0 ≤ y) (h : x < 2 ^ i) : Wd.bor x (y * 2 ^ i) = x + y * 2 ^ i := by
  obtain ⟨x, rfl⟩ := Int.eq_ofNat_of_zero_le hx
  obtain ⟨y, rfl⟩ := Int.eq_ofNat_of_zero_le hy
  have e : (y : Int) * 2 ^ i = ((y * 2 ^ i : Nat) : Int) := by simp
  have h' : x < 2 ^ i := by
    have : ((2 : Int) ^ i) = ((2 ^ i : Nat) : Int) := by simp
    rw [this] at h; omega
  rw [e]
  unfold Wd.bor
  rw [Int.toNat_natCast, Int.toNat_natCast, Nat.or_comm, Dc.nor_add _ _ _ h']
  omega
theorem bor_comm (x y : Int) : Wd.bor x y = Wd.bor y x := by unfold Wd.bor; rw [Nat.or_comm]
theorem bor_hi (x y : Int) (i : Nat) (hx : 0 ≤ x) (hy : 0 ≤ y) (h : x < 2 ^ i) : Wd.bor (y * 2 ^ i) x = y * 2 ^ i + x := by
  rw [bor_comm, bor_lo x y i hx hy h]; omega
theorem taken_any (a at' n : Int) (w : World) (ha : 0 ≤ a) (ha' : a < 4294967296) (h1 : 0 ≤ at') (h2 : at' ≤ 31) (h3 : 0 ≤ n) (h4 : n ≤ 31) :
    Calls Tryz.prog 128 #[.int .u32 a, .int .i64 at', .int .i64 n] w fun e w' => e = .returned (.int .u32 (a / 2 ^ at'.toNat % 2 ^ n.toNat)) ∧ ∃ m, w' = w.drewN m := by
  go_enter Tryz.func128, Tryz.ntmps128
  go_wp2
  refine wp_region_quiet_lit (by kernel_rfl) (by kernel_rfl) ?_
  iterate 8 go_big_quiet_step (fail)
  refine wpQuiet_nil ?_; intro _ h; obtain ⟨nq, h2⟩ := h; subst h2
  go_wp2
  go_ret
  refine ⟨ret_int (and_mask _ _ (Int.ediv_nonneg ha (Int.pow_nonneg (by omega))) ?_ (by omega)), _, rfl⟩
  exact Int.lt_of_le_of_lt (Int.ediv_le_self _ ha) ha'
theorem taken_as (a at' n r : Int) (w : World) (ha : 0 ≤ a) (ha' : a < 4294967296) (h1 : 0 ≤ at') (h2 : at' ≤ 31) (h3 : 0 ≤ n) (h4 : n ≤ 31) (hr : a / 2 ^ at'.toNat % 2 ^ n.toNat = r) :
    Calls Tryz.prog 128 #[.int .u32 a, .int .i64 at', .int .i64 n] w fun e w' => e = .returned (.int .u32 r) ∧ ∃ m, w' = w.drewN m := hr ▸ taken_any a at' n w ha ha' h1 h2 h3 h4
theorem row_num (low m u : Int) (h1 : 0 ≤ low) (h2 : low < 4096) (h3 : 0 ≤ m) (h4 : m < 8) (h5 : 0 ≤ u) (h6 : u < 128) :
    bits .or .u32 (bits .or .u32 low (m * 4096)) (u * 33554432) = low + m * 4096 + u * 33554432 := by
  rw [show m * 4096 = m * 2 ^ 12 by omega, show u * 33554432 = u * 2 ^ 25 by omega]
  rw [bits_or_u32 low _ h1 (by omega) (by omega) (by omega), bor_lo low m 12 h1 h3 (by omega)]
  rw [bits_or_u32 _ _ (by omega) (by omega) (by omega) (by omega), bor_lo _ u 25 (by omega) h5 (by omega)]
theorem row_any (op first low : Int) (b : Nat) (ms : List Int) (w : World) (T : Tab w) (hm : ∀ i n, ms[i]? = some n → w.cell? ⟨b, i, none⟩ = some (.int .u32 n)) (hms : ∀ n ∈ ms, 0 ≤ n ∧ n < 8)
    (h1 : first ≤ op) (h2 : op - first < ms.length) (h3 : 0 ≤ op) (h4 : op < 60) (h5 : 0 ≤ low) (h6 : low < 128) (h7 : -1 ≤ first) (h8 : ms.length ≤ 20) :
    Calls Tryz.prog 125 #[.int .i64 op, .int .i64 first, .int .u32 low, .slice (some ⟨b, 0, none⟩) ms.length ms.length] w fun e w' => e = .returned (.int .u32 (Dc.rowOf op first low ms)) ∧ Gr w w' := by
  obtain ⟨m, hm1⟩ : ∃ m, ms[(op - first).toNat]? = some m := ⟨_, List.getElem?_eq_getElem (by omega)⟩
  have hl : Dc.uppers.length = 60 := by decide
  obtain ⟨u, hu1⟩ : ∃ u, Dc.uppers[op.toNat]? = some u := ⟨_, List.getElem?_eq_getElem (by omega)⟩
  have hmb := hms m (List.mem_of_getElem? hm1)
  have hub : 0 ≤ u ∧ u < 128 := by
    have : ∀ u ∈ Dc.uppers, 0 ≤ u ∧ u < 128 := by decide
    exact this u (List.mem_of_getElem? hu1)
  have c1 := hm _ _ hm1
  have c2 := T.uppers _ _ hu1
  have E : Hid (Dc.rowOf op first low ms = low + m * 4096 + u * 33554432) := by
    show _ = _
    unfold Dc.rowOf Dc.nth
    rw [List.getD, hm1, List.getD, hu1]; rfl
  clear hm hms hm1 hu1 T hl
  go_enter Tryz.func125, Tryz.ntmps125
  go_wp2
  refine wp_region_quiet_lit (by kernel_rfl) (by kernel_rfl) ?_
  iterate 15 go_big_quiet_step (fail)
  refine wpQuiet_nil ?_; intro _ h; obtain ⟨nq, h2⟩ := h; subst h2
  go_wp2
  go_ret
  rw [E.out]
  exact ⟨ret_int (row_num low m u h5 (by omega) hmb.1 hmb.2 hub.1 hub.2), (Gr.refl w).drewN _⟩
theorem within_yes (a b c : Int) (w : World) (h : b ≤ a ∧ a ≤ c) :
    Calls Tryz.prog 126 #[.int .i64 a, .int .i64 b, .int .i64 c] w fun e w' => e = .returned (.bool true) ∧ w' = w := by
  refine (within_any a b c w).mono ?_
  rintro e w' ⟨rfl, rfl⟩
  exact ⟨ret_bool (by simp [h]), rfl⟩
theorem within_no (a b c : Int) (w : World) (h : ¬ (b ≤ a ∧ a ≤ c)) :
    Calls Tryz.prog 126 #[.int .i64 a, .int .i64 b, .int .i64 c] w fun e w' => e = .returned (.bool false) ∧ w' = w := by
  refine (within_any a b c w).mono ?_
  rintro e w' ⟨rfl, rfl⟩
  exact ⟨ret_bool (by rw [← Bool.decide_and]; simpa using h), rfl⟩
theorem cells_new (w : World) (ms : List Int) (t : TypeId) : ∀ i n, ms[i]? = some n → (w.alloc (.cells (ms.map (Value.int .u32)).toArray t)).cell? ⟨w.heap.size, i, none⟩ = some (.int .u32 n) := by
  intro i n h
  rw [World.cell?_alloc_new]; simp [h]
def Told (op : Int) : Prop := ∀ w : World, Tab w → Calls Tryz.prog 107 #[.int .i64 op] w fun e w' => e = .returned (.tuple #[.int .i64 (Dc.frm op), .int .u32 (Dc.tbits op)]) ∧ Gr w w'
theorem ret_two {a b c d : Int} (h : a = c) (h' : b = d) : Ending.returned (.tuple #[.int .i64 a, .int .u32 b]) = .returned (.tuple #[.int .i64 c, .int .u32 d]) := by rw [h, h']
theorem told_4 (op : Int) (h1 : 4 ≤ op) (h2 : op ≤ 4) : Told op := by
  intro w T
  have F : Hid (Dc.frm op = 3) := by
    show _ = _
    unfold Dc.frm
    repeat (first | rw [if_pos (by omega)] | rw [if_neg (by omega)])
  have B : Hid (Dc.tbits op = Dc.rowOf op 4 103 [0]) := by
    show _ = _
    unfold Dc.tbits
    repeat (first | rw [if_pos (by omega)] | rw [if_neg (by omega)])
  have e1 : (op == 1) = false := by simp; omega
  have e2 : (op == 2) = false := by simp; omega
  have e3 : (op == 3) = false := by simp; omega
  have e4 : (op == 4) = true := by simp; omega
  have e57 : (op == 57) = false := by simp; omega
  have e58 : (op == 58) = false := by simp; omega
  have e59 : (op == 59) = false := by simp; omega
  go_enter Tryz.func107, Tryz.ntmps107
  go_wp2_with (first | (go_at_call 126; first | (refine (within_yes _ _ _ _ (by omega)).mono ?_; rintro e w' ⟨rfl, rfl⟩) | (refine (within_no _ _ _ _ (by omega)).mono ?_; rintro e w' ⟨rfl, rfl⟩)) | (go_at_call 125; refine (row_any _ _ _ _ [0] _ (T.of ((Gr.refl _).alloc _ _)) (cells_new _ [0] _) (by decide) (by omega) (by simp <;> omega) (by omega) (by omega) (by omega) (by omega) (by omega) (by decide)).mono ?_; rintro e w' ⟨rfl, g⟩))
  go_ret2
  exact ⟨ret_two F.out.symm B.out.symm, ((Gr.refl _).alloc _ _).trans g⟩
theorem told_5 (op : Int) (h1 : 5 ≤ op) (h2 : op ≤ 10) : Told op := by
  intro w T
  have F : Hid (Dc.frm op = 5) := by
    show _ = _
    unfold Dc.frm
    repeat (first | rw [if_pos (by omega)] | rw [if_neg (by omega)])
  have B : Hid (Dc.tbits op = Dc.rowOf op 5 99 [0, 1, 4, 5, 6, 7]) := by
    show _ = _
    unfold Dc.tbits
    repeat (first | rw [if_pos (by omega)] | rw [if_neg (by omega)])
  have e1 : (op == 1) = false := by simp; omega
  have e2 : (op == 2) = false := by simp; omega
  have e3 : (op == 3) = false := by simp; omega
  have e4 : (op == 4) = false := by simp; omega
  have e57 : (op == 57) = false := by simp; omega
  have e58 : (op == 58) = false := by simp; omega
  have e59 : (op == 59) = false := by simp; omega
  go_enter Tryz.func107, Tryz.ntmps107
  go_wp2_with (first | (go_at_call 126; first | (refine (within_yes _ _ _ _ (by omega)).mono ?_; rintro e w' ⟨rfl, rfl⟩) | (refine (within_no _ _ _ _ (by omega)).mono ?_; rintro e w' ⟨rfl, rfl⟩)) | (go_at_call 125; refine (row_any _ _ _ _ [0, 1, 4, 5, 6, 7] _ (T.of ((Gr.refl _).alloc _ _)) (cells_new _ [0, 1, 4, 5, 6, 7] _) (by decide) (by omega) (by simp <;> omega) (by omega) (by omega) (by omega) (by omega) (by omega) (by decide)).mono ?_; rintro e w' ⟨rfl, g⟩))
  go_ret2
  exact ⟨ret_two F.out.symm B.out.symm, ((Gr.refl _).alloc _ _).trans g⟩
theorem told_11 (op : Int) (h1 : 11 ≤ op) (h2 : op ≤ 15) : Told op := by
  intro w T
  have F : Hid (Dc.frm op = 3) := by
    show _ = _
    unfold Dc.frm
    repeat (first | rw [if_pos (by omega)] | rw [if_neg (by omega)])
  have B : Hid (Dc.tbits op = Dc.rowOf op 11 3 [0, 1, 2, 4, 5]) := by
    show _ = _
    unfold Dc.tbits
    repeat (first | rw [if_pos (by omega)] | rw [if_neg (by omega)])
  have e1 : (op == 1) = false := by simp; omega
  have e2 : (op == 2) = false := by simp; omega
  have e3 : (op == 3) = false := by simp; omega
  have e4 : (op == 4) = false := by simp; omega
  have e57 : (op == 57) = false := by simp; omega
  have e58 : (op == 58) = false := by simp; omega
  have e59 : (op == 59) = false := by simp; omega
  go_enter Tryz.func107, Tryz.ntmps107
  go_wp2_with (first | (go_at_call 126; first | (refine (within_yes _ _ _ _ (by omega)).mono ?_; rintro e w' ⟨rfl, rfl⟩) | (refine (within_no _ _ _ _ (by omega)).mono ?_; rintro e w' ⟨rfl, rfl⟩)) | (go_at_call 125; refine (row_any _ _ _ _ [0, 1, 2, 4, 5] _ (T.of ((Gr.refl _).alloc _ _)) (cells_new _ [0, 1, 2, 4, 5] _) (by decide) (by omega) (by simp <;> omega) (by omega) (by omega) (by omega) (by omega) (by omega) (by decide)).mono ?_; rintro e w' ⟨rfl, g⟩))
  go_ret2
  exact ⟨ret_two F.out.symm B.out.symm, ((Gr.refl _).alloc _ _).trans g⟩
theorem told_16 (op : Int) (h1 : 16 ≤ op) (h2 : op ≤ 18) : Told op := by
  intro w T
  have F : Hid (Dc.frm op = 6) := by
    show _ = _
    unfold Dc.frm
    repeat (first | rw [if_pos (by omega)] | rw [if_neg (by omega)])
  have B : Hid (Dc.tbits op = Dc.rowOf op 16 35 [0, 1, 2]) := by
    show _ = _
    unfold Dc.tbits
    repeat (first | rw [if_pos (by omega)] | rw [if_neg (by omega)])
  have e1 : (op == 1) = false := by simp; omega
  have e2 : (op == 2) = false := by simp; omega
  have e3 : (op == 3) = false := by simp; omega
  have e4 : (op == 4) = false := by simp; omega
  have e57 : (op == 57) = false := by simp; omega
  have e58 : (op == 58) = false := by simp; omega
  have e59 : (op == 59) = false := by simp; omega
  go_enter Tryz.func107, Tryz.ntmps107
  go_wp2_with (first | (go_at_call 126; first | (refine (within_yes _ _ _ _ (by omega)).mono ?_; rintro e w' ⟨rfl, rfl⟩) | (refine (within_no _ _ _ _ (by omega)).mono ?_; rintro e w' ⟨rfl, rfl⟩)) | (go_at_call 125; refine (row_any _ _ _ _ [0, 1, 2] _ (T.of ((Gr.refl _).alloc _ _)) (cells_new _ [0, 1, 2] _) (by decide) (by omega) (by simp <;> omega) (by omega) (by omega) (by omega) (by omega) (by omega) (by decide)).mono ?_; rintro e w' ⟨rfl, g⟩))
  go_ret2
  exact ⟨ret_two F.out.symm B.out.symm, ((Gr.refl _).alloc _ _).trans g⟩
theorem told_19 (op : Int) (h1 : 19 ≤ op) (h2 : op ≤ 24) : Told op := by
  intro w T
  have F : Hid (Dc.frm op = 3) := by
    show _ = _
    unfold Dc.frm
    repeat (first | rw [if_pos (by omega)] | rw [if_neg (by omega)])
  have B : Hid (Dc.tbits op = Dc.rowOf op 19 19 [0, 2, 3, 4, 6, 7]) := by
    show _ = _
    unfold Dc.tbits
    repeat (first | rw [if_pos (by omega)] | rw [if_neg (by omega)])
  have e1 : (op == 1) = false := by simp; omega
  have e2 : (op == 2) = false := by simp; omega
  have e3 : (op == 3) = false := by simp; omega
  have e4 : (op == 4) = false := by simp; omega
  have e57 : (op == 57) = false := by simp; omega
  have e58 : (op == 58) = false := by simp; omega
  have e59 : (op == 59) = false := by simp; omega
  go_enter Tryz.func107, Tryz.ntmps107
  go_wp2_with (first | (go_at_call 126; first | (refine (within_yes _ _ _ _ (by omega)).mono ?_; rintro e w' ⟨rfl, rfl⟩) | (refine (within_no _ _ _ _ (by omega)).mono ?_; rintro e w' ⟨rfl, rfl⟩)) | (go_at_call 125; refine (row_any _ _ _ _ [0, 2, 3, 4, 6, 7] _ (T.of ((Gr.refl _).alloc _ _)) (cells_new _ [0, 2, 3, 4, 6, 7] _) (by decide) (by omega) (by simp <;> omega) (by omega) (by omega) (by omega) (by omega) (by omega) (by decide)).mono ?_; rintro e w' ⟨rfl, g⟩))
  go_ret2
  exact ⟨ret_two F.out.symm B.out.symm, ((Gr.refl _).alloc _ _).trans g⟩
theorem told_25 (op : Int) (h1 : 25 ≤ op) (h2 : op ≤ 27) : Told op := by
  intro w T
  have F : Hid (Dc.frm op = 4) := by
    show _ = _
    unfold Dc.frm
    repeat (first | rw [if_pos (by omega)] | rw [if_neg (by omega)])
  have B : Hid (Dc.tbits op = Dc.rowOf op 25 19 [1, 5, 5]) := by
    show _ = _
    unfold Dc.tbits
    repeat (first | rw [if_pos (by omega)] | rw [if_neg (by omega)])
  have e1 : (op == 1) = false := by simp; omega
  have e2 : (op == 2) = false := by simp; omega
  have e3 : (op == 3) = false := by simp; omega
  have e4 : (op == 4) = false := by simp; omega
  have e57 : (op == 57) = false := by simp; omega
  have e58 : (op == 58) = false := by simp; omega
  have e59 : (op == 59) = false := by simp; omega
  go_enter Tryz.func107, Tryz.ntmps107
  go_wp2_with (first | (go_at_call 126; first | (refine (within_yes _ _ _ _ (by omega)).mono ?_; rintro e w' ⟨rfl, rfl⟩) | (refine (within_no _ _ _ _ (by omega)).mono ?_; rintro e w' ⟨rfl, rfl⟩)) | (go_at_call 125; refine (row_any _ _ _ _ [1, 5, 5] _ (T.of ((Gr.refl _).alloc _ _)) (cells_new _ [1, 5, 5] _) (by decide) (by omega) (by simp <;> omega) (by omega) (by omega) (by omega) (by omega) (by omega) (by decide)).mono ?_; rintro e w' ⟨rfl, g⟩))
  go_ret2
  exact ⟨ret_two F.out.symm B.out.symm, ((Gr.refl _).alloc _ _).trans g⟩
theorem told_28 (op : Int) (h1 : 28 ≤ op) (h2 : op ≤ 37) : Told op := by
  intro w T
  have F : Hid (Dc.frm op = 7) := by
    show _ = _
    unfold Dc.frm
    repeat (first | rw [if_pos (by omega)] | rw [if_neg (by omega)])
  have B : Hid (Dc.tbits op = Dc.rowOf op 28 51 [0, 0, 1, 2, 3, 4, 5, 5, 6, 7]) := by
    show _ = _
    unfold Dc.tbits
    repeat (first | rw [if_pos (by omega)] | rw [if_neg (by omega)])
  have e1 : (op == 1) = false := by simp; omega
  have e2 : (op == 2) = false := by simp; omega
  have e3 : (op == 3) = false := by simp; omega
  have e4 : (op == 4) = false := by simp; omega
  have e57 : (op == 57) = false := by simp; omega
  have e58 : (op == 58) = false := by simp; omega
  have e59 : (op == 59) = false := by simp; omega
  go_enter Tryz.func107, Tryz.ntmps107
  go_wp2_with (first | (go_at_call 126; first | (refine (within_yes _ _ _ _ (by omega)).mono ?_; rintro e w' ⟨rfl, rfl⟩) | (refine (within_no _ _ _ _ (by omega)).mono ?_; rintro e w' ⟨rfl, rfl⟩)) | (go_at_call 125; refine (row_any _ _ _ _ [0, 0, 1, 2, 3, 4, 5, 5, 6, 7] _ (T.of ((Gr.refl _).alloc _ _)) (cells_new _ [0, 0, 1, 2, 3, 4, 5, 5, 6, 7] _) (by decide) (by omega) (by simp <;> omega) (by omega) (by omega) (by omega) (by omega) (by omega) (by decide)).mono ?_; rintro e w' ⟨rfl, g⟩))
  go_ret2
  exact ⟨ret_two F.out.symm B.out.symm, ((Gr.refl _).alloc _ _).trans g⟩
theorem told_38 (op : Int) (h1 : 38 ≤ op) (h2 : op ≤ 45) : Told op := by
  intro w T
  have F : Hid (Dc.frm op = 7) := by
    show _ = _
    unfold Dc.frm
    repeat (first | rw [if_pos (by omega)] | rw [if_neg (by omega)])
  have B : Hid (Dc.tbits op = Dc.rowOf op 38 51 [0, 1, 2, 3, 4, 5, 6, 7]) := by
    show _ = _
    unfold Dc.tbits
    repeat (first | rw [if_pos (by omega)] | rw [if_neg (by omega)])
  have e1 : (op == 1) = false := by simp; omega
  have e2 : (op == 2) = false := by simp; omega
  have e3 : (op == 3) = false := by simp; omega
  have e4 : (op == 4) = false := by simp; omega
  have e57 : (op == 57) = false := by simp; omega
  have e58 : (op == 58) = false := by simp; omega
  have e59 : (op == 59) = false := by simp; omega
  go_enter Tryz.func107, Tryz.ntmps107
  go_wp2_with (first | (go_at_call 126; first | (refine (within_yes _ _ _ _ (by omega)).mono ?_; rintro e w' ⟨rfl, rfl⟩) | (refine (within_no _ _ _ _ (by omega)).mono ?_; rintro e w' ⟨rfl, rfl⟩)) | (go_at_call 125; refine (row_any _ _ _ _ [0, 1, 2, 3, 4, 5, 6, 7] _ (T.of ((Gr.refl _).alloc _ _)) (cells_new _ [0, 1, 2, 3, 4, 5, 6, 7] _) (by decide) (by omega) (by simp <;> omega) (by omega) (by omega) (by omega) (by omega) (by omega) (by decide)).mono ?_; rintro e w' ⟨rfl, g⟩))
  go_ret2
  exact ⟨ret_two F.out.symm B.out.symm, ((Gr.refl _).alloc _ _).trans g⟩
theorem told_46 (op : Int) (h1 : 46 ≤ op) (h2 : op ≤ 56) : Told op := by
  intro w T
  have F : Hid (Dc.frm op = 8) := by
    show _ = _
    unfold Dc.frm
    repeat (first | rw [if_pos (by omega)] | rw [if_neg (by omega)])
  have B : Hid (Dc.tbits op = Dc.rowOf op op 47 [2]) := by
    show _ = _
    unfold Dc.tbits
    repeat (first | rw [if_pos (by omega)] | rw [if_neg (by omega)])
  have e1 : (op == 1) = false := by simp; omega
  have e2 : (op == 2) = false := by simp; omega
  have e3 : (op == 3) = false := by simp; omega
  have e4 : (op == 4) = false := by simp; omega
  have e57 : (op == 57) = false := by simp; omega
  have e58 : (op == 58) = false := by simp; omega
  have e59 : (op == 59) = false := by simp; omega
  go_enter Tryz.func107, Tryz.ntmps107
  go_wp2_with (first | (go_at_call 126; first | (refine (within_yes _ _ _ _ (by omega)).mono ?_; rintro e w' ⟨rfl, rfl⟩) | (refine (within_no _ _ _ _ (by omega)).mono ?_; rintro e w' ⟨rfl, rfl⟩)) | (go_at_call 125; refine (row_any _ _ _ _ [2] _ (T.of ((Gr.refl _).alloc _ _)) (cells_new _ [2] _) (by decide) (by omega) (by simp <;> omega) (by omega) (by omega) (by omega) (by omega) (by omega) (by decide)).mono ?_; rintro e w' ⟨rfl, g⟩))
  go_ret2
  exact ⟨ret_two F.out.symm B.out.symm, ((Gr.refl _).alloc _ _).trans g⟩
theorem told_57 : Told 57 := by
  intro w T
  go_enter Tryz.func107, Tryz.ntmps107
  go_wp2_with (first | (go_at_call 126; first | (refine (within_yes _ _ _ _ (by omega)).mono ?_; rintro e w' ⟨rfl, rfl⟩) | (refine (within_no _ _ _ _ (by omega)).mono ?_; rintro e w' ⟨rfl, rfl⟩)) | (go_at_call 125; refine (row_any 57 57 15 _ [0] _ (T.of ((Gr.refl _).alloc _ _)) (cells_new _ [0] _) (by decide) (by omega) (by simp <;> omega) (by omega) (by omega) (by omega) (by omega) (by omega) (by decide)).mono ?_; rintro e w' ⟨rfl, g⟩))
  go_ret2
  exact ⟨rfl, ((Gr.refl _).alloc _ _).trans g⟩
theorem told_1 : Told 1 := by
  intro w T
  go_enter Tryz.func107, Tryz.ntmps107
  go_wp2_with (go_at_call 126; first | (refine (within_yes _ _ _ _ (by omega)).mono ?_; rintro e w' ⟨rfl, rfl⟩) | (refine (within_no _ _ _ _ (by omega)).mono ?_; rintro e w' ⟨rfl, rfl⟩))
  go_ret2
  exact ⟨rfl, Gr.refl _⟩
theorem told_2 : Told 2 := by
  intro w T
  go_enter Tryz.func107, Tryz.ntmps107
  go_wp2_with (go_at_call 126; first | (refine (within_yes _ _ _ _ (by omega)).mono ?_; rintro e w' ⟨rfl, rfl⟩) | (refine (within_no _ _ _ _ (by omega)).mono ?_; rintro e w' ⟨rfl, rfl⟩))
  go_ret2
  exact ⟨rfl, Gr.refl _⟩
theorem told_3 : Told 3 := by
  intro w T
  go_enter Tryz.func107, Tryz.ntmps107
  go_wp2_with (go_at_call 126; first | (refine (within_yes _ _ _ _ (by omega)).mono ?_; rintro e w' ⟨rfl, rfl⟩) | (refine (within_no _ _ _ _ (by omega)).mono ?_; rintro e w' ⟨rfl, rfl⟩))
  go_ret2
  exact ⟨rfl, Gr.refl _⟩
theorem told_58 : Told 58 := by
  intro w T
  go_enter Tryz.func107, Tryz.ntmps107
  go_wp2_with (go_at_call 126; first | (refine (within_yes _ _ _ _ (by omega)).mono ?_; rintro e w' ⟨rfl, rfl⟩) | (refine (within_no _ _ _ _ (by omega)).mono ?_; rintro e w' ⟨rfl, rfl⟩))
  go_ret2
  exact ⟨rfl, Gr.refl _⟩
theorem told_59 : Told 59 := by
  intro w T
  go_enter Tryz.func107, Tryz.ntmps107
  go_wp2_with (go_at_call 126; first | (refine (within_yes _ _ _ _ (by omega)).mono ?_; rintro e w' ⟨rfl, rfl⟩) | (refine (within_no _ _ _ _ (by omega)).mono ?_; rintro e w' ⟨rfl, rfl⟩))
  go_ret2
  exact ⟨rfl, Gr.refl _⟩
theorem told_none (op : Int) (h : op < 1 ∨ 59 < op) : Told op := by
  intro w T
  have F : Hid (Dc.frm op = 0) := by
    show _ = _
    unfold Dc.frm
    repeat (first | rw [if_pos (by omega)] | rw [if_neg (by omega)])
  have B : Hid (Dc.tbits op = 0) := by
    show _ = _
    unfold Dc.tbits
    repeat (first | rw [if_neg (by omega)])
  have e1 : (op == 1) = false := by simp; omega
  have e2 : (op == 2) = false := by simp; omega
  have e3 : (op == 3) = false := by simp; omega
  have e4 : (op == 4) = false := by simp; omega
  have e57 : (op == 57) = false := by simp; omega
  have e58 : (op == 58) = false := by simp; omega
  have e59 : (op == 59) = false := by simp; omega
  go_enter Tryz.func107, Tryz.ntmps107
  go_wp2_with (go_at_call 126; first | (refine (within_yes _ _ _ _ (by omega)).mono ?_; rintro e w' ⟨rfl, rfl⟩) | (refine (within_no _ _ _ _ (by omega)).mono ?_; rintro e w' ⟨rfl, rfl⟩))
  go_ret2
  exact ⟨ret_two F.out.symm B.out.symm, Gr.refl _⟩
theorem told_any (op : Int) : Told op := by
  by_cases h0 : op < 1 ∨ 59 < op
  · exact told_none op h0
  by_cases e1 : op = 1
  · subst e1; exact told_1
  by_cases e2 : op = 2
  · subst e2; exact told_2
  by_cases e3 : op = 3
  · subst e3; exact told_3
  by_cases e58 : op = 58
  · subst e58; exact told_58
  by_cases e59 : op = 59
  · subst e59; exact told_59
  by_cases h4 : op ≤ 4
  · exact told_4 op (by omega) h4
  by_cases h5 : op ≤ 10
  · exact told_5 op (by omega) h5
  by_cases h11 : op ≤ 15
  · exact told_11 op (by omega) h11
  by_cases h16 : op ≤ 18
  · exact told_16 op (by omega) h16
  by_cases h19 : op ≤ 24
  · exact told_19 op (by omega) h19
  by_cases h25 : op ≤ 27
  · exact told_25 op (by omega) h25
  by_cases h28 : op ≤ 37
  · exact told_28 op (by omega) h28
  by_cases h38 : op ≤ 45
  · exact told_38 op (by omega) h38
  by_cases h46 : op ≤ 56
  · exact told_46 op (by omega) h46
  obtain rfl : op = 57 := by omega
  exact told_57
theorem span_any (a : Int) (w : World) (h0 : 0 ≤ a) (h1 : a < 4294967296) :
    Calls Tryz.prog 106 #[.int .u32 a] w fun e w' => e = .returned (.tuple #[.int .i64 (Dc.sp1 (a % 128)), .int .i64 (Dc.sp2 (a % 128))]) ∧ w' = w := by
  have B : bits .and .u32 a 127 = a % 128 := (bits_and_u32 a 127 h0 h1 (by omega) (by omega)).trans (Dc.band1 h0 h1)
  by_cases e55 : a % 128 = 55
  · have b55 : (a % 128 == 55) = true := by simp [e55]
    have S1 : Hid (Dc.sp1 (a % 128) = 1) := by show _ = _; rw [e55]; rfl
    have S2 : Hid (Dc.sp2 (a % 128) = 1) := by show _ = _; rw [e55]; rfl
    clear e55
    go_enter Tryz.func106, Tryz.ntmps106
    go_wp2
    go_ret2
    rw [S1.out, S2.out]
    exact ⟨rfl, rfl⟩
  have b55 : (a % 128 == 55) = false := by simp [e55]
  by_cases e23 : a % 128 = 23
  · have b23 : (a % 128 == 23) = true := by simp [e23]
    have S1 : Hid (Dc.sp1 (a % 128) = 2) := by show _ = _; rw [e23]; rfl
    have S2 : Hid (Dc.sp2 (a % 128) = 2) := by show _ = _; rw [e23]; rfl
    clear e23
    go_enter Tryz.func106, Tryz.ntmps106
    go_wp2
    go_ret2
    rw [S1.out, S2.out]
    exact ⟨rfl, rfl⟩
  have b23 : (a % 128 == 23) = false := by simp [e23]
  by_cases e111 : a % 128 = 111
  · have b111 : (a % 128 == 111) = true := by simp [e111]
    have S1 : Hid (Dc.sp1 (a % 128) = 3) := by show _ = _; rw [e111]; rfl
    have S2 : Hid (Dc.sp2 (a % 128) = 3) := by show _ = _; rw [e111]; rfl
    clear e111
    go_enter Tryz.func106, Tryz.ntmps106
    go_wp2
    go_ret2
    rw [S1.out, S2.out]
    exact ⟨rfl, rfl⟩
  have b111 : (a % 128 == 111) = false := by simp [e111]
  by_cases e103 : a % 128 = 103
  · have b103 : (a % 128 == 103) = true := by simp [e103]
    have S1 : Hid (Dc.sp1 (a % 128) = 4) := by show _ = _; rw [e103]; rfl
    have S2 : Hid (Dc.sp2 (a % 128) = 4) := by show _ = _; rw [e103]; rfl
    clear e103
    go_enter Tryz.func106, Tryz.ntmps106
    go_wp2
    go_ret2
    rw [S1.out, S2.out]
    exact ⟨rfl, rfl⟩
  have b103 : (a % 128 == 103) = false := by simp [e103]
  by_cases e99 : a % 128 = 99
  · have b99 : (a % 128 == 99) = true := by simp [e99]
    have S1 : Hid (Dc.sp1 (a % 128) = 5) := by show _ = _; rw [e99]; rfl
    have S2 : Hid (Dc.sp2 (a % 128) = 10) := by show _ = _; rw [e99]; rfl
    clear e99
    go_enter Tryz.func106, Tryz.ntmps106
    go_wp2
    go_ret2
    rw [S1.out, S2.out]
    exact ⟨rfl, rfl⟩
  have b99 : (a % 128 == 99) = false := by simp [e99]
  by_cases e3 : a % 128 = 3
  · have b3 : (a % 128 == 3) = true := by simp [e3]
    have S1 : Hid (Dc.sp1 (a % 128) = 11) := by show _ = _; rw [e3]; rfl
    have S2 : Hid (Dc.sp2 (a % 128) = 15) := by show _ = _; rw [e3]; rfl
    clear e3
    go_enter Tryz.func106, Tryz.ntmps106
    go_wp2
    go_ret2
    rw [S1.out, S2.out]
    exact ⟨rfl, rfl⟩
  have b3 : (a % 128 == 3) = false := by simp [e3]
  by_cases e35 : a % 128 = 35
  · have b35 : (a % 128 == 35) = true := by simp [e35]
    have S1 : Hid (Dc.sp1 (a % 128) = 16) := by show _ = _; rw [e35]; rfl
    have S2 : Hid (Dc.sp2 (a % 128) = 18) := by show _ = _; rw [e35]; rfl
    clear e35
    go_enter Tryz.func106, Tryz.ntmps106
    go_wp2
    go_ret2
    rw [S1.out, S2.out]
    exact ⟨rfl, rfl⟩
  have b35 : (a % 128 == 35) = false := by simp [e35]
  by_cases e19 : a % 128 = 19
  · have b19 : (a % 128 == 19) = true := by simp [e19]
    have S1 : Hid (Dc.sp1 (a % 128) = 19) := by show _ = _; rw [e19]; rfl
    have S2 : Hid (Dc.sp2 (a % 128) = 27) := by show _ = _; rw [e19]; rfl
    clear e19
    go_enter Tryz.func106, Tryz.ntmps106
    go_wp2
    go_ret2
    rw [S1.out, S2.out]
    exact ⟨rfl, rfl⟩
  have b19 : (a % 128 == 19) = false := by simp [e19]
  by_cases e51 : a % 128 = 51
  · have b51 : (a % 128 == 51) = true := by simp [e51]
    have S1 : Hid (Dc.sp1 (a % 128) = 28) := by show _ = _; rw [e51]; rfl
    have S2 : Hid (Dc.sp2 (a % 128) = 45) := by show _ = _; rw [e51]; rfl
    clear e51
    go_enter Tryz.func106, Tryz.ntmps106
    go_wp2
    go_ret2
    rw [S1.out, S2.out]
    exact ⟨rfl, rfl⟩
  have b51 : (a % 128 == 51) = false := by simp [e51]
  by_cases e47 : a % 128 = 47
  · have b47 : (a % 128 == 47) = true := by simp [e47]
    have S1 : Hid (Dc.sp1 (a % 128) = 46) := by show _ = _; rw [e47]; rfl
    have S2 : Hid (Dc.sp2 (a % 128) = 56) := by show _ = _; rw [e47]; rfl
    clear e47
    go_enter Tryz.func106, Tryz.ntmps106
    go_wp2
    go_ret2
    rw [S1.out, S2.out]
    exact ⟨rfl, rfl⟩
  have b47 : (a % 128 == 47) = false := by simp [e47]
  by_cases e15 : a % 128 = 15
  · have b15 : (a % 128 == 15) = true := by simp [e15]
    have S1 : Hid (Dc.sp1 (a % 128) = 57) := by show _ = _; rw [e15]; rfl
    have S2 : Hid (Dc.sp2 (a % 128) = 57) := by show _ = _; rw [e15]; rfl
    clear e15
    go_enter Tryz.func106, Tryz.ntmps106
    go_wp2
    go_ret2
    rw [S1.out, S2.out]
    exact ⟨rfl, rfl⟩
  have b15 : (a % 128 == 15) = false := by simp [e15]
  by_cases e115 : a % 128 = 115
  · have b115 : (a % 128 == 115) = true := by simp [e115]
    have S1 : Hid (Dc.sp1 (a % 128) = 58) := by show _ = _; rw [e115]; rfl
    have S2 : Hid (Dc.sp2 (a % 128) = 59) := by show _ = _; rw [e115]; rfl
    clear e115
    go_enter Tryz.func106, Tryz.ntmps106
    go_wp2
    go_ret2
    rw [S1.out, S2.out]
    exact ⟨rfl, rfl⟩
  have b115 : (a % 128 == 115) = false := by simp [e115]
  have S1 : Hid (Dc.sp1 (a % 128) = 0) := by show _ = _; unfold Dc.sp1; simp [e55, e23, e111, e103, e99, e3, e35, e19, e51, e47, e15, e115]
  have S2 : Hid (Dc.sp2 (a % 128) = -1) := by show _ = _; unfold Dc.sp2; simp [e55, e23, e111, e103, e99, e3, e35, e19, e51, e47, e15, e115]
  clear e55 e23 e111 e103 e99 e3 e35 e19 e51 e47 e15 e115
  go_enter Tryz.func106, Tryz.ntmps106
  go_wp2
  go_ret2
  rw [S1.out, S2.out]
  exact ⟨rfl, rfl⟩
end Go.Proofs.YtchllaeembmioaaGreatDoor.Dw
