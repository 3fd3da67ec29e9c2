/-
  What the methods of package hart's core that store do: Store, Call.
-/
import Derived.Test.YtdiofidmlgliiaaDoorHm1
import Derived.Deep.RegionLaw
namespace Go.Proofs.YtdiofidmlgliiaaDoor.Hc
open Go.ChangeShapes Go.WideShapes Go.ChangeAt Go.RowKit Mm Hh
set_option linter.unusedVariables false
set_option linter.unusedSimpArgs false

variable {a op : Int} {w w' W : World} {base g n b : Nat} {h : Hv} {l : List UInt8} {os : List Int} {ss : List (Int × Int)} {x v : Value} {xs : List Value}
/-- append to a slice of the program's own, as one step of a region that draws its order. -/
theorem step_append_own {P : Program} {ops : Array Oper} {o : Oper} {a : Act} {K : Act → World → Prop} {Q : Exit → Act → World → Prop} {E : Prop}
    (hg : o.guard = none) (s x : Operand) (t : TypeId) (hop : o.op = Op.call { callee := Callee.builtin Builtin.append, args := #[s, x], argTypes := #[t, t] })
    (base : Nat) (e : TypeId) (i : TypeInfo) (z : Value) (size bytes : Nat) (h1 : P.underlying t = some (.slice e)) (h2 : P.info? e = some i) (h3 : i.zero = some z) (h4 : i.size = size) (h5 : i.bytes = bytes) (h6 : z.cells.size = size) (h7 : 0 < size)
    (v : Value) (n : Nat) (olds : List Value) (hs : a.eval s = v) (hown : w.ownsRow base e size v n olds)
    (ad : Addr) (m c : Nat) (news : List Value) (hx : a.eval x = .slice (some ad) m c) (hn : news.length = m * size) (hc : ∀ j u, news[j]? = some u → w.cell? (ad.add j) = some u) (h1c : ∀ u ∈ news, u.oneCell' = true)
    (b1 : n + m ≤ maxLen) (b2 : (n + m) * bytes ≤ 140737488355328) (hbase : base ≤ w.heap.size)
    (hK : ∀ v' w', w'.ownsRow base e size v' (n + m) (olds ++ news) → w.grownBy w' v.ownBlock → K (a.put o.dst v') w') :
    if Region.wanted o (yielded ops a.tmps) = true then Oper.wp P o a w K Q else E := by
  have hw : Region.wanted o (yielded ops a.tmps) = true := by simp [Region.wanted, hg]
  rw [if_pos hw]
  obtain ⟨v', w', hrun, r1, r2, _⟩ := run_append_own (P := P) w base t o.type e i z size bytes h1 h2 h3 h4 h5 h6 h7 v n olds hown ad m c news hn hc h1c b1 b2 hbase
  unfold Oper.wp
  simp [execOp, hop, resolve, invoke, builtin, hs, hx, hrun, Result.andThen]
  exact hK v' w' r1 r2

/-- The two tables of package hart hold what their initialisers lay. -/
structure Tb (w : World) (base : Nat) : Prop where
  sizes : ∀ i n, ([0, 0, 0, 0, 0, 0, 0, 0, 0, 0, 0, 0, 0, 0, 0, 0, 1, 2, 4] : List Int)[i]? = some n → w.cell? ⟨8, i, none⟩ = some (.int .u32 n)
  opers : ∀ i n, ([0, 0, 0, 0, 0, 0, 0, 0, 0, 0, 0, 0, 0, 0, 0, 0, 0, 0, 0, 28, 31, 32, 33, 36, 37, 30, 34, 35] : List Int)[i]? = some n → w.cell? ⟨5, i, none⟩ = some (.int .i64 n)
  b1 : 8 < base
  b2 : 5 < base
theorem Tb.of (T : Tb w base) (h : Fr base w w') : Tb w' base :=
  ⟨fun i n e => (Below.cell h.below (by exact T.b1)).trans (T.sizes i n e), fun i n e => (Below.cell h.below (by exact T.b2)).trans (T.opers i n e), T.b1, T.b2⟩

theorem infoR : (Tryd.prog.info? 143).map (fun i => (i.zero, i.size, i.bytes)) = some (some (.agg #[.int .u32 0, .int .u32 0]), 2, 8) := by kernel_rfl
theorem infoU : (Tryd.prog.info? 59).map (fun i => (i.zero, i.size, i.bytes)) = some (some (.int .u32 0), 1, 4) := by kernel_rfl

set_option maxHeartbeats 1000000 in
theorem Store_no {w : World} {base g : Nat} {h : Hv} {l : List UInt8} {os : List Int} {ss : List (Int × Int)} (I : In w base g h l os ss) (hl : l.length ≤ 140737488351232) (op a x : Int) (h0 : 0 ≤ a) (h1 : a < 4294967296) (hx0 : 0 ≤ x) (hx1 : x < 4294967296) (ok : stOk l op a = false) :
    Calls Tryd.prog 138 #[.pointer (some ⟨g, 0, none⟩), .int .i64 op, .int .u32 a, .int .u32 x] w fun e w' => e = .returned (.tuple #[]) ∧ In w' base g (h.trap 4) l os ss ∧ Ch g w w' := by
  have T : Hid (∀ W, In W base g h l os ss → ∀ c, Calls Tryd.prog 104 #[.pointer (some ⟨g, 0, none⟩), .int .i64 c] W fun e w' => e = .returned (.tuple #[]) ∧ In w' base g (h.trap c) l os ss ∧ Ch g W w') := fun W I c => trap_any I c
  have HI : Hid (In w base g h l os ss) := I
  obtain ⟨c0, rfl, I⟩ := I
  obtain ⟨ao, cap, hm, M⟩ := I.mem.mem
  have k1 : w.cell? ⟨g, 37, none⟩ = some (.slice ao l.length cap) := (I.fcell 0).trans (by rw [hm]; rfl)
  have L : Hid (Calls Tryd.prog 151 #[.slice ao l.length cap, .int .i64 op, .int .u32 a, .int .u32 x] w fun e w' => ∃ ao' n' cap', e = .returned (.tuple #[.slice ao' n' cap', .bool false]) ∧ Gr w w') := by
    have := Mm.Store_any cap op a x M hl h0 h1 hx0 hx1
    rw [ok] at this
    exact this.mono fun e w' ⟨a1, n1, c1, e1, _, e3⟩ => ⟨a1, n1, c1, e1, e3⟩
  clear I M hm ok
  generalize l.length = n at *
  go_enter Tryd.func138, Tryd.ntmps138
  go_wp2_with fail
  refine L.out.mono ?_
  rintro e w1 ⟨a1, n1, c1, rfl, G1⟩
  have HI1 : Hid (In w1 base g c0.h l os ss) := HI.out.of G1
  have HC1 : Hid (Ch g w w1) := (Ch.refl g w).gr G1
  clear L k1 G1
  go_wp2_with fail
  refine (T.out _ HI1.out 4).mono ?_
  rintro e w2 ⟨rfl, I2, C2⟩
  have HI2 : Hid (In w2 base g (c0.h.trap 4) l os ss) := I2
  have HC2 : Hid (Ch g w w2) := HC1.out.trans C2
  clear T I2 C2
  go_wp2
  refine bodyPost_ret (results_none Tryd.results138 _ _ _) rfl ?_
  exact ⟨rfl, HI2.out, HC2.out⟩

theorem mem_store {ao : Option Addr} (cap : Nat) (op a x : Int) (M : Mem w ao n l) (hn : n ≤ 140737488351232) (h0 : 0 ≤ a) (h1 : a < 4294967296) (hx0 : 0 ≤ x) (hx1 : x < 4294967296) (ok : stOk l op a = true) :
    Calls Tryd.prog 151 #[.slice ao n cap, .int .i64 op, .int .u32 a, .int .u32 x] w fun e w' => e = .returned (.tuple #[.slice (some ⟨w.heap.size, 0, none⟩) n n, .bool true]) ∧ Row w' w.heap.size (stL l op a x) ∧ Gr w w' := by
  have hl := M.len
  have hok : thr n (ssz op) a = true := by unfold stOk at ok; rw [hl] at ok; exact ok
  have e2 : stL l op a x = put l a.toNat x (ssz op) := by unfold stL; rw [ok]; rfl
  rw [e2]
  obtain ⟨b, o, rfl, hb, hc⟩ := M.spot (thr_pos hok h0)
  obtain ⟨a, rfl⟩ := Int.eq_ofNat_of_zero_le h0
  exact Mm.Store_yes b o n cap l op x a w hn hl (by omega) hb hx0 hx1 hc hok
theorem stL_len {x : Int} (ok : stOk l op a = true) : (stL l op a x).length = l.length := by unfold stL; rw [ok]; exact len_put _ _ _ _
theorem stOk_op (ok : stOk l op a = true) : op = 16 ∨ op = 17 ∨ op = 18 := by
  have h : ¬ ssz op = 0 := by
    intro h
    simp [stOk, thr, h] at ok
  unfold ssz at h
  repeat' split at h
  all_goals omega
theorem Gr.drew {a : World} (h : Gr a w) : Gr a w.drew := h.drewN 1

theorem owns_gr {e sz : Nat} (h : w.ownsRow base e sz v n xs) (q : Gr w w') : w'.ownsRow base e sz v n xs :=
  owns_to h fun k o f hk => q.block k (gs hk).1
theorem own_form {size : Nat} {e : TypeId} (h : w.ownsRow base e size v n xs) (hn : 0 < n) : ∃ g cap, v = .slice (some ⟨g, 0, none⟩) n cap := by
  rcases h.2 with ⟨_, h0⟩ | ⟨g, cap, _, hv, _⟩
  · omega
  · exact ⟨g, cap, hv⟩
theorem two_cells {y : Value} (h0 : W.cell? ⟨b, 0, none⟩ = some x) (h1 : W.cell? ⟨b, 1, none⟩ = some y) : ∀ j u, ([x, y] : List Value)[j]? = some u → W.cell? ((⟨b, 0, none⟩ : Addr).add j) = some u := by
  intro j u hj
  rw [add_at]
  match j, hj with
  | 0, hj => simp at hj; subst hj; exact h0
  | 1, hj => simp at hj; subst hj; exact h1
theorem two_one (a b : Int) : ∀ u ∈ [Value.int .u32 a, Value.int .u32 b], u.oneCell' = true := by
  intro u hu
  simp at hu
  rcases hu with rfl | rfl <;> rfl
set_option maxHeartbeats 1000000 in
theorem Store_yes (I : In w base g h l os ss) (T : Tb w base) (hl : l.length ≤ 140737488351232) (hss : ss.length ≤ 1000000) (op a x : Int) (h0 : 0 ≤ a) (h1 : a < 4294967296) (hx0 : 0 ≤ x) (hx1 : x < 4294967296) (ok : stOk l op a = true) :
    Calls Tryd.prog 138 #[.pointer (some ⟨g, 0, none⟩), .int .i64 op, .int .u32 a, .int .u32 x] w fun e w' => e = .returned (.tuple #[]) ∧ In w' base g h (stL l op a x) os (ss ++ [(a, ((ssz op : Nat) : Int))]) ∧ Fr base w w' := by
  obtain ⟨c0, rfl, I⟩ := I
  obtain ⟨ao, cap, hm, M⟩ := I.mem.mem
  have k1 : w.cell? ⟨g, 37, none⟩ = some (.slice ao l.length cap) := (I.fcell 0).trans (by rw [hm]; rfl)
  have L : Hid (Calls Tryd.prog 151 #[.slice ao l.length cap, .int .i64 op, .int .u32 a, .int .u32 x] w fun e w' => e = .returned (.tuple #[.slice (some ⟨w.heap.size, 0, none⟩) l.length l.length, .bool true]) ∧ Row w' w.heap.size (stL l op a x) ∧ Gr w w') := mem_store cap op a x M hl h0 h1 hx0 hx1 ok
  have hk := stL_len (x := x) ok
  have hop := stOk_op ok
  obtain ⟨i0, hi, hz0, hz1, hz2⟩ := info_parts infoR
  generalize stL l op a x = k at *
  have HI : Hid _ := I
  have HT : Hid _ := T
  clear I M hm ok T
  rcases hop with rfl | rfl | rfl
  · rw [show ((ssz 16 : Nat) : Int) = 1 from rfl]
    go_enter Tryd.func138, Tryd.ntmps138
    go_wp2_with fail
    refine L.out.mono ?_
    rintro e w1 ⟨rfl, R1, G1⟩
    have J := HI.out.stored G1 R1 hk
    have q1 : w1.cell? ⟨g, 37, none⟩ = some (.slice ao l.length cap) := (Gr.cell G1 _ (by exact HI.out.lt)).trans k1
    have q2 : w1.frozen? ⟨g, 37, none⟩ = false := (HI.out.of G1).fz 37
    have B : Fr base w (w1.setCell ⟨g, 37, none⟩ (.slice (some ⟨w.heap.size, 0, none⟩) l.length l.length)) := HI.out.inn.below (((Ch.refl g w).gr G1).setCell _ _)
    clear L k1 R1 G1
    go_wp2_with fail
    generalize w1.setCell ⟨g, 37, none⟩ (.slice (some ⟨w.heap.size, 0, none⟩) l.length l.length) = w2 at *
    have k39 : w2.cell? ⟨g, 39, none⟩ = some c0.sto := J.fcell 2
    have fz := J.fz
    have hg := J.lt
    have ks : w2.cell? ⟨8, 16, none⟩ = some (.int .u32 1) := (HT.out.of B).sizes 16 1 rfl
    have HJ : Hid _ := J
    have HB : Hid _ := B
    clear J B q1 q2
    go_region_law (refine step_append_own rfl (.tmp 33) (.tmp 41) 99 rfl base 143 i0 _ 2 8 Tryd.underlying99 hi hz0 hz1 hz2 rfl (by decide) c0.sto ss.length (rgs ss) (by simp [Act.eval, Act.put]) (owns_gr HJ.out.sto (by repeat (first | exact Gr.refl _ | refine Gr.drew ?_ | refine Gr.alloc ?_ _))) ⟨w2.heap.size, 0, none⟩ 1 1 [.int .u32 a, .int .u32 (IntKind.u32.wrap (a + 1))] (by simp [Act.eval, Act.put]) rfl (two_cells (by simp) (by simp)) (two_one _ _) (by unfold maxLen; omega) (by omega) (by have := HJ.out.base_le; simp; omega) ?_; intro v' w' hown hgrow; obtain ⟨g', cp, rfl⟩ := own_form hown (by omega); obtain ⟨c39, f39, F⟩ := HJ.out.sto_grown (n := ss.length + 1) (by repeat (first | exact Gr.refl _ | refine Gr.drew ?_ | refine Gr.alloc ?_ _)) hgrow (ss' := ss ++ [(a, 1)]) (by simp) (by rw [rgs_snoc]; exact hown); have HF : Hid _ := F; clear F hown hgrow)
    all_goals
      go_end0
      exact ⟨rfl, HF.out.1.inn, HB.out.trans HF.out.2⟩
  · rw [show ((ssz 17 : Nat) : Int) = 2 from rfl]
    go_enter Tryd.func138, Tryd.ntmps138
    go_wp2_with fail
    refine L.out.mono ?_
    rintro e w1 ⟨rfl, R1, G1⟩
    have J := HI.out.stored G1 R1 hk
    have q1 : w1.cell? ⟨g, 37, none⟩ = some (.slice ao l.length cap) := (Gr.cell G1 _ (by exact HI.out.lt)).trans k1
    have q2 : w1.frozen? ⟨g, 37, none⟩ = false := (HI.out.of G1).fz 37
    have B : Fr base w (w1.setCell ⟨g, 37, none⟩ (.slice (some ⟨w.heap.size, 0, none⟩) l.length l.length)) := HI.out.inn.below (((Ch.refl g w).gr G1).setCell _ _)
    clear L k1 R1 G1
    go_wp2_with fail
    generalize w1.setCell ⟨g, 37, none⟩ (.slice (some ⟨w.heap.size, 0, none⟩) l.length l.length) = w2 at *
    have k39 : w2.cell? ⟨g, 39, none⟩ = some c0.sto := J.fcell 2
    have fz := J.fz
    have hg := J.lt
    have ks : w2.cell? ⟨8, 17, none⟩ = some (.int .u32 2) := (HT.out.of B).sizes 17 2 rfl
    have HJ : Hid _ := J
    have HB : Hid _ := B
    clear J B q1 q2
    go_region_law (refine step_append_own rfl (.tmp 33) (.tmp 41) 99 rfl base 143 i0 _ 2 8 Tryd.underlying99 hi hz0 hz1 hz2 rfl (by decide) c0.sto ss.length (rgs ss) (by simp [Act.eval, Act.put]) (owns_gr HJ.out.sto (by repeat (first | exact Gr.refl _ | refine Gr.drew ?_ | refine Gr.alloc ?_ _))) ⟨w2.heap.size, 0, none⟩ 1 1 [.int .u32 a, .int .u32 (IntKind.u32.wrap (a + 2))] (by simp [Act.eval, Act.put]) rfl (two_cells (by simp) (by simp)) (two_one _ _) (by unfold maxLen; omega) (by omega) (by have := HJ.out.base_le; simp; omega) ?_; intro v' w' hown hgrow; obtain ⟨g', cp, rfl⟩ := own_form hown (by omega); obtain ⟨c39, f39, F⟩ := HJ.out.sto_grown (n := ss.length + 1) (by repeat (first | exact Gr.refl _ | refine Gr.drew ?_ | refine Gr.alloc ?_ _)) hgrow (ss' := ss ++ [(a, 2)]) (by simp) (by rw [rgs_snoc]; exact hown); have HF : Hid _ := F; clear F hown hgrow)
    all_goals
      go_end0
      exact ⟨rfl, HF.out.1.inn, HB.out.trans HF.out.2⟩
  · rw [show ((ssz 18 : Nat) : Int) = 4 from rfl]
    go_enter Tryd.func138, Tryd.ntmps138
    go_wp2_with fail
    refine L.out.mono ?_
    rintro e w1 ⟨rfl, R1, G1⟩
    have J := HI.out.stored G1 R1 hk
    have q1 : w1.cell? ⟨g, 37, none⟩ = some (.slice ao l.length cap) := (Gr.cell G1 _ (by exact HI.out.lt)).trans k1
    have q2 : w1.frozen? ⟨g, 37, none⟩ = false := (HI.out.of G1).fz 37
    have B : Fr base w (w1.setCell ⟨g, 37, none⟩ (.slice (some ⟨w.heap.size, 0, none⟩) l.length l.length)) := HI.out.inn.below (((Ch.refl g w).gr G1).setCell _ _)
    clear L k1 R1 G1
    go_wp2_with fail
    generalize w1.setCell ⟨g, 37, none⟩ (.slice (some ⟨w.heap.size, 0, none⟩) l.length l.length) = w2 at *
    have k39 : w2.cell? ⟨g, 39, none⟩ = some c0.sto := J.fcell 2
    have fz := J.fz
    have hg := J.lt
    have ks : w2.cell? ⟨8, 18, none⟩ = some (.int .u32 4) := (HT.out.of B).sizes 18 4 rfl
    have HJ : Hid _ := J
    have HB : Hid _ := B
    clear J B q1 q2
    go_region_law (refine step_append_own rfl (.tmp 33) (.tmp 41) 99 rfl base 143 i0 _ 2 8 Tryd.underlying99 hi hz0 hz1 hz2 rfl (by decide) c0.sto ss.length (rgs ss) (by simp [Act.eval, Act.put]) (owns_gr HJ.out.sto (by repeat (first | exact Gr.refl _ | refine Gr.drew ?_ | refine Gr.alloc ?_ _))) ⟨w2.heap.size, 0, none⟩ 1 1 [.int .u32 a, .int .u32 (IntKind.u32.wrap (a + 4))] (by simp [Act.eval, Act.put]) rfl (two_cells (by simp) (by simp)) (two_one _ _) (by unfold maxLen; omega) (by omega) (by have := HJ.out.base_le; simp; omega) ?_; intro v' w' hown hgrow; obtain ⟨g', cp, rfl⟩ := own_form hown (by omega); obtain ⟨c39, f39, F⟩ := HJ.out.sto_grown (n := ss.length + 1) (by repeat (first | exact Gr.refl _ | refine Gr.drew ?_ | refine Gr.alloc ?_ _)) hgrow (ss' := ss ++ [(a, 4)]) (by simp) (by rw [rgs_snoc]; exact hown); have HF : Hid _ := F; clear F hown hgrow)
    all_goals
      go_end0
      exact ⟨rfl, HF.out.1.inn, HB.out.trans HF.out.2⟩

/-- Store: what it stores, or a trap. -/
theorem Store_any (I : In w base g h l os ss) (T : Tb w base) (hl : l.length ≤ 140737488351232) (hss : ss.length ≤ 1000000) (op a x : Int) (h0 : 0 ≤ a) (h1 : a < 4294967296) (hx0 : 0 ≤ x) (hx1 : x < 4294967296) :
    Calls Tryd.prog 138 #[.pointer (some ⟨g, 0, none⟩), .int .i64 op, .int .u32 a, .int .u32 x] w fun e w' => e = .returned (.tuple #[]) ∧ In w' base g (efStore h l op a x).h (efStore h l op a x).m os (ss ++ (efStore h l op a x).sto) ∧ Fr base w w' := by
  unfold efStore
  cases ok : stOk l op a with
  | false =>
    refine (Store_no I hl op a x h0 h1 hx0 hx1 ok).mono ?_
    rintro e w' ⟨rfl, J, C⟩
    exact ⟨rfl, by simpa using J, I.below C⟩
  | true => exact Store_yes I T hl hss op a x h0 h1 hx0 hx1 ok

theorem one_cell (h0 : W.cell? ⟨b, 0, none⟩ = some x) : ∀ j u, ([x] : List Value)[j]? = some u → W.cell? ((⟨b, 0, none⟩ : Addr).add j) = some u := by
  intro j u hj
  rw [add_at]
  match j, hj with
  | 0, hj => simp at hj; subst hj; exact h0
theorem one_one (a : Int) : ∀ u ∈ [Value.int .u32 a], u.oneCell' = true := by
  intro u hu
  simp at hu
  subst hu
  rfl
set_option maxHeartbeats 1000000 in
theorem Call_out (I : In w base g h l os ss) (hos : os.length ≤ 1000000) (h17 : rg h 17 = 1) :
    Calls Tryd.prog 141 #[.pointer (some ⟨g, 0, none⟩)] w fun e w' => e = .returned (.tuple #[]) ∧ In w' base g h l (os ++ [rg h 10]) ss ∧ Fr base w w' := by
  obtain ⟨c0, rfl, I⟩ := I
  have k17 : w.cell? ⟨g, 17, none⟩ = some (.int .u32 1) := by rw [← h17]; exact I.reg (by omega)
  have k10 : w.cell? ⟨g, 10, none⟩ = some (.int .u32 (rg c0.h 10)) := I.reg (by omega)
  have k38 : w.cell? ⟨g, 38, none⟩ = some c0.out := I.fcell 1
  have fz := I.fz
  have hg := I.lt
  have HJ : Hid _ := I
  obtain ⟨i0, hi, hz0, hz1, hz2⟩ := info_parts infoU
  generalize rg c0.h 10 = x at *
  clear I h17
  go_enter Tryd.func141, Tryd.ntmps141
  go_wp2_with fail
  go_region_law (refine step_append_own rfl (.tmp 22) (.tmp 29) 38 rfl base 59 i0 _ 1 4 Tryd.underlying38 hi hz0 hz1 hz2 rfl (by decide) c0.out os.length (os.map (Value.int .u32)) (by simp [Act.eval, Act.put]) (owns_gr HJ.out.out (by repeat (first | exact Gr.refl _ | refine Gr.drew ?_ | refine Gr.alloc ?_ _))) ⟨w.heap.size, 0, none⟩ 1 1 [.int .u32 x] (by simp [Act.eval, Act.put]) rfl (one_cell (by simp)) (one_one _) (by unfold maxLen; omega) (by omega) (by have := HJ.out.base_le; simp; omega) ?_; intro v' w' hown hgrow; obtain ⟨g', cp, rfl⟩ := own_form hown (by omega); obtain ⟨c38, f38, F⟩ := HJ.out.out_grown (n := os.length + 1) (by repeat (first | exact Gr.refl _ | refine Gr.drew ?_ | refine Gr.alloc ?_ _)) hgrow (os' := os ++ [x]) (by simp) (by rw [List.map_append]; exact hown); have HF : Hid _ := F; clear F hown hgrow)
  all_goals
    go_end0
    exact ⟨rfl, HF.out.1.inn, HF.out.2⟩
set_option maxHeartbeats 1000000 in
theorem Call_not {w : World} {base g : Nat} {h : Hv} {l : List UInt8} {os : List Int} {ss : List (Int × Int)} (I : In w base g h l os ss) (h17 : ¬ rg h 17 = 1) :
    Calls Tryd.prog 141 #[.pointer (some ⟨g, 0, none⟩)] w fun e w' => e = .returned (.tuple #[]) ∧ In w' base g (if rg h 17 = 0 then h.halt else h.trap 5) l os ss ∧ Fr base w w' := by
  have T : Hid (∀ c, Calls Tryd.prog 104 #[.pointer (some ⟨g, 0, none⟩), .int .i64 c] w fun e w' => e = .returned (.tuple #[]) ∧ In w' base g (h.trap c) l os ss ∧ Ch g w w') := fun c => trap_any I c
  have HI : Hid (In w base g h l os ss) := I
  obtain ⟨c0, rfl, I⟩ := I
  have k17 : w.cell? ⟨g, 17, none⟩ = some (.int .u32 (rg c0.h 17)) := I.reg (by omega)
  have k35 : w.cell? ⟨g, 35, none⟩ = some (.int .i64 c0.h.state) := (I.hcell (by omega)).trans (hL_fld I.ok 3)
  have fz := I.fz
  have o1 : c0.h.halt.Ok := I.ok.halt
  have HJ : Hid (Inv (w.setCell ⟨g, 35, none⟩ (.int .i64 1)) base g { c0 with h := c0.h.halt } l os ss) := I.set (by omega) (set_state I.ok 1) o1
  clear I o1
  generalize c0.h.state = y at *
  generalize hx : rg c0.h 17 = x at *
  clear hx
  by_cases h0 : x = 0
  · subst h0
    rw [if_pos rfl]
    clear T
    go_enter Tryd.func141, Tryd.ntmps141
    go_wp2_with fail
    go_end0
    exact ⟨rfl, HJ.out.inn, HI.out.below ((Ch.refl g w).setCell _ _)⟩
  · rw [if_neg h0]
    have b0 : (x == 0) = false := by simp [h0]
    have b1 : (x == 1) = false := by simp [h17]
    clear h0 h17
    go_enter Tryd.func141, Tryd.ntmps141
    go_wp2_with fail
    refine (T.out 5).mono ?_
    rintro e w' ⟨rfl, I2, C2⟩
    have HI2 : Hid (In w' base g (c0.h.trap 5) l os ss) := I2
    have HC2 : Hid (Ch g w w') := C2
    clear I2 C2 T k17 k35 fz HJ
    go_wp2_with fail
    go_end0
    exact ⟨rfl, HI2.out, HI.out.below HC2.out⟩
theorem Call_any (I : In w base g h l os ss) (hos : os.length ≤ 1000000) :
    Calls Tryd.prog 141 #[.pointer (some ⟨g, 0, none⟩)] w fun e w' => e = .returned (.tuple #[]) ∧ In w' base g (efCall h l).h l (os ++ (efCall h l).out) ss ∧ Fr base w w' := by
  unfold efCall
  by_cases h1 : rg h 17 = 1
  · rw [if_neg (by omega), if_pos h1]
    exact Call_out I hos h1
  · refine (Call_not I h1).mono ?_
    rintro e w' ⟨rfl, J, B⟩
    refine ⟨rfl, ?_, B⟩
    by_cases h0 : rg h 17 = 0
    · rw [if_pos h0] at J ⊢; simpa using J
    · rw [if_neg h0] at J; rw [if_neg h0, if_neg h1]; simpa using J
end Go.Proofs.YtdiofidmlgliiaaDoor.Hc
