/-
  Pc, Pl, Pd1, Pd2: texts of ours that lie in one file.
-/
import Derived.Test.YtkcgcflpmggjkabDoorK03
import Derived.Test.YtkcgcflpmggjkabDoorK04
import Derived.Test.YtkcgcflpmggjkabDoorK08
import Derived.Deep.RegionHeld3
/-
  Where the program's runner leaves off: storedInOwn, leaves.
-/
namespace Go.Proofs.YtkcgcflpmggjkabDoor.Mp
open Go.ChangeShapes Go.WideShapes Go.ChangeAt Go.RowKit Mm Hh Hc Mi
set_option linter.unusedVariables false
set_option linter.unusedSimpArgs false

theorem in1_any {w : World} {B g : Nat} {bf bt : Int} (kb : w.cell? ⟨B, 0, none⟩ = some (.pointer (some ⟨g, 0, none⟩))) (k44 : w.cell? ⟨g, 44, none⟩ = some (.int .u32 bf)) (k45 : w.cell? ⟨g, 45, none⟩ = some (.int .u32 bt)) (x y : Int) :
    Calls Tryd.prog 101 #[.agg #[.int .u32 x, .int .u32 y], .pointer (some ⟨B, 0, none⟩)] w fun e w' => e = .returned (.bool (decide (max x bf < min y bt))) ∧ Gr w w' := by
  have G : ∀ x, Gr w (w.alloc x) := fun x => (Gr.refl _).alloc _
  have hB : B < w.heap.size := World.block_lt_of_cell? w _ kb
  have hg : g < w.heap.size := World.block_lt_of_cell? w _ k44
  have q1 : ∀ x, (w.alloc x).cell? ⟨B, 0, none⟩ = some (.pointer (some ⟨g, 0, none⟩)) := fun x => ((G x).cell _ (by exact hB)).trans kb
  have q2 : ∀ x, (w.alloc x).cell? ⟨g, 44, none⟩ = some (.int .u32 bf) := fun x => ((G x).cell _ (by exact hg)).trans k44
  have q3 : ∀ x, (w.alloc x).cell? ⟨g, 45, none⟩ = some (.int .u32 bt) := fun x => ((G x).cell _ (by exact hg)).trans k45
  clear G kb k44 k45
  go_enter Tryd.func101, Tryd.ntmps101
  go_wp2
  go_region
  all_goals (try go_wp2)
  all_goals
    go_ret
    refine ⟨retB ?_, ((Gr.refl _).alloc _).drew⟩
    rw [decide_eq_decide, Int.max_def, Int.min_def]
    (repeat' split) <;> omega
/-- A slice of ranges, read as pairs. -/
def Rs (w : World) (sa : Option Addr) (ss : List (Int × Int)) : Prop := ∀ i p, ss[i]? = some p → ∃ g1, sa = some ⟨g1, 0, none⟩ ∧ g1 < w.heap.size ∧ w.cell? ⟨g1, i * 2, none⟩ = some (.int .u32 p.1) ∧ w.cell? ⟨g1, i * 2 + 1, none⟩ = some (.int .u32 (Wd.lo (p.1 + p.2)))
theorem Rs.of {w w' : World} {sa : Option Addr} {ss : List (Int × Int)} (h : Rs w sa ss) (G : Gr w w') : Rs w' sa ss := fun i p hp => by
  obtain ⟨g1, e, l, c0, c1⟩ := h i p hp
  exact ⟨g1, e, Nat.lt_of_lt_of_le l G.size, (G.cell _ (by exact l)).trans c0, (G.cell _ (by exact l)).trans c1⟩
theorem rs_own {w : World} {base : Nat} {S : Value} {ss : List (Int × Int)} (so : w.ownsRow base 50 2 S ss.length (rgs ss)) : ∃ sa sc, S = .slice sa ss.length sc ∧ Rs w sa ss := by
  obtain ⟨sa, sc, rfl⟩ := owns_word so
  refine ⟨sa, sc, rfl, fun i p hp => ?_⟩
  have hn : 0 < ss.length := by have := (List.getElem?_eq_some_iff.1 hp).1; omega
  obtain ⟨g1, d1, e1, l1, c1⟩ := own_at so hn
  injection e1 with f1 _ _
  have q := rg_get hp
  exact ⟨g1, f1, l1, c1 _ _ q.1, c1 _ _ q.2⟩
theorem any_take {α : Type} {f : α → Bool} {l : List α} {j : Nat} {x : α} (h : l[j]? = some x) : (l.take (j + 1)).any f = ((l.take j).any f || f x) := by
  rw [List.take_add_one, h, List.any_append]
  simp
theorem any_of {α : Type} {f : α → Bool} {l : List α} {j : Nat} {x : α} (h : l[j]? = some x) (hx : f x = true) : l.any f = true := List.any_eq_true.2 ⟨x, List.mem_of_getElem? h, hx⟩
set_option maxHeartbeats 2000000 in
set_option maxRecDepth 100000 in
theorem idx_any {w : World} {B g : Nat} {bf bt : Int} (kb : w.cell? ⟨B, 0, none⟩ = some (.pointer (some ⟨g, 0, none⟩))) (k44 : w.cell? ⟨g, 44, none⟩ = some (.int .u32 bf)) (k45 : w.cell? ⟨g, 45, none⟩ = some (.int .u32 bt)) {sa : Option Addr} (sc : Nat) {ss : List (Int × Int)} (R : Rs w sa ss) (hs : ss.length ≤ 1000000) :
    Calls Tryd.prog 114 #[.slice sa ss.length sc, .func (.func 101) #[] #[.pointer (some ⟨B, 0, none⟩)]] w fun e w' => ∃ z : Int, e = .returned (.int .i64 z) ∧ decide (0 ≤ z) = ownB bf bt ss ∧ Gr w w' := by
  have Cl : Hid (∀ W : World, Gr w W → ∀ x y, Calls Tryd.prog 101 #[.agg #[.int .u32 x, .int .u32 y], .pointer (some ⟨B, 0, none⟩)] W fun e w' => e = .returned (.bool (decide (max x bf < min y bt))) ∧ Gr W w') := fun W G x y =>
    in1_any ((G.cell _ (by exact World.block_lt_of_cell? w _ kb)).trans kb) ((G.cell _ (by exact World.block_lt_of_cell? w _ k44)).trans k44) ((G.cell _ (by exact World.block_lt_of_cell? w _ k45)).trans k45) x y
  have HR : Hid (Rs w sa ss) := R
  generalize hn : ss.length = n at *
  have HN : Hid (ss.length = n) := hn
  clear R kb k44 k45 hn
  go_enter Tryd.func114, Tryd.ntmps114
  go_wp2_with fail
  go_loopw [8] (fun i wr => ∃ j : Nat, j ≤ n ∧ i = .int .i64 j ∧ (ss.take j).any (meet bf bt) = false ∧ Gr w wr) (fun i _ => n - (intOf i).toNat)
  case atStart => exact ⟨0, Nat.zero_le _, rfl, rfl, Gr.refl _⟩
  case round =>
    obtain ⟨j, hj, rfl, hno, G⟩ := hrel
    have HNo : Hid ((ss.take j).any (meet bf bt) = false) := hno
    have HG : Hid (Gr w wr) := G
    clear hno G
    by_cases hlt : j < n
    · obtain ⟨p, hp⟩ : ∃ p, ss[j]? = some p := ⟨_, List.getElem?_eq_getElem (by rw [HN.out]; exact hlt)⟩
      obtain ⟨g1, rfl, l1, c0, c1⟩ := HR.out.of HG.out j p hp
      have HY : Hid (meet bf bt p = true → ownB bf bt ss = true) := fun h => any_of hp h
      have HZ : Hid (meet bf bt p = false → (ss.take (j + 1)).any (meet bf bt) = false) := fun h => by rw [any_take hp, HNo.out, h]; rfl
      have Cl2 : Hid (∀ W : World, Gr w W → Calls Tryd.prog 101 #[.agg #[.int .u32 p.1, .int .u32 (Wd.lo (p.1 + p.2))], .pointer (some ⟨B, 0, none⟩)] W fun e w' => e = .returned (.bool (meet bf bt p)) ∧ Gr W w') := fun W G => Cl.out W G _ _
      generalize meet bf bt p = m at *
      clear hp Cl HNo HR HN
      generalize Wd.lo (p.1 + p.2) = y at *
      generalize p.1 = x at *
      cases m with
      | true =>
        have HY2 : Hid (ownB bf bt ss = true) := HY.out rfl
        clear HY HZ
        go_wp2_with fail
        refine (Cl2.out _ HG.out).mono ?_
        rintro e w1 ⟨rfl, G1⟩
        have HG1 : Hid (Gr w w1) := HG.out.trans G1
        clear Cl2 G1 c0 c1
        go_wp2_with fail
        go_ret
        exact ⟨_, rfl, by rw [HY2.out]; simp, HG1.out⟩
      | false =>
        have HZ2 : Hid ((ss.take (j + 1)).any (meet bf bt) = false) := HZ.out rfl
        clear HY HZ
        go_wp2_with fail
        refine (Cl2.out _ HG.out).mono ?_
        rintro e w1 ⟨rfl, G1⟩
        have HG1 : Hid (Gr w w1) := HG.out.trans G1
        clear Cl2 G1 c0 c1
        go_wp2_with fail
        go_roundw
        case rel => exact ⟨j + 1, by omega, by go_num, HZ2.out, HG1.out⟩
        case measure => simp [intOf]; omega
    · have ej : j = n := by omega
      have HE : Hid (ownB bf bt ss = false) := by
        unfold Hid ownB
        have := HNo.out
        rwa [ej, ← HN.out, List.take_length] at this
      go_wp2_with fail
      go_ret
      exact ⟨_, rfl, by rw [HE.out]; rfl, HG.out⟩
set_option maxHeartbeats 2000000 in
theorem contains_any {w : World} {B g : Nat} {bf bt : Int} (kb : w.cell? ⟨B, 0, none⟩ = some (.pointer (some ⟨g, 0, none⟩))) (k44 : w.cell? ⟨g, 44, none⟩ = some (.int .u32 bf)) (k45 : w.cell? ⟨g, 45, none⟩ = some (.int .u32 bt)) {sa : Option Addr} (sc : Nat) {ss : List (Int × Int)} (R : Rs w sa ss) (hs : ss.length ≤ 1000000) :
    Calls Tryd.prog 100 #[.slice sa ss.length sc, .func (.func 101) #[] #[.pointer (some ⟨B, 0, none⟩)]] w fun e w' => e = .returned (.bool (ownB bf bt ss)) ∧ Gr w w' := by
  have X : Hid (Calls Tryd.prog 114 #[.slice sa ss.length sc, .func (.func 101) #[] #[.pointer (some ⟨B, 0, none⟩)]] w fun e w' => ∃ z : Int, e = .returned (.int .i64 z) ∧ decide (0 ≤ z) = ownB bf bt ss ∧ Gr w w') := idx_any kb k44 k45 sc R hs
  clear R kb k44 k45 hs
  generalize ownB bf bt ss = q at *
  generalize ss.length = n at *
  go_enter Tryd.func100, Tryd.ntmps100
  go_wp2_with fail
  refine X.out.mono ?_
  rintro e w1 ⟨z, rfl, hz, G1⟩
  have HZ : Hid (decide (0 ≤ z) = q) := hz
  have HG : Hid (Gr w w1) := G1
  clear X hz G1
  go_wp2_with fail
  go_ret
  exact ⟨retB HZ.out, HG.out⟩
set_option maxHeartbeats 2000000 in
theorem storedIn_any {w : World} {base g : Nat} {r : Rn} {bf bt steps : Int} (I : Pr w base g r bf bt steps) (o : r.Ok) (hs : r.sto.length ≤ 1000000) :
    Calls Tryd.prog 90 #[.pointer (some ⟨g, 0, none⟩)] w fun e w' => e = .returned (.bool (ownB bf bt r.sto)) ∧ Gr w w' := by
  have k44 := I.fld o 0
  have k45 := I.fld o 1
  have hg := I.lt
  obtain ⟨c, hc, I⟩ := I
  obtain ⟨sa, sc, hS, R⟩ := rs_own I.sto
  have k39 : w.cell? ⟨g, 39, none⟩ = some (.slice sa r.sto.length sc) := by rw [← hS]; exact I.fcell 2
  have G : ∀ x, Gr w (w.alloc x) := fun x => (Gr.refl _).alloc _
  have X : Hid (Calls Tryd.prog 100 #[.slice sa r.sto.length sc, .func (.func 101) #[] #[.pointer (some ⟨w.heap.size, 0, none⟩)]] (w.alloc (.cells #[.pointer (some ⟨g, 0, none⟩)] 120)) fun e w' => e = .returned (.bool (ownB bf bt r.sto)) ∧ Gr (w.alloc (.cells #[.pointer (some ⟨g, 0, none⟩)] 120)) w') :=
    contains_any (cell_of_row _ _ _ _ _ _ (heap_alloc_new w _)) (((G _).cell _ (by exact hg)).trans k44) (((G _).cell _ (by exact hg)).trans k45) sc (R.of (G _)) hs
  clear I R G k44 k45
  generalize ownB bf bt r.sto = q at *
  generalize r.sto.length = n at *
  go_enter Tryd.func90, Tryd.ntmps90
  go_wp2_with fail
  refine X.out.mono ?_
  rintro e w1 ⟨rfl, G1⟩
  have HG : Hid (Gr w w1) := ((Gr.refl _).alloc _).trans G1
  clear X G1
  go_wp2_with fail
  go_ret
  exact ⟨rfl, HG.out⟩
end Go.Proofs.YtkcgcflpmggjkabDoor.Mp
/-
  Where the program's runner leaves off: leaves.
-/
namespace Go.Proofs.YtkcgcflpmggjkabDoor.Mp
open Go.ChangeShapes Go.WideShapes Go.ChangeAt Go.RowKit Mm Hh Hc Mi
set_option linter.unusedVariables false
set_option linter.unusedSimpArgs false

theorem ret2b {a c : Int} {b d : Bool} (h : a = c) (q : b = d) : Ending.returned (.tuple #[.int .u32 a, .bool b]) = .returned (.tuple #[.int .u32 c, .bool d]) := by rw [h, q]
set_option maxHeartbeats 2000000 in
set_option maxRecDepth 100000 in
theorem leaves_at {w : World} {base g : Nat} {r : Rn} {bf bt steps : Int} (I : Pr w base g r bf bt steps) (o : r.Ok) (hs : r.sto.length ≤ 1000000) (op d a b n : Int) (h1 : op = 1) :
    Calls Tryd.prog 75 #[.pointer (some ⟨g, 0, none⟩), .agg #[.int .i64 op, .int .i64 d, .int .i64 a, .int .i64 b, .int .u32 n]] w fun e w' => e = .returned (.tuple #[.int .u32 n, .bool (decide ((r.n : Int) = steps) || ownB bf bt r.sto)]) ∧ Gr w w' := by
  subst h1
  have G : ∀ x, Gr w (w.alloc x) := fun x => (Gr.refl _).alloc _
  have hg := I.lt
  have k46 : ∀ x, (w.alloc x).cell? ⟨g, 46, none⟩ = some (.int .i64 steps) := fun x => (I.of (G x)).fld o 2
  have k47 : ∀ x, (w.alloc x).cell? ⟨g, 47, none⟩ = some (.int .i64 r.n) := fun x => (I.of (G x)).fld o 3
  have St : Hid (∀ W : World, Gr w W → Calls Tryd.prog 90 #[.pointer (some ⟨g, 0, none⟩)] W fun e w' => e = .returned (.bool (ownB bf bt r.sto)) ∧ Gr W w') := fun W G => storedIn_any (I.of G) o hs
  clear I o G
  generalize ownB bf bt r.sto = q at *
  generalize hrn : (r.n : Int) = rn at *
  clear hrn hs
  by_cases c : rn = steps
  · have hd : (rn == steps) = true := by simp [c]
    have HE : Hid ((decide (rn = steps) || q) = true) := by unfold Hid; simp [c]
    rw [HE.out]
    clear c
    go_enter Tryd.func75, Tryd.ntmps75
    go_wp2_with fail
    go_quiet (fail)
    go_wp2_with fail
    go_ret2
    exact ⟨rfl, ((Gr.refl _).alloc _).drewN _⟩
  · have hd : (rn == steps) = false := by simp [c]
    have HE : Hid ((decide (rn = steps) || q) = q) := by unfold Hid; simp [c]
    rw [HE.out]
    clear c
    go_enter Tryd.func75, Tryd.ntmps75
    go_wp2_with fail
    have k4 : (w.alloc (.cells #[.int .i64 1, .int .i64 d, .int .i64 a, .int .i64 b, .int .u32 n] 79)).cell? ⟨w.heap.size, 4, none⟩ = some (.int .u32 n) := cell_of_row _ _ _ _ _ _ (heap_alloc_new w _)
    go_region_held3 (fun W => W.cell? ⟨w.heap.size, 4, none⟩ = some (.int .u32 n) ∧ W.cell? ⟨g, 46, none⟩ = some (.int .i64 steps) ∧ W.cell? ⟨g, 47, none⟩ = some (.int .i64 rn)) (first | (go_keep; done) | (refine ⟨?_, ?_, ?_⟩ <;> assumption)) (first
      | (go_at_call 90; refine (St.out _ (by repeat (first | exact Gr.refl _ | refine Gr.drew ?_ | refine Gr.alloc ?_ _))).mono ?_; rintro e w2 ⟨rfl, G2⟩; have HG2 : Hid (Gr w w2) := Gr.trans (by repeat (first | exact Gr.refl _ | refine Gr.drew ?_ | refine Gr.alloc ?_ _)) G2; have j4 : w2.cell? ⟨w.heap.size, 4, none⟩ = some (.int .u32 n) := (G2.cell _ (by simp)).trans k4; have j46 : w2.cell? ⟨g, 46, none⟩ = some (.int .i64 steps) := (G2.cell _ (by show g < _; simp; omega)).trans (k46 _); have j47 : w2.cell? ⟨g, 47, none⟩ = some (.int .i64 rn) := (G2.cell _ (by show g < _; simp; omega)).trans (k47 _); clear G2))
    go_wp2_with fail
    go_ret2
    exact ⟨rfl, HG2.out⟩
set_option maxHeartbeats 2000000 in
set_option maxRecDepth 100000 in
theorem leaves_go {w : World} {g : Nat} (op d a b n : Int) (h1 : op = 3) :
    Calls Tryd.prog 75 #[.pointer (some ⟨g, 0, none⟩), .agg #[.int .i64 op, .int .i64 d, .int .i64 a, .int .i64 b, .int .u32 n]] w fun e w' => e = .returned (.tuple #[.int .u32 n, .bool true]) ∧ Gr w w' := by
  subst h1
  go_enter Tryd.func75, Tryd.ntmps75
  go_wp2_with fail
  go_ret2
  exact ⟨rfl, (Gr.refl _).alloc _⟩
set_option maxHeartbeats 2000000 in
set_option maxRecDepth 100000 in
theorem leaves_reg {w : World} {base g : Nat} {r : Rn} {bf bt steps : Int} (I : Pr w base g r bf bt steps) (o : r.Ok) (op d a b n : Int) (ha : 0 ≤ a ∧ a < 36) (hn : Hh.W n) (h1 : op = 4) :
    Calls Tryd.prog 75 #[.pointer (some ⟨g, 0, none⟩), .agg #[.int .i64 op, .int .i64 d, .int .i64 a, .int .i64 b, .int .u32 n]] w fun e w' => e = .returned (.tuple #[.int .u32 (Wd.lo (r.get a + n) - Wd.lo (r.get a + n) % 2), .bool true]) ∧ Gr w w' := by
  subst h1
  have V : Hid (∀ W : World, Gr w W → Calls Tryd.prog 91 #[.pointer (some ⟨g, 0, none⟩), .int .i64 a] W fun e w' => e = .returned (.int .u32 (r.get a)) ∧ w' = W) := fun W q => value_any (I.of q) o a ha.1 ha.2
  have wl := W.lo (r.get a + n)
  clear I o
  generalize r.get a = X at *
  go_enter Tryd.func75, Tryd.ntmps75
  go_wp2_with fail
  go_quiet (refine Calls.quiet_of_same (V.out _ (by repeat (first | exact Gr.refl _ | refine Gr.drewN ?_ _ | refine Gr.drew ?_ | refine Gr.alloc ?_ _))))
  go_wp2_with fail
  go_ret2
  refine ⟨ret2b ?_ rfl, ((Gr.refl _).alloc _).drewN _⟩
  exact andNot1 _ wl.1 wl.2
set_option maxHeartbeats 2000000 in
set_option maxRecDepth 100000 in
theorem leaves_if {w : World} {base g : Nat} {r : Rn} {bf bt steps : Int} (I : Pr w base g r bf bt steps) (o : r.Ok) (op d a b n : Int) (ha : 0 ≤ a ∧ a < 36) (hb : 0 ≤ b ∧ b < 36) (h1 : ¬ op = 1) (h3 : ¬ op = 3) (h4 : ¬ op = 4) (ho0 : 0 ≤ op) (ho1 : op < 1000) :
    Calls Tryd.prog 75 #[.pointer (some ⟨g, 0, none⟩), .agg #[.int .i64 op, .int .i64 d, .int .i64 a, .int .i64 b, .int .u32 n]] w fun e w' => e = .returned (.tuple #[.int .u32 n, .bool (Wd.holds (op - 100) (r.get a) (r.get b))]) ∧ Gr w w' := by
  have b1 : (op == 1) = false := by simp [h1]
  have b3 : (op == 3) = false := by simp [h3]
  have b4 : (op == 4) = false := by simp [h4]
  have wa := o.get a
  have wb := o.get b
  have V : Hid (∀ k, 0 ≤ k → k < 36 → ∀ W : World, Gr w W → Calls Tryd.prog 91 #[.pointer (some ⟨g, 0, none⟩), .int .i64 k] W fun e w' => e = .returned (.int .u32 (r.get k)) ∧ w' = W) := fun k h0 h1 W q => value_any (I.of q) o k h0 h1
  have Va : Hid (∀ W : World, Gr w W → Calls Tryd.prog 91 #[.pointer (some ⟨g, 0, none⟩), .int .i64 a] W fun e w' => e = .returned (.int .u32 (r.get a)) ∧ w' = W) := V.out a ha.1 ha.2
  have Vb : Hid (∀ W : World, Gr w W → Calls Tryd.prog 91 #[.pointer (some ⟨g, 0, none⟩), .int .i64 b] W fun e w' => e = .returned (.int .u32 (r.get b)) ∧ w' = W) := V.out b hb.1 hb.2
  have Ho : Hid (∀ W : World, Calls Tryd.prog 92 #[.int .i64 (op - 100), .int .u32 (r.get a), .int .u32 (r.get b)] W fun e w' => e = .returned (.bool (Wd.holds (op - 100) (r.get a) (r.get b))) ∧ w' = W) := fun W => Ww.holds_any (op - 100) _ _ W wa.1 wa.2 wb.1 wb.2
  clear I o V h1 h3 h4 wa wb
  generalize Wd.holds (op - 100) (r.get a) (r.get b) = Q at *
  generalize r.get a = X at *
  generalize r.get b = Y at *
  go_enter Tryd.func75, Tryd.ntmps75
  go_wp2_with fail
  refine wp_region_quiet_lit (by kernel_rfl) (by kernel_rfl) ?_
  go_big_quiet_step (fail)
  go_big_quiet_step (fail)
  go_big_quiet_step (fail)
  go_big_quiet_step (fail)
  go_big_quiet_step (fail)
  go_big_quiet_step (fail)
  go_big_quiet_step (fail)
  go_big_quiet_step (fail)
  go_big_quiet_step (exact Calls.quiet_of_same (Va.out _ (by repeat (first | exact Gr.refl _ | refine Gr.drewN ?_ _ | refine Gr.drew ?_ | refine Gr.alloc ?_ _))))
  go_big_quiet_step (fail)
  go_big_quiet_step (fail)
  go_big_quiet_step (fail)
  go_big_quiet_step (exact Calls.quiet_of_same (Vb.out _ (by repeat (first | exact Gr.refl _ | refine Gr.drewN ?_ _ | refine Gr.drew ?_ | refine Gr.alloc ?_ _))))
  go_big_quiet_step (exact Calls.quiet_of_same (Ho.out _))
  go_big_quiet_step (fail)
  go_big_quiet_step (fail)
  refine wpQuiet_nil ?_
  intro _ hw1
  obtain ⟨nq, hw2⟩ := hw1
  subst hw2
  go_wp2_with fail
  go_ret2
  exact ⟨rfl, ((Gr.refl _).alloc _).drewN _⟩
/-- Where PC goes, and whether it does. -/
theorem leaves_any {w : World} {base g : Nat} {r : Rn} {bf bt steps : Int} (I : Pr w base g r bf bt steps) (o : r.Ok) (hs : r.sto.length ≤ 1000000) {i : Mv} (hi : 0 ≤ named i.op) (ha : 0 ≤ i.a ∧ i.a < 36) (hb : 0 ≤ i.b ∧ i.b < 36) (hn : Hh.W i.n) :
    Calls Tryd.prog 75 #[.pointer (some ⟨g, 0, none⟩), .agg (mvA i)] w fun e w' => e = .returned (.tuple #[.int .u32 (lvP r i), .bool (lvB bf bt steps r i)]) ∧ Gr w w' := by
  have hop : 0 ≤ i.op ∧ i.op < 1000 := by
    rcases named_cases hi with q | q | q | q | q | q | q | q | q | q | q | q <;> omega
  obtain ⟨op, d, a, b, n⟩ := i
  unfold lvP lvB mvA
  simp only at *
  by_cases h1 : op = 1
  · rw [if_neg (by omega), if_pos h1]
    exact leaves_at I o hs op d a b n h1
  by_cases h3 : op = 3
  · rw [if_neg (by omega), if_neg h1, if_pos h3]
    exact leaves_go op d a b n h3
  by_cases h4 : op = 4
  · rw [if_pos h4, if_neg h1, if_neg h3, if_pos h4]
    exact leaves_reg I o op d a b n ha hn h4
  · rw [if_neg h4, if_neg h1, if_neg h3, if_neg h4]
    exact leaves_if I o op d a b n ha hb h1 h3 h4 hop.1 hop.2
end Go.Proofs.YtkcgcflpmggjkabDoor.Mp
/-
  What the program's runner does of a small step that does not leave: effect, do.
-/
namespace Go.Proofs.YtkcgcflpmggjkabDoor.Mp
open Go.ChangeShapes Go.WideShapes Go.ChangeAt Go.RowKit Mm Hh Hc Mi
set_option linter.unusedVariables false
set_option linter.unusedSimpArgs false

set_option maxHeartbeats 2000000 in
set_option maxRecDepth 100000 in
theorem eff_set {w : World} {base g : Nat} {r : Rn} {bf bt steps : Int} (I : Pr w base g r bf bt steps) (o : r.Ok) (T : Gc.Ts w base) (hl : r.m.length ≤ 140737488351232) (hss : r.sto.length ≤ 1000000) {op d a b n : Int} (ha : 0 ≤ a ∧ a < 36) (hb : 0 ≤ b ∧ b < 36) (hn : Hh.W n) (hc : op = 2) :
    Calls Tryd.prog 94 #[.pointer (some ⟨g, 0, none⟩), .agg (mvA ⟨op, d, a, b, n⟩)] w fun e w' => e = .returned (ret2 (efR r ⟨op, d, a, b, n⟩).res) ∧ Pr w' base g (r.ev (efR r ⟨op, d, a, b, n⟩)) bf bt steps ∧ Gc.Fr 88 base w w' := by
  have e0 : efR r ⟨op, d, a, b, n⟩ = ⟨r.h, r.m, [], [], some n⟩ := by unfold efR; rw [if_pos (by simp only; omega)]
  rw [e0]
  have V : Hid (∀ k, 0 ≤ k → k < 36 → ∀ W : World, Gr w W → Calls Tryd.prog 91 #[.pointer (some ⟨g, 0, none⟩), .int .i64 k] W fun e w' => e = .returned (.int .u32 (r.get k)) ∧ w' = W) := fun k h0 h1 W q => value_any (I.of q) o k h0 h1
  have wa := o.get a
  have wb := o.get b
  have HI : Hid (Pr w base g r bf bt steps) := I
  have HG0 : Hid (∀ x nq, Gr w ((w.alloc x).drewN nq)) := fun x nq => ((Gr.refl _).alloc _).drewN _
  subst hc
  rw [ev_nil]
  clear I o T e0
  unfold ret2 mvA
  simp only []
  go_enter Tryd.func94, Tryd.ntmps94
  go_wp2_with fail
  refine wp_region_quiet_lit (by kernel_rfl) (by kernel_rfl) ?_
  go_big_quiet_step (fail)
  go_big_quiet_step (fail)
  go_big_quiet_step (fail)
  go_big_quiet_step (exact Calls.quiet_of_same (V.out a ha.1 ha.2 _ (by repeat (first | exact Gr.refl _ | refine Gr.drewN ?_ _ | refine Gr.drew ?_ | refine Gr.alloc ?_ _))))
  go_big_quiet_step (fail)
  go_big_quiet_step (fail)
  go_big_quiet_step (fail)
  go_big_quiet_step (exact Calls.quiet_of_same (V.out b hb.1 hb.2 _ (by repeat (first | exact Gr.refl _ | refine Gr.drewN ?_ _ | refine Gr.drew ?_ | refine Gr.alloc ?_ _))))
  go_big_quiet_step (fail)
  go_big_quiet_step (fail)
  refine wpQuiet_nil ?_
  intro _ hw1
  obtain ⟨nq, hw2⟩ := hw1
  subst hw2
  clear V
  generalize r.get a = X at *
  generalize r.get b = Y at *
  go_wp2_with fail
  go_ret2
  exact ⟨rfl, HI.out.of (HG0.out _ _), Gc.Fr.ofGr (HG0.out _ _) HI.out.base_le⟩
set_option maxHeartbeats 2000000 in
set_option maxRecDepth 100000 in
theorem eff_no {w : World} {base g : Nat} {r : Rn} {bf bt steps : Int} (I : Pr w base g r bf bt steps) (o : r.Ok) (T : Gc.Ts w base) (hl : r.m.length ≤ 140737488351232) (hss : r.sto.length ≤ 1000000) {op d a b n : Int} (ha : 0 ≤ a ∧ a < 36) (hb : 0 ≤ b ∧ b < 36) (hn : Hh.W n) (hc : 105 ≤ op ∧ op ≤ 110) :
    Calls Tryd.prog 94 #[.pointer (some ⟨g, 0, none⟩), .agg (mvA ⟨op, d, a, b, n⟩)] w fun e w' => e = .returned (ret2 (efR r ⟨op, d, a, b, n⟩).res) ∧ Pr w' base g (r.ev (efR r ⟨op, d, a, b, n⟩)) bf bt steps ∧ Gc.Fr 88 base w w' := by
  have e0 : efR r ⟨op, d, a, b, n⟩ = ⟨r.h, r.m, [], [], none⟩ := by unfold efR; rw [if_neg (by simp only; omega), if_neg (by simp only; omega), if_neg (by simp only; omega), if_neg (by simp only; omega), if_neg (by simp only; omega), if_neg (by simp only; omega)]
  rw [e0]
  have V : Hid (∀ k, 0 ≤ k → k < 36 → ∀ W : World, Gr w W → Calls Tryd.prog 91 #[.pointer (some ⟨g, 0, none⟩), .int .i64 k] W fun e w' => e = .returned (.int .u32 (r.get k)) ∧ w' = W) := fun k h0 h1 W q => value_any (I.of q) o k h0 h1
  have wa := o.get a
  have wb := o.get b
  have HI : Hid (Pr w base g r bf bt steps) := I
  have HG0 : Hid (∀ x nq, Gr w ((w.alloc x).drewN nq)) := fun x nq => ((Gr.refl _).alloc _).drewN _
  rw [ev_nil]
  have b2 : (op == 2) = false := by simp; omega
  have W211 : Hid (∀ W : World, Calls Tryd.prog 29 #[.int .i64 op, .int .i64 211, .int .i64 215] W fun e w' => e = .returned (.bool false) ∧ w' = W) := fun W => by
    have := within_any op 211 215 W
    rwa [decide_eq_false (by omega)] at this
  have W316 : Hid (∀ W : World, Calls Tryd.prog 29 #[.int .i64 op, .int .i64 316, .int .i64 318] W fun e w' => e = .returned (.bool false) ∧ w' = W) := fun W => by
    have := within_any op 316 318 W
    rwa [decide_eq_false (by omega)] at this
  have W428 : Hid (∀ W : World, Calls Tryd.prog 29 #[.int .i64 op, .int .i64 428, .int .i64 445] W fun e w' => e = .returned (.bool false) ∧ w' = W) := fun W => by
    have := within_any op 428 445 W
    rwa [decide_eq_false (by omega)] at this
  have W528 : Hid (∀ W : World, Calls Tryd.prog 29 #[.int .i64 op, .int .i64 528, .int .i64 545] W fun e w' => e = .returned (.bool false) ∧ w' = W) := fun W => by
    have := within_any op 528 545 W
    rwa [decide_eq_false (by omega)] at this
  have W646 : Hid (∀ W : World, Calls Tryd.prog 29 #[.int .i64 op, .int .i64 646, .int .i64 656] W fun e w' => e = .returned (.bool false) ∧ w' = W) := fun W => by
    have := within_any op 646 656 W
    rwa [decide_eq_false (by omega)] at this
  clear I o T e0 hc
  unfold ret2 mvA
  simp only []
  go_enter Tryd.func94, Tryd.ntmps94
  go_wp2_with fail
  refine wp_region_quiet_lit (by kernel_rfl) (by kernel_rfl) ?_
  go_big_quiet_step (fail)
  go_big_quiet_step (fail)
  go_big_quiet_step (fail)
  go_big_quiet_step (exact Calls.quiet_of_same (V.out a ha.1 ha.2 _ (by repeat (first | exact Gr.refl _ | refine Gr.drewN ?_ _ | refine Gr.drew ?_ | refine Gr.alloc ?_ _))))
  go_big_quiet_step (fail)
  go_big_quiet_step (fail)
  go_big_quiet_step (fail)
  go_big_quiet_step (exact Calls.quiet_of_same (V.out b hb.1 hb.2 _ (by repeat (first | exact Gr.refl _ | refine Gr.drewN ?_ _ | refine Gr.drew ?_ | refine Gr.alloc ?_ _))))
  go_big_quiet_step (fail)
  go_big_quiet_step (fail)
  refine wpQuiet_nil ?_
  intro _ hw1
  obtain ⟨nq, hw2⟩ := hw1
  subst hw2
  clear V
  generalize r.get a = X at *
  generalize r.get b = Y at *
  go_wp2_with fail
  refine (W211.out _).mono ?_
  rintro e w' ⟨rfl, rfl⟩
  clear W211
  go_wp2_with fail
  refine (W316.out _).mono ?_
  rintro e w' ⟨rfl, rfl⟩
  clear W316
  go_wp2_with fail
  refine (W428.out _).mono ?_
  rintro e w' ⟨rfl, rfl⟩
  clear W428
  go_wp2_with fail
  refine (W528.out _).mono ?_
  rintro e w' ⟨rfl, rfl⟩
  clear W528
  go_wp2_with fail
  refine (W646.out _).mono ?_
  rintro e w' ⟨rfl, rfl⟩
  clear W646
  go_wp2_with fail
  go_ret2
  exact ⟨rfl, HI.out.of (HG0.out _ _), Gc.Fr.ofGr (HG0.out _ _) HI.out.base_le⟩
set_option maxHeartbeats 2000000 in
set_option maxRecDepth 100000 in
theorem eff_alu {w : World} {base g : Nat} {r : Rn} {bf bt steps : Int} (I : Pr w base g r bf bt steps) (o : r.Ok) (T : Gc.Ts w base) (hl : r.m.length ≤ 140737488351232) (hss : r.sto.length ≤ 1000000) {op d a b n : Int} (ha : 0 ≤ a ∧ a < 36) (hb : 0 ≤ b ∧ b < 36) (hn : Hh.W n) (hc : 428 ≤ op ∧ op ≤ 445) :
    Calls Tryd.prog 94 #[.pointer (some ⟨g, 0, none⟩), .agg (mvA ⟨op, d, a, b, n⟩)] w fun e w' => e = .returned (ret2 (efR r ⟨op, d, a, b, n⟩).res) ∧ Pr w' base g (r.ev (efR r ⟨op, d, a, b, n⟩)) bf bt steps ∧ Gc.Fr 88 base w w' := by
  have e0 : efR r ⟨op, d, a, b, n⟩ = ⟨r.h, r.m, [], [], some (Wd.alu (op - 400) (r.get a) (r.get b))⟩ := by unfold efR; rw [if_neg (by simp only; omega), if_neg (by simp only; omega), if_neg (by simp only; omega), if_pos (by simp only; omega)]
  rw [e0]
  have V : Hid (∀ k, 0 ≤ k → k < 36 → ∀ W : World, Gr w W → Calls Tryd.prog 91 #[.pointer (some ⟨g, 0, none⟩), .int .i64 k] W fun e w' => e = .returned (.int .u32 (r.get k)) ∧ w' = W) := fun k h0 h1 W q => value_any (I.of q) o k h0 h1
  have wa := o.get a
  have wb := o.get b
  have HI : Hid (Pr w base g r bf bt steps) := I
  have HG0 : Hid (∀ x nq, Gr w ((w.alloc x).drewN nq)) := fun x nq => ((Gr.refl _).alloc _).drewN _
  rw [ev_nil]
  have b2 : (op == 2) = false := by simp; omega
  have W211 : Hid (∀ W : World, Calls Tryd.prog 29 #[.int .i64 op, .int .i64 211, .int .i64 215] W fun e w' => e = .returned (.bool false) ∧ w' = W) := fun W => by
    have := within_any op 211 215 W
    rwa [decide_eq_false (by omega)] at this
  have W316 : Hid (∀ W : World, Calls Tryd.prog 29 #[.int .i64 op, .int .i64 316, .int .i64 318] W fun e w' => e = .returned (.bool false) ∧ w' = W) := fun W => by
    have := within_any op 316 318 W
    rwa [decide_eq_false (by omega)] at this
  have W428 : Hid (∀ W : World, Calls Tryd.prog 29 #[.int .i64 op, .int .i64 428, .int .i64 445] W fun e w' => e = .returned (.bool true) ∧ w' = W) := fun W => by
    have := within_any op 428 445 W
    rwa [decide_eq_true (by omega)] at this
  have A : Hid (∀ W : World, Calls Tryd.prog 98 #[.int .i64 (op - 400), .int .u32 (r.get a), .int .u32 (r.get b)] W fun e w' => e = .returned (.int .u32 (Wd.alu (op - 400) (r.get a) (r.get b))) ∧ w' = W) := fun W => Ww.alu_any (op - 400) _ _ W wa.1 wa.2 wb.1 wb.2
  generalize Wd.alu (op - 400) (r.get a) (r.get b) = Z at *
  have hop : ∃ q, op = 400 + q := ⟨op - 400, by omega⟩
  clear I o T e0 wa wb
  unfold ret2 mvA
  simp only []
  go_enter Tryd.func94, Tryd.ntmps94
  go_wp2_with fail
  refine wp_region_quiet_lit (by kernel_rfl) (by kernel_rfl) ?_
  go_big_quiet_step (fail)
  go_big_quiet_step (fail)
  go_big_quiet_step (fail)
  go_big_quiet_step (exact Calls.quiet_of_same (V.out a ha.1 ha.2 _ (by repeat (first | exact Gr.refl _ | refine Gr.drewN ?_ _ | refine Gr.drew ?_ | refine Gr.alloc ?_ _))))
  go_big_quiet_step (fail)
  go_big_quiet_step (fail)
  go_big_quiet_step (fail)
  go_big_quiet_step (exact Calls.quiet_of_same (V.out b hb.1 hb.2 _ (by repeat (first | exact Gr.refl _ | refine Gr.drewN ?_ _ | refine Gr.drew ?_ | refine Gr.alloc ?_ _))))
  go_big_quiet_step (fail)
  go_big_quiet_step (fail)
  refine wpQuiet_nil ?_
  intro _ hw1
  obtain ⟨nq, hw2⟩ := hw1
  subst hw2
  clear V
  generalize r.get a = X at *
  generalize r.get b = Y at *
  go_wp2_with fail
  refine (W211.out _).mono ?_
  rintro e w' ⟨rfl, rfl⟩
  clear W211
  go_wp2_with fail
  refine (W316.out _).mono ?_
  rintro e w' ⟨rfl, rfl⟩
  clear W316
  go_wp2_with fail
  refine (W428.out _).mono ?_
  rintro e w' ⟨rfl, rfl⟩
  clear W428
  go_wp2_with fail
  refine (A.out _).mono ?_
  rintro e w' ⟨rfl, rfl⟩
  clear A
  go_wp2_with fail
  go_ret2
  exact ⟨rfl, HI.out.of (HG0.out _ _), Gc.Fr.ofGr (HG0.out _ _) HI.out.base_le⟩
set_option maxHeartbeats 2000000 in
set_option maxRecDepth 100000 in
theorem eff_aln {w : World} {base g : Nat} {r : Rn} {bf bt steps : Int} (I : Pr w base g r bf bt steps) (o : r.Ok) (T : Gc.Ts w base) (hl : r.m.length ≤ 140737488351232) (hss : r.sto.length ≤ 1000000) {op d a b n : Int} (ha : 0 ≤ a ∧ a < 36) (hb : 0 ≤ b ∧ b < 36) (hn : Hh.W n) (hc : 528 ≤ op ∧ op ≤ 545) :
    Calls Tryd.prog 94 #[.pointer (some ⟨g, 0, none⟩), .agg (mvA ⟨op, d, a, b, n⟩)] w fun e w' => e = .returned (ret2 (efR r ⟨op, d, a, b, n⟩).res) ∧ Pr w' base g (r.ev (efR r ⟨op, d, a, b, n⟩)) bf bt steps ∧ Gc.Fr 88 base w w' := by
  have e0 : efR r ⟨op, d, a, b, n⟩ = ⟨r.h, r.m, [], [], some (Wd.alu (op - 500) (r.get a) n)⟩ := by unfold efR; rw [if_neg (by simp only; omega), if_neg (by simp only; omega), if_neg (by simp only; omega), if_neg (by simp only; omega), if_pos (by simp only; omega)]
  rw [e0]
  have V : Hid (∀ k, 0 ≤ k → k < 36 → ∀ W : World, Gr w W → Calls Tryd.prog 91 #[.pointer (some ⟨g, 0, none⟩), .int .i64 k] W fun e w' => e = .returned (.int .u32 (r.get k)) ∧ w' = W) := fun k h0 h1 W q => value_any (I.of q) o k h0 h1
  have wa := o.get a
  have wb := o.get b
  have HI : Hid (Pr w base g r bf bt steps) := I
  have HG0 : Hid (∀ x nq, Gr w ((w.alloc x).drewN nq)) := fun x nq => ((Gr.refl _).alloc _).drewN _
  rw [ev_nil]
  have b2 : (op == 2) = false := by simp; omega
  have W211 : Hid (∀ W : World, Calls Tryd.prog 29 #[.int .i64 op, .int .i64 211, .int .i64 215] W fun e w' => e = .returned (.bool false) ∧ w' = W) := fun W => by
    have := within_any op 211 215 W
    rwa [decide_eq_false (by omega)] at this
  have W316 : Hid (∀ W : World, Calls Tryd.prog 29 #[.int .i64 op, .int .i64 316, .int .i64 318] W fun e w' => e = .returned (.bool false) ∧ w' = W) := fun W => by
    have := within_any op 316 318 W
    rwa [decide_eq_false (by omega)] at this
  have W428 : Hid (∀ W : World, Calls Tryd.prog 29 #[.int .i64 op, .int .i64 428, .int .i64 445] W fun e w' => e = .returned (.bool false) ∧ w' = W) := fun W => by
    have := within_any op 428 445 W
    rwa [decide_eq_false (by omega)] at this
  have W528 : Hid (∀ W : World, Calls Tryd.prog 29 #[.int .i64 op, .int .i64 528, .int .i64 545] W fun e w' => e = .returned (.bool true) ∧ w' = W) := fun W => by
    have := within_any op 528 545 W
    rwa [decide_eq_true (by omega)] at this
  have A : Hid (∀ W : World, Calls Tryd.prog 98 #[.int .i64 (op - 500), .int .u32 (r.get a), .int .u32 n] W fun e w' => e = .returned (.int .u32 (Wd.alu (op - 500) (r.get a) n)) ∧ w' = W) := fun W => Ww.alu_any (op - 500) _ _ W wa.1 wa.2 hn.1 hn.2
  generalize Wd.alu (op - 500) (r.get a) n = Z at *
  have hop : ∃ q, op = 500 + q := ⟨op - 500, by omega⟩
  clear I o T e0 wa wb
  unfold ret2 mvA
  simp only []
  go_enter Tryd.func94, Tryd.ntmps94
  go_wp2_with fail
  refine wp_region_quiet_lit (by kernel_rfl) (by kernel_rfl) ?_
  go_big_quiet_step (fail)
  go_big_quiet_step (fail)
  go_big_quiet_step (fail)
  go_big_quiet_step (exact Calls.quiet_of_same (V.out a ha.1 ha.2 _ (by repeat (first | exact Gr.refl _ | refine Gr.drewN ?_ _ | refine Gr.drew ?_ | refine Gr.alloc ?_ _))))
  go_big_quiet_step (fail)
  go_big_quiet_step (fail)
  go_big_quiet_step (fail)
  go_big_quiet_step (exact Calls.quiet_of_same (V.out b hb.1 hb.2 _ (by repeat (first | exact Gr.refl _ | refine Gr.drewN ?_ _ | refine Gr.drew ?_ | refine Gr.alloc ?_ _))))
  go_big_quiet_step (fail)
  go_big_quiet_step (fail)
  refine wpQuiet_nil ?_
  intro _ hw1
  obtain ⟨nq, hw2⟩ := hw1
  subst hw2
  clear V
  generalize r.get a = X at *
  generalize r.get b = Y at *
  go_wp2_with fail
  refine (W211.out _).mono ?_
  rintro e w' ⟨rfl, rfl⟩
  clear W211
  go_wp2_with fail
  refine (W316.out _).mono ?_
  rintro e w' ⟨rfl, rfl⟩
  clear W316
  go_wp2_with fail
  refine (W428.out _).mono ?_
  rintro e w' ⟨rfl, rfl⟩
  clear W428
  go_wp2_with fail
  refine (W528.out _).mono ?_
  rintro e w' ⟨rfl, rfl⟩
  clear W528
  go_wp2_with fail
  refine (A.out _).mono ?_
  rintro e w' ⟨rfl, rfl⟩
  clear A
  go_wp2_with fail
  go_ret2
  exact ⟨rfl, HI.out.of (HG0.out _ _), Gc.Fr.ofGr (HG0.out _ _) HI.out.base_le⟩
end Go.Proofs.YtkcgcflpmggjkabDoor.Mp
/-
  What the program's runner does of a small step that does not leave: effect, do.
-/
namespace Go.Proofs.YtkcgcflpmggjkabDoor.Mp
open Go.ChangeShapes Go.WideShapes Go.ChangeAt Go.RowKit Mm Hh Hc Mi
set_option linter.unusedVariables false
set_option linter.unusedSimpArgs false

set_option maxHeartbeats 2000000 in
set_option maxRecDepth 100000 in
theorem eff_ld {w : World} {base g : Nat} {r : Rn} {bf bt steps : Int} (I : Pr w base g r bf bt steps) (o : r.Ok) (T : Gc.Ts w base) (hl : r.m.length ≤ 140737488351232) (hss : r.sto.length ≤ 1000000) {op d a b n : Int} (ha : 0 ≤ a ∧ a < 36) (hb : 0 ≤ b ∧ b < 36) (hn : Hh.W n) (hc : 211 ≤ op ∧ op ≤ 215) :
    Calls Tryd.prog 94 #[.pointer (some ⟨g, 0, none⟩), .agg (mvA ⟨op, d, a, b, n⟩)] w fun e w' => e = .returned (ret2 (efR r ⟨op, d, a, b, n⟩).res) ∧ Pr w' base g (r.ev (efR r ⟨op, d, a, b, n⟩)) bf bt steps ∧ Gc.Fr 88 base w w' := by
  have e0 : efR r ⟨op, d, a, b, n⟩ = efLoad r.h r.m (op - 200) (Wd.lo (r.get a + n)) := by unfold efR; rw [if_neg (by simp only; omega), if_pos (by simp only; omega)]
  rw [e0]
  have V : Hid (∀ k, 0 ≤ k → k < 36 → ∀ W : World, Gr w W → Calls Tryd.prog 91 #[.pointer (some ⟨g, 0, none⟩), .int .i64 k] W fun e w' => e = .returned (.int .u32 (r.get k)) ∧ w' = W) := fun k h0 h1 W q => value_any (I.of q) o k h0 h1
  have wa := o.get a
  have wb := o.get b
  have HI : Hid (Pr w base g r bf bt steps) := I
  have HG0 : Hid (∀ x nq, Gr w ((w.alloc x).drewN nq)) := fun x nq => ((Gr.refl _).alloc _).drewN _
  have b2 : (op == 2) = false := by simp; omega
  have W211 : Hid (∀ W : World, Calls Tryd.prog 29 #[.int .i64 op, .int .i64 211, .int .i64 215] W fun e w' => e = .returned (.bool true) ∧ w' = W) := fun W => by
    have := within_any op 211 215 W
    rwa [decide_eq_true (by omega)] at this
  have wl := W.lo (r.get a + n)
  have hw : IntKind.i64.wrap (op - 200) = op - 200 := by rw [IntKind.wrap_i64]; omega
  have L : Hid (∀ W : World, Gr w W → Calls Tryd.prog 96 #[.pointer (some ⟨g, 0, none⟩), .int .i64 (IntKind.i64.wrap (op - 200)), .int .u32 (IntKind.u32.wrap (r.get a + n))] W fun e w' => e = .returned (ret2 (efLoad r.h r.m (op - 200) (Wd.lo (r.get a + n))).res) ∧ Pr w' base g (r.ev (efLoad r.h r.m (op - 200) (Wd.lo (r.get a + n)))) bf bt steps ∧ Gc.Fr 88 base W w') := fun W q => by
    rw [hw]
    have J := I.of q
    refine (Gc.Load_any J hl (op - 200) _ wl.1 wl.2).mono ?_
    rintro e w' ⟨rfl, J2, C2⟩
    refine ⟨?_, ?_, Gc.In.below J C2⟩
    · unfold efLoad ret2
      split
      · rename_i h
        rw [h]
        rfl
      · rename_i h
        have h2 : ldOk r.m (op - 200) (Wd.lo (r.get a + n)) = false := by simpa using h
        unfold ldV
        rw [h2]
        rfl
    · unfold efLoad
      split
      · rename_i h
        rw [if_pos h] at J2
        rw [ev_nil]
        exact J2
      · rename_i h
        rw [if_neg h] at J2
        have e : r.ev ⟨r.h.trap 3, r.m, [], [], none⟩ = { r with h := r.h.trap 3 } := by simp [Rn.ev]
        rw [e]
        exact J2
  generalize efLoad r.h r.m (op - 200) (Wd.lo (r.get a + n)) = E at *
  clear I o T e0 wa wb wl hw
  unfold ret2 at *
  unfold mvA
  simp only []
  go_enter Tryd.func94, Tryd.ntmps94
  go_wp2_with fail
  refine wp_region_quiet_lit (by kernel_rfl) (by kernel_rfl) ?_
  go_big_quiet_step (fail)
  go_big_quiet_step (fail)
  go_big_quiet_step (fail)
  go_big_quiet_step (exact Calls.quiet_of_same (V.out a ha.1 ha.2 _ (by repeat (first | exact Gr.refl _ | refine Gr.drewN ?_ _ | refine Gr.drew ?_ | refine Gr.alloc ?_ _))))
  go_big_quiet_step (fail)
  go_big_quiet_step (fail)
  go_big_quiet_step (fail)
  go_big_quiet_step (exact Calls.quiet_of_same (V.out b hb.1 hb.2 _ (by repeat (first | exact Gr.refl _ | refine Gr.drewN ?_ _ | refine Gr.drew ?_ | refine Gr.alloc ?_ _))))
  go_big_quiet_step (fail)
  go_big_quiet_step (fail)
  refine wpQuiet_nil ?_
  intro _ hw1
  obtain ⟨nq, hw2⟩ := hw1
  subst hw2
  clear V
  generalize r.get a = X at *
  generalize r.get b = Y at *
  go_wp2_with fail
  refine (W211.out _).mono ?_
  rintro e w' ⟨rfl, rfl⟩
  clear W211
  go_wp2_with fail
  have HBM : Hid (((w.alloc (.cells #[.int .i64 op, .int .i64 d, .int .i64 a, .int .i64 b, .int .u32 n] 79)).drewN nq).heap[w.heap.size]? = some (.cells #[.int .i64 op, .int .i64 d, .int .i64 a, .int .i64 b, .int .u32 n] 79 (0, 0))) := heap_alloc_new w _
  have k0 : ((w.alloc (.cells #[.int .i64 op, .int .i64 d, .int .i64 a, .int .i64 b, .int .u32 n] 79)).drewN nq).cell? ⟨w.heap.size, 0, none⟩ = some (.int .i64 op) := cell_of_row _ _ _ _ _ _ HBM.out
  have k4 : ((w.alloc (.cells #[.int .i64 op, .int .i64 d, .int .i64 a, .int .i64 b, .int .u32 n] 79)).drewN nq).cell? ⟨w.heap.size, 4, none⟩ = some (.int .u32 n) := cell_of_row _ _ _ _ _ _ HBM.out
  go_region_with ((go_at_call 96; refine (L.out _ (by repeat (first | exact Gr.refl _ | refine Gr.drewN ?_ _ | refine Gr.drew ?_ | refine Gr.alloc ?_ _))).mono ?_; rintro e w2 ⟨rfl, J2, F2⟩; have HJ : Hid (Pr w2 base g (r.ev E) bf bt steps) := J2; have HF : Hid (Gc.Fr 88 base w w2) := (Gc.Fr.ofGr (by repeat (first | exact Gr.refl _ | refine Gr.drewN ?_ _ | refine Gr.drew ?_ | refine Gr.alloc ?_ _)) HI.out.base_le).trans F2; have HB2 : Hid (w2.heap[w.heap.size]? = some (.cells #[.int .i64 op, .int .i64 d, .int .i64 a, .int .i64 b, .int .u32 n] 79 (0, 0))) := (F2.keep _ _ _ _ HBM.out (by decide) (by decide) (by decide)).trans HBM.out; have j0 : w2.cell? ⟨w.heap.size, 0, none⟩ = some (.int .i64 op) := cell_of_row _ _ _ _ _ _ HB2.out; have j4 : w2.cell? ⟨w.heap.size, 4, none⟩ = some (.int .u32 n) := cell_of_row _ _ _ _ _ _ HB2.out; clear J2 F2))
  all_goals
    go_wp2_with fail
    go_ret2
    exact ⟨rfl, HJ.out, HF.out⟩
end Go.Proofs.YtkcgcflpmggjkabDoor.Mp
