/-
  Which block is meant: package cache's closures at and touchedBy, block.Bytes, and slices.IndexFunc by each of them.
-/
import Derived.Test.YteipplmmchaboabKg
import Derived.Deep.RegionHeld3
import Derived.Deep.RegionWith
namespace Go.Proofs.Yteipplmmchaboab.Kc
open Go.ChangeShapes Go.WideShapes Go.ChangeAt Go.RowKit Mm Ts Hc
set_option linter.unusedVariables false
set_option linter.unusedSimpArgs false

theorem ret_bool {a b : Bool} (h : a = b) : Ending.returned (.bool a) = Ending.returned (.bool b) := by rw [h]
/-- Where the first block is of which this holds; below 0: there is none. -/
def fidx (p : Bv → Bool) : List Bv → Nat → Int
  | [], _ => -1
  | b :: bs, k => if p b = true then (k : Int) else fidx p bs (k + 1)
theorem fidx_place (pc : Int) : ∀ (bs : List Bv) (k : Nat), fidx (fun b => decide (b.pc = pc)) bs k = place pc bs k
  | [], k => rfl
  | b :: r, k => by
    unfold fidx place
    rw [fidx_place pc r (k + 1)]
    by_cases h : b.pc = pc <;> simp [h]
theorem fidx_none {p : Bv → Bool} : ∀ {bs : List Bv} {k : Nat}, (∀ (i : Nat) (x : Bv), bs[i]? = some x → p x = false) → fidx p bs k = -1
  | [], k, _ => rfl
  | b :: r, k, h => by
    unfold fidx
    rw [if_neg (by rw [h 0 b rfl]; simp)]
    exact fidx_none fun i x hx => h (i + 1) x (by simpa using hx)
theorem fidx_at {p : Bv → Bool} : ∀ {bs : List Bv} {j k : Nat} {x : Bv}, bs[j]? = some x → p x = true → (∀ (i : Nat) (y : Bv), i < j → bs[i]? = some y → p y = false) → fidx p bs k = ((k + j : Nat) : Int)
  | [], j, k, x, h, _, _ => by simp at h
  | b :: r, 0, k, x, h, e, _ => by
    simp at h
    subst h
    unfold fidx
    rw [if_pos e, Nat.add_zero]
  | b :: r, j + 1, k, x, h, e, hn => by
    unfold fidx
    rw [if_neg (by rw [hn 0 b (by omega) rfl]; simp)]
    have := fidx_at (k := k + 1) (bs := r) (j := j) (by simpa using h) e fun i y hi hy => hn (i + 1) y (by omega) (by simpa using hy)
    rw [this]
    congr 1
    omega
theorem fidx_bd (p : Bv → Bool) : ∀ (bs : List Bv), (fidx p bs 0 = -1 ∧ ∀ (i : Nat) (x : Bv), bs[i]? = some x → p x = false) ∨ ∃ (j : Nat) (x : Bv), fidx p bs 0 = (j : Int) ∧ bs[j]? = some x ∧ p x = true ∧ ∀ (i : Nat) (y : Bv), i < j → bs[i]? = some y → p y = false := fun bs => by
  by_cases h : ∃ (j : Nat) (x : Bv), bs[j]? = some x ∧ p x = true
  · obtain ⟨j, hj⟩ := h
    induction j using Nat.strongRecOn with
    | ind j ih =>
      by_cases h2 : ∃ i : Nat, i < j ∧ ∃ x : Bv, bs[i]? = some x ∧ p x = true
      · obtain ⟨i, hi, hx⟩ := h2
        exact ih i hi hx
      · obtain ⟨x, hx, hp⟩ := hj
        have ha : ∀ (i : Nat) (y : Bv), i < j → bs[i]? = some y → p y = false := fun i y hi hy => by
          cases e : p y with
          | false => rfl
          | true => exact absurd ⟨i, hi, y, hy, e⟩ h2
        have := fidx_at (k := 0) hx hp ha
        rw [Nat.zero_add] at this
        exact .inr ⟨j, x, this, hx, hp, ha⟩
  · have ha : ∀ (i : Nat) (x : Bv), bs[i]? = some x → p x = false := fun i x hx => by
      cases e : p x with
      | false => rfl
      | true => exact absurd ⟨i, x, hx, e⟩ h
    exact .inl ⟨fidx_none ha, ha⟩
/-- at's closure. -/
theorem at1_any {w : World} {B : Nat} {pc : Int} (kb : w.cell? ⟨B, 0, none⟩ = some (.int .u32 pc)) (x : Int) (sa : Option Addr) (n c : Nat) :
    Calls Try.prog 31 #[.agg #[.int .u32 x, .slice sa n c], .pointer (some ⟨B, 0, none⟩)] w fun e w' => e = .returned (.bool (decide (x = pc))) ∧ Gr w w' := by
  have q1 : ∀ o, (w.alloc o).cell? ⟨B, 0, none⟩ = some (.int .u32 pc) := fun o => (((Gr.refl w).alloc o).cell _ (by exact World.block_lt_of_cell? w _ kb)).trans kb
  clear kb
  go_enter Try.func31, Try.ntmps31
  go_wp2
  go_ret
  refine ⟨ret_bool ?_, (Gr.refl _).alloc _⟩
  first | rfl | simp
theorem at_any (w : World) (pc : Int) :
    Calls Try.prog 21 #[.int .u32 pc] w fun e w' => ∃ B, e = .returned (.func (.func 31) #[] #[.pointer (some ⟨B, 0, none⟩)]) ∧ w'.cell? ⟨B, 0, none⟩ = some (.int .u32 pc) ∧ Gr w w' := by
  go_enter Try.func21, Try.ntmps21
  go_wp2
  go_ret
  exact ⟨w.heap.size, rfl, cell_of_row _ _ _ _ _ _ (heap_alloc_new w _), (Gr.refl _).alloc _⟩
theorem touched_any (w : World) (f t : Int) :
    Calls Try.prog 25 #[.agg #[.int .u32 f, .int .u32 t]] w fun e w' => ∃ B, e = .returned (.func (.func 32) #[] #[.pointer (some ⟨B, 0, none⟩)]) ∧ w'.heap[B]? = some (.cells #[.int .u32 f, .int .u32 t] 30 (0, 0)) ∧ Gr w w' := by
  go_enter Try.func25, Try.ntmps25
  go_wp2
  go_ret
  exact ⟨w.heap.size, rfl, heap_alloc_new w _, (Gr.refl _).alloc _⟩
theorem iRg : (Try.prog.info? 30).map (·.size) = some 2 := by kernel_rfl
theorem new2 (w : World) (a b : Obj) : ((w.alloc a).alloc b).heap[w.heap.size + 1]? = some b := by
  have := heap_alloc_new (w.alloc a) b
  simpa using this
/-- A block's bytes. -/
theorem Bytes_blk (w : World) {x : Int} (hx : 0 ≤ x ∧ x < 4294967296) (sa : Option Addr) {n : Nat} (hn : n * 40 ≤ 140737488351232) (c : Nat) :
    Calls Try.prog 33 #[.agg #[.int .u32 x, .slice sa n c]] w fun e w' => e = .returned (.agg #[.int .u32 x, .int .u32 (min (x + 4 * (n : Int)) 4294967295)]) ∧ Gr w w' := by
  obtain ⟨hx0, hx1⟩ := hx
  have HX0 : Hid (0 ≤ x) := hx0
  have HX1 : Hid (x < 4294967296) := hx1
  have hw1 : IntKind.u64.wrap x = x := by simp [IntKind.wrap, IntKind.signed, IntKind.bits]; omega
  have hw2 : IntKind.u64.wrap (n : Int) = (n : Int) := by simp [IntKind.wrap, IntKind.signed, IntKind.bits]; omega
  have hw3 : IntKind.u64.wrap (4 * (n : Int)) = 4 * (n : Int) := by simp [IntKind.wrap, IntKind.signed, IntKind.bits]; omega
  have hw4 : IntKind.u64.wrap (x + 4 * (n : Int)) = x + 4 * (n : Int) := by simp [IntKind.wrap, IntKind.signed, IntKind.bits]; omega
  by_cases hm : x + 4 * (n : Int) ≤ 4294967295
  · have hw5 : IntKind.u32.wrap (x + 4 * (n : Int)) = x + 4 * (n : Int) := by simp [IntKind.wrap, IntKind.signed, IntKind.bits]; omega
    go_enter Try.func33, Try.ntmps33
    go_wp2
    rw [show min (x + 4 * (n : Int)) 4294967295 = x + 4 * (n : Int) by rw [Int.min_def]; split <;> omega]
    exact bodyPost_ret (v := .agg #[.int .u32 x, .int .u32 (x + 4 * (n : Int))]) (results_cell_row Try.results33 _ _ _ _ _ (0, 0) _ rfl (new2 w _ _) Try.underlying30 rfl iRg) rfl ⟨rfl, ((Gr.refl _).alloc _).alloc _⟩
  · go_enter Try.func33, Try.ntmps33
    go_wp2
    rw [show min (x + 4 * (n : Int)) 4294967295 = 4294967295 by rw [Int.min_def]; split <;> omega]
    exact bodyPost_ret (v := .agg #[.int .u32 x, .int .u32 (4294967295)]) (results_cell_row Try.results33 _ _ _ _ _ (0, 0) _ rfl (new2 w _ _) Try.underlying30 rfl iRg) rfl ⟨rfl, ((Gr.refl _).alloc _).alloc _⟩
/-- touchedBy's closure. -/
theorem touched1_any {w : World} {B : Nat} {f t : Int} (k0 : w.cell? ⟨B, 0, none⟩ = some (.int .u32 f)) (k1 : w.cell? ⟨B, 1, none⟩ = some (.int .u32 t)) (ht : t < 4294967296) {b : Bv} (ok : b.Ok) (sa : Option Addr) (sc : Nat) :
    Calls Try.prog 32 #[.agg #[.int .u32 b.pc, .slice sa b.is.length sc], .pointer (some ⟨B, 0, none⟩)] w fun e w' => e = .returned (.bool (hasB b f t)) ∧ Gr w w' := by
  have hB := World.block_lt_of_cell? w _ k0
  have BY : Hid (∀ W : World, Calls Try.prog 33 #[.agg #[.int .u32 b.pc, .slice sa b.is.length sc]] W fun e w' => e = .returned (.agg #[.int .u32 b.pc, .int .u32 (min (b.pc + 4 * (b.is.length : Int)) 4294967295)]) ∧ Gr W w') := fun W => Bytes_blk W ok.pc sa ok.sz sc
  have HH : Hid (hasB b f t = decide (max b.pc f < min (min (b.pc + 4 * (b.is.length : Int)) 4294967295) t)) := by
    unfold Hid hasB
    rw [decide_eq_decide]
    simp only [Int.max_def, Int.min_def]
    (repeat' split) <;> omega
  have Q0 : Hid (∀ W : World, Gr w W → W.cell? ⟨B, 0, none⟩ = some (.int .u32 f) ∧ W.cell? ⟨B, 1, none⟩ = some (.int .u32 t)) := fun W G => ⟨(G.cell _ (by exact hB)).trans k0, (G.cell _ (by exact hB)).trans k1⟩
  clear k0 k1 ok
  generalize min (b.pc + 4 * (b.is.length : Int)) 4294967295 = y at *
  generalize hasB b f t = hb at *
  generalize b.pc = x at *
  generalize b.is.length = n at *
  go_enter Try.func32, Try.ntmps32
  go_wp2_with fail
  refine (BY.out _).mono ?_
  rintro e w1 ⟨rfl, G1⟩
  have HG1 : Hid (Gr w w1) := ((Gr.refl _).alloc _).trans G1
  have q0 : ∀ o, (w1.alloc o).cell? ⟨B, 0, none⟩ = some (.int .u32 f) := fun o => (Q0.out _ (HG1.out.alloc o)).1
  have q1 : ∀ o, (w1.alloc o).cell? ⟨B, 1, none⟩ = some (.int .u32 t) := fun o => (Q0.out _ (HG1.out.alloc o)).2
  clear Q0 BY G1
  go_wp2
  all_goals
    go_ret
    refine ⟨ret_bool ?_, HG1.out.alloc _⟩
    rw [HH.out, decide_eq_decide, Int.max_def, Int.min_def]
    (repeat' split) <;> omega
set_option maxHeartbeats 2000000 in
set_option maxRecDepth 100000 in
theorem idx_at {w : World} {ao : Option Addr} {n : Nat} (cap : Nat) {bs : List Bv} (R : Bq w ao n bs) (hs : n ≤ 140737488351232) (B : Nat) (p : Bv → Bool) (Cl0 : ∀ (W : World) (b : Bv) (sa : Option Addr) (sc : Nat), Gr w W → b ∈ bs → Calls Try.prog 31 #[.agg #[.int .u32 b.pc, .slice sa b.is.length sc], .pointer (some ⟨B, 0, none⟩)] W fun e w' => e = .returned (.bool (p b)) ∧ Gr W w') :
    Calls Try.prog 20 #[.slice ao n cap, .func (.func 31) #[] #[.pointer (some ⟨B, 0, none⟩)]] w fun e w' => e = .returned (.int .i64 (fidx p bs 0)) ∧ Gr w w' := by
  have Cl : Hid (∀ (W : World) (b : Bv) (sa : Option Addr) (sc : Nat), Gr w W → b ∈ bs → Calls Try.prog 31 #[.agg #[.int .u32 b.pc, .slice sa b.is.length sc], .pointer (some ⟨B, 0, none⟩)] W fun e w' => e = .returned (.bool (p b)) ∧ Gr W w') := Cl0
  have HR : Hid (Bq w ao n bs) := R
  have HN : Hid (bs.length = n) := R.len
  clear R Cl0
  go_enter Try.func20, Try.ntmps20
  go_wp2_with fail
  go_loopw [8] (fun i wr => ∃ j : Nat, j ≤ n ∧ i = .int .i64 j ∧ (∀ (i : Nat) (y : Bv), i < j → bs[i]? = some y → p y = false) ∧ Gr w wr) (fun i _ => n - (intOf i).toNat)
  case atStart => exact ⟨0, Nat.zero_le _, rfl, fun i y h => absurd h (by omega), Gr.refl _⟩
  case round =>
    obtain ⟨j, hj, rfl, hno, G⟩ := hrel
    have HNo : Hid (∀ (i : Nat) (y : Bv), i < j → bs[i]? = some y → p y = false) := hno
    have HG : Hid (Gr w wr) := G
    clear hno G
    by_cases hlt : j < n
    · obtain ⟨b, hb⟩ : ∃ b, bs[j]? = some b := ⟨_, List.getElem?_eq_getElem (by rw [HN.out]; exact hlt)⟩
      obtain ⟨g1, o1, rfl, l1, hc⟩ := (HR.out.of HG.out).spot (by omega)
      obtain ⟨c0, sa, sc, c1⟩ := hc j b hb
      have HY : Hid (p b = true → fidx p bs 0 = (j : Int)) := fun h => by have := fidx_at (k := 0) hb h HNo.out; rwa [Nat.zero_add] at this
      have HZ : Hid (p b = false → ∀ (i : Nat) (y : Bv), i < j + 1 → bs[i]? = some y → p y = false) := fun h i y hi hy => by
        by_cases e : i < j
        · exact HNo.out i y e hy
        · have e2 : i = j := by omega
          subst e2
          rw [hb] at hy
          injection hy with hy
          rw [← hy]; exact h
      have Cl2 : Hid (∀ W : World, Gr w W → Calls Try.prog 31 #[.agg #[.int .u32 b.pc, .slice sa b.is.length sc], .pointer (some ⟨B, 0, none⟩)] W fun e w' => e = .returned (.bool (p b)) ∧ Gr W w') := fun W G => Cl.out W b sa sc G (List.mem_of_getElem? hb)
      generalize p b = m at *
      clear hb Cl HNo HR HN hc
      generalize b.pc = x at *
      generalize b.is.length = q at *
      cases m with
      | true =>
        have HY2 : Hid (fidx p bs 0 = (j : Int)) := HY.out rfl
        clear HY HZ
        go_wp2_with fail
        refine (Cl2.out _ HG.out).mono ?_
        rintro e w1 ⟨rfl, G1⟩
        have HG1 : Hid (Gr w w1) := HG.out.trans G1
        clear Cl2 G1 c0 c1
        go_wp2_with fail
        go_ret
        exact ⟨by rw [HY2.out]; rfl, HG1.out⟩
      | false =>
        have HZ2 : Hid (∀ (i : Nat) (y : Bv), i < j + 1 → bs[i]? = some y → p y = false) := HZ.out rfl
        clear HY HZ
        go_wp2_with fail
        refine (Cl2.out _ HG.out).mono ?_
        rintro e w1 ⟨rfl, G1⟩
        have HG1 : Hid (Gr w w1) := HG.out.trans G1
        clear Cl2 G1 c0 c1
        go_wp2_with fail
        go_roundw
        case rel => exact ⟨j + 1, by omega, by go_num, HZ2.out, HG1.out⟩
        case measure => simp [intOf]; omega
    · have ej : j = n := by omega
      have HE : Hid (fidx p bs 0 = -1) := fidx_none fun i x hx => HNo.out i x (by rw [ej, ← HN.out]; exact (List.getElem?_eq_some_iff.1 hx).1) hx
      clear ej
      go_wp2_with fail
      go_ret
      exact ⟨by rw [HE.out]; rfl, HG.out⟩
set_option maxHeartbeats 2000000 in
set_option maxRecDepth 100000 in
theorem idx_touched {w : World} {ao : Option Addr} {n : Nat} (cap : Nat) {bs : List Bv} (R : Bq w ao n bs) (hs : n ≤ 140737488351232) (B : Nat) (p : Bv → Bool) (Cl0 : ∀ (W : World) (b : Bv) (sa : Option Addr) (sc : Nat), Gr w W → b ∈ bs → Calls Try.prog 32 #[.agg #[.int .u32 b.pc, .slice sa b.is.length sc], .pointer (some ⟨B, 0, none⟩)] W fun e w' => e = .returned (.bool (p b)) ∧ Gr W w') :
    Calls Try.prog 20 #[.slice ao n cap, .func (.func 32) #[] #[.pointer (some ⟨B, 0, none⟩)]] w fun e w' => e = .returned (.int .i64 (fidx p bs 0)) ∧ Gr w w' := by
  have Cl : Hid (∀ (W : World) (b : Bv) (sa : Option Addr) (sc : Nat), Gr w W → b ∈ bs → Calls Try.prog 32 #[.agg #[.int .u32 b.pc, .slice sa b.is.length sc], .pointer (some ⟨B, 0, none⟩)] W fun e w' => e = .returned (.bool (p b)) ∧ Gr W w') := Cl0
  have HR : Hid (Bq w ao n bs) := R
  have HN : Hid (bs.length = n) := R.len
  clear R Cl0
  go_enter Try.func20, Try.ntmps20
  go_wp2_with fail
  go_loopw [8] (fun i wr => ∃ j : Nat, j ≤ n ∧ i = .int .i64 j ∧ (∀ (i : Nat) (y : Bv), i < j → bs[i]? = some y → p y = false) ∧ Gr w wr) (fun i _ => n - (intOf i).toNat)
  case atStart => exact ⟨0, Nat.zero_le _, rfl, fun i y h => absurd h (by omega), Gr.refl _⟩
  case round =>
    obtain ⟨j, hj, rfl, hno, G⟩ := hrel
    have HNo : Hid (∀ (i : Nat) (y : Bv), i < j → bs[i]? = some y → p y = false) := hno
    have HG : Hid (Gr w wr) := G
    clear hno G
    by_cases hlt : j < n
    · obtain ⟨b, hb⟩ : ∃ b, bs[j]? = some b := ⟨_, List.getElem?_eq_getElem (by rw [HN.out]; exact hlt)⟩
      obtain ⟨g1, o1, rfl, l1, hc⟩ := (HR.out.of HG.out).spot (by omega)
      obtain ⟨c0, sa, sc, c1⟩ := hc j b hb
      have HY : Hid (p b = true → fidx p bs 0 = (j : Int)) := fun h => by have := fidx_at (k := 0) hb h HNo.out; rwa [Nat.zero_add] at this
      have HZ : Hid (p b = false → ∀ (i : Nat) (y : Bv), i < j + 1 → bs[i]? = some y → p y = false) := fun h i y hi hy => by
        by_cases e : i < j
        · exact HNo.out i y e hy
        · have e2 : i = j := by omega
          subst e2
          rw [hb] at hy
          injection hy with hy
          rw [← hy]; exact h
      have Cl2 : Hid (∀ W : World, Gr w W → Calls Try.prog 32 #[.agg #[.int .u32 b.pc, .slice sa b.is.length sc], .pointer (some ⟨B, 0, none⟩)] W fun e w' => e = .returned (.bool (p b)) ∧ Gr W w') := fun W G => Cl.out W b sa sc G (List.mem_of_getElem? hb)
      generalize p b = m at *
      clear hb Cl HNo HR HN hc
      generalize b.pc = x at *
      generalize b.is.length = q at *
      cases m with
      | true =>
        have HY2 : Hid (fidx p bs 0 = (j : Int)) := HY.out rfl
        clear HY HZ
        go_wp2_with fail
        refine (Cl2.out _ HG.out).mono ?_
        rintro e w1 ⟨rfl, G1⟩
        have HG1 : Hid (Gr w w1) := HG.out.trans G1
        clear Cl2 G1 c0 c1
        go_wp2_with fail
        go_ret
        exact ⟨by rw [HY2.out]; rfl, HG1.out⟩
      | false =>
        have HZ2 : Hid (∀ (i : Nat) (y : Bv), i < j + 1 → bs[i]? = some y → p y = false) := HZ.out rfl
        clear HY HZ
        go_wp2_with fail
        refine (Cl2.out _ HG.out).mono ?_
        rintro e w1 ⟨rfl, G1⟩
        have HG1 : Hid (Gr w w1) := HG.out.trans G1
        clear Cl2 G1 c0 c1
        go_wp2_with fail
        go_roundw
        case rel => exact ⟨j + 1, by omega, by go_num, HZ2.out, HG1.out⟩
        case measure => simp [intOf]; omega
    · have ej : j = n := by omega
      have HE : Hid (fidx p bs 0 = -1) := fidx_none fun i x hx => HNo.out i x (by rw [ej, ← HN.out]; exact (List.getElem?_eq_some_iff.1 hx).1) hx
      clear ej
      go_wp2_with fail
      go_ret
      exact ⟨by rw [HE.out]; rfl, HG.out⟩
end Go.Proofs.Yteipplmmchaboab.Kc
