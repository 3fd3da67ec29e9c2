/-
  What the function named of package asm answers: the op, and what is said behind it, of a name ('nmd').
-/
import Derived.Test.YtkdghgiajifbdaaDoorAa1
namespace Go.Proofs.YtkdghgiajifbdaaDoor.As
open Go.ChangeShapes Go.WideShapes Go.ChangeAt Go.RowKit Mm
set_option linter.unusedVariables false

variable {w w' : World}
theorem nmd_hit {op m : Int} {H : List Nat} (h1 : 1 ≤ op) (h2 : op ≤ 59) (m0 : 0 ≤ m) (m1 : m ≤ 3) (hz : ¬ (46 ≤ op ∧ op ≤ 56) → m = 0) (h : nameB op m = H) : nmd H = (op, m) := by
  have := (name_fin h1 h2 (n := m) (fun _ _ => ⟨m0, m1⟩)).1
  rw [h] at this
  unfold nmd
  rw [this]
  by_cases hc : 46 ≤ op ∧ op ≤ 56
  · rw [if_pos hc]; rfl
  · rw [if_neg hc, hz hc]; rfl
theorem nmd_miss {H : List Nat} (h : ∀ o m : Int, 1 ≤ o → o ≤ 59 → 0 ≤ m → m ≤ 3 → nameB o m ≠ H) : nmd H = (0, 0) := by
  have : findB H = none := by
    unfold findB
    rw [List.find?_eq_none]
    intro p hp e
    have := pairs_in hp
    exact h p.1 p.2 this.1 this.2.1 this.2.2.1 this.2.2.2 (by simpa using e)
  unfold nmd
  rw [this]; rfl
theorem name_ch : ∀ (o : Fin 59) (m : Fin 4), (nameB ((o.val : Int) + 1) (m.val : Int)).all (· < 128) = true := by decide +kernel
theorem name_lt {op m : Int} (h1 : 1 ≤ op) (h2 : op ≤ 59) (m0 : 0 ≤ m) (m1 : m ≤ 3) : ∀ c ∈ nameB op m, c < 256 := fun c hc => by
  have := name_ch ⟨(op - 1).toNat, by omega⟩ ⟨m.toNat, by omega⟩
  simp only at this
  rw [show (((op - 1).toNat : Nat) : Int) + 1 = op by omega, show ((m.toNat : Nat) : Int) = m by omega] at this
  have := List.all_eq_true.1 this c hc
  simp at this; omega
theorem beq_bs {A B : List Nat} (ha : ∀ c ∈ A, c < 256) (hb : ∀ c ∈ B, c < 256) : ((bs A).toList == (bs B).toList) = decide (A = B) := by
  by_cases h : A = B
  · subst h; simp
  · rw [decide_eq_false h, beq_eq_false_iff_ne]
    intro e
    rw [ByteArray.toList_eq, ByteArray.toList_eq] at e
    exact h (bs_inj ha hb (bs_ext e))
def spl (op : Int) : Int := if 46 ≤ op ∧ op ≤ 56 then 4 else 1
set_option maxHeartbeats 1000000 in
theorem spellings_any (op : Int) (w : World) : Calls Tryd.prog 94 #[.int .i64 op] w fun e w' => e = .returned (.int .i64 (spl op)) ∧ w = w' := by
  unfold spl
  by_cases h : 46 ≤ op ∧ op ≤ 56
  · rw [if_pos h]
    have HA : Hid (∀ w : World, Calls Tryd.prog 83 #[.int .i64 op] w fun e w' => e = .returned (.bool true) ∧ w = w') := atomic_is (decide_eq_true h)
    clear h
    go_enter Tryd.func94, Tryd.ntmps94
    go_wp2_with fail
    refine (HA.out _).mono ?_
    rintro e _ ⟨rfl, rfl⟩
    go_wp2_with fail
    go_ret
    exact ⟨rfl, rfl⟩
  · rw [if_neg h]
    have HA : Hid (∀ w : World, Calls Tryd.prog 83 #[.int .i64 op] w fun e w' => e = .returned (.bool false) ∧ w = w') := atomic_is (decide_eq_false h)
    clear h
    go_enter Tryd.func94, Tryd.ntmps94
    go_wp2_with fail
    refine (HA.out _).mono ?_
    rintro e _ ⟨rfl, rfl⟩
    go_wp2_with fail
    go_ret
    exact ⟨rfl, rfl⟩
theorem five_set {W : World} {g t : Nat} {a0 a1 a2 a3 a4 : Value} (h : W.heap[g]? = some (.cells #[a0, a1, a2, a3, a4] t (0, 0))) (v0 v1 v2 v3 v4 : Value) :
    (((((W.setCell ⟨g, 0, none⟩ v0).setCell ⟨g, 1, none⟩ v1).setCell ⟨g, 2, none⟩ v2).setCell ⟨g, 3, none⟩ v3).setCell ⟨g, 4, none⟩ v4).heap[g]? = some (.cells #[v0, v1, v2, v3, v4] t (0, 0)) := hss (hss (hss (hss (hss h))))
theorem iIn : (Tryd.prog.info? 23).map (·.size) = some 5 := by kernel_rfl
/-- What lies there while it is sought. -/
structure Nq (w wr : World) : Prop where
  g : Gr w wr
  b : wr.heap[w.heap.size]? = some (.cells #[.int .i64 0, .int .i64 0, .int .i64 0, .int .i64 0, .int .i32 0] 23 (0, 0))
theorem Nq.of {a b : World} (h : Nq w a) (G : Gr a b) : Nq w b := ⟨h.g.trans G, upA G h.b⟩
set_option maxHeartbeats 4000000 in
set_option maxRecDepth 1000000 in
theorem named_any {H : List Nat} (hH : ∀ c ∈ H, c < 256) (T : Tas w) : Calls Tryd.prog 52 #[.string (bs H)] w fun e w' => e = .returned (.agg #[.int .i64 (nmd H).1, .int .i64 0, .int .i64 0, .int .i64 0, .int .i32 (nmd H).2]) ∧ Gr w w' := by
  have HT : Hid (Tas w) := T
  have HH : Hid (∀ c ∈ H, c < 256) := hH
  have HS : Hid (∀ (op : Int) (w : World), Calls Tryd.prog 94 #[.int .i64 op] w fun e w' => e = .returned (.int .i64 (spl op)) ∧ w = w') := spellings_any
  clear T hH
  go_enter Tryd.func52, Tryd.ntmps52
  go_wp2_with fail
  go_loopw [3] (fun s3 wr => ∃ op : Int, s3 = .int .i64 op ∧ 1 ≤ op ∧ op ≤ 60 ∧ (∀ o m : Int, 1 ≤ o → o < op → 0 ≤ m → m ≤ 3 → nameB o m ≠ H) ∧ Nq w wr) (fun s3 _ => 60 - (Lib.intOf s3).toNat)
  case atStart => exact ⟨1, rfl, by omega, by omega, fun o m h1 h2 => by omega, ⟨(Gr.refl _).alloc _, heap_alloc_new w _⟩⟩
  case round =>
    obtain ⟨op, rfl, o1, o2, hno, hq⟩ := hrel
    have HNO : Hid (∀ o m : Int, 1 ≤ o → o < op → 0 ≤ m → m ≤ 3 → nameB o m ≠ H) := hno
    have HQ : Hid (Nq w wr) := hq
    clear hno hq
    by_cases ho : op ≤ 59
    · go_wp2_with fail
      refine (HS.out op _).mono ?_
      rintro e _ ⟨rfl, rfl⟩
      go_wp2_with fail
      go_loopw [12] (fun s12 wx => ∃ m : Int, s12 = .int .i64 m ∧ 0 ≤ m ∧ m ≤ spl op ∧ (∀ k : Int, 0 ≤ k → k < m → nameB op k ≠ H) ∧ Nq w wx) (fun s12 _ => 4 - (Lib.intOf s12).toNat)
      case atStart => exact ⟨0, rfl, by omega, by unfold spl; split <;> omega, fun k h1 h2 => by omega, HQ.out⟩
      case round =>
        obtain ⟨m, rfl, m0, m1, hno, hq⟩ := hrel
        have HNP : Hid (∀ k : Int, 0 ≤ k → k < m → nameB op k ≠ H) := hno
        have HR : Hid _ := hq
        have HSP : Hid ((46 ≤ op ∧ op ≤ 56 ∧ spl op = 4) ∨ (¬ (46 ≤ op ∧ op ≤ 56) ∧ spl op = 1)) := by
          unfold Hid spl
          by_cases h : 46 ≤ op ∧ op ≤ 56
          · exact .inl ⟨h.1, h.2, if_pos h⟩
          · exact .inr ⟨h, if_neg h⟩
        clear hno hq
        by_cases hm : m < spl op
        · have hm3 : m ≤ 3 := by rcases HSP.out with h | h <;> omega
          have hz : Hid (¬ (46 ≤ op ∧ op ≤ 56) → m = 0) := fun h => by rcases HSP.out with h' | h' <;> omega
          have hlt := name_lt o1 ho m0 hm3
          have HB : Hid (((bs (nameB op m)).toList == (bs H).toList) = decide (nameB op m = H)) := beq_bs hlt HH.out
          have HN : Hid (∀ W : World, Tas W → Calls Tryd.prog 45 #[.agg #[.int .i64 op, .int .i64 0, .int .i64 0, .int .i64 0, .int .i32 m]] W fun e w' => e = .returned (.string (bs (nameB op m))) ∧ Gr W w') := fun W T => aname_any o1 ho (fun _ _ => ⟨m0, hm3⟩) 0 0 0 T
          have hne : w.heap.size < wr.heap.size := (gs HR.out.b).1
          have hwm : IntKind.i32.wrap m = m := by rw [IntKind.wrap_i32]; omega
          clear hlt
          go_wp2_with fail
          refine (HN.out _ (HT.out.of (HR.out.g.alloc _))).mono ?_
          rintro e W1 ⟨rfl, G1⟩
          have HQ1 : Hid (Nq w W1) := (HR.out.of ((Gr.refl _).alloc _)).of G1
          have HB1 : Hid (W1.heap[wr.heap.size]? = some (.cells #[.int .i64 op, .int .i64 0, .int .i64 0, .int .i64 0, .int .i32 m] 23 (0, 0))) := upA G1 (heap_alloc_new wr _)
          clear G1
          by_cases he : nameB op m = H
          · have hb := HB.out
            rw [decide_eq_true he] at hb
            have he' : nmd H = (op, m) := nmd_hit o1 ho m0 hm3 hz.out he
            have y0 := cr0 HB1.out
            have y1 := cr1 HB1.out
            have y2 := cr2 HB1.out
            have y3 := cr3 HB1.out
            have y4 := cr4 HB1.out
            have x0 := cr0 HQ1.out.b
            have x1 := cr1 HQ1.out.b
            have x2 := cr2 HQ1.out.b
            have x3 := cr3 HQ1.out.b
            have x4 := cr4 HQ1.out.b
            have f0 : W1.frozen? ⟨w.heap.size, 0, none⟩ = false := fzr HQ1.out.b
            have f1 : W1.frozen? ⟨w.heap.size, 1, none⟩ = false := fzr HQ1.out.b
            have f2 : W1.frozen? ⟨w.heap.size, 2, none⟩ = false := fzr HQ1.out.b
            have f3 : W1.frozen? ⟨w.heap.size, 3, none⟩ = false := fzr HQ1.out.b
            have f4 : W1.frozen? ⟨w.heap.size, 4, none⟩ = false := fzr HQ1.out.b
            have HE : Hid _ := he'
            clear he he'
            generalize nameB op m = N at *
            go_wp2_with fail
            refine bodyPost_ret (v := .agg #[.int .i64 op, .int .i64 0, .int .i64 0, .int .i64 0, .int .i32 m]) (results_cell_row Tryd.results52 _ _ _ _ _ (0, 0) _ rfl (five_set HQ1.out.b _ _ _ _ _) Tryd.underlying23 rfl iIn) rfl ⟨by rw [HE.out], ?_⟩
            exact ((((HQ1.out.g.setCell (Nat.le_refl _) _).setCell (Nat.le_refl _) _).setCell (Nat.le_refl _) _).setCell (Nat.le_refl _) _).setCell (Nat.le_refl _) _
          · have hb := HB.out
            rw [decide_eq_false he] at hb
            have HE : Hid (nameB op m ≠ H) := he
            clear he
            go_wp2_with fail
            go_roundw
            case rel => exact ⟨m + 1, by go_num, by omega, by omega, fun k k0 k1 => by
              by_cases hk : k = m
              · rw [hk]; exact HE.out
              · exact HNP.out k k0 (by omega), HQ1.out⟩
            case measure => simp [Lib.intOf]; omega
        · have hm' : Hid (m = spl op) := by unfold Hid; omega
          go_wp2_with fail
          go_roundw
          case rel => exact ⟨op + 1, by go_num, by omega, by omega, fun o k h1 h2 k0 k3 => by
            by_cases ho' : o = op
            · rcases HSP.out with h | h
              · rw [ho']; exact HNP.out k k0 (by have := hm'.out; omega)
              · rw [ho', name_same h.1 0]; exact HNP.out 0 (by omega) (by have := hm'.out; omega)
            · exact HNO.out o k h1 (by omega) k0 k3, HR.out⟩
          case measure => simp [Lib.intOf]; omega
    · have HE : Hid (nmd H = (0, 0)) := nmd_miss fun o m h1 h2 m0 m1 => HNO.out o m h1 (by omega) m0 m1
      have hbk := HQ.out.b
      have x0 := cr0 hbk
      have x1 := cr1 hbk
      have x2 := cr2 hbk
      have x3 := cr3 hbk
      have x4 := cr4 hbk
      have f0 : wr.frozen? ⟨w.heap.size, 0, none⟩ = false := fzr hbk
      have f1 : wr.frozen? ⟨w.heap.size, 1, none⟩ = false := fzr hbk
      have f2 : wr.frozen? ⟨w.heap.size, 2, none⟩ = false := fzr hbk
      have f3 : wr.frozen? ⟨w.heap.size, 3, none⟩ = false := fzr hbk
      have f4 : wr.frozen? ⟨w.heap.size, 4, none⟩ = false := fzr hbk
      go_wp2_with fail
      refine bodyPost_ret (v := .agg #[.int .i64 0, .int .i64 0, .int .i64 0, .int .i64 0, .int .i32 0]) (results_cell_row Tryd.results52 _ _ _ _ _ (0, 0) _ rfl (five_set HQ.out.b _ _ _ _ _) Tryd.underlying23 rfl iIn) rfl ⟨by rw [HE.out], ?_⟩
      exact ((((HQ.out.g.setCell (Nat.le_refl _) _).setCell (Nat.le_refl _) _).setCell (Nat.le_refl _) _).setCell (Nat.le_refl _) _).setCell (Nat.le_refl _) _
end Go.Proofs.YtkdghgiajifbdaaDoor.As
