/-
  slices.Delete of one block, in a row of the program's own; package cache's without.
-/
import Derived.Test.YteipplmmchaboabKi
import Derived.Deep.RegionLaw
namespace Go.Proofs.Yteipplmmchaboab.Kc
open Go.ChangeShapes Go.WideShapes Go.ChangeAt Go.RowKit Mm Ts Hc
set_option linter.unusedVariables false
set_option linter.unusedSimpArgs false

set_option maxHeartbeats 4000000 in
set_option maxRecDepth 100000 in
theorem Delete_any {w : World} {base g n cap k : Nat} {cs : List Value} (R : Rw w base g cap cs) (hn : n ≤ cap) (hk : k < n) (h1c : ∀ u ∈ (cs.take (n * 2)).drop ((k + 1) * 2), u.oneCell' = true) :
    Calls Try.prog 34 #[.slice (some ⟨g, 0, none⟩) n cap, .int .i64 k, .int .i64 ((k : Int) + 1)] w fun e w' => e = .returned (.slice (some ⟨g, 0, none⟩) (n - 1) cap) ∧ ∃ cs', Rw w' base g cap cs' ∧ cs'.take ((n - 1) * 2) = cs.take (k * 2) ++ (cs.take (n * 2)).drop ((k + 1) * 2) ∧ Ch g w w' := by
  have hm := R.cap
  unfold maxLen at hm
  have HR : Hid (Rw w base g cap cs) := R
  obtain ⟨i0, hi, hz0, hz1, hz2⟩ := info_parts infoB
  obtain ⟨news, hnews⟩ : ∃ news, news = (cs.take (n * 2)).drop ((k + 1) * 2) := ⟨_, rfl⟩
  have hcl := R.len
  have hlen : news.length = (n - (k + 1)) * 2 := by rw [hnews, List.length_drop, List.length_take, hcl]; omega
  have hget : ∀ t u, news[t]? = some u → cs[(k + 1) * 2 + t]? = some u := fun t u hu => by
    rw [hnews, List.getElem?_drop, List.getElem?_take] at hu
    split at hu
    · exact hu
    · cases hu
  obtain ⟨A, hA, hsrc⟩ : ∃ A : Addr, (if cap = k + 1 then some (⟨g, 0, none⟩ : Addr) else some ⟨g, (k + 1) * 2, none⟩) = some A ∧ Hid (∀ t u, news[t]? = some u → w.drew.cell? (A.add t) = some u) := by
    by_cases h : cap = k + 1
    · refine ⟨⟨g, 0, none⟩, by simp [h], fun t u hu => ?_⟩
      have := (List.getElem?_eq_some_iff.1 hu).1
      omega
    · refine ⟨⟨g, (k + 1) * 2, none⟩, by simp [h], fun t u hu => ?_⟩
      rw [add_at]
      exact R.cell (hget t u hu)
  have s1 : Hid (news.length = (n - (k + 1)) * 2) := hlen
  have s2 : Hid (∀ u ∈ news, u.oneCell' = true) := fun u hu => h1c u (by rw [← hnews]; exact hu)
  have s3 : Hid (∀ j, j < news.length → (w.drew.cell? ⟨g, 0 + k * 2 + j, none⟩).isSome = true ∧ w.drew.frozen? ⟨g, 0 + k * 2 + j, none⟩ = false) := fun j hj => ⟨R.isS (w := w) (by omega), R.fz _⟩
  obtain ⟨W1, hW1⟩ : ∃ W1, W1 = w.drew.setCells g (0 + k * 2) news := ⟨_, rfl⟩
  have HW : Hid (W1 = w.drew.setCells g (0 + k * 2) news) := hW1
  have R1 : Rw W1 base g cap (cs.take (k * 2) ++ news ++ cs.drop (k * 2 + news.length)) := by
    rw [hW1, Nat.zero_add]
    exact (R.of (Gr.refl w).drew).set (by omega)
  have HR1 : Hid (Rw W1 base g cap (cs.take (k * 2) ++ news ++ cs.drop (k * 2 + news.length))) := R1
  have HCh : Hid (Ch g w W1) := by unfold Hid; rw [hW1]; exact chC ((Ch.refl g w).gr (Gr.refl w).drew) _ _
  have HNw : Hid (news = (cs.take (n * 2)).drop ((k + 1) * 2)) := hnews
  have hcr : ∀ ty, (Builtin.clear_ #[22] ty #[.slice (some ⟨g, (n - 1) * 2, none⟩) (n - (n - 1)) (cap - (n - 1))]).run Try.prog W1 = .ok (.tuple #[]) (W1.setCells g ((n - 1) * 2) (zrs (n - (n - 1)))) := fun ty =>
    run_clear2 W1 _ _ ty Try.underlying22 Try.zeroValue28 g ((n - 1) * 2) (n - (n - 1)) (cap - (n - 1)) (by omega) (fun j hj => R1.isS (by omega)) (fun j hj => R1.fz _)
  clear R hget hnews hlen hW1 R1 h1c hcl
  have e1 : k + (n - (k + 1)) = n - 1 := by omega
  have hic : k ≤ cap := by omega
  have hjc : k + 1 ≤ cap := by omega
  have hq1 : (0 : Int) ≤ (k : Int) + 1 := by omega
  have hq2 : (k : Int) + 1 ≤ (n : Int) := by omega
  go_enter Try.func34, Try.ntmps34
  go_wp2_with fail
  go_region_law (refine step_append_room rfl (.tmp 22) (.tmp 25) 22 rfl 28 i0 2 Try.underlying22 hi hz1 g 0 k cap (by simp [Act.eval, Act.put]) A (n - (k + 1)) (cap - (k + 1)) news (by simp [Act.eval, Act.put]) s1.out hsrc.out s2.out (by omega) s3.out ?_; rw [← HW.out])
  go_wp2_with fail
  go_ret
  have hl := HR.out.len
  have hnl := s1.out
  refine ⟨rfl, _, HR1.out.set (by rw [zrs_len]; omega), ?_, chC HCh.out _ _⟩
  have e2 : (cs.take (k * 2)).length = k * 2 := by rw [List.length_take, hl]; omega
  have e3 : (cs.take (k * 2) ++ news).length = (n - 1) * 2 := by rw [List.length_append, e2, hnl]; omega
  rw [List.append_assoc, List.take_append_of_le_length (by simp only [List.length_take, List.length_append, List.length_drop]; omega), List.take_take, Nat.min_self, ← e3, List.take_left, HNw.out]
/-- Without the block of number k. -/
theorem without_any {w : World} {base g n cap k : Nat} {cs : List Value} (R : Rw w base g cap cs) (hn : n ≤ cap) (hk : k < n) (h1c : ∀ u ∈ (cs.take (n * 2)).drop ((k + 1) * 2), u.oneCell' = true) :
    Calls Try.prog 26 #[.slice (some ⟨g, 0, none⟩) n cap, .int .i64 k] w fun e w' => e = .returned (.slice (some ⟨g, 0, none⟩) (n - 1) cap) ∧ ∃ cs', Rw w' base g cap cs' ∧ cs'.take ((n - 1) * 2) = cs.take (k * 2) ++ (cs.take (n * 2)).drop ((k + 1) * 2) ∧ Ch g w w' := by
  have hm := R.cap
  unfold maxLen at hm
  have D : Hid (Calls Try.prog 34 #[.slice (some ⟨g, 0, none⟩) n cap, .int .i64 k, .int .i64 ((k : Int) + 1)] w fun e w' => e = .returned (.slice (some ⟨g, 0, none⟩) (n - 1) cap) ∧ ∃ cs', Rw w' base g cap cs' ∧ cs'.take ((n - 1) * 2) = cs.take (k * 2) ++ (cs.take (n * 2)).drop ((k + 1) * 2) ∧ Ch g w w') := Delete_any R hn hk h1c
  clear R h1c
  go_enter Try.func26, Try.ntmps26
  go_wp2_with fail
  refine D.out.mono ?_
  rintro e w1 ⟨rfl, X⟩
  have HX : Hid (∃ cs', Rw w1 base g cap cs' ∧ cs'.take ((n - 1) * 2) = cs.take (k * 2) ++ (cs.take (n * 2)).drop ((k + 1) * 2) ∧ Ch g w w1) := X
  clear X D
  go_wp2_with fail
  go_ret
  exact ⟨rfl, HX.out⟩
/-- The same, of blocks. -/
theorem without_bx {w : World} {base b1 g n cap k : Nat} {xs : List Value} {bs : List Bv} (O : w.ownsRow base 28 2 (.slice (some ⟨g, 0, none⟩) n cap) n xs) (B : Bx w b1 bs xs) (hl : bs.length = n) (hk : k < n) :
    Calls Try.prog 26 #[.slice (some ⟨g, 0, none⟩) n cap, .int .i64 k] w fun e w' => e = .returned (.slice (some ⟨g, 0, none⟩) (n - 1) cap) ∧ ∃ xs', w'.ownsRow base 28 2 (.slice (some ⟨g, 0, none⟩) (n - 1) cap) (n - 1) xs' ∧ Bx w' b1 (bs.take k ++ bs.drop (k + 1)) xs' ∧ Ch g w w' := by
  obtain ⟨hn, cs, R, rfl⟩ := Rw.open O
  refine (without_any R hn hk fun u hu => B.one u (List.mem_of_mem_drop hu)).mono ?_
  rintro e w' ⟨rfl, cs', R', e', q⟩
  have O' := R'.own (m := n - 1) (by omega)
  rw [e'] at O'
  refine ⟨rfl, _, O', ?_, q⟩
  have h1 := B.take k
  rw [List.take_take, show min (k * 2) (n * 2) = k * 2 by omega] at h1
  exact (h1.app (B.drop (k + 1))).ch R q
end Go.Proofs.Yteipplmmchaboab.Kc
