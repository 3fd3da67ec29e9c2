/-
  What the document's read answers of every operation; and what its Parse does.
-/
import Derived.Test.YtkdghgiajifbdaaDoorAc1
namespace Go.Proofs.YtkdghgiajifbdaaDoor.As
open Go.ChangeShapes Go.WideShapes Go.ChangeAt Go.RowKit Mm
set_option linter.unusedVariables false

variable {w w' : World} {L : List Nat}
set_option maxHeartbeats 4000000 in
set_option maxRecDepth 1000000 in
theorem rd_sys {op m : Int} (hL : ∀ x ∈ L, x < 256) (h : op = 58 ∨ op = 59) (w : World) :
    Calls Tryd.prog 53 #[.int .i64 op, .int .i32 m, .string (bs L)] w (RdF w op (rdB op m L)) := by
  have E : rdB op m L = fin (0, 0, 0, 0) L := by unfold rdB; rw [if_pos (by omega)]
  have HE : Hid (rdB op m L = fin (0, 0, 0, 0) L) := E
  have hb : ((bs L).toList == (ByteArray.mk #[]).toList) = decide (L = []) := by
    rw [show ByteArray.mk #[] = bs [] from rfl]
    exact beq_bs hL (by simp)
  have HW : Hid (wn op 0 = 0) := by unfold Hid wn; rw [if_neg (by omega)]
  have HF : Hid (∀ t : Bool, t = decide (L = []) → ∀ W : World, Gr w W → RdF w op (rdB op m L) (.returned (.tuple #[.agg #[.int .i64 op, .int .i64 0, .int .i64 0, .int .i64 0, .int .i32 0], .bool t])) W) := fun t ht W G => by
    rw [HE.out]
    refine ⟨_, _, _, _, _, t, rfl, G, by omega, fun h => ?_, fun h f hf => ?_⟩
    · rw [ht] at h
      have hn := of_decide_eq_true h
      exact ⟨(0, 0, 0, 0), if_pos hn, by show -2147483648 ≤ wn op 0 ∧ wn op 0 < 2147483648; rw [HW.out]; omega, by show _ = (op, 0, 0, 0, wn op 0); rw [HW.out]⟩
    · rw [ht] at h
      have hn := of_decide_eq_false h
      rw [fin, if_neg hn] at hf
      cases hf
  have HT : Hid ((bs L).toList.isEmpty = decide (L = [])) := by
    unfold Hid
    rw [← hb]
    cases h : (bs L).toList <;> simp
  have e58 : op = 58 ∨ op ≠ 58 ∧ op = 59 := by omega
  clear E h HE HW hL hb
  rcases e58 with rfl | ⟨hn, rfl⟩
  all_goals
    go_enter Tryd.func53, Tryd.ntmps53
    go_wp2_with fail
    refine bodyPost_ret (v := .tuple #[.agg #[_, _, _, _, _], .bool _]) (results_ct Tryd.results53 _ _ _ _ _ (0, 0) _ _ rfl rfl (upA ((Gr.refl _).alloc _) (heap_alloc_new w _)) Tryd.underlying23 rfl iIn) rfl (HF.out _ HT.out _ (((Gr.refl _).alloc _).alloc _))
theorem rd_doc (hL : ∀ x ∈ L, x < 256) (hl : L.length ≤ 140737488355328) : RdA L := fun op m o1 o2 m0 m3 W => by
  have e := congrArg List.length (hd_rs L)
  rw [List.length_append] at e
  have hL' : ∀ x ∈ rsB L, x < 256 := fun c hc => hL c (by rw [← hd_rs L]; exact List.mem_append_right _ hc)
  have hl' : (rsB L).length ≤ 140737488355328 := by omega
  by_cases a1 : op ≤ 3
  · exact rd_k1 hL' hl' ⟨o1, a1⟩ m0 m3 W
  by_cases a2 : F2 op
  · exact rd_k2 hL' hl' a2 m0 m3 W
  have a2' := a2
  unfold F2 at a2'
  by_cases a3 : op ≤ 10
  · exact rd_k3 hL' hl' ⟨by omega, a3⟩ m0 m3 W
  by_cases a4 : op ≤ 15
  · exact rd_k4 hL' hl' ⟨by omega, a4⟩ m0 m3 W
  by_cases a5 : op ≤ 18
  · exact rd_k5 hL' hl' ⟨by omega, a5⟩ m0 m3 W
  by_cases a6 : op ≤ 45
  · exact rd_k6 hL' hl' ⟨by omega, a6⟩ m0 m3 W
  by_cases a7 : op = 46
  · exact rd_k7 hL' hl' a7 m0 m3 W
  by_cases a8 : op ≤ 56
  · exact rd_k8 hL' hl' ⟨by omega, a8⟩ m0 m3 W
  exact rd_sys hL' (by omega) W
theorem dParse_any (hL : ∀ c ∈ L, c < 256) (hl : L.length ≤ 140737488355328) (w : World) :
    Calls Tryd.prog 25 #[.string (bs L)] w fun e w' => e = .returned (prV L) ∧ Gr w w' := dParse_of hL hl (rd_doc hL hl)
/-! ### The law -/
theorem pr_is (L : List Nat) : ∃ g1 g2 g3 g4 g5 c : Int, prV L = .tuple #[.agg #[.int .i64 g1, .int .i64 g2, .int .i64 g3, .int .i64 g4, .int .i32 g5], .int .i64 c] := by
  match e : parseB L with
  | none => exact ⟨_, _, _, _, _, _, pr_none e⟩
  | some f => exact ⟨_, _, _, _, _, _, pr_some e⟩
set_option maxHeartbeats 4000000 in
set_option maxRecDepth 1000000 in
theorem parses_any (hl : ∀ c ∈ L, c < 256) (hs : L.length ≤ 140737488355328) (T : Tas w) (E : Ers w) :
    Calls Tryd.prog 8 #[.string (bs L)] w fun e w' => e = .returned (.bool true) ∧ Gr w w' := by
  obtain ⟨g1, g2, g3, g4, g5, c, hp⟩ := pr_is L
  have H1 : Hid (Calls Tryd.prog 24 #[.string (bs L)] w fun e w' => e = .returned (.tuple #[.agg #[.int .i64 g1, .int .i64 g2, .int .i64 g3, .int .i64 g4, .int .i32 g5], .int .i64 c]) ∧ Gr w w') := hp ▸ Parse_any hl hs T E
  have H2 : Hid (∀ W : World, Calls Tryd.prog 25 #[.string (bs L)] W fun e w' => e = .returned (.tuple #[.agg #[.int .i64 g1, .int .i64 g2, .int .i64 g3, .int .i64 g4, .int .i32 g5], .int .i64 c]) ∧ Gr W w') := fun W => hp ▸ dParse_any hl hs W
  clear hp T E hl hs
  go_enter Tryd.func8, Tryd.ntmps8
  go_wp2_with fail
  refine H1.out.mono ?_
  rintro e W1 ⟨rfl, G1⟩
  go_wp2_with fail
  refine (H2.out _).mono ?_
  rintro e W2 ⟨rfl, G2⟩
  have HB : Hid (W2.heap[W1.heap.size]? = some (.cells #[.int .i64 g1, .int .i64 g2, .int .i64 g3, .int .i64 g4, .int .i32 g5] 23 (0, 0))) := upA G2 (heap_alloc_new W1 _)
  have HG : Hid (Gr w W2) := (G1.alloc _).trans G2
  have hlt : W1.heap.size < W2.heap.size := (gs HB.out).1
  have z0 := cr0 HB.out
  have z1 := cr1 HB.out
  have z2 := cr2 HB.out
  have z3 := cr3 HB.out
  have z4 := cr4 HB.out
  clear G1 G2
  go_wp2_with fail
  go_ret
  exact ⟨rfl, HG.out.alloc _⟩
end Go.Proofs.YtkdghgiajifbdaaDoor.As
