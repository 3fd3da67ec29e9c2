/-
  What the function Parse of package ferrybridgeref11 answers, given what its read does: 'prV'.
-/
import Derived.Test.YtkdghgiajifbdaaDoorAb9
import Derived.Deep.RegionWith
namespace Go.Proofs.YtkdghgiajifbdaaDoor.As
open Go.ChangeShapes Go.WideShapes Go.ChangeAt Go.RowKit Mm
set_option linter.unusedVariables false

variable {w w' : World} {L : List Nat}
def RdA (L : List Nat) : Prop := ∀ (op m : Int), 1 ≤ op → op ≤ 59 → 0 ≤ m → m ≤ 3 → ∀ W : World, Calls Tryd.prog 53 #[.int .i64 op, .int .i32 m, .string (bs (rsB L))] W (RdF W op (rdB op m (rsB L)))
theorem hd_step : ∀ {L : List Nat} {p : Nat}, (L.take p).all (· != 32) = true → ∀ (hp : p < L.length), L[p] ≠ 32 → (L.take (p + 1)).all (· != 32) = true
  | L, p, h, hp, hn => by
    rw [List.take_succ_eq_append_getElem hp, List.all_append, h]
    simpa using hn
theorem hd_end : ∀ {L : List Nat} {p : Nat}, (L.take p).all (· != 32) = true → p ≤ L.length → (∀ hp : p < L.length, L[p] = 32) → hdB L = L.take p ∧ rsB L = L.drop p
  | L, p, h, hl, he => by
    have h' : ∀ c ∈ L.take p, (c != 32) = true := fun c hc => List.all_eq_true.1 h c hc
    have e : L = L.take p ++ L.drop p := (List.take_append_drop p L).symm
    have hd : (L.drop p).takeWhile (· != 32) = [] ∧ (L.drop p).dropWhile (· != 32) = L.drop p := by
      by_cases hp : p < L.length
      · rw [List.drop_eq_getElem_cons hp, he hp]
        exact ⟨by simp, by simp⟩
      · rw [List.drop_eq_nil_of_le (by omega)]
        exact ⟨rfl, rfl⟩
    unfold hdB rsB
    constructor
    · conv => lhs; rw [e]
      rw [List.takeWhile_append_of_pos h', hd.1, List.append_nil]
    · conv => lhs; rw [e]
      rw [List.dropWhile_append_of_pos h', hd.2]
/-- The first pair that has this name. -/
theorem find_hit {H : List Nat} {op m : Int} (h1 : 1 ≤ op) (h2 : op ≤ 59) (m0 : 0 ≤ m) (m3 : m ≤ 3) (hz : ¬ (46 ≤ op ∧ op ≤ 56) → m = 0) (h : nameB op m = H) : findB H = some (op, m) := by
  rw [← h, (name_fin h1 h2 (fun _ _ => ⟨m0, m3⟩)).1]
  by_cases hc : 46 ≤ op ∧ op ≤ 56
  · rw [if_pos hc]
  · rw [if_neg hc, hz hc]
theorem find_miss {H : List Nat} (h : ∀ o m : Int, 1 ≤ o → o < 60 → 0 ≤ m → m ≤ 3 → nameB o m ≠ H) : findB H = none := by
  match e : findB H with
  | none => rfl
  | some (o, m) =>
    obtain ⟨hn, o1, o2, m0, m1⟩ := find_sound e
    exact absurd hn (h o m o1 (by omega) m0 m1)
theorem pr_none (h : parseB L = none) : prV L = .tuple #[.agg #[.int .i64 0, .int .i64 0, .int .i64 0, .int .i64 0, .int .i32 0], .int .i64 2] := by unfold prV; rw [h]
theorem pr_some {f : Fi} (h : parseB L = some f) : prV L = .tuple #[.agg #[.int .i64 f.1, .int .i64 f.2.1, .int .i64 f.2.2.1, .int .i64 f.2.2.2.1, .int .i32 f.2.2.2.2], .int .i64 0] := by unfold prV; rw [h]
theorem ext_hd {p : Nat} (hp : p ≤ L.length) : (bs L).extract 0 p = bs (L.take p) := bs_ext (by
  rw [Lib.extract_data, bs_list, bs_list, List.drop_zero, Nat.sub_zero, List.map_take])
theorem ext_rs {p : Nat} (hp : p ≤ L.length) : (bs L).extract p L.length = bs (L.drop p) := bs_ext (by
  rw [Lib.extract_data, bs_list, bs_list, List.map_drop]
  exact List.take_of_length_le (by simp))
theorem pr_bad {op m : Int} (hf : findB (hdB L) = some (op, m)) (h : ∀ f : Fo, rdB op m (rsB L) = some f → ¬ ((-2147483648 ≤ wn op f.2.2.2 ∧ wn op f.2.2.2 < 2147483648) ∧ Re.IsP op f.1 f.2.1 f.2.2.1 (wn op f.2.2.2))) :
    prV L = .tuple #[.agg #[.int .i64 0, .int .i64 0, .int .i64 0, .int .i64 0, .int .i32 0], .int .i64 2] := pr_none (by
  unfold parseB
  rw [hf, Option.bind_some]
  match e : rdB op m (rsB L) with
  | none => rfl
  | some f => exact if_neg (h f e))
theorem pr_good {op m : Int} {f : Fo} (hf : findB (hdB L) = some (op, m)) (e : rdB op m (rsB L) = some f) (h : (-2147483648 ≤ wn op f.2.2.2 ∧ wn op f.2.2.2 < 2147483648) ∧ Re.IsP op f.1 f.2.1 f.2.2.1 (wn op f.2.2.2)) :
    prV L = .tuple #[.agg #[.int .i64 op, .int .i64 f.1, .int .i64 f.2.1, .int .i64 f.2.2.1, .int .i32 (wn op f.2.2.2)], .int .i64 0] := pr_some (f := (op, f.1, f.2.1, f.2.2.1, wn op f.2.2.2)) (by
  unfold parseB
  rw [hf, Option.bind_some]
  simp only [e, Option.bind_some]
  exact if_pos h)
set_option maxHeartbeats 4000000 in
set_option maxRecDepth 1000000 in
theorem dParse_of (hL : ∀ c ∈ L, c < 256) (hl : L.length ≤ 140737488355328) (R : RdA L) :
    Calls Tryd.prog 25 #[.string (bs L)] w fun e w' => e = .returned (prV L) ∧ Gr w w' := by
  have HL : Hid (∀ c ∈ L, c < 256) := hL
  have HR : Hid (RdA L) := R
  have hz : ((bs L).size : Int) = (L.length : Int) := by rw [bs_size]
  clear hL R
  go_enter Tryd.func25, Tryd.ntmps25
  go_wp2_with fail
  go_loopw [4] (fun s4 wr => ∃ p : Nat, s4 = .int .i64 (p : Int) ∧ p ≤ L.length ∧ (L.take p).all (· != 32) = true ∧ Nq w wr) (fun s4 _ => L.length - (Lib.intOf s4).toNat)
  case atStart => exact ⟨0, rfl, by omega, by simp, ⟨(Gr.refl _).alloc _, heap_alloc_new w _⟩⟩
  case round =>
    obtain ⟨p, rfl, hp, ha, hq⟩ := hrel
    have HA : Hid ((L.take p).all (· != 32) = true) := ha
    have HQ : Hid (Nq w wr) := hq
    clear ha hq
    have p0 : (0 : Int) ≤ (p : Int) := by omega
    by_cases hx : ∃ hlt : p < L.length, L[p] ≠ 32
    · obtain ⟨hlt, he⟩ := hx
      have hi := fun w => idx_is HL.out hlt w
      have k0 : (p : Int) < (L.length : Int) := by omega
      have k1 : IntKind.i64.wrap ((p : Int) + 1) = (p : Int) + 1 := by rw [IntKind.wrap_i64]; omega
      have HA1 : Hid ((L.take (p + 1)).all (· != 32) = true) := hd_step HA.out hlt he
      have hc : ((L[p] : Nat) : Int) ≠ 32 := by omega
      go_wp2_with fail
      go_roundw
      case rel => exact ⟨p + 1, by go_num, by omega, HA1.out, HQ.out⟩
      case measure => simp [Lib.intOf]; omega
    have HE : Hid (hdB L = L.take p ∧ rsB L = L.drop p) := hd_end HA.out hp (fun h => Classical.byContradiction fun h' => hx ⟨h, h'⟩)
    have HHD : Hid (∀ c ∈ hdB L, c < 256) := fun c hc => HL.out c (by rw [← hd_rs L]; exact List.mem_append_left _ hc)
    have hs1 : ∀ w : World, (Instr.slice 9 (.string (bs L)) none (some (.int .i64 (p : Int))) none).run Tryd.prog w = .ok (.string (bs (hdB L))) w := fun w => by
      rw [HE.out.1, ← ext_hd hp, run_slice_string_h w _ (bs L) Tryd.underlying9 .i64 (p : Int) (by omega) (by omega), Int.toNat_natCast]
    have hs2 : ∀ w : World, (Instr.slice 9 (.string (bs L)) (some (.int .i64 (p : Int))) none none).run Tryd.prog w = .ok (.string (bs (rsB L))) w := fun w => by
      rw [HE.out.2, ← ext_rs hp, run_slice_string_l w _ (bs L) Tryd.underlying9 .i64 (p : Int) (by omega) (by omega), Int.toNat_natCast, bs_size]
    by_cases hlt : p < L.length
    · have hi := fun w => idx_is HL.out hlt w
      have k0 : (p : Int) < (L.length : Int) := by omega
      have he : L[p] = 32 := Classical.byContradiction fun h' => hx ⟨hlt, h'⟩
      rw [he] at hi
      clear hx HE
      go_wp2_with fail
      go_loopw [5] (fun s5 wx => ∃ op : Int, s5 = .int .i64 op ∧ 1 ≤ op ∧ op ≤ 60 ∧ (∀ o m : Int, 1 ≤ o → o < op → 0 ≤ m → m ≤ 3 → nameB o m ≠ hdB L) ∧ Nq w wx) (fun s5 _ => 60 - (Lib.intOf s5).toNat)
      case atStart => exact ⟨1, rfl, by omega, by omega, fun o m h1 h2 => by omega, HQ.out⟩
      case round =>
        obtain ⟨op, rfl, o1, o2, hno, hq⟩ := hrel
        have HNO : Hid (∀ o m : Int, 1 ≤ o → o < op → 0 ≤ m → m ≤ 3 → nameB o m ≠ hdB L) := hno
        have HQ5 : Hid (Nq w wr) := hq
        clear hno hq
        by_cases ho : op ≤ 59
        · go_wp2_with fail
          go_loopw [6] (fun s6 wx => ∃ m : Int, s6 = .int .i32 m ∧ 0 ≤ m ∧ m ≤ 4 ∧ (∀ k : Int, 0 ≤ k → k < m → nameB op k ≠ hdB L) ∧ Nq w wx) (fun s6 _ => 4 - (Lib.intOf s6).toNat)
          case atStart => exact ⟨0, rfl, by omega, by omega, fun k h1 h2 => by omega, HQ5.out⟩
          case round =>
            obtain ⟨m, rfl, m0, m1, hno, hq⟩ := hrel
            have HNP : Hid (∀ k : Int, 0 ≤ k → k < m → nameB op k ≠ hdB L) := hno
            have HQ6 : Hid (Nq w wr) := hq
            clear hno hq
            by_cases hm : m < 4
            · have hlt := name_lt o1 ho m0 (by omega)
              have HB : Hid (((bs (nameB op m)).toList == (bs (hdB L)).toList) = decide (nameB op m = hdB L)) := beq_bs hlt HHD.out
              have HN : Hid (∀ W : World, Calls Tryd.prog 47 #[.int .i64 op, .int .i32 m] W fun e w' => e = .returned (.string (bs (nameB op m))) ∧ Gr W w') := fun W => name_any o1 ho m W
              have HRR : Hid (∀ W : World, Calls Tryd.prog 53 #[.int .i64 op, .int .i32 m, .string (bs (rsB L))] W (RdF W op (rdB op m (rsB L)))) := HR.out op m o1 ho m0 (by omega)
              clear hlt
              by_cases he : nameB op m = hdB L
              · have hb := HB.out
                rw [decide_eq_true he] at hb
                have HF : Hid (findB (hdB L) = some (op, m)) := find_hit o1 ho m0 (by omega) (fun h => by
                  by_cases hz : m = 0
                  · exact hz
                  · exact absurd ((name_same h 0).symm.trans he) (HNP.out 0 (by omega) (by omega))) he
                clear he HB HNP HNO
                generalize nameB op m = N at *
                go_wp2_with fail
                go_region_with (go_at_call 47; refine (HN.out _).mono ?_; rintro e W1 ⟨rfl, G1⟩; have HQ7 : Hid (Nq w W1) := HQ6.out.of (Gr.trans (by repeat (first | exact Gr.refl wr | refine Gr.drewN ?_ _ | refine Gr.drew ?_)) G1); clear G1)
                all_goals
                  go_wp2_with fail
                  refine (HRR.out _).mono ?_
                  rintro e W2 ⟨g1, g2, g3, g4, g5, t, rfl, G2, hb5, ht1, ht0⟩
                  have HQ8 : Hid (Nq w W2) := HQ7.out.of (Gr.trans (by repeat (first | exact Gr.refl W1 | refine Gr.drewN ?_ _ | refine Gr.drew ?_)) G2)
                  have HQ9 : Hid (Nq w (W2.alloc (.cells #[.int .i64 g1, .int .i64 g2, .int .i64 g3, .int .i64 g4, .int .i32 g5] 23))) := HQ8.out.of ((Gr.refl _).alloc _)
                  have hlt2 : w.heap.size < W2.heap.size := (gs HQ8.out.b).1
                  clear G2 HQ7 HQ6 HN HRR
                  cases t with
                  | false =>
                    have HE4 : Hid (prV L = .tuple #[.agg #[.int .i64 0, .int .i64 0, .int .i64 0, .int .i64 0, .int .i32 0], .int .i64 2]) := pr_bad HF.out (fun f hf h => ht0 rfl f hf h.1)
                    clear ht0 ht1
                    have x0 := cr0 HQ9.out.b
                    have x1 := cr1 HQ9.out.b
                    have x2 := cr2 HQ9.out.b
                    have x3 := cr3 HQ9.out.b
                    have x4 := cr4 HQ9.out.b
                    have xf : ∀ j, (W2.alloc (.cells #[.int .i64 g1, .int .i64 g2, .int .i64 g3, .int .i64 g4, .int .i32 g5] 23)).frozen? ⟨w.heap.size, j, none⟩ = false := fun j => fzr HQ9.out.b
                    have y0 := cr0 HQ8.out.b
                    have y1 := cr1 HQ8.out.b
                    have y2 := cr2 HQ8.out.b
                    have y3 := cr3 HQ8.out.b
                    have y4 := cr4 HQ8.out.b
                    have yf : ∀ j, W2.frozen? ⟨w.heap.size, j, none⟩ = false := fun j => fzr HQ8.out.b
                    go_wp2_with fail
                    refine bodyPost_ret (v := .tuple #[.agg #[_, _, _, _, _], .int .i64 2]) (results_ct Tryd.results25 _ _ _ _ _ (0, 0) _ _ rfl rfl (upA ((Gr.refl _).alloc _) (five_set HQ8.out.b _ _ _ _ _)) Tryd.underlying23 rfl iIn) rfl ⟨by rw [HE4.out], ?_⟩
                    exact (((((HQ8.out.g.setCell (Nat.le_refl _) _).setCell (Nat.le_refl _) _).setCell (Nat.le_refl _) _).setCell (Nat.le_refl _) _).setCell (Nat.le_refl _) _).alloc _
                  | true =>
                    obtain ⟨f, hf, hfit, hg⟩ := ht1 rfl
                    have HI := Re.Is_any g1 g2 g3 g4 g5 (W2.alloc (.cells #[.int .i64 g1, .int .i64 g2, .int .i64 g3, .int .i64 g4, .int .i32 g5] 23)) hb5.1 hb5.2
                    have HFF : Hid (rdB op m (rsB L) = some f) := hf
                    have HFI : Hid (-2147483648 ≤ wn op f.2.2.2 ∧ wn op f.2.2.2 < 2147483648) := hfit
                    have HGG : Hid ((g1, g2, g3, g4, g5) = (op, f.1, f.2.1, f.2.2.1, wn op f.2.2.2)) := hg
                    clear ht0 ht1 hf hfit hg
                    go_wp2_with fail
                    refine HI.mono ?_
                    clear HI
                    rintro e W4 ⟨⟨b, rfl, hbi⟩, ⟨G4, -⟩⟩
                    have HQ4 : Hid (Nq w W4) := HQ9.out.of G4
                    have HBB : Hid (W4.heap[W2.heap.size]? = some (.cells #[.int .i64 g1, .int .i64 g2, .int .i64 g3, .int .i64 g4, .int .i32 g5] 23 (0, 0))) := upA G4 (heap_alloc_new W2 _)
                    have HBI : Hid (b = true ↔ Re.IsP g1 g2 g3 g4 g5) := hbi
                    have z0 := cr0 HBB.out
                    have z1 := cr1 HBB.out
                    have z2 := cr2 HBB.out
                    have z3 := cr3 HBB.out
                    have z4 := cr4 HBB.out
                    have x0 := cr0 HQ4.out.b
                    have x1 := cr1 HQ4.out.b
                    have x2 := cr2 HQ4.out.b
                    have x3 := cr3 HQ4.out.b
                    have x4 := cr4 HQ4.out.b
                    have xf : ∀ j, W4.frozen? ⟨w.heap.size, j, none⟩ = false := fun j => fzr HQ4.out.b
                    clear G4 hbi
                    cases b with
                    | false =>
                      have HE4 : Hid (prV L = .tuple #[.agg #[.int .i64 0, .int .i64 0, .int .i64 0, .int .i64 0, .int .i32 0], .int .i64 2]) := pr_bad HF.out (fun f' hf' h => by
                        have e := Option.some.inj (HFF.out.symm.trans hf')
                        subst e
                        have hg := HGG.out
                        simp only [Prod.mk.injEq] at hg
                        obtain ⟨rfl, rfl, rfl, rfl, rfl⟩ := hg
                        exact absurd (HBI.out.2 h.2) (by simp))
                      go_wp2_with fail
                      refine bodyPost_ret (v := .tuple #[.agg #[_, _, _, _, _], .int .i64 2]) (results_ct Tryd.results25 _ _ _ _ _ (0, 0) _ _ rfl rfl (five_set HQ4.out.b _ _ _ _ _) Tryd.underlying23 rfl iIn) rfl ⟨by rw [HE4.out], ?_⟩
                      exact ((((HQ4.out.g.setCell (Nat.le_refl _) _).setCell (Nat.le_refl _) _).setCell (Nat.le_refl _) _).setCell (Nat.le_refl _) _).setCell (Nat.le_refl _) _
                    | true =>
                      have HE4 : Hid (prV L = .tuple #[.agg #[.int .i64 g1, .int .i64 g2, .int .i64 g3, .int .i64 g4, .int .i32 g5], .int .i64 0]) := by
                        have hg := HGG.out
                        simp only [Prod.mk.injEq] at hg
                        obtain ⟨rfl, rfl, rfl, rfl, rfl⟩ := hg
                        exact pr_good HF.out HFF.out ⟨HFI.out, HBI.out.1 rfl⟩
                      go_wp2_with fail
                      refine bodyPost_ret (v := .tuple #[.agg #[_, _, _, _, _], .int .i64 0]) (results_ct Tryd.results25 _ _ _ _ _ (0, 0) _ _ rfl rfl (five_set HQ4.out.b _ _ _ _ _) Tryd.underlying23 rfl iIn) rfl ⟨by rw [HE4.out], ?_⟩
                      exact ((((HQ4.out.g.setCell (Nat.le_refl _) _).setCell (Nat.le_refl _) _).setCell (Nat.le_refl _) _).setCell (Nat.le_refl _) _).setCell (Nat.le_refl _) _
              · have hb := HB.out
                rw [decide_eq_false he] at hb
                have HE2 : Hid (nameB op m ≠ hdB L) := he
                clear he HB
                go_wp2_with fail
                go_region_with (go_at_call 47; refine (HN.out _).mono ?_; rintro e W1 ⟨rfl, G1⟩; have HQ7 : Hid (Nq w W1) := HQ6.out.of (Gr.trans (by repeat (first | exact Gr.refl wr | refine Gr.drewN ?_ _ | refine Gr.drew ?_)) G1); clear G1)
                all_goals
                  go_wp2_with fail
                  go_roundw
                  case rel => exact ⟨m + 1, by go_num, by omega, by omega, fun k k0 k1 => by
                    by_cases hk : k = m
                    · rw [hk]; exact HE2.out
                    · exact HNP.out k k0 (by omega), HQ7.out⟩
                  case measure => simp [Lib.intOf]; omega
            · have hm' : m = 4 := by omega
              go_wp2_with fail
              go_roundw
              case rel => exact ⟨op + 1, by go_num, by omega, by omega, fun o k h1 h2 k0 k3 => by
                by_cases ho' : o = op
                · rw [ho']; exact HNP.out k k0 (by omega)
                · exact HNO.out o k h1 (by omega) k0 k3, HQ6.out⟩
              case measure => simp [Lib.intOf]; omega
        · have HE3 : Hid (prV L = .tuple #[.agg #[.int .i64 0, .int .i64 0, .int .i64 0, .int .i64 0, .int .i32 0], .int .i64 2]) := pr_none (by unfold parseB; rw [find_miss fun o m h1 h2 m0 m1 => HNO.out o m h1 (by omega) m0 m1]; rfl)
          have x0 := cr0 HQ5.out.b
          have x1 := cr1 HQ5.out.b
          have x2 := cr2 HQ5.out.b
          have x3 := cr3 HQ5.out.b
          have x4 := cr4 HQ5.out.b
          have xf : ∀ j, wr.frozen? ⟨w.heap.size, j, none⟩ = false := fun j => fzr HQ5.out.b
          go_wp2_with fail
          refine bodyPost_ret (v := .tuple #[.agg #[_, _, _, _, _], .int .i64 2]) (results_ct Tryd.results25 _ _ _ _ _ (0, 0) _ _ rfl rfl (five_set HQ5.out.b _ _ _ _ _) Tryd.underlying23 rfl iIn) rfl ⟨by rw [HE3.out], ?_⟩
          exact ((((HQ5.out.g.setCell (Nat.le_refl _) _).setCell (Nat.le_refl _) _).setCell (Nat.le_refl _) _).setCell (Nat.le_refl _) _).setCell (Nat.le_refl _) _
    · have k0 : ¬ (p : Int) < (L.length : Int) := by omega
      clear hx HE
      go_wp2_with fail
      go_loopw [5] (fun s5 wx => ∃ op : Int, s5 = .int .i64 op ∧ 1 ≤ op ∧ op ≤ 60 ∧ (∀ o m : Int, 1 ≤ o → o < op → 0 ≤ m → m ≤ 3 → nameB o m ≠ hdB L) ∧ Nq w wx) (fun s5 _ => 60 - (Lib.intOf s5).toNat)
      case atStart => exact ⟨1, rfl, by omega, by omega, fun o m h1 h2 => by omega, HQ.out⟩
      case round =>
        obtain ⟨op, rfl, o1, o2, hno, hq⟩ := hrel
        have HNO : Hid (∀ o m : Int, 1 ≤ o → o < op → 0 ≤ m → m ≤ 3 → nameB o m ≠ hdB L) := hno
        have HQ5 : Hid (Nq w wr) := hq
        clear hno hq
        by_cases ho : op ≤ 59
        · go_wp2_with fail
          go_loopw [6] (fun s6 wx => ∃ m : Int, s6 = .int .i32 m ∧ 0 ≤ m ∧ m ≤ 4 ∧ (∀ k : Int, 0 ≤ k → k < m → nameB op k ≠ hdB L) ∧ Nq w wx) (fun s6 _ => 4 - (Lib.intOf s6).toNat)
          case atStart => exact ⟨0, rfl, by omega, by omega, fun k h1 h2 => by omega, HQ5.out⟩
          case round =>
            obtain ⟨m, rfl, m0, m1, hno, hq⟩ := hrel
            have HNP : Hid (∀ k : Int, 0 ≤ k → k < m → nameB op k ≠ hdB L) := hno
            have HQ6 : Hid (Nq w wr) := hq
            clear hno hq
            by_cases hm : m < 4
            · have hlt := name_lt o1 ho m0 (by omega)
              have HB : Hid (((bs (nameB op m)).toList == (bs (hdB L)).toList) = decide (nameB op m = hdB L)) := beq_bs hlt HHD.out
              have HN : Hid (∀ W : World, Calls Tryd.prog 47 #[.int .i64 op, .int .i32 m] W fun e w' => e = .returned (.string (bs (nameB op m))) ∧ Gr W w') := fun W => name_any o1 ho m W
              have HRR : Hid (∀ W : World, Calls Tryd.prog 53 #[.int .i64 op, .int .i32 m, .string (bs (rsB L))] W (RdF W op (rdB op m (rsB L)))) := HR.out op m o1 ho m0 (by omega)
              clear hlt
              by_cases he : nameB op m = hdB L
              · have hb := HB.out
                rw [decide_eq_true he] at hb
                have HF : Hid (findB (hdB L) = some (op, m)) := find_hit o1 ho m0 (by omega) (fun h => by
                  by_cases hz : m = 0
                  · exact hz
                  · exact absurd ((name_same h 0).symm.trans he) (HNP.out 0 (by omega) (by omega))) he
                clear he HB HNP HNO
                generalize nameB op m = N at *
                go_wp2_with fail
                go_region_with (go_at_call 47; refine (HN.out _).mono ?_; rintro e W1 ⟨rfl, G1⟩; have HQ7 : Hid (Nq w W1) := HQ6.out.of (Gr.trans (by repeat (first | exact Gr.refl wr | refine Gr.drewN ?_ _ | refine Gr.drew ?_)) G1); clear G1)
                all_goals
                  go_wp2_with fail
                  refine (HRR.out _).mono ?_
                  rintro e W2 ⟨g1, g2, g3, g4, g5, t, rfl, G2, hb5, ht1, ht0⟩
                  have HQ8 : Hid (Nq w W2) := HQ7.out.of (Gr.trans (by repeat (first | exact Gr.refl W1 | refine Gr.drewN ?_ _ | refine Gr.drew ?_)) G2)
                  have HQ9 : Hid (Nq w (W2.alloc (.cells #[.int .i64 g1, .int .i64 g2, .int .i64 g3, .int .i64 g4, .int .i32 g5] 23))) := HQ8.out.of ((Gr.refl _).alloc _)
                  have hlt2 : w.heap.size < W2.heap.size := (gs HQ8.out.b).1
                  clear G2 HQ7 HQ6 HN HRR
                  cases t with
                  | false =>
                    have HE4 : Hid (prV L = .tuple #[.agg #[.int .i64 0, .int .i64 0, .int .i64 0, .int .i64 0, .int .i32 0], .int .i64 2]) := pr_bad HF.out (fun f hf h => ht0 rfl f hf h.1)
                    clear ht0 ht1
                    have x0 := cr0 HQ9.out.b
                    have x1 := cr1 HQ9.out.b
                    have x2 := cr2 HQ9.out.b
                    have x3 := cr3 HQ9.out.b
                    have x4 := cr4 HQ9.out.b
                    have xf : ∀ j, (W2.alloc (.cells #[.int .i64 g1, .int .i64 g2, .int .i64 g3, .int .i64 g4, .int .i32 g5] 23)).frozen? ⟨w.heap.size, j, none⟩ = false := fun j => fzr HQ9.out.b
                    have y0 := cr0 HQ8.out.b
                    have y1 := cr1 HQ8.out.b
                    have y2 := cr2 HQ8.out.b
                    have y3 := cr3 HQ8.out.b
                    have y4 := cr4 HQ8.out.b
                    have yf : ∀ j, W2.frozen? ⟨w.heap.size, j, none⟩ = false := fun j => fzr HQ8.out.b
                    go_wp2_with fail
                    refine bodyPost_ret (v := .tuple #[.agg #[_, _, _, _, _], .int .i64 2]) (results_ct Tryd.results25 _ _ _ _ _ (0, 0) _ _ rfl rfl (upA ((Gr.refl _).alloc _) (five_set HQ8.out.b _ _ _ _ _)) Tryd.underlying23 rfl iIn) rfl ⟨by rw [HE4.out], ?_⟩
                    exact (((((HQ8.out.g.setCell (Nat.le_refl _) _).setCell (Nat.le_refl _) _).setCell (Nat.le_refl _) _).setCell (Nat.le_refl _) _).setCell (Nat.le_refl _) _).alloc _
                  | true =>
                    obtain ⟨f, hf, hfit, hg⟩ := ht1 rfl
                    have HI := Re.Is_any g1 g2 g3 g4 g5 (W2.alloc (.cells #[.int .i64 g1, .int .i64 g2, .int .i64 g3, .int .i64 g4, .int .i32 g5] 23)) hb5.1 hb5.2
                    have HFF : Hid (rdB op m (rsB L) = some f) := hf
                    have HFI : Hid (-2147483648 ≤ wn op f.2.2.2 ∧ wn op f.2.2.2 < 2147483648) := hfit
                    have HGG : Hid ((g1, g2, g3, g4, g5) = (op, f.1, f.2.1, f.2.2.1, wn op f.2.2.2)) := hg
                    clear ht0 ht1 hf hfit hg
                    go_wp2_with fail
                    refine HI.mono ?_
                    clear HI
                    rintro e W4 ⟨⟨b, rfl, hbi⟩, ⟨G4, -⟩⟩
                    have HQ4 : Hid (Nq w W4) := HQ9.out.of G4
                    have HBB : Hid (W4.heap[W2.heap.size]? = some (.cells #[.int .i64 g1, .int .i64 g2, .int .i64 g3, .int .i64 g4, .int .i32 g5] 23 (0, 0))) := upA G4 (heap_alloc_new W2 _)
                    have HBI : Hid (b = true ↔ Re.IsP g1 g2 g3 g4 g5) := hbi
                    have z0 := cr0 HBB.out
                    have z1 := cr1 HBB.out
                    have z2 := cr2 HBB.out
                    have z3 := cr3 HBB.out
                    have z4 := cr4 HBB.out
                    have x0 := cr0 HQ4.out.b
                    have x1 := cr1 HQ4.out.b
                    have x2 := cr2 HQ4.out.b
                    have x3 := cr3 HQ4.out.b
                    have x4 := cr4 HQ4.out.b
                    have xf : ∀ j, W4.frozen? ⟨w.heap.size, j, none⟩ = false := fun j => fzr HQ4.out.b
                    clear G4 hbi
                    cases b with
                    | false =>
                      have HE4 : Hid (prV L = .tuple #[.agg #[.int .i64 0, .int .i64 0, .int .i64 0, .int .i64 0, .int .i32 0], .int .i64 2]) := pr_bad HF.out (fun f' hf' h => by
                        have e := Option.some.inj (HFF.out.symm.trans hf')
                        subst e
                        have hg := HGG.out
                        simp only [Prod.mk.injEq] at hg
                        obtain ⟨rfl, rfl, rfl, rfl, rfl⟩ := hg
                        exact absurd (HBI.out.2 h.2) (by simp))
                      go_wp2_with fail
                      refine bodyPost_ret (v := .tuple #[.agg #[_, _, _, _, _], .int .i64 2]) (results_ct Tryd.results25 _ _ _ _ _ (0, 0) _ _ rfl rfl (five_set HQ4.out.b _ _ _ _ _) Tryd.underlying23 rfl iIn) rfl ⟨by rw [HE4.out], ?_⟩
                      exact ((((HQ4.out.g.setCell (Nat.le_refl _) _).setCell (Nat.le_refl _) _).setCell (Nat.le_refl _) _).setCell (Nat.le_refl _) _).setCell (Nat.le_refl _) _
                    | true =>
                      have HE4 : Hid (prV L = .tuple #[.agg #[.int .i64 g1, .int .i64 g2, .int .i64 g3, .int .i64 g4, .int .i32 g5], .int .i64 0]) := by
                        have hg := HGG.out
                        simp only [Prod.mk.injEq] at hg
                        obtain ⟨rfl, rfl, rfl, rfl, rfl⟩ := hg
                        exact pr_good HF.out HFF.out ⟨HFI.out, HBI.out.1 rfl⟩
                      go_wp2_with fail
                      refine bodyPost_ret (v := .tuple #[.agg #[_, _, _, _, _], .int .i64 0]) (results_ct Tryd.results25 _ _ _ _ _ (0, 0) _ _ rfl rfl (five_set HQ4.out.b _ _ _ _ _) Tryd.underlying23 rfl iIn) rfl ⟨by rw [HE4.out], ?_⟩
                      exact ((((HQ4.out.g.setCell (Nat.le_refl _) _).setCell (Nat.le_refl _) _).setCell (Nat.le_refl _) _).setCell (Nat.le_refl _) _).setCell (Nat.le_refl _) _
              · have hb := HB.out
                rw [decide_eq_false he] at hb
                have HE2 : Hid (nameB op m ≠ hdB L) := he
                clear he HB
                go_wp2_with fail
                go_region_with (go_at_call 47; refine (HN.out _).mono ?_; rintro e W1 ⟨rfl, G1⟩; have HQ7 : Hid (Nq w W1) := HQ6.out.of (Gr.trans (by repeat (first | exact Gr.refl wr | refine Gr.drewN ?_ _ | refine Gr.drew ?_)) G1); clear G1)
                all_goals
                  go_wp2_with fail
                  go_roundw
                  case rel => exact ⟨m + 1, by go_num, by omega, by omega, fun k k0 k1 => by
                    by_cases hk : k = m
                    · rw [hk]; exact HE2.out
                    · exact HNP.out k k0 (by omega), HQ7.out⟩
                  case measure => simp [Lib.intOf]; omega
            · have hm' : m = 4 := by omega
              go_wp2_with fail
              go_roundw
              case rel => exact ⟨op + 1, by go_num, by omega, by omega, fun o k h1 h2 k0 k3 => by
                by_cases ho' : o = op
                · rw [ho']; exact HNP.out k k0 (by omega)
                · exact HNO.out o k h1 (by omega) k0 k3, HQ6.out⟩
              case measure => simp [Lib.intOf]; omega
        · have HE3 : Hid (prV L = .tuple #[.agg #[.int .i64 0, .int .i64 0, .int .i64 0, .int .i64 0, .int .i32 0], .int .i64 2]) := pr_none (by unfold parseB; rw [find_miss fun o m h1 h2 m0 m1 => HNO.out o m h1 (by omega) m0 m1]; rfl)
          have x0 := cr0 HQ5.out.b
          have x1 := cr1 HQ5.out.b
          have x2 := cr2 HQ5.out.b
          have x3 := cr3 HQ5.out.b
          have x4 := cr4 HQ5.out.b
          have xf : ∀ j, wr.frozen? ⟨w.heap.size, j, none⟩ = false := fun j => fzr HQ5.out.b
          go_wp2_with fail
          refine bodyPost_ret (v := .tuple #[.agg #[_, _, _, _, _], .int .i64 2]) (results_ct Tryd.results25 _ _ _ _ _ (0, 0) _ _ rfl rfl (five_set HQ5.out.b _ _ _ _ _) Tryd.underlying23 rfl iIn) rfl ⟨by rw [HE3.out], ?_⟩
          exact ((((HQ5.out.g.setCell (Nat.le_refl _) _).setCell (Nat.le_refl _) _).setCell (Nat.le_refl _) _).setCell (Nat.le_refl _) _).setCell (Nat.le_refl _) _
end Go.Proofs.YtkdghgiajifbdaaDoor.As
