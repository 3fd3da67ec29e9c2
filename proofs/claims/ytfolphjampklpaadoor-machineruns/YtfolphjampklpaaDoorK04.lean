/-
  Ref5b, Mk, Ref5c, Ref5p: texts of ours that lie in one file.
-/
import Derived.Test.YtfolphjampklpaaDoorK03
import Derived.Test.YtfolphjampklpaaDoorRef3Walks
import Derived.Test.YtfolphjampklpaaDoorRef4g
import Derived.Maps.AppendAt
/-
  What ferrybridgeref5.Same answers, of two runs that are shown alike.
-/
namespace Go.Proofs.YtfolphjampklpaaDoor.Mc
open Go.ChangeShapes Go.WideShapes Go.ChangeAt Go.RowKit Mm Hh Hc
set_option linter.unusedVariables false
set_option linter.unusedSimpArgs false

theorem neq_hart {h : Hv} (o : h.Ok) (w : World) : (binOp .neq 34 (.agg (hA h)) (.agg (hA h))).run Tryd.prog w = .ok (.bool false) w := by
  have e := eql_hart o w
  have e1 : binOp .eql 34 (.agg (hA h)) (.agg (hA h)) = (do pure (.bool (← Op.equal 34 (.agg (hA h)) (.agg (hA h))))) := rfl
  have e2 : binOp .neq 34 (.agg (hA h)) (.agg (hA h)) = (do pure (.bool (!(← Op.equal 34 (.agg (hA h)) (.agg (hA h)))))) := rfl
  rw [e1, Sem.run_bind] at e
  rw [e2, Sem.run_bind]
  generalize (Op.equal 34 (.agg (hA h)) (.agg (hA h))).run Tryd.prog w = r at e ⊢
  cases r with
  | ok v w' =>
    simp only [Result.andThen_ok, Sem.run_pure, Result.ok.injEq, Value.bool.injEq] at e ⊢
    obtain ⟨rfl, rfl⟩ := e
    exact ⟨rfl, rfl⟩
  | _ => simp [Result.andThen] at e
theorem yieldsIf_neq {P : Program} {ops : Array Oper} {S : World → Prop} {o : Oper} {a : Act} (hw : Region.wanted o (yielded ops a.tmps) = true) (t t' : TypeId) (x y : Operand) (ho : o.op = .binOp .neq t x y t') (A B : Array Value) (hx : a.eval x = .agg A) (hy : a.eval y = .agg B) (hg : P.eqGuardType P.depth t = false)
    {v : Value} (h : ∀ w, (binOp .neq t (.agg A) (.agg B)).run P w = .ok v w) : YieldsIf P ops S o v a :=
  .inl ⟨hw, fun w _ => by
    unfold execOp
    simp only [ho, hx, hy, Sem.run_bind, run_eqGuard_agg w _ _ _ _ _ _ hg, h, Result.andThen_ok]
    rfl⟩
/-- .. of a slice that is nil no more is asked than that it reads as nothing. -/
def Shw (w : World) (v : Value) (c mn : Nat) (S : Sh) : Prop := ∃ ma mc ha hc oa oc, v = .agg #[.slice ma mn mc, .slice ha c hc, .slice oa S.out.length oc, .int .i64 S.steps] ∧ Mem w ma mn S.m ∧ Hs w ha c S.hs ∧ Wm w oa S.out.length S.out
theorem Shn.w {w : World} {v : Value} {c mn : Nat} {S : Sh} (h : Shn w v c mn S) : Shw w v c mn S := by
  obtain ⟨ma, mc, ha, hc, oa, oc, e, h1, _, h3, h4, _⟩ := h
  exact ⟨ma, mc, ha, hc, oa, oc, e, h1, h3, h4⟩
theorem Shw.of {w w' : World} {v : Value} {c mn : Nat} {S : Sh} (h : Shw w v c mn S) (G : Gr w w') : Shw w' v c mn S := by
  obtain ⟨ma, mc, ha, hc, oa, oc, e, h1, h3, h4⟩ := h
  exact ⟨ma, mc, ha, hc, oa, oc, e, h1.of G, h3.of G, h4.of G⟩
set_option maxHeartbeats 2000000 in
set_option maxRecDepth 100000 in
theorem Same_w {w : World} {a b : Value} {c mn : Nat} {S : Sh} (A : Shw w a c mn S) (B : Shw w b c mn S) (ho : S.out.length ≤ 1000000) (hc4 : c ≤ 4) :
    Calls Tryd.prog 23 #[a, b] w fun e w' => e = .returned (.bool true) ∧ Gr w w' := by
  obtain ⟨a1, c1, a2, c2, a3, c3, rfl, A1, A2, A3⟩ := A
  obtain ⟨b1, d1, b2, d2, b3, d3, rfl, B1, B2, B3⟩ := B
  have HBy : Hid (∀ W : World, Gr w W → Calls Tryd.prog 18 #[.slice a1 mn c1, .slice b1 mn d1] W fun e w' => e = .returned (.bool true) ∧ Gr W w') := fun W G =>
    (Mr.Bytes_any c1 d1 (A1.of G) (B1.of G)).mono fun e w' ⟨h1, h2⟩ => ⟨by rw [h1]; simp, by rw [h2]; exact Gr.refl _⟩
  have HWo : Hid (∀ W : World, Gr w W → Calls Tryd.prog 19 #[.slice a3 S.out.length c3, .slice b3 S.out.length d3] W fun e w' => e = .returned (.bool true) ∧ Gr W w') := fun W G => Words_same c3 d3 ho (A3.of G) (B3.of G)
  have HA2 : Hid (Hs w a2 c S.hs) := A2
  have HB2 : Hid (Hs w b2 c S.hs) := B2
  have HL : Hid (S.hs.length = c) := A2.len
  clear A1 A2 A3 B1 B2 B3
  generalize S.out.length = on at *
  generalize S.steps = st at *
  generalize S.hs = hs at *
  have en : ((st : Int) != (st : Int)) = false := by simp
  have en2 : ((c : Int) != (c : Int)) = false := by simp
  go_enter Tryd.func23, Tryd.ntmps23
  go_wp2_with fail
  refine (HBy.out _ (((Gr.refl _).alloc _).alloc _)).mono ?_
  rintro e w1 ⟨rfl, G1⟩
  obtain ⟨hb0, hb1⟩ := two_of G1
  have HX0 : Hid (w1.heap[w.heap.size]? = some (.cells #[.slice a1 mn c1, .slice a2 c c2, .slice a3 on c3, .int .i64 st] 53 (0, 0))) := hb0
  have HX1 : Hid (w1.heap[w.heap.size + 1]? = some (.cells #[.slice b1 mn d1, .slice b2 c d2, .slice b3 on d3, .int .i64 st] 53 (0, 0))) := hb1
  have HG1 : Hid (Gr w w1) := (((Gr.refl _).alloc _).alloc _).trans G1
  have x1 : w1.cell? ⟨w.heap.size, 1, none⟩ = some (.slice a2 c c2) := cell_of_row _ _ _ _ _ _ hb0
  have x2 : w1.cell? ⟨w.heap.size, 2, none⟩ = some (.slice a3 on c3) := cell_of_row _ _ _ _ _ _ hb0
  have x4 : w1.cell? ⟨w.heap.size + 1, 1, none⟩ = some (.slice b2 c d2) := cell_of_row _ _ _ _ _ _ hb1
  have x5 : w1.cell? ⟨w.heap.size + 1, 2, none⟩ = some (.slice b3 on d3) := cell_of_row _ _ _ _ _ _ hb1
  clear G1 hb0 hb1 HBy
  go_wp2_with fail
  refine (HWo.out _ HG1.out).mono ?_
  rintro e w2 ⟨rfl, G2⟩
  have HG2 : Hid (Gr w w2) := HG1.out.trans G2
  have HY0 : Hid (w2.heap[w.heap.size]? = some (.cells #[.slice a1 mn c1, .slice a2 c c2, .slice a3 on c3, .int .i64 st] 53 (0, 0))) := Hr.heap_of_gr G2 HX0.out
  have HY1 : Hid (w2.heap[w.heap.size + 1]? = some (.cells #[.slice b1 mn d1, .slice b2 c d2, .slice b3 on d3, .int .i64 st] 53 (0, 0))) := Hr.heap_of_gr G2 HX1.out
  have y3 : w2.cell? ⟨w.heap.size, 3, none⟩ = some (.int .i64 st) := cell_of_row _ _ _ _ _ _ HY0.out
  have y7 : w2.cell? ⟨w.heap.size + 1, 3, none⟩ = some (.int .i64 st) := cell_of_row _ _ _ _ _ _ HY1.out
  clear G2 x1 x2 x4 x5 HX0 HX1 HWo HG1
  go_wp2_with fail
  go_loopw [5] (fun i wr => ∃ k : Nat, k ≤ c ∧ i = .int .i64 k ∧ Gr w2 wr) (fun i _ => c - (intOf i).toNat)
  case atStart => exact ⟨0, Nat.zero_le _, rfl, Gr.refl _⟩
  case round =>
    obtain ⟨k, hk, rfl, G⟩ := hrel
    have HG : Hid (Gr w2 wr) := G
    have z1 : wr.cell? ⟨w.heap.size, 1, none⟩ = some (.slice a2 c c2) := cell_of_row _ _ _ _ _ _ (Hr.heap_of_gr G HY0.out)
    have z4 : wr.cell? ⟨w.heap.size + 1, 1, none⟩ = some (.slice b2 c d2) := cell_of_row _ _ _ _ _ _ (Hr.heap_of_gr G HY1.out)
    clear G y3 y7
    by_cases hlt : k < c
    · obtain ⟨h, hh⟩ : ∃ h, hs[k]? = some h := ⟨_, List.getElem?_eq_getElem (by rw [HL.out]; exact hlt)⟩
      have okh := HA2.out.ok h (List.mem_of_getElem? hh)
      obtain ⟨p1, o1, rfl, hp1, r1⟩ := HA2.out.spot (by omega)
      obtain ⟨p2, o2, rfl, hp2, r2⟩ := HB2.out.spot (by omega)
      have R1 : Hid (wr.rangeAt p1 (o1 + k * 37) (hL h)) := fun j v hv => ((HG2.out.trans HG.out).cell _ (by exact hp1)).trans (r1 k h hh j v hv)
      have R2 : Hid (wr.rangeAt p2 (o2 + k * 37) (hL h)) := fun j v hv => ((HG2.out.trans HG.out).cell _ (by exact hp2)).trans (r2 k h hh j v hv)
      have HLL : Hid ((hL h).length = 37) := hL_len okh
      have HNQ : Hid (∀ W : World, (binOp .neq 34 (.agg (hL h).toArray) (.agg (hL h).toArray)).run Tryd.prog W = .ok (.bool false) W) := fun W => neq_hart okh W
      clear hh okh r1 r2 en en2
      go_wp2_with fail
      refine wp_region_held_drew (S := fun W => W.cell? ⟨w.heap.size, 1, none⟩ = some (.slice (some ⟨p1, o1, none⟩) c c2) ∧ W.cell? ⟨w.heap.size + 1, 1, none⟩ = some (.slice (some ⟨p2, o2, none⟩) c d2) ∧ W.rangeAt p1 (o1 + k * 37) (hL h) ∧ W.rangeAt p2 (o2 + k * 37) (hL h)) (by kernel_rfl) ?_ (fun hHeld => ?_)
      · exact ⟨z1, z4, R1.out, R2.out⟩
      have HS0 : Hid _ := hHeld
      clear hHeld
      refine wpAnyH_take (i := 0) (v := .pointer (some ⟨w.heap.size, 0, none⟩)) rfl (by kernel_rfl) (by kernel_rfl) (by kernel_rfl) (fun _ _ _ h => h) (Or.inl ⟨by rfl, fun W hW => by obtain ⟨y0, y1, y2, y3⟩ := hW; go_simp⟩) HS0.out ?_
      simp only [List.getElem_toArray, List.getElem_cons_succ, List.getElem_cons_zero, Act.put, List.setIfInBounds_toArray, List.set_cons_zero, List.set_cons_succ]
      refine wpAnyH_take (i := 1) (v := .pointer (some ⟨w.heap.size, 1, none⟩)) rfl (by kernel_rfl) (by kernel_rfl) (by kernel_rfl) (fun _ _ _ h => h) (Or.inl ⟨by rfl, fun W hW => by obtain ⟨y0, y1, y2, y3⟩ := hW; go_simp⟩) HS0.out ?_
      simp only [List.getElem_toArray, List.getElem_cons_succ, List.getElem_cons_zero, Act.put, List.setIfInBounds_toArray, List.set_cons_zero, List.set_cons_succ]
      refine wpAnyH_take (i := 2) (v := .slice (some ⟨p1, o1, none⟩) c c2) rfl (by kernel_rfl) (by kernel_rfl) (by kernel_rfl) (fun _ _ _ h => h) (Or.inl ⟨by rfl, fun W hW => by obtain ⟨y0, y1, y2, y3⟩ := hW; go_simp⟩) HS0.out ?_
      simp only [List.getElem_toArray, List.getElem_cons_succ, List.getElem_cons_zero, Act.put, List.setIfInBounds_toArray, List.set_cons_zero, List.set_cons_succ]
      refine wpAnyH_take (i := 3) (v := .int .i64 k) rfl (by kernel_rfl) (by kernel_rfl) (by kernel_rfl) (fun _ _ _ h => h) (Or.inl ⟨by rfl, fun W hW => by obtain ⟨y0, y1, y2, y3⟩ := hW; go_simp⟩) HS0.out ?_
      simp only [List.getElem_toArray, List.getElem_cons_succ, List.getElem_cons_zero, Act.put, List.setIfInBounds_toArray, List.set_cons_zero, List.set_cons_succ]
      refine wpAnyH_take (i := 4) (v := .pointer (some ⟨p1, o1 + k * 37, none⟩)) rfl (by kernel_rfl) (by kernel_rfl) (by kernel_rfl) (fun _ _ _ h => h) (Or.inl ⟨by rfl, fun W hW => by obtain ⟨y0, y1, y2, y3⟩ := hW; go_simp⟩) HS0.out ?_
      simp only [List.getElem_toArray, List.getElem_cons_succ, List.getElem_cons_zero, Act.put, List.setIfInBounds_toArray, List.set_cons_zero, List.set_cons_succ]
      refine wpAnyH_take (i := 5) (v := .agg (hL h).toArray) rfl (by kernel_rfl) (by kernel_rfl) (by kernel_rfl) (fun _ _ _ h => h) ?hy5 HS0.out ?_
      case hy5 => exact yieldsIf_load_mid (by rfl) 34 (.tmp 52) rfl p1 (o1 + k * 37) (by simp [Act.eval]) (hL h) _ (fun W hW => hW.2.2.1) Tryd.underlying34 rfl (by rw [HLL.out]; exact iH)
      simp only [List.getElem_toArray, List.getElem_cons_succ, List.getElem_cons_zero, Act.put, List.setIfInBounds_toArray, List.set_cons_zero, List.set_cons_succ]
      refine wpAnyH_take (i := 6) (v := .pointer (some ⟨w.heap.size + 1, 0, none⟩)) rfl (by kernel_rfl) (by kernel_rfl) (by kernel_rfl) (fun _ _ _ h => h) (Or.inl ⟨by rfl, fun W hW => by obtain ⟨y0, y1, y2, y3⟩ := hW; go_simp⟩) HS0.out ?_
      simp only [List.getElem_toArray, List.getElem_cons_succ, List.getElem_cons_zero, Act.put, List.setIfInBounds_toArray, List.set_cons_zero, List.set_cons_succ]
      refine wpAnyH_take (i := 7) (v := .pointer (some ⟨w.heap.size + 1, 1, none⟩)) rfl (by kernel_rfl) (by kernel_rfl) (by kernel_rfl) (fun _ _ _ h => h) (Or.inl ⟨by rfl, fun W hW => by obtain ⟨y0, y1, y2, y3⟩ := hW; go_simp⟩) HS0.out ?_
      simp only [List.getElem_toArray, List.getElem_cons_succ, List.getElem_cons_zero, Act.put, List.setIfInBounds_toArray, List.set_cons_zero, List.set_cons_succ]
      refine wpAnyH_take (i := 8) (v := .slice (some ⟨p2, o2, none⟩) c d2) rfl (by kernel_rfl) (by kernel_rfl) (by kernel_rfl) (fun _ _ _ h => h) (Or.inl ⟨by rfl, fun W hW => by obtain ⟨y0, y1, y2, y3⟩ := hW; go_simp⟩) HS0.out ?_
      simp only [List.getElem_toArray, List.getElem_cons_succ, List.getElem_cons_zero, Act.put, List.setIfInBounds_toArray, List.set_cons_zero, List.set_cons_succ]
      refine wpAnyH_take (i := 9) (v := .int .i64 k) rfl (by kernel_rfl) (by kernel_rfl) (by kernel_rfl) (fun _ _ _ h => h) (Or.inl ⟨by rfl, fun W hW => by obtain ⟨y0, y1, y2, y3⟩ := hW; go_simp⟩) HS0.out ?_
      simp only [List.getElem_toArray, List.getElem_cons_succ, List.getElem_cons_zero, Act.put, List.setIfInBounds_toArray, List.set_cons_zero, List.set_cons_succ]
      refine wpAnyH_take (i := 10) (v := .pointer (some ⟨p2, o2 + k * 37, none⟩)) rfl (by kernel_rfl) (by kernel_rfl) (by kernel_rfl) (fun _ _ _ h => h) (Or.inl ⟨by rfl, fun W hW => by obtain ⟨y0, y1, y2, y3⟩ := hW; go_simp⟩) HS0.out ?_
      simp only [List.getElem_toArray, List.getElem_cons_succ, List.getElem_cons_zero, Act.put, List.setIfInBounds_toArray, List.set_cons_zero, List.set_cons_succ]
      refine wpAnyH_take (i := 11) (v := .agg (hL h).toArray) rfl (by kernel_rfl) (by kernel_rfl) (by kernel_rfl) (fun _ _ _ h => h) ?hy11 HS0.out ?_
      case hy11 => exact yieldsIf_load_mid (by rfl) 34 (.tmp 58) rfl p2 (o2 + k * 37) (by simp [Act.eval]) (hL h) _ (fun W hW => hW.2.2.2) Tryd.underlying34 rfl (by rw [HLL.out]; exact iH)
      simp only [List.getElem_toArray, List.getElem_cons_succ, List.getElem_cons_zero, Act.put, List.setIfInBounds_toArray, List.set_cons_zero, List.set_cons_succ]
      refine wpAnyH_take (i := 12) (v := .bool false) rfl (by kernel_rfl) (by kernel_rfl) (by kernel_rfl) (fun _ _ _ h => h) ?hneq HS0.out ?_
      case hneq => exact yieldsIf_neq (by rfl) 34 34 (.tmp 53) (.tmp 59) rfl (hL h).toArray (hL h).toArray (by simp [Act.eval]) (by simp [Act.eval]) (by kernel_rfl) HNQ.out
      simp only [List.getElem_toArray, List.getElem_cons_succ, List.getElem_cons_zero, Act.put, List.setIfInBounds_toArray, List.set_cons_zero, List.set_cons_succ]
      refine wpAnyH_done (by kernel_rfl) ?_ _
      clear HS0 HNQ R1 R2 z1 z4
      go_wp2_with fail
      go_roundw
      case rel => exact ⟨k + 1, by omega, by go_num, Gr.drew HG.out⟩
      case measure => simp [intOf]; omega
    · go_wp2_with fail
      go_ret
      exact ⟨rfl, HG2.out.trans HG.out⟩
theorem Same_any {w : World} {a b : Value} {c mn : Nat} {S : Sh} (A : Shn w a c mn S) (B : Shn w b c mn S) (ho : S.out.length ≤ 1000000) (hc4 : c ≤ 4) :
    Calls Tryd.prog 23 #[a, b] w fun e w' => e = .returned (.bool true) ∧ Gr w w' := Same_w A.w B.w ho hc4
end Go.Proofs.YtfolphjampklpaaDoor.Mc
/-
  Picks in rows; scripts cut in two, and one behind the other, as plain data.
-/
namespace Go.Proofs.YtfolphjampklpaaDoor.Mc
open Go.ChangeShapes Go.WideShapes Go.ChangeAt Go.RowKit Mm Hh Hc
set_option linter.unusedVariables false
set_option linter.unusedSimpArgs false

def pC (ps : List (Int × Int)) : List Value := ps.flatMap fun p => [.int .i64 p.1, .int .i64 p.2]
theorem pC_app (a b : List (Int × Int)) : pC (a ++ b) = pC a ++ pC b := by simp [pC]
theorem pC_len (ps : List (Int × Int)) : (pC ps).length = ps.length * 2 := by
  induction ps with
  | nil => rfl
  | cons p r ih => simp only [pC, List.flatMap_cons, List.length_append, List.length_cons, List.length_nil] at ih ⊢; omega
theorem pC_one (ps : List (Int × Int)) : ∀ u ∈ pC ps, u.oneCell' = true := by
  intro u hu
  obtain ⟨p, _, hm⟩ := List.mem_flatMap.1 hu
  simp only [List.mem_cons, List.not_mem_nil, or_false] at hm
  rcases hm with rfl | rfl <;> rfl
theorem pC_get : ∀ (ps : List (Int × Int)) (i : Nat) (q : Int × Int), ps[i]? = some q → (pC ps)[i * 2]? = some (.int .i64 q.1) ∧ (pC ps)[i * 2 + 1]? = some (.int .i64 q.2)
  | [], i, q, h => by simp at h
  | p :: r, 0, q, h => by simp at h; subst h; exact ⟨rfl, rfl⟩
  | p :: r, i + 1, q, h => by
    have ih := pC_get r i q (by simpa using h)
    have e : pC (p :: r) = [.int .i64 p.1, .int .i64 p.2] ++ pC r := rfl
    rw [e, List.getElem?_append_right (by simp; omega), List.getElem?_append_right (by simp; omega)]
    simp only [List.length_cons, List.length_nil]
    rw [show (i + 1) * 2 - (0 + 1 + 1) = i * 2 by omega, show (i + 1) * 2 + 1 - (0 + 1 + 1) = i * 2 + 1 by omega]
    exact ih
/-- Picks that the program itself laid. -/
theorem Ps.own {w : World} {base n : Nat} {v : Value} {ps : List (Int × Int)} (h : w.ownsRow base 97 2 v n (pC ps)) (hl : ps.length = n) : ∃ ao cap, v = .slice ao n cap ∧ Ps w ao n ps := by
  rcases h.2 with ⟨rfl, rfl⟩ | ⟨g, cap, cur, rfl, hb, hg, _⟩
  · exact ⟨none, 0, rfl, hl, fun h => absurd h (by omega)⟩
  · refine ⟨_, cap, rfl, hl, fun _ => ⟨g, 0, rfl, (Array.getElem?_eq_some_iff.1 hg).1, fun i p hp => ?_⟩⟩
    have hi : i < n := by rw [← hl]; exact (List.getElem?_eq_some_iff.1 hp).1
    have c := pC_get ps i p hp
    rw [Nat.zero_add]
    exact ⟨(h.cellAt _ (by omega)).trans c.1, (h.cellAt _ (by omega)).trans c.2⟩
/-- Some of a script's picks, from one on. -/
theorem Ps.src {w : World} {b o n : Nat} {ps : List (Int × Int)} (h : Ps w (some ⟨b, o, none⟩) n ps) (i m c : Nat) (hi : i + m ≤ n) : Src w (.slice (some ⟨b, o + i * 2, none⟩) m c) m 2 (pC ((ps.drop i).take m)) := by
  have hl := h.len
  refine .inr ⟨_, c, rfl, by rw [pC_len, List.length_take, List.length_drop]; congr 1; omega, fun j u hj => ?_⟩
  have hjl : j < m * 2 := by have := (List.getElem?_eq_some_iff.1 hj).1; rw [pC_len, List.length_take, List.length_drop] at this; omega
  obtain ⟨b', o', e, _, hc⟩ := h.spot (by omega)
  obtain ⟨rfl, rfl⟩ : b = b' ∧ o = o' := by injection e with e; injection e with e1 e2; exact ⟨e1, e2⟩
  have hg : ((ps.drop i).take m)[j / 2]? = some (ps[i + j / 2]'(by omega)) := by
    rw [List.getElem?_take_of_lt (by omega), List.getElem?_drop, List.getElem?_eq_getElem]
  have c := pC_get _ _ _ hg
  have d := hc (i + j / 2) _ (List.getElem?_eq_getElem (by omega))
  rw [add_at]
  have h2 : j % 2 = 0 ∨ j % 2 = 1 := by omega
  rcases h2 with h2 | h2
  · rw [show j / 2 * 2 = j by omega] at c
    rw [c.1] at hj
    obtain rfl := Option.some.inj hj
    rw [show o + i * 2 + j = o + (i + j / 2) * 2 by omega]
    exact d.1
  · rw [show j / 2 * 2 + 1 = j by omega] at c
    rw [c.2] at hj
    obtain rfl := Option.some.inj hj
    rw [show o + i * 2 + j = o + (i + j / 2) * 2 + 1 by omega]
    exact d.2
theorem src_lit (w : World) (xs : List Value) (t m sz c : Nat) (h : xs.length = m * sz) : Src (w.alloc (.cells xs.toArray t)) (.slice (some ⟨w.heap.size, 0, none⟩) m c) m sz xs := by
  refine .inr ⟨_, c, rfl, h, fun j u hj => ?_⟩
  rw [add_at, Nat.zero_add, cell_of_row _ _ _ _ _ (0, 0) (heap_alloc_new w _)]
  simpa using hj
theorem infoP : (Tryd.prog.info? 97).map (fun i => (i.zero, i.size, i.bytes)) = some (some (.agg #[.int .i64 0, .int .i64 0]), 2, 16) := by kernel_rfl

/-- A pick cut in two. -/
def cut2 (ps : List (Int × Int)) (k : Nat) (h n r : Int) : List (Int × Int) := ps.take k ++ [(h, n), (h, r)] ++ ps.drop (k + 1)
theorem split_at {ps : List (Int × Int)} {k : Nat} {p : Int × Int} (h : ps[k]? = some p) : ps = ps.take k ++ [p] ++ ps.drop (k + 1) := by
  rw [← take_snoc h, List.take_append_drop]
theorem cut2_play {ps : List (Int × Int)} {k n r : Nat} {p : Int × Int} (h : ps[k]? = some p) (hs : p.2 = (n + r : Nat)) (s : Sh) : play s (nums (cut2 ps k p.1 n r)) = play s (nums ps) := by
  have e := congrArg nums (split_at h)
  rw [e]
  unfold cut2 nums
  simp only [List.map_append, List.map_cons, List.map_nil, play_app, play_cons]
  congr 1
  show runs (runs _ _ (Int.toNat n)) _ (Int.toNat r) = runs _ _ _
  rw [hs, Int.toNat_natCast, Int.toNat_natCast, Int.toNat_natCast, ← runs_add]
theorem cut2_len {ps : List (Int × Int)} {k : Nat} (hk : k < ps.length) (h n r : Int) : (cut2 ps k h n r).length = ps.length + 1 := by
  unfold cut2
  simp
  omega
theorem wrong_zero {m : List UInt8} {hs : List Hv} {ps qs : List (Int × Int)} (h : wrong m hs ps = 0) (hl : qs.length ≤ 300) (hq : ∀ p ∈ qs, 0 ≤ p.1 ∧ p.1 < hs.length ∧ 0 ≤ p.2 ∧ p.2 ≤ 400) : wrong m hs qs = 0 := by
  obtain ⟨h1, h2, h3, h4, h5, h6⟩ := wrong_ok h
  unfold wrong
  rw [if_neg (by omega), if_neg (by simpa using h4), if_neg (by omega), if_neg]
  simpa [pickOk] using hq
theorem cut2_wrong {m : List UInt8} {hs : List Hv} {ps : List (Int × Int)} (hw : wrong m hs ps = 0) (hl : ps.length < 300) {k n r : Nat} {p : Int × Int} (h : ps[k]? = some p) (hs2 : p.2 = (n + r : Nat)) : wrong m hs (cut2 ps k p.1 n r) = 0 := by
  obtain ⟨_, _, _, _, _, h6⟩ := wrong_ok hw
  have hp := h6 p (List.mem_of_getElem? h)
  have hk := (List.getElem?_eq_some_iff.1 h).1
  refine wrong_zero hw (by rw [cut2_len hk]; omega) fun q hq => ?_
  unfold cut2 at hq
  rcases List.mem_append.1 hq with h1 | h1
  · rcases List.mem_append.1 h1 with h2 | h2
    · exact h6 q (List.mem_of_mem_take h2)
    · simp only [List.mem_cons, List.not_mem_nil, or_false] at h2
      rcases h2 with rfl | rfl
      · exact ⟨hp.1, hp.2.1, by show (0 : Int) ≤ n; omega, by show (n : Int) ≤ 400; omega⟩
      · exact ⟨hp.1, hp.2.1, by show (0 : Int) ≤ r; omega, by show (r : Int) ≤ 400; omega⟩
  · exact h6 q (List.mem_of_mem_drop h1)
/-- Of what may be, no more came out than this. -/
theorem few_play : ∀ (sc : List (Nat × Nat)) {s : Sh} {c n t : Nat}, Fit s c n → Few s t → (∀ p ∈ sc, p.1 < c ∧ p.2 ≤ 400) → Few (play s sc) (t + 400 * sc.length)
  | [], s, c, n, t, f, w, _ => w
  | p :: r, s, c, n, t, f, w, h => by
    have hp := h p (by simp)
    have hk : p.1 < s.hs.length := by rw [f.len]; exact hp.1
    rw [play_cons]
    have e := runs_wk hk p.2
    have o := wk_ok p.2 (w0_ok f hp.1)
    have z : (w0 s p.1).n = 0 := rfl
    have w2 : Few (runs s p.1 p.2) (t + 400) := by rw [e]; exact tk_few w o.1 (by omega)
    have := few_play r (runs_fit hp.1 p.2 f) w2 (fun q hq => h q (by simp [hq]))
    rw [List.length_cons, show t + 400 * (r.length + 1) = t + 400 + 400 * r.length by omega]
    exact this
theorem few_nums {m : List UInt8} {hs : List Hv} {ps : List (Int × Int)} (hw : wrong m hs ps = 0) (ok : ∀ h ∈ hs, h.Ok) : Few (play ⟨hs, m, [], 0⟩ (nums ps)) 120000 ∧ Fit (play ⟨hs, m, [], 0⟩ (nums ps)) hs.length m.length := by
  obtain ⟨_, _, _, h4, h5, h6⟩ := wrong_ok hw
  have f : Fit ⟨hs, m, [], 0⟩ hs.length m.length := ⟨rfl, rfl, fun h hm => ⟨ok h hm, h4 h hm⟩⟩
  have hq : ∀ p ∈ nums ps, p.1 < hs.length ∧ p.2 ≤ 400 := fun p hp => by
    obtain ⟨r, hr, rfl⟩ := List.mem_map.1 hp
    have := h6 r hr
    show r.1.toNat < _ ∧ r.2.toNat ≤ _
    omega
  have := few_play (nums ps) (t := 0) f ⟨Nat.le_refl _, Nat.le_refl _⟩ hq
  have hl : (nums ps).length ≤ 300 := by unfold nums; rw [List.length_map]; exact h5
  exact ⟨⟨this.1, by have := this.2; omega⟩, play_fit _ (fun p hp => (hq p hp).1) f⟩
end Go.Proofs.YtfolphjampklpaaDoor.Mc
/-
  What ferrybridgeref5.near and ferrybridgelaw.work answer.
-/
namespace Go.Proofs.YtfolphjampklpaaDoor.Mc
open Go.ChangeShapes Go.WideShapes Go.ChangeAt Go.RowKit Mm Hh Hc
set_option linter.unusedVariables false
set_option linter.unusedSimpArgs false

set_option maxHeartbeats 1000000 in
set_option maxRecDepth 100000 in
theorem rnear_any {x f : Int} {m : Nat} (x0 : 0 ≤ x) (x1 : x < 4294967296) (f0 : 0 ≤ f) (f1 : f < 4294967296) (hm : m ≤ 4096) (w : World) :
    Calls Tryd.prog 50 #[.int .u32 x, .int .u32 f, .int .i64 m] w fun e w' => e = .returned (.bool (near x f m)) ∧ w' = w := by
  go_enter Tryd.func50, Tryd.ntmps50
  go_wp2
  go_loop [7] (fun i => ∃ k : Nat, k ≤ m ∧ i = .int .i64 k ∧ ∀ j : Nat, j < k → ¬ (0 ≤ f + j - x ∧ f + j - x < 4)) (fun i => m - (intOf i).toNat)
  case atStart => exact ⟨0, Nat.zero_le _, rfl, fun j hj => absurd hj (by omega)⟩
  case round =>
    obtain ⟨k, hk, rfl, hno⟩ := hrel
    have HN : Hid (∀ j : Nat, j < k → ¬ (0 ≤ f + j - x ∧ f + j - x < 4)) := hno
    clear hno
    by_cases hlt : k < m
    · have hc : f + (k : Int) - x < 0 ∨ (¬ f + (k : Int) - x < 0 ∧ 4 ≤ f + (k : Int) - x) ∨ (¬ f + (k : Int) - x < 0 ∧ ¬ 4 ≤ f + (k : Int) - x) := by omega
      rcases hc with h1 | ⟨h1, h2⟩ | ⟨h1, h2⟩
      · go_wp2
        go_round
        case rel => exact ⟨k + 1, by omega, by go_num, fun j hj => by
          by_cases e : j = k
          · subst e; omega
          · exact HN.out j (by omega)⟩
        case measure => simp [intOf]; omega
      · go_wp2
        go_round
        case rel => exact ⟨k + 1, by omega, by go_num, fun j hj => by
          by_cases e : j = k
          · subst e; omega
          · exact HN.out j (by omega)⟩
        case measure => simp [intOf]; omega
      · go_wp2
        go_ret
        exact ⟨Mc.ret_bool (by unfold near; rw [eq_comm, decide_eq_true_eq]; omega), rfl⟩
    · have HE : Hid (near x f m = false) := by
        unfold Hid near
        rw [decide_eq_false_iff_not]
        intro h
        by_cases hxf : f ≤ x
        · have := HN.out (x - f).toNat (by omega)
          omega
        · have := HN.out 0 (by omega)
          omega
      go_wp2
      go_ret
      exact ⟨Mc.ret_bool HE.out.symm, rfl⟩

set_option maxHeartbeats 1000000 in
set_option maxRecDepth 100000 in
theorem work_any {pa : Option Addr} {pn : Nat} (pc : Nat) {ps : List (Int × Int)} {w : World} (P : Ps w pa pn ps) (hp : pn ≤ 300) (hq : ∀ p ∈ ps, 0 ≤ p.2 ∧ p.2 ≤ 400) :
    Calls Tryd.prog 21 #[.slice pa pn pc] w fun e w' => ∃ z, e = .returned (.int .i64 z) ∧ Gr w w' := by
  by_cases p0 : pn = 0
  · subst p0
    clear P
    go_enter Tryd.func21, Tryd.ntmps21
    go_wp2
    go_loopw [3, 4] (fun n i wr => n = .int .i64 0 ∧ i = .int .i64 0 ∧ wr = w) (fun _ _ _ => 0)
    case atStart => exact ⟨rfl, rfl, rfl⟩
    case round =>
      obtain ⟨rfl, rfl, rfl⟩ := hrel
      go_wp2
      go_ret
      exact ⟨_, rfl, Gr.refl _⟩
  · obtain ⟨b, o, rfl, hb, hc⟩ := P.spot (by omega)
    have HC : Hid (∀ i p, ps[i]? = some p → w.cell? ⟨b, o + i * 2, none⟩ = some (.int .i64 p.1) ∧ w.cell? ⟨b, o + i * 2 + 1, none⟩ = some (.int .i64 p.2)) := hc
    have HQ : Hid (∀ p ∈ ps, 0 ≤ p.2 ∧ p.2 ≤ 400) := hq
    have HL : Hid (ps.length = pn) := P.len
    clear hc hq P
    go_enter Tryd.func21, Tryd.ntmps21
    go_wp2
    go_loopw [3, 4] (fun n i wr => ∃ (k : Nat) (z : Int), k ≤ pn ∧ i = .int .i64 k ∧ n = .int .i64 z ∧ 0 ≤ z ∧ z ≤ 3400 ∧ Gr w wr) (fun _ i _ => pn - (intOf i).toNat)
    case atStart => exact ⟨0, 0, Nat.zero_le _, rfl, rfl, by omega, by omega, Gr.refl _⟩
    case round =>
      obtain ⟨k, z, hk, rfl, rfl, z0, z1, G⟩ := hrel
      have HG : Hid (Gr w wr) := G
      clear G
      by_cases hlt : k < pn
      · obtain ⟨p, hp2⟩ : ∃ p, ps[k]? = some p := ⟨_, List.getElem?_eq_getElem (by rw [HL.out]; exact hlt)⟩
        obtain ⟨q1, q2⟩ := HQ.out p (List.mem_of_getElem? hp2)
        have c1 : wr.cell? ⟨b, o + k * 2 + 1, none⟩ = some (.int .i64 p.2) := (HG.out.cell _ (by exact hb)).trans (HC.out k p hp2).2
        clear hp2
        obtain ⟨p1, y⟩ := p
        simp only at *
        by_cases hz : z ≤ 3000
        · by_cases hy : 0 < y
          · have hm : y ≤ 3001 := by omega
            go_wp2
            all_goals
              go_roundw
              case rel => exact ⟨k + 1, _, by omega, by go_num, rfl, by omega, by omega, HG.out⟩
              case measure => simp [intOf]; omega
          · go_wp2
            go_roundw
            case rel => exact ⟨k + 1, _, by omega, by go_num, rfl, by omega, by omega, HG.out⟩
            case measure => simp [intOf]; omega
        · go_wp2
          go_ret
          first | exact ⟨_, rfl, HG.out⟩ | exact ⟨⟨_, rfl⟩, HG.out⟩ | exact HG.out
      · go_wp2
        go_ret
        first | exact ⟨_, rfl, HG.out⟩ | exact ⟨⟨_, rfl⟩, HG.out⟩ | exact HG.out
end Go.Proofs.YtfolphjampklpaaDoor.Mc
/-
  A run of the document's own, as cells of memory: the struct api.Shown at a block, its harts in a row of its own, what came out; append, and where what is appended to comes to lie.
-/
namespace Go.Proofs.YtfolphjampklpaaDoor.Mc
open Go.ChangeShapes Go.WideShapes Go.ChangeAt Go.RowKit Mm Hh Hc
set_option linter.unusedVariables false
set_option linter.unusedSimpArgs false

section
variable {P : Program} {w : World} {base e size bytes n m : Nat} {i : TypeInfo} {z : Value} {t : TypeId}
theorem run_append_src_at (ty : TypeId) (h1 : P.underlying t = some (.slice e)) (h2 : P.info? e = some i) (h3 : i.zero = some z) (h4 : i.size = size) (h5 : i.bytes = bytes) (h6 : z.cells.size = size) (h7 : 0 < size)
    {v vx : Value} {olds news : List Value} (hown : w.ownsRow base e size v n olds) (hsrc : Src w vx m size news) (h1c : ∀ u ∈ news, u.oneCell' = true) (b1 : n + m ≤ maxLen) (b2 : (n + m) * bytes ≤ 140737488355328) (hbase : base ≤ w.heap.size) :
    ∃ v' w', (Builtin.append_ #[t, t] ty #[v, vx]).run P w = .ok v' w' ∧ w'.ownsRow base e size v' (n + m) (olds ++ news) ∧ w.grownBy w' v.ownBlock ∧ (v'.ownBlock = v.ownBlock ∨ v'.ownBlock = some w.heap.size) := by
  rcases hsrc with ⟨rfl, rfl, rfl⟩ | ⟨ad, c, rfl, hl, hc⟩
  · exact ⟨v, w, run_append_owned_none w base t ty e i size h1 h2 v n olds hown, by simpa using hown, ⟨rfl, rfl, rfl, Nat.le_refl _, fun _ _ _ => rfl⟩, .inl rfl⟩
  · obtain ⟨v', w', hrun, r1, r2, _, r4⟩ := run_append_own_at (P := P) w base t ty e i z size bytes h1 h2 h3 h4 h5 h6 h7 v n olds hown ad m c news hl hc h1c b1 b2 hbase
    exact ⟨v', w', hrun, r1, r2, r4⟩
theorem wpList_append_src_at {ops : Array Oper} {rest : List Oper} {o : Oper} {a : Act} {Q : Exit → Act → World → Prop}
    (hg : o.guard = none) (s x : Operand) (hop : o.op = Op.call { callee := Callee.builtin Builtin.append, args := #[s, x], argTypes := #[t, t] })
    (h1 : P.underlying t = some (.slice e)) (h2 : P.info? e = some i) (h3 : i.zero = some z) (h4 : i.size = size) (h5 : i.bytes = bytes) (h6 : z.cells.size = size) (h7 : 0 < size)
    {v vx : Value} {olds news : List Value} (hs : a.eval s = v) (hx : a.eval x = vx) (hown : w.ownsRow base e size v n olds) (hsrc : Src w vx m size news) (h1c : ∀ u ∈ news, u.oneCell' = true) (b1 : n + m ≤ maxLen) (b2 : (n + m) * bytes ≤ 140737488355328) (hbase : base ≤ w.heap.size)
    (hK : ∀ v' w', w'.ownsRow base e size v' (n + m) (olds ++ news) → w.grownBy w' v.ownBlock → (v'.ownBlock = v.ownBlock ∨ v'.ownBlock = some w.heap.size) → wpList P ops Q rest (a.put o.dst v') w') : wpList P ops Q (o :: rest) a w := by
  refine wpList_plain hg fun K hk => ?_
  obtain ⟨v', w', hrun, r1, r2, r3⟩ := run_append_src_at (P := P) o.type h1 h2 h3 h4 h5 h6 h7 hown hsrc h1c b1 b2 hbase
  unfold Oper.wp
  simp [execOp, hop, resolve, invoke, builtin, hs, hx, hrun, Result.andThen]
  exact hk _ _ (hK v' w' r1 r2 r3)
end
/-- Bytes stay as they are where their block does. -/
theorem mem_keep {w w' : World} {ma : Option Addr} {mn : Nat} {l : List UInt8} (M : Mem w ma mn l) (h : ∀ ad, ma = some ad → 0 < mn → ad.block < w.heap.size → w'.heap[ad.block]? = w.heap[ad.block]?) : Mem w' ma mn l := by
  by_cases h0 : mn = 0
  · exact ⟨M.len, M.nil, fun ad e t ht => absurd ht (by omega)⟩
  · refine M.apart fun ad e => h ad e (by omega) ?_
    have := World.block_lt_of_cell? w _ (M.cell ad e 0 (by omega))
    rwa [add_block] at this
/-- A run at block g (api.Shown): its memory is a slice that lies apart from what the run itself writes over. -/
structure Pb (w : World) (base g : Nat) (ma : Option Addr) (mn mc gh hc : Nat) (O : Value) (s : Sh) : Prop where
  bg : base ≤ g
  blk : w.heap[g]? = some (.cells #[.slice ma mn mc, .slice (some ⟨gh, 0, none⟩) s.hs.length hc, O, .int .i64 s.steps] 53 (0, 0))
  mem : Mem w ma mn s.m
  far : ∀ ad, ma = some ad → 0 < mn → ad.block ≠ g ∧ ad.block ≠ gh ∧ O.ownBlock ≠ some ad.block
  bh : base ≤ gh
  row : HRow w gh s.hs
  out : w.ownsRow base 22 1 O s.out.length (s.out.map (Value.int .u32))
theorem Pb.glt {w : World} {base g : Nat} {ma : Option Addr} {mn mc gh hc : Nat} {O : Value} {s : Sh} (B : Pb w base g ma mn mc gh hc O s) : g < w.heap.size := (Array.getElem?_eq_some_iff.1 B.blk).1
theorem Pb.base_le {w : World} {base g : Nat} {ma : Option Addr} {mn mc gh hc : Nat} {O : Value} {s : Sh} (B : Pb w base g ma mn mc gh hc O s) : base ≤ w.heap.size := Nat.le_trans B.bg (Nat.le_of_lt B.glt)
theorem Pb.of {w w' : World} {base g : Nat} {ma : Option Addr} {mn mc gh hc : Nat} {O : Value} {s : Sh} (B : Pb w base g ma mn mc gh hc O s) (G : Gr w w') : Pb w' base g ma mn mc gh hc O s :=
  ⟨B.bg, Hr.heap_of_gr G B.blk, B.mem.of G, B.far, B.bh, B.row.of G, owns_gr B.out G⟩
theorem Pb.cell {w : World} {base g : Nat} {ma : Option Addr} {mn mc gh hc : Nat} {O : Value} {s : Sh} (B : Pb w base g ma mn mc gh hc O s) (i : Nat) : w.cell? ⟨g, i, none⟩ = (#[.slice ma mn mc, .slice (some ⟨gh, 0, none⟩) s.hs.length hc, O, .int .i64 s.steps] : Array Value)[i]? := cell_of_row _ _ _ _ _ _ B.blk
theorem Pb.fz {w : World} {base g : Nat} {ma : Option Addr} {mn mc gh hc : Nat} {O : Value} {s : Sh} (B : Pb w base g ma mn mc gh hc O s) (i : Nat) : w.frozen? ⟨g, i, none⟩ = false := frozen_of_row _ _ _ _ _ B.blk
/-- Its harts turned. -/
theorem Pb.ch {w w' : World} {base g : Nat} {ma : Option Addr} {mn mc gh hc : Nat} {O : Value} {s : Sh} (B : Pb w base g ma mn mc gh hc O s) (q : Ch gh w w') {hs : List Hv} (R : HRow w' gh hs) (hl : hs.length = s.hs.length) : Pb w' base g ma mn mc gh hc O ⟨hs, s.m, s.out, s.steps⟩ :=
  ⟨B.bg, by show w'.heap[g]? = some (.cells #[.slice ma mn mc, .slice (some ⟨gh, 0, none⟩) hs.length hc, O, .int .i64 s.steps] _ _); rw [hl]; exact (ch_keep B.row q (by decide) B.blk).trans B.blk,
    mem_keep B.mem fun ad e h0 hb => q.block _ hb (fun x => (B.far ad e h0).2.1 (by injection x)), B.far, B.bh, R, owns_to B.out fun k o f hk => ch_keep B.row q (by decide) hk⟩
/-- A cell of its own block set. -/
theorem Pb.setC {w : World} {base g : Nat} {ma : Option Addr} {mn mc gh hc : Nat} {O : Value} {s : Sh} (B : Pb w base g ma mn mc gh hc O s) (i : Nat) (v : Value) :
    Mem (w.setCell ⟨g, i, none⟩ v) ma mn s.m ∧ HRow (w.setCell ⟨g, i, none⟩ v) gh s.hs ∧ (w.setCell ⟨g, i, none⟩ v).ownsRow base 22 1 O s.out.length (s.out.map (Value.int .u32)) := by
  have ne : ∀ {t : Nat}, t ≠ 53 → ∀ {k : Nat} {o : Array Value} {f : Nat × Nat}, w.heap[k]? = some (.cells o t f) → (w.setCell ⟨g, i, none⟩ v).heap[k]? = w.heap[k]? := fun ht _ _ _ hk => heap_setCell_other _ _ _ _ (by exact ne_of_types hk B.blk ht)
  exact ⟨mem_keep B.mem fun ad e h0 _ => heap_setCell_other _ _ _ _ (by exact (B.far ad e h0).1), B.row.to fun k o f hk => ne (by decide) hk, owns_to B.out fun k o f hk => ne (by decide) hk⟩
theorem Pb.setN {w : World} {base g : Nat} {ma : Option Addr} {mn mc gh hc : Nat} {O : Value} {s : Sh} (B : Pb w base g ma mn mc gh hc O s) (n' : Nat) : Pb (w.setCell ⟨g, 3, none⟩ (.int .i64 n')) base g ma mn mc gh hc O ⟨s.hs, s.m, s.out, n'⟩ :=
  ⟨B.bg, by rw [heap_setCell_same _ _ _ _ _ _ B.blk]; rfl, (B.setC _ _).1, B.far, B.bh, (B.setC _ _).2.1, (B.setC _ _).2.2⟩
/-- Another memory. -/
theorem Pb.setM {w : World} {base g : Nat} {ma : Option Addr} {mn mc gh hc : Nat} {O : Value} {s : Sh} (B : Pb w base g ma mn mc gh hc O s) {ma' : Option Addr} {mn' : Nat} (mc' : Nat) {m' : List UInt8} (M : Mem w ma' mn' m') (far : ∀ ad, ma' = some ad → 0 < mn' → ad.block ≠ g ∧ ad.block ≠ gh ∧ O.ownBlock ≠ some ad.block) :
    Pb (w.setCell ⟨g, 0, none⟩ (.slice ma' mn' mc')) base g ma' mn' mc' gh hc O ⟨s.hs, m', s.out, s.steps⟩ :=
  ⟨B.bg, by rw [heap_setCell_same _ _ _ _ _ _ B.blk]; rfl, mem_keep M fun ad e h0 _ => heap_setCell_other _ _ _ _ (by exact (far ad e h0).1), far, B.bh, (B.setC _ _).2.1, (B.setC _ _).2.2⟩
/-- What came out, appended to. -/
theorem Pb.grown {w w' : World} {base g : Nat} {ma : Option Addr} {mn mc gh hc : Nat} {O : Value} {s : Sh} (B : Pb w base g ma mn mc gh hc O s) (q : w.grownBy w' O.ownBlock) {v : Value} {os : List Int} (ho : w'.ownsRow base 22 1 v os.length (os.map (Value.int .u32))) (hv : v.ownBlock = O.ownBlock ∨ v.ownBlock = some w.heap.size) :
    w'.cell? ⟨g, 2, none⟩ = some O ∧ w'.frozen? ⟨g, 2, none⟩ = false ∧ Pb (w'.setCell ⟨g, 2, none⟩ v) base g ma mn mc gh hc v ⟨s.hs, s.m, os, s.steps⟩ ∧ Below base w (w'.setCell ⟨g, 2, none⟩ v) := by
  have st : ∀ {t : Nat}, t ≠ 22 → ∀ {k : Nat} {o : Array Value} {f : Nat × Nat}, w.heap[k]? = some (.cells o t f) → w'.heap[k]? = w.heap[k]? := fun ht _ _ _ hk => grown_keep B.out q ht hk
  have hb := (st (by decide) B.blk).trans B.blk
  have ne : ∀ {t : Nat}, t ≠ 53 → ∀ {k : Nat} {o : Array Value} {f : Nat × Nat}, w'.heap[k]? = some (.cells o t f) → (w'.setCell ⟨g, 2, none⟩ v).heap[k]? = w'.heap[k]? := fun ht _ _ _ hk => heap_setCell_other _ _ _ _ (by exact ne_of_types hk hb ht)
  have two : ∀ {t : Nat}, t ≠ 53 → t ≠ 22 → ∀ {k : Nat} {o : Array Value} {f : Nat × Nat}, w.heap[k]? = some (.cells o t f) → (w'.setCell ⟨g, 2, none⟩ v).heap[k]? = w.heap[k]? := fun h1 h2 _ _ _ hk => by
    have e := st h2 hk
    exact (ne h1 (e.trans hk)).trans e
  have M1 : Mem w' ma mn s.m := mem_keep B.mem fun ad e h0 hb => q.block _ hb (fun x => (B.far ad e h0).2.2 x.symm)
  refine ⟨cell_of_row _ _ _ _ _ _ hb, frozen_of_row _ _ _ _ _ hb, ⟨B.bg, by rw [heap_setCell_same _ _ _ _ _ _ hb]; rfl, mem_keep M1 fun ad e h0 _ => heap_setCell_other _ _ _ _ (by exact (B.far ad e h0).1), fun ad e h0 => ?_, B.bh, B.row.to fun k o f hk => two (by decide) (by decide) hk, owns_to ho fun k o f hk => ne (by decide) hk⟩, ?_⟩
  · refine ⟨(B.far ad e h0).1, (B.far ad e h0).2.1, ?_⟩
    rcases hv with h | h
    · rw [h]; exact (B.far ad e h0).2.2
    · rw [h]
      intro x
      have h1 := World.block_lt_of_cell? w _ (B.mem.cell ad e 0 h0)
      rw [add_block] at h1
      injection x with x
      omega
  · refine Below.setCell ((Below.refl base w).grown q B.base_le fun k e => (B.out.lt k e).1) (by exact B.bg) _
/-- The harts, of the first j, that have lost what they had reserved. -/
def loseU (k : Nat) (ss : List (Int × Int)) (hs : List Hv) (j : Nat) : List Hv := hs.mapIdx fun i h => if i < j ∧ i ≠ k then lose1 ss h else h
theorem loseU_get (k : Nat) (ss : List (Int × Int)) (hs : List Hv) (j i : Nat) : (loseU k ss hs j)[i]? = hs[i]?.map fun h => if i < j ∧ i ≠ k then lose1 ss h else h := by
  simp [loseU, List.getElem?_mapIdx]
theorem loseU_len (k : Nat) (ss : List (Int × Int)) (hs : List Hv) (j : Nat) : (loseU k ss hs j).length = hs.length := by simp [loseU]
theorem loseU_zero (k : Nat) (ss : List (Int × Int)) (hs : List Hv) : loseU k ss hs 0 = hs := by
  apply List.ext_getElem?
  intro i
  rw [loseU_get]
  cases hs[i]? <;> simp
theorem loseU_all (k : Nat) (ss : List (Int × Int)) (hs : List Hv) : loseU k ss hs hs.length = lose k ss hs := by
  apply List.ext_getElem?
  intro i
  rw [loseU_get, lose_get]
  cases h : hs[i]? with
  | none => rfl
  | some q =>
    have := (List.getElem?_eq_some_iff.1 h).1
    by_cases e : i = k
    · simp [e]
    · simp [e, this]
theorem loseU_succ (k : Nat) (ss : List (Int × Int)) {hs : List Hv} {j : Nat} {h : Hv} (hj : hs[j]? = some h) : loseU k ss hs (j + 1) = (loseU k ss hs j).set j (if j ≠ k then lose1 ss h else h) := by
  have hl := (List.getElem?_eq_some_iff.1 hj).1
  apply List.ext_getElem?
  intro i
  rw [loseU_get, List.getElem?_set, loseU_len, loseU_get]
  by_cases e : j = i
  · subst e
    rw [hj]
    simp [hl]
  · rw [if_neg e]
    congr 1
    funext q
    have : (i < j + 1 ∧ i ≠ k) ↔ (i < j ∧ i ≠ k) := by omega
    simp only [this]
end Go.Proofs.YtfolphjampklpaaDoor.Mc
