/-
  Ref5b, Mk, Ref5c, Ref4c, Ref4d, Ref4e, Ref4r: texts of ours that lie in one file.
-/
import Derived.Test.YtdiofidmlgliiaaDoorL05
import Derived.Test.YtdiofidmlgliiaaDoorRef3Walks
import Derived.Test.YtdiofidmlgliiaaDoorL03
import Derived.Test.YtdiofidmlgliiaaDoorL01
import Derived.Test.YtdiofidmlgliiaaDoorL02
import Derived.Test.YtdiofidmlgliiaaDoorWalks3
/-
  What ferrybridgeref5.Same answers, of two runs that are shown alike.
-/
namespace Go.Proofs.YtdiofidmlgliiaaDoor.Mc
open Go.ChangeShapes Go.WideShapes Go.ChangeAt Go.RowKit Mm Hh Hc
set_option linter.unusedVariables false
set_option linter.unusedSimpArgs false

theorem neq_hart {h : Hv} (o : h.Ok) (w : World) : (binOp .neq 70 (.agg (hA h)) (.agg (hA h))).run Tryd.prog w = .ok (.bool false) w := by
  have e := eql_hart o w
  have e1 : binOp .eql 70 (.agg (hA h)) (.agg (hA h)) = (do pure (.bool (← Op.equal 70 (.agg (hA h)) (.agg (hA h))))) := rfl
  have e2 : binOp .neq 70 (.agg (hA h)) (.agg (hA h)) = (do pure (.bool (!(← Op.equal 70 (.agg (hA h)) (.agg (hA h)))))) := rfl
  rw [e1, Sem.run_bind] at e
  rw [e2, Sem.run_bind]
  generalize (Op.equal 70 (.agg (hA h)) (.agg (hA h))).run Tryd.prog w = r at e ⊢
  cases r with
  | ok v w' =>
    simp only [Result.andThen_ok, Sem.run_pure, Result.ok.injEq, Value.bool.injEq] at e ⊢
    obtain ⟨rfl, rfl⟩ := e
    exact ⟨rfl, rfl⟩
  | _ => simp [Result.andThen] at e
theorem yieldsIf_neq {P : Program} {ops : Array Oper} {S : World → Prop} {o : Oper} {a : Act} (hw : Region.wanted o (yielded ops a.tmps) = true) (t t' : TypeId) (x y : Operand) (ho : o.op = .binOp .neq t x y t') (A B : Array Value) (hx : a.eval x = .agg A) (hy : a.eval y = .agg B) (hg : P.eqGuardType P.depth t = false)
    {v : Value} (h : ∀ w, (binOp .neq t (.agg A) (.agg B)).run P w = .ok v w) : YieldsIf P ops S o v a :=
  .inl ⟨hw, fun w _ => by
    unfold execOp
    simp only [ho, hx, hy, Sem.run_bind, run_eqGuard_agg w _ _ _ _ _ _ hg, h, Result.andThen_ok]
    rfl⟩
/-- .. of a slice that is nil no more is asked than that it reads as nothing. -/
def Shw (w : World) (v : Value) (c mn : Nat) (S : Sh) : Prop := ∃ ma mc ha hc oa oc, v = .agg #[.slice ma mn mc, .slice ha c hc, .slice oa S.out.length oc, .int .i64 S.steps] ∧ Mem w ma mn S.m ∧ Hs w ha c S.hs ∧ Wm w oa S.out.length S.out
theorem Shn.w {w : World} {v : Value} {c mn : Nat} {S : Sh} (h : Shn w v c mn S) : Shw w v c mn S := by
  obtain ⟨ma, mc, ha, hc, oa, oc, e, h1, _, h3, h4, _⟩ := h
  exact ⟨ma, mc, ha, hc, oa, oc, e, h1, h3, h4⟩
theorem Shw.of {w w' : World} {v : Value} {c mn : Nat} {S : Sh} (h : Shw w v c mn S) (G : Gr w w') : Shw w' v c mn S := by
  obtain ⟨ma, mc, ha, hc, oa, oc, e, h1, h3, h4⟩ := h
  exact ⟨ma, mc, ha, hc, oa, oc, e, h1.of G, h3.of G, h4.of G⟩
set_option maxHeartbeats 2000000 in
set_option maxRecDepth 100000 in
theorem Same_w {w : World} {a b : Value} {c mn : Nat} {S : Sh} (A : Shw w a c mn S) (B : Shw w b c mn S) (ho : S.out.length ≤ 1000000) (hc4 : c ≤ 4) :
    Calls Tryd.prog 13 #[a, b] w fun e w' => e = .returned (.bool true) ∧ Gr w w' := by
  obtain ⟨a1, c1, a2, c2, a3, c3, rfl, A1, A2, A3⟩ := A
  obtain ⟨b1, d1, b2, d2, b3, d3, rfl, B1, B2, B3⟩ := B
  have HBy : Hid (∀ W : World, Gr w W → Calls Tryd.prog 30 #[.slice a1 mn c1, .slice b1 mn d1] W fun e w' => e = .returned (.bool true) ∧ Gr W w') := fun W G =>
    (Mr.Bytes_any c1 d1 (A1.of G) (B1.of G)).mono fun e w' ⟨h1, h2⟩ => ⟨by rw [h1]; simp, by rw [h2]; exact Gr.refl _⟩
  have HWo : Hid (∀ W : World, Gr w W → Calls Tryd.prog 31 #[.slice a3 S.out.length c3, .slice b3 S.out.length d3] W fun e w' => e = .returned (.bool true) ∧ Gr W w') := fun W G => Words_same c3 d3 ho (A3.of G) (B3.of G)
  have HA2 : Hid (Hs w a2 c S.hs) := A2
  have HB2 : Hid (Hs w b2 c S.hs) := B2
  have HL : Hid (S.hs.length = c) := A2.len
  clear A1 A2 A3 B1 B2 B3
  generalize S.out.length = on at *
  generalize S.steps = st at *
  generalize S.hs = hs at *
  have en : ((st : Int) != (st : Int)) = false := by simp
  have en2 : ((c : Int) != (c : Int)) = false := by simp
  go_enter Tryd.func13, Tryd.ntmps13
  go_wp2_with fail
  refine (HBy.out _ (((Gr.refl _).alloc _).alloc _)).mono ?_
  rintro e w1 ⟨rfl, G1⟩
  obtain ⟨hb0, hb1⟩ := two_of G1
  have HX0 : Hid (w1.heap[w.heap.size]? = some (.cells #[.slice a1 mn c1, .slice a2 c c2, .slice a3 on c3, .int .i64 st] 40 (0, 0))) := hb0
  have HX1 : Hid (w1.heap[w.heap.size + 1]? = some (.cells #[.slice b1 mn d1, .slice b2 c d2, .slice b3 on d3, .int .i64 st] 40 (0, 0))) := hb1
  have HG1 : Hid (Gr w w1) := (((Gr.refl _).alloc _).alloc _).trans G1
  have x1 : w1.cell? ⟨w.heap.size, 1, none⟩ = some (.slice a2 c c2) := cell_of_row _ _ _ _ _ _ hb0
  have x2 : w1.cell? ⟨w.heap.size, 2, none⟩ = some (.slice a3 on c3) := cell_of_row _ _ _ _ _ _ hb0
  have x4 : w1.cell? ⟨w.heap.size + 1, 1, none⟩ = some (.slice b2 c d2) := cell_of_row _ _ _ _ _ _ hb1
  have x5 : w1.cell? ⟨w.heap.size + 1, 2, none⟩ = some (.slice b3 on d3) := cell_of_row _ _ _ _ _ _ hb1
  clear G1 hb0 hb1 HBy
  go_wp2_with fail
  refine (HWo.out _ HG1.out).mono ?_
  rintro e w2 ⟨rfl, G2⟩
  have HG2 : Hid (Gr w w2) := HG1.out.trans G2
  have HY0 : Hid (w2.heap[w.heap.size]? = some (.cells #[.slice a1 mn c1, .slice a2 c c2, .slice a3 on c3, .int .i64 st] 40 (0, 0))) := Hr.heap_of_gr G2 HX0.out
  have HY1 : Hid (w2.heap[w.heap.size + 1]? = some (.cells #[.slice b1 mn d1, .slice b2 c d2, .slice b3 on d3, .int .i64 st] 40 (0, 0))) := Hr.heap_of_gr G2 HX1.out
  have y3 : w2.cell? ⟨w.heap.size, 3, none⟩ = some (.int .i64 st) := cell_of_row _ _ _ _ _ _ HY0.out
  have y7 : w2.cell? ⟨w.heap.size + 1, 3, none⟩ = some (.int .i64 st) := cell_of_row _ _ _ _ _ _ HY1.out
  clear G2 x1 x2 x4 x5 HX0 HX1 HWo HG1
  go_wp2_with fail
  go_loopw [5] (fun i wr => ∃ k : Nat, k ≤ c ∧ i = .int .i64 k ∧ Gr w2 wr) (fun i _ => c - (intOf i).toNat)
  case atStart => exact ⟨0, Nat.zero_le _, rfl, Gr.refl _⟩
  case round =>
    obtain ⟨k, hk, rfl, G⟩ := hrel
    have HG : Hid (Gr w2 wr) := G
    have z1 : wr.cell? ⟨w.heap.size, 1, none⟩ = some (.slice a2 c c2) := cell_of_row _ _ _ _ _ _ (Hr.heap_of_gr G HY0.out)
    have z4 : wr.cell? ⟨w.heap.size + 1, 1, none⟩ = some (.slice b2 c d2) := cell_of_row _ _ _ _ _ _ (Hr.heap_of_gr G HY1.out)
    clear G y3 y7
    by_cases hlt : k < c
    · obtain ⟨h, hh⟩ : ∃ h, hs[k]? = some h := ⟨_, List.getElem?_eq_getElem (by rw [HL.out]; exact hlt)⟩
      have okh := HA2.out.ok h (List.mem_of_getElem? hh)
      obtain ⟨p1, o1, rfl, hp1, r1⟩ := HA2.out.spot (by omega)
      obtain ⟨p2, o2, rfl, hp2, r2⟩ := HB2.out.spot (by omega)
      have R1 : Hid (wr.rangeAt p1 (o1 + k * 37) (hL h)) := fun j v hv => ((HG2.out.trans HG.out).cell _ (by exact hp1)).trans (r1 k h hh j v hv)
      have R2 : Hid (wr.rangeAt p2 (o2 + k * 37) (hL h)) := fun j v hv => ((HG2.out.trans HG.out).cell _ (by exact hp2)).trans (r2 k h hh j v hv)
      have HLL : Hid ((hL h).length = 37) := hL_len okh
      have HNQ : Hid (∀ W : World, (binOp .neq 70 (.agg (hL h).toArray) (.agg (hL h).toArray)).run Tryd.prog W = .ok (.bool false) W) := fun W => neq_hart okh W
      clear hh okh r1 r2 en en2
      go_wp2_with fail
      refine wp_region_held_drew (S := fun W => W.cell? ⟨w.heap.size, 1, none⟩ = some (.slice (some ⟨p1, o1, none⟩) c c2) ∧ W.cell? ⟨w.heap.size + 1, 1, none⟩ = some (.slice (some ⟨p2, o2, none⟩) c d2) ∧ W.rangeAt p1 (o1 + k * 37) (hL h) ∧ W.rangeAt p2 (o2 + k * 37) (hL h)) (by kernel_rfl) ?_ (fun hHeld => ?_)
      · exact ⟨z1, z4, R1.out, R2.out⟩
      have HS0 : Hid _ := hHeld
      clear hHeld
      refine wpAnyH_take (i := 0) (v := .pointer (some ⟨w.heap.size, 0, none⟩)) rfl (by kernel_rfl) (by kernel_rfl) (by kernel_rfl) (fun _ _ _ h => h) (Or.inl ⟨by rfl, fun W hW => by obtain ⟨y0, y1, y2, y3⟩ := hW; go_simp⟩) HS0.out ?_
      simp only [List.getElem_toArray, List.getElem_cons_succ, List.getElem_cons_zero, Act.put, List.setIfInBounds_toArray, List.set_cons_zero, List.set_cons_succ]
      refine wpAnyH_take (i := 1) (v := .pointer (some ⟨w.heap.size, 1, none⟩)) rfl (by kernel_rfl) (by kernel_rfl) (by kernel_rfl) (fun _ _ _ h => h) (Or.inl ⟨by rfl, fun W hW => by obtain ⟨y0, y1, y2, y3⟩ := hW; go_simp⟩) HS0.out ?_
      simp only [List.getElem_toArray, List.getElem_cons_succ, List.getElem_cons_zero, Act.put, List.setIfInBounds_toArray, List.set_cons_zero, List.set_cons_succ]
      refine wpAnyH_take (i := 2) (v := .slice (some ⟨p1, o1, none⟩) c c2) rfl (by kernel_rfl) (by kernel_rfl) (by kernel_rfl) (fun _ _ _ h => h) (Or.inl ⟨by rfl, fun W hW => by obtain ⟨y0, y1, y2, y3⟩ := hW; go_simp⟩) HS0.out ?_
      simp only [List.getElem_toArray, List.getElem_cons_succ, List.getElem_cons_zero, Act.put, List.setIfInBounds_toArray, List.set_cons_zero, List.set_cons_succ]
      refine wpAnyH_take (i := 3) (v := .int .i64 k) rfl (by kernel_rfl) (by kernel_rfl) (by kernel_rfl) (fun _ _ _ h => h) (Or.inl ⟨by rfl, fun W hW => by obtain ⟨y0, y1, y2, y3⟩ := hW; go_simp⟩) HS0.out ?_
      simp only [List.getElem_toArray, List.getElem_cons_succ, List.getElem_cons_zero, Act.put, List.setIfInBounds_toArray, List.set_cons_zero, List.set_cons_succ]
      refine wpAnyH_take (i := 4) (v := .pointer (some ⟨p1, o1 + k * 37, none⟩)) rfl (by kernel_rfl) (by kernel_rfl) (by kernel_rfl) (fun _ _ _ h => h) (Or.inl ⟨by rfl, fun W hW => by obtain ⟨y0, y1, y2, y3⟩ := hW; go_simp⟩) HS0.out ?_
      simp only [List.getElem_toArray, List.getElem_cons_succ, List.getElem_cons_zero, Act.put, List.setIfInBounds_toArray, List.set_cons_zero, List.set_cons_succ]
      refine wpAnyH_take (i := 5) (v := .agg (hL h).toArray) rfl (by kernel_rfl) (by kernel_rfl) (by kernel_rfl) (fun _ _ _ h => h) ?hy5 HS0.out ?_
      case hy5 => exact yieldsIf_load_mid (by rfl) 70 (.tmp 52) rfl p1 (o1 + k * 37) (by simp [Act.eval]) (hL h) _ (fun W hW => hW.2.2.1) Tryd.underlying70 rfl (by rw [HLL.out]; exact iH)
      simp only [List.getElem_toArray, List.getElem_cons_succ, List.getElem_cons_zero, Act.put, List.setIfInBounds_toArray, List.set_cons_zero, List.set_cons_succ]
      refine wpAnyH_take (i := 6) (v := .pointer (some ⟨w.heap.size + 1, 0, none⟩)) rfl (by kernel_rfl) (by kernel_rfl) (by kernel_rfl) (fun _ _ _ h => h) (Or.inl ⟨by rfl, fun W hW => by obtain ⟨y0, y1, y2, y3⟩ := hW; go_simp⟩) HS0.out ?_
      simp only [List.getElem_toArray, List.getElem_cons_succ, List.getElem_cons_zero, Act.put, List.setIfInBounds_toArray, List.set_cons_zero, List.set_cons_succ]
      refine wpAnyH_take (i := 7) (v := .pointer (some ⟨w.heap.size + 1, 1, none⟩)) rfl (by kernel_rfl) (by kernel_rfl) (by kernel_rfl) (fun _ _ _ h => h) (Or.inl ⟨by rfl, fun W hW => by obtain ⟨y0, y1, y2, y3⟩ := hW; go_simp⟩) HS0.out ?_
      simp only [List.getElem_toArray, List.getElem_cons_succ, List.getElem_cons_zero, Act.put, List.setIfInBounds_toArray, List.set_cons_zero, List.set_cons_succ]
      refine wpAnyH_take (i := 8) (v := .slice (some ⟨p2, o2, none⟩) c d2) rfl (by kernel_rfl) (by kernel_rfl) (by kernel_rfl) (fun _ _ _ h => h) (Or.inl ⟨by rfl, fun W hW => by obtain ⟨y0, y1, y2, y3⟩ := hW; go_simp⟩) HS0.out ?_
      simp only [List.getElem_toArray, List.getElem_cons_succ, List.getElem_cons_zero, Act.put, List.setIfInBounds_toArray, List.set_cons_zero, List.set_cons_succ]
      refine wpAnyH_take (i := 9) (v := .int .i64 k) rfl (by kernel_rfl) (by kernel_rfl) (by kernel_rfl) (fun _ _ _ h => h) (Or.inl ⟨by rfl, fun W hW => by obtain ⟨y0, y1, y2, y3⟩ := hW; go_simp⟩) HS0.out ?_
      simp only [List.getElem_toArray, List.getElem_cons_succ, List.getElem_cons_zero, Act.put, List.setIfInBounds_toArray, List.set_cons_zero, List.set_cons_succ]
      refine wpAnyH_take (i := 10) (v := .pointer (some ⟨p2, o2 + k * 37, none⟩)) rfl (by kernel_rfl) (by kernel_rfl) (by kernel_rfl) (fun _ _ _ h => h) (Or.inl ⟨by rfl, fun W hW => by obtain ⟨y0, y1, y2, y3⟩ := hW; go_simp⟩) HS0.out ?_
      simp only [List.getElem_toArray, List.getElem_cons_succ, List.getElem_cons_zero, Act.put, List.setIfInBounds_toArray, List.set_cons_zero, List.set_cons_succ]
      refine wpAnyH_take (i := 11) (v := .agg (hL h).toArray) rfl (by kernel_rfl) (by kernel_rfl) (by kernel_rfl) (fun _ _ _ h => h) ?hy11 HS0.out ?_
      case hy11 => exact yieldsIf_load_mid (by rfl) 70 (.tmp 58) rfl p2 (o2 + k * 37) (by simp [Act.eval]) (hL h) _ (fun W hW => hW.2.2.2) Tryd.underlying70 rfl (by rw [HLL.out]; exact iH)
      simp only [List.getElem_toArray, List.getElem_cons_succ, List.getElem_cons_zero, Act.put, List.setIfInBounds_toArray, List.set_cons_zero, List.set_cons_succ]
      refine wpAnyH_take (i := 12) (v := .bool false) rfl (by kernel_rfl) (by kernel_rfl) (by kernel_rfl) (fun _ _ _ h => h) ?hneq HS0.out ?_
      case hneq => exact yieldsIf_neq (by rfl) 70 70 (.tmp 53) (.tmp 59) rfl (hL h).toArray (hL h).toArray (by simp [Act.eval]) (by simp [Act.eval]) (by kernel_rfl) HNQ.out
      simp only [List.getElem_toArray, List.getElem_cons_succ, List.getElem_cons_zero, Act.put, List.setIfInBounds_toArray, List.set_cons_zero, List.set_cons_succ]
      refine wpAnyH_done (by kernel_rfl) ?_ _
      clear HS0 HNQ R1 R2 z1 z4
      go_wp2_with fail
      go_roundw
      case rel => exact ⟨k + 1, by omega, by go_num, Gr.drew HG.out⟩
      case measure => simp [intOf]; omega
    · go_wp2_with fail
      go_ret
      exact ⟨rfl, HG2.out.trans HG.out⟩
theorem Same_any {w : World} {a b : Value} {c mn : Nat} {S : Sh} (A : Shn w a c mn S) (B : Shn w b c mn S) (ho : S.out.length ≤ 1000000) (hc4 : c ≤ 4) :
    Calls Tryd.prog 13 #[a, b] w fun e w' => e = .returned (.bool true) ∧ Gr w w' := Same_w A.w B.w ho hc4
end Go.Proofs.YtdiofidmlgliiaaDoor.Mc
/-
  Picks in rows; scripts cut in two, and one behind the other, as plain data.
-/
namespace Go.Proofs.YtdiofidmlgliiaaDoor.Mc
open Go.ChangeShapes Go.WideShapes Go.ChangeAt Go.RowKit Mm Hh Hc
set_option linter.unusedVariables false
set_option linter.unusedSimpArgs false

variable {w : World} {n k r : Nat} {ps : List (Int × Int)} {p : Int × Int} {m : List UInt8} {hs : List Hv}
def pC (ps : List (Int × Int)) : List Value := ps.flatMap fun p => [.int .i64 p.1, .int .i64 p.2]
theorem pC_app (a b : List (Int × Int)) : pC (a ++ b) = pC a ++ pC b := by simp [pC]
theorem pC_len (ps : List (Int × Int)) : (pC ps).length = ps.length * 2 := by
  induction ps with
  | nil => rfl
  | cons p r ih => simp only [pC, List.flatMap_cons, List.length_append, List.length_cons, List.length_nil] at ih ⊢; omega
theorem pC_one (ps : List (Int × Int)) : ∀ u ∈ pC ps, u.oneCell' = true := by
  intro u hu
  obtain ⟨p, _, hm⟩ := List.mem_flatMap.1 hu
  simp only [List.mem_cons, List.not_mem_nil, or_false] at hm
  rcases hm with rfl | rfl <;> rfl
theorem pC_get : ∀ (ps : List (Int × Int)) (i : Nat) (q : Int × Int), ps[i]? = some q → (pC ps)[i * 2]? = some (.int .i64 q.1) ∧ (pC ps)[i * 2 + 1]? = some (.int .i64 q.2)
  | [], i, q, h => by simp at h
  | p :: r, 0, q, h => by simp at h; subst h; exact ⟨rfl, rfl⟩
  | p :: r, i + 1, q, h => by
    have ih := pC_get r i q (by simpa using h)
    have e : pC (p :: r) = [.int .i64 p.1, .int .i64 p.2] ++ pC r := rfl
    rw [e, List.getElem?_append_right (by simp; omega), List.getElem?_append_right (by simp; omega)]
    simp only [List.length_cons, List.length_nil]
    rw [show (i + 1) * 2 - (0 + 1 + 1) = i * 2 by omega, show (i + 1) * 2 + 1 - (0 + 1 + 1) = i * 2 + 1 by omega]
    exact ih
/-- Picks that the program itself laid. -/
theorem Ps.own {base : Nat} {v : Value} (h : w.ownsRow base 56 2 v n (pC ps)) (hl : ps.length = n) : ∃ ao cap, v = .slice ao n cap ∧ Ps w ao n ps := by
  rcases h.2 with ⟨rfl, rfl⟩ | ⟨g, cap, cur, rfl, hb, hg, _⟩
  · exact ⟨none, 0, rfl, hl, fun h => absurd h (by omega)⟩
  · refine ⟨_, cap, rfl, hl, fun _ => ⟨g, 0, rfl, (gs hg).1, fun i p hp => ?_⟩⟩
    have hi : i < n := by rw [← hl]; exact (List.getElem?_eq_some_iff.1 hp).1
    have c := pC_get ps i p hp
    rw [Nat.zero_add]
    exact ⟨(h.cellAt _ (by omega)).trans c.1, (h.cellAt _ (by omega)).trans c.2⟩
/-- Some of a script's picks, from one on. -/
theorem Ps.src {b o : Nat} (h : Ps w (some ⟨b, o, none⟩) n ps) (i m c : Nat) (hi : i + m ≤ n) : Src w (.slice (some ⟨b, o + i * 2, none⟩) m c) m 2 (pC ((ps.drop i).take m)) := by
  have hl := h.len
  refine .inr ⟨_, c, rfl, by rw [pC_len, List.length_take, List.length_drop]; congr 1; omega, fun j u hj => ?_⟩
  have hjl : j < m * 2 := by have := (List.getElem?_eq_some_iff.1 hj).1; rw [pC_len, List.length_take, List.length_drop] at this; omega
  obtain ⟨b', o', e, _, hc⟩ := h.spot (by omega)
  obtain ⟨rfl, rfl⟩ : b = b' ∧ o = o' := by injection e with e; injection e with e1 e2; exact ⟨e1, e2⟩
  have hg : ((ps.drop i).take m)[j / 2]? = some (ps[i + j / 2]'(by omega)) := by
    rw [List.getElem?_take_of_lt (by omega), List.getElem?_drop, List.getElem?_eq_getElem]
  have c := pC_get _ _ _ hg
  have d := hc (i + j / 2) _ (List.getElem?_eq_getElem (by omega))
  rw [add_at]
  have h2 : j % 2 = 0 ∨ j % 2 = 1 := by omega
  rcases h2 with h2 | h2
  · rw [show j / 2 * 2 = j by omega] at c
    rw [c.1] at hj
    obtain rfl := Option.some.inj hj
    rw [show o + i * 2 + j = o + (i + j / 2) * 2 by omega]
    exact d.1
  · rw [show j / 2 * 2 + 1 = j by omega] at c
    rw [c.2] at hj
    obtain rfl := Option.some.inj hj
    rw [show o + i * 2 + j = o + (i + j / 2) * 2 + 1 by omega]
    exact d.2
theorem src_lit (w : World) (xs : List Value) (t m sz c : Nat) (h : xs.length = m * sz) : Src (w.alloc (.cells xs.toArray t)) (.slice (some ⟨w.heap.size, 0, none⟩) m c) m sz xs := by
  refine .inr ⟨_, c, rfl, h, fun j u hj => ?_⟩
  rw [add_at, Nat.zero_add, cell_of_row _ _ _ _ _ (0, 0) (heap_alloc_new w _)]
  simpa using hj
theorem infoP : (Tryd.prog.info? 56).map (fun i => (i.zero, i.size, i.bytes)) = some (some (.agg #[.int .i64 0, .int .i64 0]), 2, 16) := by kernel_rfl

/-- A pick cut in two. -/
def cut2 (ps : List (Int × Int)) (k : Nat) (h n r : Int) : List (Int × Int) := ps.take k ++ [(h, n), (h, r)] ++ ps.drop (k + 1)
theorem split_at (h : ps[k]? = some p) : ps = ps.take k ++ [p] ++ ps.drop (k + 1) := by
  rw [← take_snoc h, List.take_append_drop]
theorem cut2_play (h : ps[k]? = some p) (hs : p.2 = (n + r : Nat)) (s : Sh) : play s (nums (cut2 ps k p.1 n r)) = play s (nums ps) := by
  have e := congrArg nums (split_at h)
  rw [e]
  unfold cut2 nums
  simp only [List.map_append, List.map_cons, List.map_nil, play_app, play_cons]
  congr 1
  show runs (runs _ _ (Int.toNat n)) _ (Int.toNat r) = runs _ _ _
  rw [hs, Int.toNat_natCast, Int.toNat_natCast, Int.toNat_natCast, ← runs_add]
theorem cut2_len (hk : k < ps.length) (h n r : Int) : (cut2 ps k h n r).length = ps.length + 1 := by
  unfold cut2
  simp
  omega
theorem wrong_zero {qs : List (Int × Int)} (h : wrong m hs ps = 0) (hl : qs.length ≤ 300) (hq : ∀ p ∈ qs, 0 ≤ p.1 ∧ p.1 < hs.length ∧ 0 ≤ p.2 ∧ p.2 ≤ 400) : wrong m hs qs = 0 := by
  obtain ⟨h1, h2, h3, h4, h5, h6⟩ := wrong_ok h
  unfold wrong
  rw [if_neg (by omega), if_neg (by simpa using h4), if_neg (by omega), if_neg]
  simpa [pickOk] using hq
theorem cut2_wrong (hw : wrong m hs ps = 0) (hl : ps.length < 300) (h : ps[k]? = some p) (hs2 : p.2 = (n + r : Nat)) : wrong m hs (cut2 ps k p.1 n r) = 0 := by
  obtain ⟨_, _, _, _, _, h6⟩ := wrong_ok hw
  have hp := h6 p (List.mem_of_getElem? h)
  have hk := (List.getElem?_eq_some_iff.1 h).1
  refine wrong_zero hw (by rw [cut2_len hk]; omega) fun q hq => ?_
  unfold cut2 at hq
  rcases List.mem_append.1 hq with h1 | h1
  · rcases List.mem_append.1 h1 with h2 | h2
    · exact h6 q (List.mem_of_mem_take h2)
    · simp only [List.mem_cons, List.not_mem_nil, or_false] at h2
      rcases h2 with rfl | rfl
      · exact ⟨hp.1, hp.2.1, by show (0 : Int) ≤ n; omega, by show (n : Int) ≤ 400; omega⟩
      · exact ⟨hp.1, hp.2.1, by show (0 : Int) ≤ r; omega, by show (r : Int) ≤ 400; omega⟩
  · exact h6 q (List.mem_of_mem_drop h1)
/-- Of what may be, no more came out than this. -/
theorem few_play : ∀ (sc : List (Nat × Nat)) {s : Sh} {c n t : Nat}, Fit s c n → Few s t → (∀ p ∈ sc, p.1 < c ∧ p.2 ≤ 400) → Few (play s sc) (t + 400 * sc.length)
  | [], s, c, n, t, f, w, _ => w
  | p :: r, s, c, n, t, f, w, h => by
    have hp := h p (by simp)
    have hk : p.1 < s.hs.length := by rw [f.len]; exact hp.1
    rw [play_cons]
    have e := runs_wk hk p.2
    have o := wk_ok p.2 (w0_ok f hp.1)
    have z : (w0 s p.1).n = 0 := rfl
    have w2 : Few (runs s p.1 p.2) (t + 400) := by rw [e]; exact tk_few w o.1 (by omega)
    have := few_play r (runs_fit hp.1 p.2 f) w2 (fun q hq => h q (by simp [hq]))
    rw [List.length_cons, show t + 400 * (r.length + 1) = t + 400 + 400 * r.length by omega]
    exact this
theorem few_nums (hw : wrong m hs ps = 0) (ok : ∀ h ∈ hs, h.Ok) : Few (play ⟨hs, m, [], 0⟩ (nums ps)) 120000 ∧ Fit (play ⟨hs, m, [], 0⟩ (nums ps)) hs.length m.length := by
  obtain ⟨_, _, _, h4, h5, h6⟩ := wrong_ok hw
  have f : Fit ⟨hs, m, [], 0⟩ hs.length m.length := ⟨rfl, rfl, fun h hm => ⟨ok h hm, h4 h hm⟩⟩
  have hq : ∀ p ∈ nums ps, p.1 < hs.length ∧ p.2 ≤ 400 := fun p hp => by
    obtain ⟨r, hr, rfl⟩ := List.mem_map.1 hp
    have := h6 r hr
    show r.1.toNat < _ ∧ r.2.toNat ≤ _
    omega
  have := few_play (nums ps) (t := 0) f ⟨Nat.le_refl _, Nat.le_refl _⟩ hq
  have hl : (nums ps).length ≤ 300 := by unfold nums; rw [List.length_map]; exact h5
  exact ⟨⟨this.1, by have := this.2; omega⟩, play_fit _ (fun p hp => (hq p hp).1) f⟩
end Go.Proofs.YtdiofidmlgliiaaDoor.Mc
/-
  What ferrybridgeref5.near and ferrybridgelaw.work answer.
-/
namespace Go.Proofs.YtdiofidmlgliiaaDoor.Mc
open Go.ChangeShapes Go.WideShapes Go.ChangeAt Go.RowKit Mm Hh Hc
set_option linter.unusedVariables false
set_option linter.unusedSimpArgs false

set_option maxHeartbeats 1000000 in
set_option maxRecDepth 100000 in
theorem rnear_any {x f : Int} {m : Nat} (x0 : 0 ≤ x) (x1 : x < 4294967296) (f0 : 0 ≤ f) (f1 : f < 4294967296) (hm : m ≤ 4096) (w : World) :
    Calls Tryd.prog 33 #[.int .u32 x, .int .u32 f, .int .i64 m] w fun e w' => e = .returned (.bool (near x f m)) ∧ w' = w := by
  go_enter Tryd.func33, Tryd.ntmps33
  go_wp2
  go_loop [7] (fun i => ∃ k : Nat, k ≤ m ∧ i = .int .i64 k ∧ ∀ j : Nat, j < k → ¬ (0 ≤ f + j - x ∧ f + j - x < 4)) (fun i => m - (intOf i).toNat)
  case atStart => exact ⟨0, Nat.zero_le _, rfl, fun j hj => absurd hj (by omega)⟩
  case round =>
    obtain ⟨k, hk, rfl, hno⟩ := hrel
    have HN : Hid (∀ j : Nat, j < k → ¬ (0 ≤ f + j - x ∧ f + j - x < 4)) := hno
    clear hno
    by_cases hlt : k < m
    · have hc : f + (k : Int) - x < 0 ∨ (¬ f + (k : Int) - x < 0 ∧ 4 ≤ f + (k : Int) - x) ∨ (¬ f + (k : Int) - x < 0 ∧ ¬ 4 ≤ f + (k : Int) - x) := by omega
      rcases hc with h1 | ⟨h1, h2⟩ | ⟨h1, h2⟩
      · go_wp2
        go_round
        case rel => exact ⟨k + 1, by omega, by go_num, fun j hj => by
          by_cases e : j = k
          · subst e; omega
          · exact HN.out j (by omega)⟩
        case measure => simp [intOf]; omega
      · go_wp2
        go_round
        case rel => exact ⟨k + 1, by omega, by go_num, fun j hj => by
          by_cases e : j = k
          · subst e; omega
          · exact HN.out j (by omega)⟩
        case measure => simp [intOf]; omega
      · go_wp2
        go_ret
        exact ⟨Mc.ret_bool (by unfold near; rw [eq_comm, decide_eq_true_eq]; omega), rfl⟩
    · have HE : Hid (near x f m = false) := by
        unfold Hid near
        rw [decide_eq_false_iff_not]
        intro h
        by_cases hxf : f ≤ x
        · have := HN.out (x - f).toNat (by omega)
          omega
        · have := HN.out 0 (by omega)
          omega
      go_wp2
      go_ret
      exact ⟨Mc.ret_bool HE.out.symm, rfl⟩

set_option maxHeartbeats 1000000 in
set_option maxRecDepth 100000 in
theorem work_any {pa : Option Addr} {pn : Nat} (pc : Nat) {ps : List (Int × Int)} {w : World} (P : Ps w pa pn ps) (hp : pn ≤ 300) (hq : ∀ p ∈ ps, 0 ≤ p.2 ∧ p.2 ≤ 400) :
    Calls Tryd.prog 11 #[.slice pa pn pc] w fun e w' => ∃ z, e = .returned (.int .i64 z) ∧ Gr w w' := by
  by_cases p0 : pn = 0
  · subst p0
    clear P
    go_enter Tryd.func11, Tryd.ntmps11
    go_wp2
    go_loopw [3, 4] (fun n i wr => n = .int .i64 0 ∧ i = .int .i64 0 ∧ wr = w) (fun _ _ _ => 0)
    case atStart => exact ⟨rfl, rfl, rfl⟩
    case round =>
      obtain ⟨rfl, rfl, rfl⟩ := hrel
      go_wp2
      go_ret
      exact ⟨_, rfl, Gr.refl _⟩
  · obtain ⟨b, o, rfl, hb, hc⟩ := P.spot (by omega)
    have HC : Hid (∀ i p, ps[i]? = some p → w.cell? ⟨b, o + i * 2, none⟩ = some (.int .i64 p.1) ∧ w.cell? ⟨b, o + i * 2 + 1, none⟩ = some (.int .i64 p.2)) := hc
    have HQ : Hid (∀ p ∈ ps, 0 ≤ p.2 ∧ p.2 ≤ 400) := hq
    have HL : Hid (ps.length = pn) := P.len
    clear hc hq P
    go_enter Tryd.func11, Tryd.ntmps11
    go_wp2
    go_loopw [3, 4] (fun n i wr => ∃ (k : Nat) (z : Int), k ≤ pn ∧ i = .int .i64 k ∧ n = .int .i64 z ∧ 0 ≤ z ∧ z ≤ 3400 ∧ Gr w wr) (fun _ i _ => pn - (intOf i).toNat)
    case atStart => exact ⟨0, 0, Nat.zero_le _, rfl, rfl, by omega, by omega, Gr.refl _⟩
    case round =>
      obtain ⟨k, z, hk, rfl, rfl, z0, z1, G⟩ := hrel
      have HG : Hid (Gr w wr) := G
      clear G
      by_cases hlt : k < pn
      · obtain ⟨p, hp2⟩ : ∃ p, ps[k]? = some p := ⟨_, List.getElem?_eq_getElem (by rw [HL.out]; exact hlt)⟩
        obtain ⟨q1, q2⟩ := HQ.out p (List.mem_of_getElem? hp2)
        have c1 : wr.cell? ⟨b, o + k * 2 + 1, none⟩ = some (.int .i64 p.2) := (HG.out.cell _ (by exact hb)).trans (HC.out k p hp2).2
        clear hp2
        obtain ⟨p1, y⟩ := p
        simp only at *
        by_cases hz : z ≤ 3000
        · by_cases hy : 0 < y
          · have hm : y ≤ 3001 := by omega
            go_wp2
            all_goals
              go_roundw
              case rel => exact ⟨k + 1, _, by omega, by go_num, rfl, by omega, by omega, HG.out⟩
              case measure => simp [intOf]; omega
          · go_wp2
            go_roundw
            case rel => exact ⟨k + 1, _, by omega, by go_num, rfl, by omega, by omega, HG.out⟩
            case measure => simp [intOf]; omega
        · go_wp2
          go_ret
          first | exact ⟨_, rfl, HG.out⟩ | exact ⟨⟨_, rfl⟩, HG.out⟩ | exact HG.out
      · go_wp2
        go_ret
        first | exact ⟨_, rfl, HG.out⟩ | exact ⟨⟨_, rfl⟩, HG.out⟩ | exact HG.out
end Go.Proofs.YtdiofidmlgliiaaDoor.Mc
/-
  What ferrybridgeref4.atom returns, way by way: where no word is, of LRW, of SCW, of the others; and nothing old in memory turns.
-/
namespace Go.Proofs.YtdiofidmlgliiaaDoor.Hr
open Go.ChangeShapes Go.WideShapes Go.ChangeAt Go.RowKit Mm Hh
set_option linter.unusedVariables false
set_option linter.unusedSimpArgs false

variable {w w' : World} {I Z D : Array Value} {d : Dv} {ao : Option Addr} {n cap B : Nat} {l : List UInt8}
/-- An instruction's cells. -/
def iA (op rd r1 r2 im : Int) : Array Value := #[.int .i64 op, .int .i64 rd, .int .i64 r1, .int .i64 r2, .int .i32 im]
theorem three_blocks {A : Array Value} {t u v : Nat} (g : Gr (((w.alloc (.cells A t)).alloc (.cells I u)).alloc (.cells Z v)) w') :
    w'.heap[w.heap.size]? = some (.cells A t (0, 0)) ∧ w'.heap[w.heap.size + 1]? = some (.cells I u (0, 0)) ∧ w'.heap[w.heap.size + 1 + 1]? = some (.cells Z v (0, 0)) := by
  refine ⟨heap_of_gr g ?_, heap_of_gr g ?_, heap_of_gr g ?_⟩
  · rw [heap_alloc_old _ _ (by simp; omega)]; exact heap_alloc2_old _ _ _
  · rw [heap_alloc_old _ _ (by simp)]; exact heap_alloc2_new _ _ _
  · have := heap_alloc_new ((w.alloc (.cells A t)).alloc (.cells I u)) (.cells Z v)
    simpa using this
theorem first_of_three (w : World) (A I Z : Array Value) (t u v : Nat) : (((w.alloc (.cells A t)).alloc (.cells I u)).alloc (.cells Z v)).heap[w.heap.size]? = some (.cells A t (0, 0)) := (three_blocks (Gr.refl _)).1

set_option maxHeartbeats 1000000 in
theorem atom_fault (o : d.Ok) (hm : d.m = .slice ao n cap) (op rd r1 r2 im a b : Int) (M : Mem w ao n l) (hn : n ≤ 140737488351232) (h0 : 0 ≤ a) (h1 : a < 4294967296) (ok : ldOk l 13 a = false) :
    Calls Tryd.prog 68 #[.agg (dA d), .agg (iA op rd r1 r2 im), .int .u32 a, .int .u32 b] w fun e w' => e = .returned (.tuple #[.agg (dA (d.setH (d.h.trap (if op = 46 then 3 else 4)))), .bool false]) ∧ Gr w w' := by
  have L : Hid (∀ W : World, Gr w W → Calls Tryd.prog 58 #[.slice ao n cap, .int .i64 13, .int .u32 a] W fun e w' => e = .returned (.tuple #[.int .u32 (ldV l 13 a), .bool false]) ∧ w' = W) := fun W G => by
    have := Mr.Load_any cap 13 a (M.of G) hn h0 h1
    rwa [ok] at this
  have T : Hid (∀ (c : Int) (W : World), _) := fun c W => trap_any o c W
  have SE : Hid (∀ c, (dA (d.setH (d.h.trap c))).size = 41) := fun c => dA_size (d := d.setH _) (o.h.trap c)
  have H1 : Hid (∀ c, (dA (d.setH (d.h.trap c))).all (·.oneCell') = true) := fun c => one_dA (o.setH (o.h.trap c))
  have g37 : (dA d)[37]? = some (.slice ao n cap) := by rw [dA_fld o.h 0]; simp [hm]
  have hs : Hid ((dA d).size = 41) := dA_size o.h
  generalize dA d = D0 at *
  generalize ldV l 13 a = y at *
  clear M hm ok o
  unfold iA
  by_cases h46 : op = 46
  · rw [if_pos h46]
    have b46 : (op == 46) = true := by simp [h46]
    clear h46
    have S3 := SE.out 3
    have O3 := H1.out 3
    generalize hD : dA (d.setH (d.h.trap 3)) = D2 at *
    have T3 : Hid (∀ W : World, Calls Tryd.prog 59 #[.agg D0, .int .i64 3] W fun e w' => e = .returned (.agg D2) ∧ Gr W w') := fun W => by rw [← hD]; exact T.out 3 W
    have HS : Hid _ := S3
    have HO : Hid _ := O3
    clear SE H1 T S3 O3 hD
    go_enter Tryd.func68, Tryd.ntmps68
    go_wp2_with fail
    refine (L.out _ ((((Gr.refl _).alloc _).alloc _).alloc _)).mono ?_
    rintro e w' ⟨rfl, rfl⟩
    go_wp2_with (refine wpList_load_row rfl 81 _ rfl w.heap.size rfl 81 D0 (0, 0) _ ?hb1 Tryd.underlying81 rfl (by rw [hs.out]; exact iD) ?_; (case hb1 => exact first_of_three w _ _ _ _ _ _))
    refine (T3.out _).mono ?_
    rintro e w1 ⟨rfl, G1⟩
    have HR : Hid (∃ Z : Array Value, Z.size = 41 ∧ w1.heap[w.heap.size + 1 + 1]? = some (.cells Z 81 (0, 0))) := ⟨_, rfl, (three_blocks G1).2.2⟩
    have HG : Hid (Gr w w1) := ((((Gr.refl _).alloc _).alloc _).alloc _).trans G1
    obtain ⟨Z, hz, hR⟩ := HR.out
    have HR2 : Hid _ := hR
    clear G1 T3 L HR hR
    go_wp2_with (refine wpList_store_row rfl 81 _ _ rfl (w.heap.size + 1 + 1) D2 rfl rfl 81 Z ?hb2 (by rw [HS.out]; exact iD) (by rw [HS.out, hz]) HO.out ?_; (case hb2 => exact HR2.out))
    refine bodyPost_ret (v := .tuple #[.agg D2, .bool false]) (results_cell_tmp' Tryd.results68 _ _ _ _ _ (0, 0) _ _ rfl rfl (srh HR2.out) Tryd.underlying81 rfl (by rw [HS.out]; exact iD)) rfl ⟨rfl, ?_⟩
    exact gr_setRow HG.out (by omega) _
  · rw [if_neg h46]
    have b46 : (op == 46) = false := by simp [h46]
    clear h46
    have S3 := SE.out 4
    have O3 := H1.out 4
    generalize hD : dA (d.setH (d.h.trap 4)) = D2 at *
    have T3 : Hid (∀ W : World, Calls Tryd.prog 59 #[.agg D0, .int .i64 4] W fun e w' => e = .returned (.agg D2) ∧ Gr W w') := fun W => by rw [← hD]; exact T.out 4 W
    have HS : Hid _ := S3
    have HO : Hid _ := O3
    clear SE H1 T S3 O3 hD
    go_enter Tryd.func68, Tryd.ntmps68
    go_wp2_with fail
    refine (L.out _ ((((Gr.refl _).alloc _).alloc _).alloc _)).mono ?_
    rintro e w' ⟨rfl, rfl⟩
    go_wp2_with (refine wpList_load_row rfl 81 _ rfl w.heap.size rfl 81 D0 (0, 0) _ ?hb1 Tryd.underlying81 rfl (by rw [hs.out]; exact iD) ?_; (case hb1 => exact first_of_three w _ _ _ _ _ _))
    refine (T3.out _).mono ?_
    rintro e w1 ⟨rfl, G1⟩
    have HR : Hid (∃ Z : Array Value, Z.size = 41 ∧ w1.heap[w.heap.size + 1 + 1]? = some (.cells Z 81 (0, 0))) := ⟨_, rfl, (three_blocks G1).2.2⟩
    have HG : Hid (Gr w w1) := ((((Gr.refl _).alloc _).alloc _).alloc _).trans G1
    obtain ⟨Z, hz, hR⟩ := HR.out
    have HR2 : Hid _ := hR
    clear G1 T3 L HR hR
    go_wp2_with (refine wpList_store_row rfl 81 _ _ rfl (w.heap.size + 1 + 1) D2 rfl rfl 81 Z ?hb2 (by rw [HS.out]; exact iD) (by rw [HS.out, hz]) HO.out ?_; (case hb2 => exact HR2.out))
    refine bodyPost_ret (v := .tuple #[.agg D2, .bool false]) (results_cell_tmp' Tryd.results68 _ _ _ _ _ (0, 0) _ _ rfl rfl (srh HR2.out) Tryd.underlying81 rfl (by rw [HS.out]; exact iD)) rfl ⟨rfl, ?_⟩
    exact gr_setRow HG.out (by omega) _

theorem hold_e (o : d.Ok) (b : Bool) (a : Int) : ∃ X : Array Value, X.size = 41 ∧ (dA d).setIfInBounds 33 (.bool b) = X ∧ X.setIfInBounds 34 (.int .u32 a) = dA (d.setH (d.h.hold b a)) := by
  have o1 : Hv.Ok { d.h with held := b } := ⟨o.h.len, o.h.reg, o.h.pc0, o.h.pc1, o.h.at0, o.h.at1⟩
  exact ⟨_, dA_size (d := { d with h := { d.h with held := b } }) o1, dA_set o.h (by omega) (set_held o.h b), dA_set (d := { d with h := { d.h with held := b } }) o1 (by omega) (set_heldAt o1 a)⟩

/-- What atom's three blocks hold in a later world: the struct, the instruction's Op and Rd, and room for the result. -/
structure Bl (w : World) (B : Nat) (D I Z : Array Value) : Prop where
  d : w.heap[B]? = some (.cells D 81 (0, 0))
  i : w.heap[B + 1]? = some (.cells I 23 (0, 0))
  z : w.heap[B + 1 + 1]? = some (.cells Z 81 (0, 0))
theorem Bl.of (h : Bl w B D I Z) (g : Gr w w') : Bl w' B D I Z := ⟨heap_of_gr g h.d, heap_of_gr g h.i, heap_of_gr g h.z⟩
theorem Bl.cellI (h : Bl w B D I Z) (j : Nat) : w.cell? ⟨B + 1, j, none⟩ = I[j]? := cr h.i
theorem Bl.cellD (h : Bl w B D I Z) (j : Nat) : w.cell? ⟨B, j, none⟩ = D[j]? := cr h.d
theorem Bl.fz (h : Bl w B D I Z) (j : Nat) : w.frozen? ⟨B, j, none⟩ = false := frozen_of_row _ _ j _ _ h.d
theorem Bl.set (h : Bl w B D I Z) (j : Nat) (v : Value) : Bl (w.setCell ⟨B, j, none⟩ v) B (D.setIfInBounds j v) I Z :=
  ⟨hss h.d, by rw [hso (by simp)]; exact h.i, by rw [hso (by simp; omega)]; exact h.z⟩
theorem Bl.row (h : Bl w B D I Z) (E : Array Value) : Bl (w.setRow B E) B E I Z :=
  ⟨srh h.d, by rw [sro (by omega)]; exact h.i, by rw [sro (by omega)]; exact h.z⟩

set_option maxHeartbeats 1000000 in
theorem atom_lr {d : Dv} (o : d.Ok) {ao : Option Addr} {n cap : Nat} {l : List UInt8} (hm : d.m = .slice ao n cap) (rd r1 r2 im a b : Int) {w : World} (M : Mem w ao n l) (hn : n ≤ 140737488351232) (h0 : 0 ≤ a) (h1 : a < 4294967296) (hr0 : 0 ≤ rd) (hr1 : rd < 32) (ok : ldOk l 13 a = true) (hv0 : 0 ≤ ldV l 13 a) (hv1 : ldV l 13 a < 4294967296) :
    Calls Tryd.prog 68 #[.agg (dA d), .agg (iA 46 rd r1 r2 im), .int .u32 a, .int .u32 b] w fun e w' => e = .returned (.tuple #[.agg (dA ((d.setH (d.h.hold true a)).setH ((d.h.hold true a).set rd.toNat (ldV l 13 a)))), .bool true]) ∧ Gr w w' := by
  have L : Hid (∀ W : World, Gr w W → Calls Tryd.prog 58 #[.slice ao n cap, .int .i64 13, .int .u32 a] W fun e w' => e = .returned (.tuple #[.int .u32 (ldV l 13 a), .bool true]) ∧ Gr W w') := fun W G => by
    have := Mr.Load_any cap 13 a (M.of G) hn h0 h1
    rw [ok] at this
    exact this.mono fun e w' h => ⟨h.1, by rw [h.2]; exact Gr.refl _⟩
  have o1 : (d.setH (d.h.hold true a)).Ok := o.setH (o.h.hold true h0 h1)
  have T : Hid (∀ W : World, Calls Tryd.prog 63 #[.agg (dA (d.setH (d.h.hold true a))), .int .i64 rd, .int .u32 (ldV l 13 a)] W fun e w' => e = .returned (.agg (dA ((d.setH (d.h.hold true a)).setH ((d.h.hold true a).set rd.toNat (ldV l 13 a))))) ∧ Gr W w') := fun W => set_any o1 rd _ W hr0 hr1 hv0 hv1
  have HS : Hid ((dA ((d.setH (d.h.hold true a)).setH ((d.h.hold true a).set rd.toNat (ldV l 13 a)))).size = 41) := dA_size (d := (d.setH _).setH _) (o1.h.set _ hv0 hv1)
  have HO : Hid ((dA ((d.setH (d.h.hold true a)).setH ((d.h.hold true a).set rd.toNat (ldV l 13 a)))).all (·.oneCell') = true) := one_dA (o1.setH (o1.h.set _ hv0 hv1))
  have g37 : (dA d)[37]? = some (.slice ao n cap) := by rw [dA_fld o.h 0]; simp [hm]
  have g33 : (dA d)[33]? = some (.bool d.h.held) := by rw [dA_get o.h (by omega)]; exact hL_fld o.h 1
  have g34 : (dA d)[34]? = some (.int .u32 d.h.heldAt) := by rw [dA_get o.h (by omega)]; exact hL_fld o.h 2
  have S1 : Hid ((dA (d.setH (d.h.hold true a))).size = 41) := dA_size o1.h
  obtain ⟨X, sX, e1, e2⟩ := hold_e o true a
  generalize d.h.held = q1 at *
  generalize d.h.heldAt = q2 at *
  generalize ldV l 13 a = y at *
  generalize dA ((d.setH (d.h.hold true a)).setH ((d.h.hold true a).set rd.toNat y)) = D2 at *
  generalize dA (d.setH (d.h.hold true a)) = D1 at *
  generalize dA d = D0 at *
  clear M hm ok o o1
  unfold iA
  go_enter Tryd.func68, Tryd.ntmps68
  go_wp2_with fail
  refine (L.out _ ((((Gr.refl _).alloc _).alloc _).alloc _)).mono ?_
  rintro e w1 ⟨rfl, G1⟩
  have HZ : Hid (∃ Z : Array Value, Z.size = 41 ∧ Bl w1 w.heap.size D0 #[.int .i64 46, .int .i64 rd, .int .i64 r1, .int .i64 r2, .int .i32 im] Z) := ⟨_, rfl, (three_blocks G1).1, (three_blocks G1).2.1, (three_blocks G1).2.2⟩
  obtain ⟨Z, hz, hb⟩ := HZ.out
  have HG : Hid (Gr w w1) := ((((Gr.refl _).alloc _).alloc _).alloc _).trans G1
  have c0 : w1.cell? ⟨w.heap.size + 1, 0, none⟩ = some (.int .i64 46) := hb.cellI 0
  have c1 : w1.cell? ⟨w.heap.size + 1, 1, none⟩ = some (.int .i64 rd) := hb.cellI 1
  have c33 : w1.cell? ⟨w.heap.size, 33, none⟩ = some (.bool q1) := (hb.cellD 33).trans g33
  have c34 : w1.cell? ⟨w.heap.size, 34, none⟩ = some (.int .u32 q2) := (hb.cellD 34).trans g34
  have fz := hb.fz
  have HB : Hid (Bl ((w1.setCell ⟨w.heap.size, 33, none⟩ (.bool true)).setCell ⟨w.heap.size, 34, none⟩ (.int .u32 a)) w.heap.size D1 #[.int .i64 46, .int .i64 rd, .int .i64 r1, .int .i64 r2, .int .i32 im] Z) := by
    have := (hb.set 33 (.bool true)).set 34 (.int .u32 a)
    rw [e1, e2] at this
    exact this
  have HG2 : Hid (Gr w ((w1.setCell ⟨w.heap.size, 33, none⟩ (.bool true)).setCell ⟨w.heap.size, 34, none⟩ (.int .u32 a))) := (HG.out.setCell (Nat.le_refl _) _).setCell (Nat.le_refl _) _
  clear G1 L hb HZ e1 e2 sX g33 g34 g37
  go_wp2_with (refine wpList_load_row rfl 81 _ rfl w.heap.size rfl 81 D1 (0, 0) _ ?hb1 Tryd.underlying81 rfl (by rw [S1.out]; exact iD) ?_; (case hb1 => exact HB.out.d))
  refine (T.out _).mono ?_
  rintro e w2 ⟨rfl, G2⟩
  have HG3 : Hid (Gr w w2) := HG2.out.trans G2
  have HR : Hid (w2.heap[w.heap.size + 1 + 1]? = some (.cells Z 81 (0, 0))) := (HB.out.of G2).z
  clear G2 T HG2 HG HB c0 c1 c33 c34 fz
  go_wp2_with (refine wpList_store_row rfl 81 _ _ rfl (w.heap.size + 1 + 1) D2 rfl rfl 81 Z ?hb2 (by rw [HS.out]; exact iD) (by rw [HS.out, hz]) HO.out ?_; (case hb2 => exact HR.out))
  refine bodyPost_ret (v := .tuple #[.agg D2, .bool true]) (results_cell_tmp' Tryd.results68 _ _ _ _ _ (0, 0) _ _ rfl rfl (setRow_heap _ _ _ _ _ (0, 0) HR.out) Tryd.underlying81 rfl (by rw [HS.out]; exact iD)) rfl ⟨rfl, ?_⟩
  exact gr_setRow HG3.out (by omega) _

set_option maxHeartbeats 1000000 in
theorem atom_sc_no {d : Dv} (o : d.Ok) {ao : Option Addr} {n cap : Nat} {l : List UInt8} (hm : d.m = .slice ao n cap) (rd r1 r2 im a b : Int) {w : World} (M : Mem w ao n l) (hn : n ≤ 140737488351232) (h0 : 0 ≤ a) (h1 : a < 4294967296) (hr0 : 0 ≤ rd) (hr1 : rd < 32) (ok : ldOk l 13 a = true) (hmine : ¬ (d.h.held = true ∧ d.h.heldAt = a)) :
    Calls Tryd.prog 68 #[.agg (dA d), .agg (iA 47 rd r1 r2 im), .int .u32 a, .int .u32 b] w fun e w' => e = .returned (.tuple #[.agg (dA ((d.setH (d.h.hold false 0)).setH ((d.h.hold false 0).set rd.toNat 1))), .bool true]) ∧ Gr w w' := by
  have L : Hid (∀ W : World, Gr w W → Calls Tryd.prog 58 #[.slice ao n cap, .int .i64 13, .int .u32 a] W fun e w' => e = .returned (.tuple #[.int .u32 (ldV l 13 a), .bool true]) ∧ Gr W w') := fun W G => by
    have := Mr.Load_any cap 13 a (M.of G) hn h0 h1
    rw [ok] at this
    exact this.mono fun e w' h => ⟨h.1, by rw [h.2]; exact Gr.refl _⟩
  have o1 : (d.setH (d.h.hold false 0)).Ok := o.setH (o.h.hold false (x := 0) (by omega) (by omega))
  have T : Hid (∀ W : World, Calls Tryd.prog 63 #[.agg (dA (d.setH (d.h.hold false 0))), .int .i64 rd, .int .u32 1] W fun e w' => e = .returned (.agg (dA ((d.setH (d.h.hold false 0)).setH ((d.h.hold false 0).set rd.toNat 1)))) ∧ Gr W w') := fun W => set_any o1 rd 1 W hr0 hr1 (by omega) (by omega)
  have HS : Hid ((dA ((d.setH (d.h.hold false 0)).setH ((d.h.hold false 0).set rd.toNat 1))).size = 41) := dA_size (d := (d.setH _).setH _) (o1.h.set _ (x := 1) (by omega) (by omega))
  have HO : Hid ((dA ((d.setH (d.h.hold false 0)).setH ((d.h.hold false 0).set rd.toNat 1))).all (·.oneCell') = true) := one_dA (o1.setH (o1.h.set _ (x := 1) (by omega) (by omega)))
  have g37 : (dA d)[37]? = some (.slice ao n cap) := by rw [dA_fld o.h 0]; simp [hm]
  have g33 : (dA d)[33]? = some (.bool d.h.held) := by rw [dA_get o.h (by omega)]; exact hL_fld o.h 1
  have g34 : (dA d)[34]? = some (.int .u32 d.h.heldAt) := by rw [dA_get o.h (by omega)]; exact hL_fld o.h 2
  have S1 : Hid ((dA (d.setH (d.h.hold false 0))).size = 41) := dA_size o1.h
  obtain ⟨X, sX, e1, e2⟩ := hold_e o false 0
  generalize d.h.held = q1 at *
  generalize d.h.heldAt = q2 at *
  generalize ldV l 13 a = y at *
  generalize dA ((d.setH (d.h.hold false 0)).setH ((d.h.hold false 0).set rd.toNat 1)) = D2 at *
  generalize dA (d.setH (d.h.hold false 0)) = D1 at *
  generalize dA d = D0 at *
  clear M hm ok o o1
  unfold iA
  cases q1 with
  | false =>
    clear hmine
    go_enter Tryd.func68, Tryd.ntmps68
    go_wp2_with fail
    refine (L.out _ ((((Gr.refl _).alloc _).alloc _).alloc _)).mono ?_
    rintro e w1 ⟨rfl, G1⟩
    have HZ : Hid (∃ Z : Array Value, Z.size = 41 ∧ Bl w1 w.heap.size D0 #[.int .i64 47, .int .i64 rd, .int .i64 r1, .int .i64 r2, .int .i32 im] Z) := ⟨_, rfl, (three_blocks G1).1, (three_blocks G1).2.1, (three_blocks G1).2.2⟩
    obtain ⟨Z, hz, hb⟩ := HZ.out
    have HG : Hid (Gr w w1) := ((((Gr.refl _).alloc _).alloc _).alloc _).trans G1
    have c0 : w1.cell? ⟨w.heap.size + 1, 0, none⟩ = some (.int .i64 47) := hb.cellI 0
    have c1 : w1.cell? ⟨w.heap.size + 1, 1, none⟩ = some (.int .i64 rd) := hb.cellI 1
    have c33 : w1.cell? ⟨w.heap.size, 33, none⟩ = some (.bool false) := (hb.cellD 33).trans g33
    have c34 : w1.cell? ⟨w.heap.size, 34, none⟩ = some (.int .u32 q2) := (hb.cellD 34).trans g34
    have fz := hb.fz
    have HB : Hid (Bl ((w1.setCell ⟨w.heap.size, 33, none⟩ (.bool false)).setCell ⟨w.heap.size, 34, none⟩ (.int .u32 0)) w.heap.size D1 #[.int .i64 47, .int .i64 rd, .int .i64 r1, .int .i64 r2, .int .i32 im] Z) := by
      have := (hb.set 33 (.bool false)).set 34 (.int .u32 0)
      rw [e1, e2] at this
      exact this
    have HG2 : Hid (Gr w ((w1.setCell ⟨w.heap.size, 33, none⟩ (.bool false)).setCell ⟨w.heap.size, 34, none⟩ (.int .u32 0))) := (HG.out.setCell (Nat.le_refl _) _).setCell (Nat.le_refl _) _
    clear G1 L hb HZ e1 e2 sX g33 g34 g37
    go_wp2_with (refine wpList_load_row rfl 81 _ rfl w.heap.size rfl 81 D1 (0, 0) _ ?hb1 Tryd.underlying81 rfl (by rw [S1.out]; exact iD) ?_; (case hb1 => exact HB.out.d))
    refine (T.out _).mono ?_
    rintro e w2 ⟨rfl, G2⟩
    have HG3 : Hid (Gr w w2) := HG2.out.trans G2
    have HR : Hid (w2.heap[w.heap.size + 1 + 1]? = some (.cells Z 81 (0, 0))) := (HB.out.of G2).z
    clear G2 T HG2 HG HB c0 c1 c33 c34 fz
    go_wp2_with (refine wpList_store_row rfl 81 _ _ rfl (w.heap.size + 1 + 1) D2 rfl rfl 81 Z ?hb2 (by rw [HS.out]; exact iD) (by rw [HS.out, hz]) HO.out ?_; (case hb2 => exact HR.out))
    refine bodyPost_ret (v := .tuple #[.agg D2, .bool true]) (results_cell_tmp' Tryd.results68 _ _ _ _ _ (0, 0) _ _ rfl rfl (setRow_heap _ _ _ _ _ (0, 0) HR.out) Tryd.underlying81 rfl (by rw [HS.out]; exact iD)) rfl ⟨rfl, ?_⟩
    exact gr_setRow HG3.out (by omega) _
  | true =>
    have hne : (q2 == a) = false := by simp at hmine; simp [hmine]
    clear hmine
    go_enter Tryd.func68, Tryd.ntmps68
    go_wp2_with fail
    refine (L.out _ ((((Gr.refl _).alloc _).alloc _).alloc _)).mono ?_
    rintro e w1 ⟨rfl, G1⟩
    have HZ : Hid (∃ Z : Array Value, Z.size = 41 ∧ Bl w1 w.heap.size D0 #[.int .i64 47, .int .i64 rd, .int .i64 r1, .int .i64 r2, .int .i32 im] Z) := ⟨_, rfl, (three_blocks G1).1, (three_blocks G1).2.1, (three_blocks G1).2.2⟩
    obtain ⟨Z, hz, hb⟩ := HZ.out
    have HG : Hid (Gr w w1) := ((((Gr.refl _).alloc _).alloc _).alloc _).trans G1
    have c0 : w1.cell? ⟨w.heap.size + 1, 0, none⟩ = some (.int .i64 47) := hb.cellI 0
    have c1 : w1.cell? ⟨w.heap.size + 1, 1, none⟩ = some (.int .i64 rd) := hb.cellI 1
    have c33 : w1.cell? ⟨w.heap.size, 33, none⟩ = some (.bool true) := (hb.cellD 33).trans g33
    have c34 : w1.cell? ⟨w.heap.size, 34, none⟩ = some (.int .u32 q2) := (hb.cellD 34).trans g34
    have fz := hb.fz
    have HB : Hid (Bl ((w1.setCell ⟨w.heap.size, 33, none⟩ (.bool false)).setCell ⟨w.heap.size, 34, none⟩ (.int .u32 0)) w.heap.size D1 #[.int .i64 47, .int .i64 rd, .int .i64 r1, .int .i64 r2, .int .i32 im] Z) := by
      have := (hb.set 33 (.bool false)).set 34 (.int .u32 0)
      rw [e1, e2] at this
      exact this
    have HG2 : Hid (Gr w ((w1.setCell ⟨w.heap.size, 33, none⟩ (.bool false)).setCell ⟨w.heap.size, 34, none⟩ (.int .u32 0))) := (HG.out.setCell (Nat.le_refl _) _).setCell (Nat.le_refl _) _
    clear G1 L hb HZ e1 e2 sX g33 g34 g37
    go_wp2_with (refine wpList_load_row rfl 81 _ rfl w.heap.size rfl 81 D1 (0, 0) _ ?hb1 Tryd.underlying81 rfl (by rw [S1.out]; exact iD) ?_; (case hb1 => exact HB.out.d))
    refine (T.out _).mono ?_
    rintro e w2 ⟨rfl, G2⟩
    have HG3 : Hid (Gr w w2) := HG2.out.trans G2
    have HR : Hid (w2.heap[w.heap.size + 1 + 1]? = some (.cells Z 81 (0, 0))) := (HB.out.of G2).z
    clear G2 T HG2 HG HB c0 c1 c33 c34 fz
    go_wp2_with (refine wpList_store_row rfl 81 _ _ rfl (w.heap.size + 1 + 1) D2 rfl rfl 81 Z ?hb2 (by rw [HS.out]; exact iD) (by rw [HS.out, hz]) HO.out ?_; (case hb2 => exact HR.out))
    refine bodyPost_ret (v := .tuple #[.agg D2, .bool true]) (results_cell_tmp' Tryd.results68 _ _ _ _ _ (0, 0) _ _ rfl rfl (setRow_heap _ _ _ _ _ (0, 0) HR.out) Tryd.underlying81 rfl (by rw [HS.out]; exact iD)) rfl ⟨rfl, ?_⟩
    exact gr_setRow HG3.out (by omega) _
end Go.Proofs.YtdiofidmlgliiaaDoor.Hr
/-
  What ferrybridgeref4.atom returns: of SCW that is met, of AMOSWAP to AMOMAXU, and all ways in one ('atom_any').
-/
namespace Go.Proofs.YtdiofidmlgliiaaDoor.Hr
open Go.ChangeShapes Go.WideShapes Go.ChangeAt Go.RowKit Mm Hh
set_option linter.unusedVariables false
set_option linter.unusedSimpArgs false

variable {d : Dv} {w : World}
theorem Dv.Ok.setM (o : d.Ok) (ao : Option Addr) (n cap : Nat) (a k : Int) : (d.setM (.slice ao n cap) a k).Ok := ⟨o.h, rfl, o.out⟩
theorem Bl.lt {B : Nat} {D I Z : Array Value} (h : Bl w B D I Z) : B + 1 + 1 < w.heap.size := (gs h.z).1
/-- What atom answers, where it stores: the hart d1, x for Rd, y in memory. -/
def AtomSt (d d1 : Dv) (op rd r1 r2 im a b x y : Int) (l : List UInt8) (w : World) : Prop :=
  Calls Tryd.prog 68 #[.agg (dA d), .agg (iA op rd r1 r2 im), .int .u32 a, .int .u32 b] w fun e w' => ∃ ao' n' cap', e = .returned (.tuple #[.agg (dA ((d1.setM (.slice ao' n' cap') a 4).setH (d1.h.set rd.toNat x))), .bool true]) ∧ Mem w' ao' n' (stL l 18 a y) ∧ Gr w w' ∧ ∀ ad, ao' = some ad → w.heap.size ≤ ad.block

set_option maxHeartbeats 1000000 in
theorem atom_sc_yes {d : Dv} (o : d.Ok) {ao : Option Addr} {n cap : Nat} {l : List UInt8} (hm : d.m = .slice ao n cap) (rd r1 r2 im a b : Int) {w : World} (M : Mem w ao n l) (hn : n ≤ 140737488351232) (h0 : 0 ≤ a) (h1 : a < 4294967296) (hy0 : 0 ≤ b) (hy1 : b < 4294967296) (hr0 : 0 ≤ rd) (hr1 : rd < 32) (ok : ldOk l 13 a = true) (hmine : d.h.held = true ∧ d.h.heldAt = a) :
    AtomSt d (d.setH (d.h.hold false 0)) 47 rd r1 r2 im a b 0 b l w := by
  unfold AtomSt
  have hx0 : (0 : Int) ≤ 0 := by omega
  have hx1 : (0 : Int) < 4294967296 := by omega
  have o1 : (d.setH (d.h.hold false 0)).Ok := o.setH (o.h.hold false (x := 0) (by omega) (by omega))
  have L : Hid (∀ W : World, Gr w W → Calls Tryd.prog 58 #[.slice ao n cap, .int .i64 13, .int .u32 a] W fun e w' => e = .returned (.tuple #[.int .u32 (ldV l 13 a), .bool true]) ∧ Gr W w') := fun W G => by
    have := Mr.Load_any cap 13 a (M.of G) hn h0 h1
    rw [ok] at this
    exact this.mono fun e w' h => ⟨h.1, by rw [h.2]; exact Gr.refl _⟩
  have S : Hid (∀ W : World, Gr w W → Calls Tryd.prog 65 #[.agg (dA (d.setH (d.h.hold false 0))), .int .i64 18, .int .u32 a, .int .u32 b] W fun e w' => ∃ ao' n' cap', e = .returned (.tuple #[.agg (dA ((d.setH (d.h.hold false 0)).setM (.slice ao' n' cap') a 4)), .bool true]) ∧ Mem w' ao' n' (stL l 18 a b) ∧ Gr W w' ∧ ∀ ad, ao' = some ad → W.heap.size ≤ ad.block) := fun W G => store_yes (d := (d.setH (d.h.hold false 0))) o1 hm 18 a b (M.of G) hn h0 h1 hy0 hy1 (st_of_ld ok)
  have T : Hid (∀ (ao' : Option Addr) (n' c' : Nat) (W : World), Calls Tryd.prog 63 #[.agg (dA ((d.setH (d.h.hold false 0)).setM (.slice ao' n' c') a 4)), .int .i64 rd, .int .u32 0] W fun e w' => e = .returned (.agg (dA (((d.setH (d.h.hold false 0)).setM (.slice ao' n' c') a 4).setH ((d.setH (d.h.hold false 0)).h.set rd.toNat 0)))) ∧ Gr W w') := fun ao' n' c' W => set_any (Dv.Ok.setM o1 ao' n' c' a 4) rd 0 W hr0 hr1 hx0 hx1
  have SM : Hid (∀ (ao' : Option Addr) (n' c' : Nat), (dA ((d.setH (d.h.hold false 0)).setM (.slice ao' n' c') a 4)).size = 41 ∧ (dA ((d.setH (d.h.hold false 0)).setM (.slice ao' n' c') a 4)).all (·.oneCell') = true) := fun ao' n' c' => ⟨dA_size (d := (d.setH (d.h.hold false 0)).setM _ _ _) o1.h, one_dA (Dv.Ok.setM o1 ao' n' c' a 4)⟩
  have SF : Hid (∀ (ao' : Option Addr) (n' c' : Nat), (dA (((d.setH (d.h.hold false 0)).setM (.slice ao' n' c') a 4).setH ((d.setH (d.h.hold false 0)).h.set rd.toNat 0))).size = 41 ∧ (dA (((d.setH (d.h.hold false 0)).setM (.slice ao' n' c') a 4).setH ((d.setH (d.h.hold false 0)).h.set rd.toNat 0))).all (·.oneCell') = true) := fun ao' n' c' => ⟨dA_size (d := ((d.setH (d.h.hold false 0)).setM _ _ _).setH _) (o1.h.set _ hx0 hx1), one_dA ((Dv.Ok.setM o1 ao' n' c' a 4).setH (o1.h.set _ hx0 hx1))⟩
  have g37 : (dA d)[37]? = some (.slice ao n cap) := by rw [dA_fld o.h 0]; simp [hm]
  have g33 : (dA d)[33]? = some (.bool true) := by rw [dA_get o.h (by omega), ← hmine.1]; exact hL_fld o.h 1
  have g34 : (dA d)[34]? = some (.int .u32 a) := by rw [dA_get o.h (by omega), ← hmine.2]; exact hL_fld o.h 2
  have HS1 : Hid ((dA (d.setH (d.h.hold false 0))).size = 41) := dA_size o1.h
  obtain ⟨X, sX, e1, e2⟩ := hold_e o false 0
  generalize ldV l 13 a = y at *
  generalize stL l 18 a b = K at *
  generalize hD1 : dA (d.setH (d.h.hold false 0)) = D1 at *
  generalize dA d = D0 at *
  clear M hm ok o o1 hmine hD1
  unfold iA
  go_enter Tryd.func68, Tryd.ntmps68
  go_wp2_with fail
  refine (L.out _ ((((Gr.refl _).alloc _).alloc _).alloc _)).mono ?_
  rintro e w1 ⟨rfl, G1⟩
  have HZ : Hid (∃ Z : Array Value, Z.size = 41 ∧ Bl w1 w.heap.size D0 #[.int .i64 47, .int .i64 rd, .int .i64 r1, .int .i64 r2, .int .i32 im] Z) := ⟨_, rfl, (three_blocks G1).1, (three_blocks G1).2.1, (three_blocks G1).2.2⟩
  obtain ⟨Z, hz, hb⟩ := HZ.out
  have HG : Hid (Gr w w1) := ((((Gr.refl _).alloc _).alloc _).alloc _).trans G1
  have c0 : w1.cell? ⟨w.heap.size + 1, 0, none⟩ = some (.int .i64 47) := hb.cellI 0
  have c33 : w1.cell? ⟨w.heap.size, 33, none⟩ = some (.bool true) := (hb.cellD 33).trans g33
  have c34 : w1.cell? ⟨w.heap.size, 34, none⟩ = some (.int .u32 a) := (hb.cellD 34).trans g34
  have fz := hb.fz
  have HBl : Hid (Bl ((w1.setCell ⟨w.heap.size, 33, none⟩ (.bool false)).setCell ⟨w.heap.size, 34, none⟩ (.int .u32 0)) w.heap.size D1 #[.int .i64 47, .int .i64 rd, .int .i64 r1, .int .i64 r2, .int .i32 im] Z) := by
    have := (hb.set 33 (.bool false)).set 34 (.int .u32 0)
    rw [e1, e2] at this
    exact this
  have HGW : Hid (Gr w ((w1.setCell ⟨w.heap.size, 33, none⟩ (.bool false)).setCell ⟨w.heap.size, 34, none⟩ (.int .u32 0))) := (HG.out.setCell (Nat.le_refl _) _).setCell (Nat.le_refl _) _
  clear G1 L hb HZ e1 e2 sX g33 g34 g37
  go_wp2_with (refine wpList_load_row rfl 81 _ rfl w.heap.size rfl 81 D1 (0, 0) _ ?hb1 Tryd.underlying81 rfl (by rw [HS1.out]; exact iD) ?_; (case hb1 => exact HBl.out.d))
  refine (S.out _ HGW.out).mono ?_
  rintro e w3 ⟨a1, n1, c1, rfl, M3, G3, F3⟩
  have hb3 := HBl.out.of G3
  have hlt := HBl.out.lt
  have HM3 : Hid (Mem w3 a1 n1 K) := M3
  have HF3 : Hid (∀ ad, a1 = some ad → w.heap.size + 1 + 1 < ad.block) := fun ad q => by have := F3 ad q; omega
  have HG3 : Hid (Gr w w3) := HGW.out.trans G3
  have s2 := SM.out a1 n1 c1
  have s3 := SF.out a1 n1 c1
  have T2 := T.out a1 n1 c1
  generalize hD3 : dA (((d.setH (d.h.hold false 0)).setM (.slice a1 n1 c1) a 4).setH ((d.setH (d.h.hold false 0)).h.set rd.toNat 0)) = D3 at *
  have HD3 : Hid (dA (((d.setH (d.h.hold false 0)).setM (.slice a1 n1 c1) a 4).setH ((d.setH (d.h.hold false 0)).h.set rd.toNat 0)) = D3) := hD3
  generalize dA ((d.setH (d.h.hold false 0)).setM (.slice a1 n1 c1) a 4) = D2 at *
  have HT : Hid (∀ W : World, Calls Tryd.prog 63 #[.agg D2, .int .i64 rd, .int .u32 0] W fun e w' => e = .returned (.agg D3) ∧ Gr W w') := T2
  have H2 : Hid (D2.size = 41 ∧ D2.all (·.oneCell') = true) := s2
  have H3 : Hid (D3.size = 41 ∧ D3.all (·.oneCell') = true) := s3
  have HB3 : Hid (Bl w3 w.heap.size D1 #[.int .i64 47, .int .i64 rd, .int .i64 r1, .int .i64 r2, .int .i32 im] Z) := hb3
  have HB4 : Hid (Bl (w3.setRow w.heap.size D2) w.heap.size D2 #[.int .i64 47, .int .i64 rd, .int .i64 r1, .int .i64 r2, .int .i32 im] Z) := hb3.row D2
  have c1' : (w3.setRow w.heap.size D2).cell? ⟨w.heap.size + 1, 1, none⟩ = some (.int .i64 rd) := HB4.out.cellI 1
  have HG4 : Hid (Gr w (w3.setRow w.heap.size D2)) := gr_setRow HG3.out (Nat.le_refl _) _
  have HM4 : Hid (Mem (w3.setRow w.heap.size D2) a1 n1 K) := HM3.out.apart fun ad q => setRow_other _ _ _ _ (by have := HF3.out ad q; omega)
  clear M3 G3 F3 hb3 s2 s3 T2 hD3 S T SM SF HBl HGW HM3 HG3 c0 c33 c34 fz
  go_wp2_with (first
    | (refine wpList_store_row rfl 81 _ _ rfl w.heap.size D2 rfl rfl 81 D1 ?hb5 (by rw [H2.out.1]; exact iD) (by rw [H2.out.1]; exact HS1.out) H2.out.2 ?_; (case hb5 => exact HB3.out.d))
    | (refine wpList_load_row rfl 81 _ rfl w.heap.size rfl 81 D2 (0, 0) _ ?hb6 Tryd.underlying81 rfl (by rw [H2.out.1]; exact iD) ?_; (case hb6 => exact HB4.out.d)))
  refine (HT.out _).mono ?_
  rintro e w5 ⟨rfl, G5⟩
  have HR5 : Hid (w5.heap[w.heap.size + 1 + 1]? = some (.cells Z 81 (0, 0))) := (HB4.out.of G5).z
  have HM5 : Hid (Mem w5 a1 n1 K) := HM4.out.of G5
  have HG5 : Hid (Gr w w5) := HG4.out.trans G5
  clear G5 HT HB3 HB4 HM4 HG4 c1'
  go_wp2_with (refine wpList_store_row rfl 81 _ _ rfl (w.heap.size + 1 + 1) D3 rfl rfl 81 Z ?hb7 (by rw [H3.out.1]; exact iD) (by rw [H3.out.1, hz]) H3.out.2 ?_; (case hb7 => exact HR5.out))
  refine bodyPost_ret (v := .tuple #[.agg D3, .bool true]) (results_cell_tmp' Tryd.results68 _ _ _ _ _ (0, 0) _ _ rfl rfl (setRow_heap _ _ _ _ _ (0, 0) HR5.out) Tryd.underlying81 rfl (by rw [H3.out.1]; exact iD)) rfl ⟨a1, n1, c1, by rw [HD3.out], ?_, ?_, fun ad q => by have := HF3.out ad q; omega⟩
  · exact HM5.out.apart fun ad q => setRow_other _ _ _ _ (by have := HF3.out ad q; omega)
  · exact gr_setRow HG5.out (by omega) _

set_option maxHeartbeats 1000000 in
theorem atom_amo {d : Dv} (o : d.Ok) {ao : Option Addr} {n cap : Nat} {l : List UInt8} (hm : d.m = .slice ao n cap) (op rd r1 r2 im a b : Int) {w : World} (M : Mem w ao n l) (hn : n ≤ 140737488351232) (h0 : 0 ≤ a) (h1 : a < 4294967296) (hb0 : 0 ≤ b) (hb1 : b < 4294967296) (hr0 : 0 ≤ rd) (hr1 : rd < 32) (ok : ldOk l 13 a = true) (h46 : ¬ op = 46) (h47 : ¬ op = 47) :
    AtomSt d d op rd r1 r2 im a b (ldV l 13 a) (Wd.amo op (ldV l 13 a) b) l w := by
  unfold AtomSt
  have wv := W.ldV l 13 a
  have hx0 := wv.1
  have hx1 := wv.2
  have wa := W.amo (op := op) wv ⟨hb0, hb1⟩
  have hy0 := wa.1
  have hy1 := wa.2
  have o1 : d.Ok := o
  have L : Hid (∀ W : World, Gr w W → Calls Tryd.prog 58 #[.slice ao n cap, .int .i64 13, .int .u32 a] W fun e w' => e = .returned (.tuple #[.int .u32 (ldV l 13 a), .bool true]) ∧ Gr W w') := fun W G => by
    have := Mr.Load_any cap 13 a (M.of G) hn h0 h1
    rw [ok] at this
    exact this.mono fun e w' h => ⟨h.1, by rw [h.2]; exact Gr.refl _⟩
  have Am : Hid (∀ W : World, Calls Tryd.prog 100 #[.int .i64 op, .int .u32 (ldV l 13 a), .int .u32 b] W fun e w' => e = .returned (.int .u32 (Wd.amo op (ldV l 13 a) b)) ∧ Gr W w') := fun W => (Rw.amo_any op _ b W hx0 hx1 hb0 hb1).mono fun e w' ⟨h, k, q⟩ => ⟨h, by rw [q]; exact (Gr.refl _).drewN k⟩
  have S : Hid (∀ W : World, Gr w W → Calls Tryd.prog 65 #[.agg (dA d), .int .i64 18, .int .u32 a, .int .u32 (Wd.amo op (ldV l 13 a) b)] W fun e w' => ∃ ao' n' cap', e = .returned (.tuple #[.agg (dA (d.setM (.slice ao' n' cap') a 4)), .bool true]) ∧ Mem w' ao' n' (stL l 18 a (Wd.amo op (ldV l 13 a) b)) ∧ Gr W w' ∧ ∀ ad, ao' = some ad → W.heap.size ≤ ad.block) := fun W G => store_yes (d := d) o1 hm 18 a (Wd.amo op (ldV l 13 a) b) (M.of G) hn h0 h1 hy0 hy1 (st_of_ld ok)
  have T : Hid (∀ (ao' : Option Addr) (n' c' : Nat) (W : World), Calls Tryd.prog 63 #[.agg (dA (d.setM (.slice ao' n' c') a 4)), .int .i64 rd, .int .u32 (ldV l 13 a)] W fun e w' => e = .returned (.agg (dA ((d.setM (.slice ao' n' c') a 4).setH (d.h.set rd.toNat (ldV l 13 a))))) ∧ Gr W w') := fun ao' n' c' W => set_any (Dv.Ok.setM o1 ao' n' c' a 4) rd (ldV l 13 a) W hr0 hr1 hx0 hx1
  have SM : Hid (∀ (ao' : Option Addr) (n' c' : Nat), (dA (d.setM (.slice ao' n' c') a 4)).size = 41 ∧ (dA (d.setM (.slice ao' n' c') a 4)).all (·.oneCell') = true) := fun ao' n' c' => ⟨dA_size (d := d.setM _ _ _) o1.h, one_dA (Dv.Ok.setM o1 ao' n' c' a 4)⟩
  have SF : Hid (∀ (ao' : Option Addr) (n' c' : Nat), (dA ((d.setM (.slice ao' n' c') a 4).setH (d.h.set rd.toNat (ldV l 13 a)))).size = 41 ∧ (dA ((d.setM (.slice ao' n' c') a 4).setH (d.h.set rd.toNat (ldV l 13 a)))).all (·.oneCell') = true) := fun ao' n' c' => ⟨dA_size (d := (d.setM _ _ _).setH _) (o1.h.set _ hx0 hx1), one_dA ((Dv.Ok.setM o1 ao' n' c' a 4).setH (o1.h.set _ hx0 hx1))⟩
  have g37 : (dA d)[37]? = some (.slice ao n cap) := by rw [dA_fld o.h 0]; simp [hm]
  have HS1 : Hid ((dA d).size = 41) := dA_size o1.h
  have b46 : (op == 46) = false := by simp [h46]
  have b47 : (op == 47) = false := by simp [h47]
  generalize stL l 18 a (Wd.amo op (ldV l 13 a) b) = K at *
  generalize Wd.amo op (ldV l 13 a) b = Y at *
  generalize ldV l 13 a = X at *
  generalize hD0 : dA d = D0 at *
  clear M hm ok o o1 wv wa h46 h47 hD0
  unfold iA
  go_enter Tryd.func68, Tryd.ntmps68
  go_wp2_with fail
  refine (L.out _ ((((Gr.refl _).alloc _).alloc _).alloc _)).mono ?_
  rintro e w0 ⟨rfl, G1⟩
  have HZ : Hid (∃ Z : Array Value, Z.size = 41 ∧ Bl w0 w.heap.size D0 #[.int .i64 op, .int .i64 rd, .int .i64 r1, .int .i64 r2, .int .i32 im] Z) := ⟨_, rfl, (three_blocks G1).1, (three_blocks G1).2.1, (three_blocks G1).2.2⟩
  obtain ⟨Z, hz, hb⟩ := HZ.out
  have HG : Hid (Gr w w0) := ((((Gr.refl _).alloc _).alloc _).alloc _).trans G1
  have c0 : w0.cell? ⟨w.heap.size + 1, 0, none⟩ = some (.int .i64 op) := hb.cellI 0
  have HBo : Hid (Bl w0 w.heap.size D0 #[.int .i64 op, .int .i64 rd, .int .i64 r1, .int .i64 r2, .int .i32 im] Z) := hb
  clear G1 L hb HZ g37
  go_wp2_with fail
  refine (Am.out _).mono ?_
  rintro e w1 ⟨rfl, G2⟩
  have HBl : Hid (Bl w1 w.heap.size D0 #[.int .i64 op, .int .i64 rd, .int .i64 r1, .int .i64 r2, .int .i32 im] Z) := HBo.out.of G2
  have HGW : Hid (Gr w w1) := HG.out.trans G2
  clear Am G2 HBo HG c0
  go_wp2_with (refine wpList_load_row rfl 81 _ rfl w.heap.size rfl 81 D0 (0, 0) _ ?hb1 Tryd.underlying81 rfl (by rw [HS1.out]; exact iD) ?_; (case hb1 => exact HBl.out.d))
  refine (S.out _ HGW.out).mono ?_
  rintro e w3 ⟨a1, n1, c1, rfl, M3, G3, F3⟩
  have hb3 := HBl.out.of G3
  have hlt := HBl.out.lt
  have HM3 : Hid (Mem w3 a1 n1 K) := M3
  have HF3 : Hid (∀ ad, a1 = some ad → w.heap.size + 1 + 1 < ad.block) := fun ad q => by have := F3 ad q; omega
  have HG3 : Hid (Gr w w3) := HGW.out.trans G3
  have s2 := SM.out a1 n1 c1
  have s3 := SF.out a1 n1 c1
  have T2 := T.out a1 n1 c1
  generalize hD3 : dA ((d.setM (.slice a1 n1 c1) a 4).setH (d.h.set rd.toNat X)) = D3 at *
  have HD3 : Hid (dA ((d.setM (.slice a1 n1 c1) a 4).setH (d.h.set rd.toNat X)) = D3) := hD3
  generalize dA (d.setM (.slice a1 n1 c1) a 4) = D2 at *
  have HT : Hid (∀ W : World, Calls Tryd.prog 63 #[.agg D2, .int .i64 rd, .int .u32 X] W fun e w' => e = .returned (.agg D3) ∧ Gr W w') := T2
  have H2 : Hid (D2.size = 41 ∧ D2.all (·.oneCell') = true) := s2
  have H3 : Hid (D3.size = 41 ∧ D3.all (·.oneCell') = true) := s3
  have HB3 : Hid (Bl w3 w.heap.size D0 #[.int .i64 op, .int .i64 rd, .int .i64 r1, .int .i64 r2, .int .i32 im] Z) := hb3
  have HB4 : Hid (Bl (w3.setRow w.heap.size D2) w.heap.size D2 #[.int .i64 op, .int .i64 rd, .int .i64 r1, .int .i64 r2, .int .i32 im] Z) := hb3.row D2
  have c1' : (w3.setRow w.heap.size D2).cell? ⟨w.heap.size + 1, 1, none⟩ = some (.int .i64 rd) := HB4.out.cellI 1
  have HG4 : Hid (Gr w (w3.setRow w.heap.size D2)) := gr_setRow HG3.out (Nat.le_refl _) _
  have HM4 : Hid (Mem (w3.setRow w.heap.size D2) a1 n1 K) := HM3.out.apart fun ad q => setRow_other _ _ _ _ (by have := HF3.out ad q; omega)
  clear M3 G3 F3 hb3 s2 s3 T2 hD3 S T SM SF HBl HGW HM3 HG3
  go_wp2_with (first
    | (refine wpList_store_row rfl 81 _ _ rfl w.heap.size D2 rfl rfl 81 D0 ?hb5 (by rw [H2.out.1]; exact iD) (by rw [H2.out.1]; exact HS1.out) H2.out.2 ?_; (case hb5 => exact HB3.out.d))
    | (refine wpList_load_row rfl 81 _ rfl w.heap.size rfl 81 D2 (0, 0) _ ?hb6 Tryd.underlying81 rfl (by rw [H2.out.1]; exact iD) ?_; (case hb6 => exact HB4.out.d)))
  refine (HT.out _).mono ?_
  rintro e w5 ⟨rfl, G5⟩
  have HR5 : Hid (w5.heap[w.heap.size + 1 + 1]? = some (.cells Z 81 (0, 0))) := (HB4.out.of G5).z
  have HM5 : Hid (Mem w5 a1 n1 K) := HM4.out.of G5
  have HG5 : Hid (Gr w w5) := HG4.out.trans G5
  clear G5 HT HB3 HB4 HM4 HG4 c1'
  go_wp2_with (refine wpList_store_row rfl 81 _ _ rfl (w.heap.size + 1 + 1) D3 rfl rfl 81 Z ?hb7 (by rw [H3.out.1]; exact iD) (by rw [H3.out.1, hz]) H3.out.2 ?_; (case hb7 => exact HR5.out))
  refine bodyPost_ret (v := .tuple #[.agg D3, .bool true]) (results_cell_tmp' Tryd.results68 _ _ _ _ _ (0, 0) _ _ rfl rfl (setRow_heap _ _ _ _ _ (0, 0) HR5.out) Tryd.underlying81 rfl (by rw [H3.out.1]; exact iD)) rfl ⟨a1, n1, c1, by rw [HD3.out], ?_, ?_, fun ad q => by have := HF3.out ad q; omega⟩
  · exact HM5.out.apart fun ad q => setRow_other _ _ _ _ (by have := HF3.out ad q; omega)
  · exact gr_setRow HG5.out (by omega) _

end Go.Proofs.YtdiofidmlgliiaaDoor.Hr
/-
  The frame of ferrybridgeref4.Step: what it answers, as data ('Dd', 'RStep'); the blocks that it makes ('Bs'); the two traps ahead of the instruction.
-/
namespace Go.Proofs.YtdiofidmlgliiaaDoor.Hr
open Go.ChangeShapes Go.WideShapes Go.ChangeAt Go.RowKit Mm Hh
set_option linter.unusedVariables false
set_option linter.unusedSimpArgs false

variable {w w' : World} {B J n cap : Nat} {H Z D I : Array Value} {h : Hv} {ao : Option Addr} {l : List UInt8}
/-- What came out, as a slice. -/
def OutV (w : World) (v : Value) (os : List Int) : Prop := (v = .slice none 0 0 ∧ os = []) ∨ ∃ k x, v = .slice (some ⟨k, 0, none⟩) 1 1 ∧ os = [x] ∧ w.heap[k]? = some (.cells #[.int .u32 x] 59 (0, 0))
/-- Where was stored. -/
def StoV (d : Dv) (ss : List (Int × Int)) : Prop := (ss = [] ∧ d.fro = 0 ∧ d.many = 0) ∨ ss = [(d.fro, d.many)]
/-- In world w, d is the step S; its memory is v0, or lies in a block from b0 on. -/
structure Dd (w : World) (v0 : Value) (b0 : Nat) (d : Dv) (S : Sv) : Prop where
  ok : d.Ok
  h : d.h = S.h
  m : ∃ ao n cap, d.m = .slice ao n cap ∧ Mem w ao n S.m ∧ (d.m = v0 ∨ ∀ ad, ao = some ad → b0 ≤ ad.block)
  out : OutV w d.out S.out
  sto : StoV d S.sto
def RStep (h : Hv) (ao : Option Addr) (n cap : Nat) (w : World) (S : Sv) : Prop :=
  Calls Tryd.prog 32 #[.agg (hA h), .slice ao n cap] w fun e w' => ∃ d, e = .returned (.agg (dA d)) ∧ Dd w' (.slice ao n cap) w.heap.size d S ∧ Gr w w'
/-- The blocks of a call: the hart, room for the result, what was done, the instruction. -/
structure Bt (w : World) (B : Nat) (H Z D : Array Value) : Prop where
  h : w.heap[B]? = some (.cells H 70 (0, 0))
  z : w.heap[B + 1]? = some (.cells Z 81 (0, 0))
  d : w.heap[B + 1 + 1]? = some (.cells D 81 (0, 0))
structure Bs (w : World) (B J : Nat) (H Z D I : Array Value) : Prop where
  t : Bt w B H Z D
  i : w.heap[J]? = some (.cells I 23 (0, 0))
theorem Bt.of (h : Bt w B H Z D) (g : Gr w w') : Bt w' B H Z D := ⟨heap_of_gr g h.h, heap_of_gr g h.z, heap_of_gr g h.d⟩
theorem Bs.of (h : Bs w B J H Z D I) (g : Gr w w') : Bs w' B J H Z D I := ⟨h.t.of g, heap_of_gr g h.i⟩
theorem Bt.row (h : Bt w B H Z D) (E : Array Value) : Bt (w.setRow (B + 1 + 1) E) B H Z E :=
  ⟨by rw [sro (by omega)]; exact h.h, by rw [sro (by omega)]; exact h.z, srh h.d⟩
theorem Bt.lt (h : Bt w B H Z D) : B + 1 + 1 < w.heap.size := (gs h.d).1
theorem Bs.ne (h : Bs w B J H Z D I) : J ≠ B + 1 + 1 := Hc.ne_of_types h.i h.t.d (by decide)
theorem Bs.row (h : Bs w B J H Z D I) (E : Array Value) : Bs (w.setRow (B + 1 + 1) E) B J H Z E I :=
  ⟨h.t.row E, by rw [sro h.ne]; exact h.i⟩
theorem Bt.set (h : Bt w B H Z D) (j : Nat) (v : Value) : Bt (w.setCell ⟨B + 1 + 1, j, none⟩ v) B H Z (D.setIfInBounds j v) :=
  ⟨by rw [hso (by simp; omega)]; exact h.h, by rw [hso (by simp)]; exact h.z, hss h.d⟩
theorem Bt.cellH (h : Bt w B H Z D) (j : Nat) : w.cell? ⟨B, j, none⟩ = H[j]? := cr h.h
theorem Bt.cellD (h : Bt w B H Z D) (j : Nat) : w.cell? ⟨B + 1 + 1, j, none⟩ = D[j]? := cr h.d
theorem Bt.fz (h : Bt w B H Z D) (j : Nat) : w.frozen? ⟨B + 1 + 1, j, none⟩ = false := frozen_of_row _ _ j _ _ h.d
theorem Bs.cellI (h : Bs w B J H Z D I) (j : Nat) : w.cell? ⟨J, j, none⟩ = I[j]? := cr h.i
/-- Three blocks, the third one stored in. -/
theorem three_of {Y : Array Value} (g : Gr ((((w.alloc (.cells H 70)).alloc (.cells Z 81)).alloc (.cells Y 81)).setRow (w.heap.size + 1 + 1) D) w') : Bt w' w.heap.size H Z D := by
  have b := three_blocks (Gr.refl (((w.alloc (.cells H 70)).alloc (.cells Z 81)).alloc (.cells Y 81)))
  refine Bt.of ⟨?_, ?_, ?_⟩ g
  · rw [sro (by omega)]; exact b.1
  · rw [sro (by omega)]; exact b.2.1
  · exact srh b.2.2
theorem third_of (w : World) (H Z Y : Array Value) : (((w.alloc (.cells H 70)).alloc (.cells Z 81)).alloc (.cells Y 81)).heap[w.heap.size + 1 + 1]? = some (.cells Y 81 (0, 0)) := (three_blocks (Gr.refl _)).2.2
theorem gr_three (w : World) (H Z Y D : Array Value) : Gr w ((((w.alloc (.cells H 70)).alloc (.cells Z 81)).alloc (.cells Y 81)).setRow (w.heap.size + 1 + 1) D) := gr_setRow ((((Gr.refl _).alloc _).alloc _).alloc _) (by omega) _
def dv0 (h : Hv) (v : Value) : Dv := ⟨h, v, Hc.nilS, 0, 0⟩
theorem dv0_ok (o : h.Ok) (ao : Option Addr) (n cap : Nat) : (dv0 h (.slice ao n cap)).Ok := ⟨o, rfl, rfl⟩
theorem pc_e {d : Dv} (o : d.h.Ok) (x : Int) : (dA d).setIfInBounds 32 (.int .u32 x) = dA (d.setH (d.h.go x)) := dA_set o (by omega) (set_pc o x)
/-- The instruction's premises. -/
structure Pr (h : Hv) (ao : Option Addr) (n cap : Nat) (l : List UInt8) (w : World) (x op rd : Int) (r1 r2 : Nat) (im : Int) : Prop where
  o : h.Ok
  M : Mem w ao n l
  hn : n ≤ 140737488351232
  ok : ldOk l 13 h.pc = true
  ex : x = ldV l 13 h.pc
  D : ∀ W : World, Calls Tryd.prog 60 #[.int .u32 x] W fun e w' => e = .returned (.tuple #[.agg #[.int .i64 op, .int .i64 rd, .int .i64 r1, .int .i64 r2, .int .i32 im], .bool true]) ∧ Gr W w'
  d0 : 0 ≤ rd
  d1 : rd < 32
  s1 : r1 < 32
  t1 : r2 < 32
  i0 : -2147483648 ≤ im
  i1 : im < 2147483648
theorem lo_W (x : Int) : 0 ≤ Wd.lo x ∧ Wd.lo x < 4294967296 := Wd.lo_bd x

set_option maxHeartbeats 1000000 in
set_option maxRecDepth 100000 in
theorem rs_fetch (o : h.Ok) (M : Mem w ao n l) (hn : n ≤ 140737488351232) (ok : ldOk l 13 h.pc = false) : RStep h ao n cap w ⟨h.trap 1, l, [], []⟩ := by
  unfold RStep
  have L : Hid (∀ W : World, Gr w W → Calls Tryd.prog 58 #[.slice ao n cap, .int .i64 13, .int .u32 h.pc] W fun e w' => e = .returned (.tuple #[.int .u32 (ldV l 13 h.pc), .bool false]) ∧ Gr W w') := fun W G => by
    have := Mr.Load_any cap 13 h.pc (M.of G) hn o.pc0 o.pc1
    rw [ok] at this
    exact this.mono fun e w' h => ⟨h.1, by rw [h.2]; exact Gr.refl _⟩
  have HBu : Hid (Tryd.prog.built 81 [(0, .agg (hA h)), (1, .slice ao n cap)] = some (dA (dv0 h (.slice ao n cap)))) := Hc.built_did o _ rfl
  have HS : Hid ((hA h).size = 37) := hA_size o
  have HS0 : Hid ((dA (dv0 h (.slice ao n cap))).size = 41) := dA_size (d := dv0 _ _) o
  have HO0 : Hid ((dA (dv0 h (.slice ao n cap))).all (·.oneCell') = true) := one_dA (dv0_ok o _ _ _)
  have gpc : (hA h)[32]? = some (.int .u32 h.pc) := by simp only [hA, List.getElem?_toArray]; exact hL_fld o 0
  have Tr : Hid (∀ W : World, _) := fun W => trap_any (dv0_ok o ao n cap) 1 W
  have HSt : Hid ((dA ((dv0 h (.slice ao n cap)).setH ((dv0 h (.slice ao n cap)).h.trap 1))).size = 41) := dA_size (d := (dv0 h (.slice ao n cap)).setH _) ((dv0_ok o ao n cap).h.trap 1)
  have HOt : Hid ((dA ((dv0 h (.slice ao n cap)).setH ((dv0 h (.slice ao n cap)).h.trap 1))).all (·.oneCell') = true) := one_dA ((dv0_ok o ao n cap).setH ((dv0_ok o ao n cap).h.trap 1))
  have Okt : Hid (((dv0 h (.slice ao n cap)).setH ((dv0 h (.slice ao n cap)).h.trap 1)).Ok) := (dv0_ok o ao n cap).setH ((dv0_ok o ao n cap).h.trap 1)
  generalize hDt : dA ((dv0 h (.slice ao n cap)).setH ((dv0 h (.slice ao n cap)).h.trap 1)) = Dt at *
  have HDt : Hid _ := hDt
  clear hDt
  have HM : Hid _ := M
  generalize dA (dv0 h (.slice ao n cap)) = D0 at *
  generalize hA h = H at *
  generalize ldV l 13 h.pc = x at *
  generalize h.pc = pc at *
  clear M ok o
  have kpc : ∀ Z Y : Array Value, ((((w.alloc (.cells H 70)).alloc (.cells Z 81)).alloc (.cells Y 81)).setRow (w.heap.size + 1 + 1) D0).cell? ⟨w.heap.size, 32, none⟩ = some (.int .u32 pc) := fun Z Y => ((three_of (Gr.refl _)).cellH 32).trans gpc
  go_enter Tryd.func32, Tryd.ntmps32
  go_wp2_with (first
    | (refine wpList_load_row rfl 70 _ rfl w.heap.size rfl 70 H (0, 0) _ ?ha1 Tryd.underlying70 rfl (by rw [HS.out]; exact iH) ?_; (case ha1 => exact heap_alloc2_old w _ _))
    | (refine wpList_buildTo rfl 81 _ rfl _ rfl D0 (by have := HBu.out; simp [Act.eval, Act.put]; exact this) ?_)
    | (refine wpList_store_row rfl 81 _ _ rfl (w.heap.size + 1 + 1) D0 rfl rfl 81 _ (third_of w _ _ _) (by rw [HS0.out]; exact iD) (by rw [HS0.out]; rfl) HO0.out ?_))
  refine (L.out _ (gr_three w _ _ _ _)).mono ?_
  rintro e w1 ⟨rfl, G1⟩
  have HZ : Hid (∃ Z : Array Value, Z.size = 41 ∧ Bt w1 w.heap.size H Z D0) := ⟨_, rfl, three_of G1⟩
  obtain ⟨Z, hz, hb⟩ := HZ.out
  have HG1 : Hid (Gr w w1) := (gr_three w _ _ _ _).trans G1
  have HB1 : Hid _ := hb
  clear G1 L hb HZ HBu kpc
  go_wp2_with (refine wpList_load_row rfl 81 _ rfl (w.heap.size + 1 + 1) rfl 81 D0 (0, 0) _ ?hd1 Tryd.underlying81 rfl (by rw [HS0.out]; exact iD) ?_; (case hd1 => exact HB1.out.d))
  refine (Tr.out _).mono ?_
  rintro e wt ⟨rfl, Gt⟩
  have HRt : Hid (wt.heap[w.heap.size + 1]? = some (.cells Z 81 (0, 0))) := (HB1.out.of Gt).z
  have HGt : Hid (Gr w wt) := HG1.out.trans Gt
  clear Gt Tr
  go_wp2_with (refine wpList_store_row rfl 81 _ _ rfl (w.heap.size + 1) Dt rfl rfl 81 Z ?hd2 (by rw [HSt.out]; exact iD) (by rw [HSt.out, hz]) HOt.out ?_; (case hd2 => exact HRt.out))
  refine bodyPost_ret (v := .agg Dt) (results_cell_row rfl _ _ _ _ _ (0, 0) _ rfl (srh HRt.out) Tryd.underlying81 rfl (by rw [HSt.out]; exact iD)) rfl ⟨(dv0 h (.slice ao n cap)).setH ((dv0 h (.slice ao n cap)).h.trap 1), by rw [HDt.out], ⟨Okt.out, rfl, ⟨ao, n, cap, rfl, HM.out.of (gr_setRow HGt.out (by omega) _), .inl rfl⟩, .inl ⟨rfl, rfl⟩, .inl ⟨rfl, rfl, rfl⟩⟩, ?_⟩
  exact gr_setRow HGt.out (by omega) _

set_option maxHeartbeats 1000000 in
set_option maxRecDepth 100000 in
theorem rs_word (o : h.Ok) (M : Mem w ao n l) (hn : n ≤ 140737488351232) (ok : ldOk l 13 h.pc = true) (D : ∀ W : World, Calls Tryd.prog 60 #[.int .u32 (ldV l 13 h.pc)] W fun e w' => e = .returned (.tuple #[.agg #[.int .i64 0, .int .i64 0, .int .i64 0, .int .i64 0, .int .i32 0], .bool false]) ∧ Gr W w') : RStep h ao n cap w ⟨h.trap 2, l, [], []⟩ := by
  unfold RStep
  have L : Hid (∀ W : World, Gr w W → Calls Tryd.prog 58 #[.slice ao n cap, .int .i64 13, .int .u32 h.pc] W fun e w' => e = .returned (.tuple #[.int .u32 (ldV l 13 h.pc), .bool true]) ∧ Gr W w') := fun W G => by
    have := Mr.Load_any cap 13 h.pc (M.of G) hn o.pc0 o.pc1
    rw [ok] at this
    exact this.mono fun e w' h => ⟨h.1, by rw [h.2]; exact Gr.refl _⟩
  have HBu : Hid (Tryd.prog.built 81 [(0, .agg (hA h)), (1, .slice ao n cap)] = some (dA (dv0 h (.slice ao n cap)))) := Hc.built_did o _ rfl
  have HS : Hid ((hA h).size = 37) := hA_size o
  have HS0 : Hid ((dA (dv0 h (.slice ao n cap))).size = 41) := dA_size (d := dv0 _ _) o
  have HO0 : Hid ((dA (dv0 h (.slice ao n cap))).all (·.oneCell') = true) := one_dA (dv0_ok o _ _ _)
  have gpc : (hA h)[32]? = some (.int .u32 h.pc) := by simp only [hA, List.getElem?_toArray]; exact hL_fld o 0
  have Tr : Hid (∀ W : World, _) := fun W => trap_any (dv0_ok o ao n cap) 2 W
  have HSt : Hid ((dA ((dv0 h (.slice ao n cap)).setH ((dv0 h (.slice ao n cap)).h.trap 2))).size = 41) := dA_size (d := (dv0 h (.slice ao n cap)).setH _) ((dv0_ok o ao n cap).h.trap 2)
  have HOt : Hid ((dA ((dv0 h (.slice ao n cap)).setH ((dv0 h (.slice ao n cap)).h.trap 2))).all (·.oneCell') = true) := one_dA ((dv0_ok o ao n cap).setH ((dv0_ok o ao n cap).h.trap 2))
  have Okt : Hid (((dv0 h (.slice ao n cap)).setH ((dv0 h (.slice ao n cap)).h.trap 2)).Ok) := (dv0_ok o ao n cap).setH ((dv0_ok o ao n cap).h.trap 2)
  generalize hDt : dA ((dv0 h (.slice ao n cap)).setH ((dv0 h (.slice ao n cap)).h.trap 2)) = Dt at *
  have HDt : Hid _ := hDt
  clear hDt
  have HM : Hid _ := M
  have HD : Hid _ := D
  generalize dA (dv0 h (.slice ao n cap)) = D0 at *
  generalize hA h = H at *
  generalize ldV l 13 h.pc = x at *
  generalize h.pc = pc at *
  clear M ok o D
  have kpc : ∀ Z Y : Array Value, ((((w.alloc (.cells H 70)).alloc (.cells Z 81)).alloc (.cells Y 81)).setRow (w.heap.size + 1 + 1) D0).cell? ⟨w.heap.size, 32, none⟩ = some (.int .u32 pc) := fun Z Y => ((three_of (Gr.refl _)).cellH 32).trans gpc
  go_enter Tryd.func32, Tryd.ntmps32
  go_wp2_with (first
    | (refine wpList_load_row rfl 70 _ rfl w.heap.size rfl 70 H (0, 0) _ ?ha1 Tryd.underlying70 rfl (by rw [HS.out]; exact iH) ?_; (case ha1 => exact heap_alloc2_old w _ _))
    | (refine wpList_buildTo rfl 81 _ rfl _ rfl D0 (by have := HBu.out; simp [Act.eval, Act.put]; exact this) ?_)
    | (refine wpList_store_row rfl 81 _ _ rfl (w.heap.size + 1 + 1) D0 rfl rfl 81 _ (third_of w _ _ _) (by rw [HS0.out]; exact iD) (by rw [HS0.out]; rfl) HO0.out ?_))
  refine (L.out _ (gr_three w _ _ _ _)).mono ?_
  rintro e w1 ⟨rfl, G1⟩
  have HZ : Hid (∃ Z : Array Value, Z.size = 41 ∧ Bt w1 w.heap.size H Z D0) := ⟨_, rfl, three_of G1⟩
  obtain ⟨Z, hz, hb⟩ := HZ.out
  have HG1 : Hid (Gr w w1) := (gr_three w _ _ _ _).trans G1
  have HB1 : Hid _ := hb
  clear G1 L hb HZ HBu kpc
  go_wp2_with fail
  refine (HD.out _).mono ?_
  rintro e w2 ⟨rfl, G2⟩
  have HB2 : Hid (∀ ob, Bt (w2.alloc ob) w.heap.size H Z D0) := fun ob => (HB1.out.of G2).of ((Gr.refl _).alloc _)
  have HG2 : Hid (∀ ob, Gr w (w2.alloc ob)) := fun ob => (HG1.out.trans G2).alloc _
  clear G2 HD HB1 HG1
  go_wp2_with (refine wpList_load_row rfl 81 _ rfl (w.heap.size + 1 + 1) rfl 81 D0 (0, 0) _ ?hd1 Tryd.underlying81 rfl (by rw [HS0.out]; exact iD) ?_; (case hd1 => exact (HB2.out _).d))
  refine (Tr.out _).mono ?_
  rintro e wt ⟨rfl, Gt⟩
  have HRt : Hid (wt.heap[w.heap.size + 1]? = some (.cells Z 81 (0, 0))) := ((HB2.out _).of Gt).z
  have HGt : Hid (Gr w wt) := (HG2.out _).trans Gt
  clear Gt Tr
  go_wp2_with (refine wpList_store_row rfl 81 _ _ rfl (w.heap.size + 1) Dt rfl rfl 81 Z ?hd2 (by rw [HSt.out]; exact iD) (by rw [HSt.out, hz]) HOt.out ?_; (case hd2 => exact HRt.out))
  refine bodyPost_ret (v := .agg Dt) (results_cell_row rfl _ _ _ _ _ (0, 0) _ rfl (srh HRt.out) Tryd.underlying81 rfl (by rw [HSt.out]; exact iD)) rfl ⟨(dv0 h (.slice ao n cap)).setH ((dv0 h (.slice ao n cap)).h.trap 2), by rw [HDt.out], ⟨Okt.out, rfl, ⟨ao, n, cap, rfl, HM.out.of (gr_setRow HGt.out (by omega) _), .inl rfl⟩, .inl ⟨rfl, rfl⟩, .inl ⟨rfl, rfl, rfl⟩⟩, ?_⟩
  exact gr_setRow HGt.out (by omega) _
end Go.Proofs.YtdiofidmlgliiaaDoor.Hr
/-
  ferrybridgeref4.Step up to where its instruction is told: what is left of it ('rsRest': a proposition, and that it is enough).
-/
namespace Go.Proofs.YtdiofidmlgliiaaDoor.Hr
open Go.ChangeShapes Go.WideShapes Go.ChangeAt Go.RowKit Mm Hh
set_option linter.unusedVariables false
set_option linter.unusedSimpArgs false

variable {d : Dv} {rd im : Int} {w w5 : World} {J r1 r2 : Nat} {Z : Array Value}
/-- What is shown further down. -/
structure Rest (P : Prop) : Prop where
  out : P
theorem rshare {P Q : Prop} (h : Rest P → Q) (p : P) : Q := h ⟨p⟩
set_option maxHeartbeats 2000000 in
set_option maxRecDepth 100000 in
def rsRest {h : Hv} {ao : Option Addr} {n cap : Nat} {l : List UInt8} {w : World} {x op rd : Int} {r1 r2 : Nat} {im : Int} (P : Pr h ao n cap l w x op rd r1 r2 im) (S : Sv) : (G : Prop) ×' (Rest G → RStep h ao n cap w S) := by
  apply PSigma.mk
  intro CONT
  unfold RStep
  have o := P.o
  have M := P.M
  have hn := P.hn
  have ok := P.ok
  have D := P.D
  rw [P.ex] at D
  have s1 := P.s1
  have t1 := P.t1
  have i0 := P.i0
  have i1 := P.i1
  have HD : Hid _ := D
  have wp := W.pc o
  have wa := W.reg o r1
  have wb := W.reg o r2
  have wn := W.lo im
  have Fo : Hid (∀ W : World, Calls Tryd.prog 61 #[.int .i64 im] W fun e w' => e = .returned (.int .u32 (Wd.lo im)) ∧ Gr W w') := fun W => (Rw.Of_any im W (by omega) (by omega)).mono fun e w' h => ⟨h.1, by rw [h.2]; exact Gr.refl _⟩
  have S4 : Hid (∀ W : World, Calls Tryd.prog 62 #[.int .u32 h.pc, .int .u32 4] W fun e w' => e = .returned (.int .u32 (Wd.lo (h.pc + 4))) ∧ Gr W w') := fun W => (sum_any h.pc 4 W wp.1 wp.2 (by omega) (by omega)).mono fun e w' h => ⟨h.1, by rw [h.2]; exact Gr.refl _⟩
  have ST : Hid (∀ W : World, Calls Tryd.prog 62 #[.int .u32 (rg h r1), .int .u32 (Wd.lo im)] W fun e w' => e = .returned (.int .u32 (Wd.lo (rg h r1 + Wd.lo im))) ∧ Gr W w') := fun W => (sum_any _ _ W wa.1 wa.2 wn.1 wn.2).mono fun e w' h => ⟨h.1, by rw [h.2]; exact Gr.refl _⟩
  have SP : Hid (∀ W : World, Calls Tryd.prog 62 #[.int .u32 h.pc, .int .u32 (Wd.lo im)] W fun e w' => e = .returned (.int .u32 (Wd.lo (h.pc + Wd.lo im))) ∧ Gr W w') := fun W => (sum_any _ _ W wp.1 wp.2 wn.1 wn.2).mono fun e w' h => ⟨h.1, by rw [h.2]; exact Gr.refl _⟩
  have g1 : (hA h)[r1]? = some (.int .u32 (rg h r1)) := by simp only [hA, List.getElem?_toArray]; exact hL_reg o s1
  have g2 : (hA h)[r2]? = some (.int .u32 (rg h r2)) := by simp only [hA, List.getElem?_toArray]; exact hL_reg o t1
  have HM : Hid _ := M
  have L : Hid (∀ W : World, Gr w W → Calls Tryd.prog 58 #[.slice ao n cap, .int .i64 13, .int .u32 h.pc] W fun e w' => e = .returned (.tuple #[.int .u32 (ldV l 13 h.pc), .bool true]) ∧ Gr W w') := fun W G => by
    have := Mr.Load_any cap 13 h.pc (M.of G) hn o.pc0 o.pc1
    rw [ok] at this
    exact this.mono fun e w' h => ⟨h.1, by rw [h.2]; exact Gr.refl _⟩
  have HBu : Hid (Tryd.prog.built 81 [(0, .agg (hA h)), (1, .slice ao n cap)] = some (dA (dv0 h (.slice ao n cap)))) := Hc.built_did o _ rfl
  have HS : Hid ((hA h).size = 37) := hA_size o
  have HS0 : Hid ((dA (dv0 h (.slice ao n cap))).size = 41) := dA_size (d := dv0 _ _) o
  have HO0 : Hid ((dA (dv0 h (.slice ao n cap))).all (·.oneCell') = true) := one_dA (dv0_ok o _ _ _)
  have gpc : (hA h)[32]? = some (.int .u32 h.pc) := by simp only [hA, List.getElem?_toArray]; exact hL_fld o 0
  generalize hE0 : dA (dv0 h (.slice ao n cap)) = D0 at *
  generalize hE1 : hA h = H at *
  generalize hth : (Wd.lo (rg h r1 + Wd.lo im)) = th at *
  generalize hpn : (Wd.lo (h.pc + Wd.lo im)) = pn at *
  generalize hp4 : (Wd.lo (h.pc + 4)) = p4 at *
  generalize hnn : (Wd.lo im) = nn at *
  generalize hxa : (rg h r1) = xa at *
  generalize hxb : (rg h r2) = xb at *
  generalize hlx : ldV l 13 h.pc = lx at *
  generalize hpc : h.pc = pc at *
  have EQS : Hid ((dA (dv0 h (.slice ao n cap)) = D0 ∧ hA h = H ∧ ldV l 13 pc = lx) ∧ rg h r1 = xa ∧ rg h r2 = xb ∧ Wd.lo im = nn ∧ Wd.lo (pc + 4) = p4 ∧ Wd.lo (xa + nn) = th ∧ h.pc = pc) := ⟨⟨hE0, hE1, hlx⟩, hxa, hxb, hnn, hp4, hth, hpc⟩
  clear hE0 hE1 hth hpn hp4 hnn hxa hxb hlx hpc
  clear M ok o D wp wa wb wn
  have kpc : ∀ Z Y : Array Value, ((((w.alloc (.cells H 70)).alloc (.cells Z 81)).alloc (.cells Y 81)).setRow (w.heap.size + 1 + 1) D0).cell? ⟨w.heap.size, 32, none⟩ = some (.int .u32 pc) := fun Z Y => ((three_of (Gr.refl _)).cellH 32).trans gpc
  go_enter Tryd.func32, Tryd.ntmps32
  go_wp2_with (first
    | (refine wpList_load_row rfl 70 _ rfl w.heap.size rfl 70 H (0, 0) _ ?ha1 Tryd.underlying70 rfl (by rw [HS.out]; exact iH) ?_; (case ha1 => exact heap_alloc2_old w _ _))
    | (refine wpList_buildTo rfl 81 _ rfl _ rfl D0 (by have := HBu.out; simp [Act.eval, Act.put]; exact this) ?_)
    | (refine wpList_store_row rfl 81 _ _ rfl (w.heap.size + 1 + 1) D0 rfl rfl 81 _ (third_of w _ _ _) (by rw [HS0.out]; exact iD) (by rw [HS0.out]; rfl) HO0.out ?_))
  refine (L.out _ (gr_three w _ _ _ _)).mono ?_
  rintro e w1 ⟨rfl, G1⟩
  have HZ : Hid (∃ Z : Array Value, Z.size = 41 ∧ Bt w1 w.heap.size H Z D0) := ⟨_, rfl, three_of G1⟩
  obtain ⟨Z, hz, hb⟩ := HZ.out
  have HG1 : Hid (Gr w w1) := (gr_three w _ _ _ _).trans G1
  have HB1 : Hid _ := hb
  clear G1 L hb HZ HBu kpc
  go_wp2_with fail
  refine (HD.out _).mono ?_
  rintro e w2 ⟨rfl, G2⟩
  have HB2 : Hid (Bt w2 w.heap.size H Z D0) := HB1.out.of G2
  have HG2 : Hid (Gr w w2) := HG1.out.trans G2
  have hJ : w.heap.size + 1 + 1 < w2.heap.size := HB2.out.lt
  have HBs : Hid (Bs (w2.alloc (.cells #[.int .i64 op, .int .i64 rd, .int .i64 r1, .int .i64 r2, .int .i32 im] 23)) w.heap.size w2.heap.size H Z D0 #[.int .i64 op, .int .i64 rd, .int .i64 r1, .int .i64 r2, .int .i32 im]) := ⟨HB2.out.of ((Gr.refl _).alloc _), heap_alloc_new w2 _⟩
  have kr1 : w2.cell? ⟨w.heap.size, r1, none⟩ = some (.int .u32 xa) := (HB2.out.cellH r1).trans g1
  have kr2 : w2.cell? ⟨w.heap.size, r2, none⟩ = some (.int .u32 xb) := (HB2.out.cellH r2).trans g2
  have hB2 : w.heap.size < w2.heap.size := by omega
  clear G2 HD HB1 HG1
  go_wp2_with fail
  refine (Fo.out _).mono ?_
  rintro e w3 ⟨rfl, G3⟩
  have HB3 : Hid (Bs w3 w.heap.size w2.heap.size H Z D0 #[.int .i64 op, .int .i64 rd, .int .i64 r1, .int .i64 r2, .int .i32 im]) := HBs.out.of G3
  have HG3 : Hid (Gr w w3) := (HG2.out.alloc _).trans G3
  have kpc : w3.cell? ⟨w.heap.size, 32, none⟩ = some (.int .u32 pc) := (HB3.out.t.cellH 32).trans gpc
  clear G3 Fo HB2 HG2 HBs kr1 kr2
  go_wp2_with fail
  refine (S4.out _).mono ?_
  rintro e w4 ⟨rfl, G4⟩
  have HB4 : Hid (Bs w4 w.heap.size w2.heap.size H Z D0 #[.int .i64 op, .int .i64 rd, .int .i64 r1, .int .i64 r2, .int .i32 im]) := HB3.out.of G4
  have HG4 : Hid (Gr w w4) := HG3.out.trans G4
  clear G4 S4 HB3 HG3 kpc
  go_wp2_with fail
  refine (ST.out _).mono ?_
  rintro e w5 ⟨rfl, G5⟩
  have HB5 : Hid (Bs w5 w.heap.size w2.heap.size H Z D0 #[.int .i64 op, .int .i64 rd, .int .i64 r1, .int .i64 r2, .int .i32 im]) := HB4.out.of G5
  have HG5 : Hid (Gr w w5) := HG4.out.trans G5
  have kpc : w5.cell? ⟨w.heap.size, 32, none⟩ = some (.int .u32 pc) := (HB5.out.t.cellH 32).trans gpc
  have kop : w5.cell? ⟨w2.heap.size, 0, none⟩ = some (.int .i64 op) := HB5.out.cellI 0
  have krd : w5.cell? ⟨w2.heap.size, 1, none⟩ = some (.int .i64 rd) := HB5.out.cellI 1
  clear G5 ST HB4 HG4
  have HB := HB5.out
  have HG := HG5.out
  clear HB5 HG5 kpc kop krd hB2 g1 g2 gpc HS HS0 HO0 SP
  clear w1 w3 w4
  obtain ⟨⟨rfl, rfl, rfl⟩, rfl, rfl, rfl, rfl, rfl, rfl⟩ := EQS.out
  clear EQS
  rename_i Q0 K1 A1 K2 A2
  revert K2
  revert K1
  revert Q0
  revert HG
  revert HB
  revert hJ
  generalize w2.heap.size = J
  clear w2
  revert J
  revert w5
  revert hz
  revert Z
  exact CONT.out
/-- A register set, as a contract and as data. -/
theorem setF (o : d.Ok) {X : Int} (d0 : 0 ≤ rd) (d1 : rd < 32) (wX : W X) : Hid (∀ W : World, Calls Tryd.prog 63 #[.agg (dA d), .int .i64 rd, .int .u32 X] W fun e w' => e = .returned (.agg (dA (d.setH (d.h.set rd.toNat X)))) ∧ Gr W w') ∧ (d.setH (d.h.set rd.toNat X)).Ok ∧ Hid ((dA (d.setH (d.h.set rd.toNat X))).size = 41) ∧ Hid ((dA (d.setH (d.h.set rd.toNat X))).all (·.oneCell') = true) := by
  have k : (d.setH (d.h.set rd.toNat X)).Ok := o.setH (o.h.set _ wX.1 wX.2)
  exact ⟨fun W => set_any o rd X W d0 d1 wX.1 wX.2, k, dA_size k.h, one_dA k⟩
/-- The place of the next one set, as data. -/
theorem finF (o : d.Ok) {nx : Int} (wN : W nx) : ∃ D2, Hid (dA (d.setH (d.h.go nx)) = D2) ∧ Hid (D2.size = 41) ∧ Hid (D2.all (·.oneCell') = true) ∧ Hid ((dA d).setIfInBounds 32 (.int .u32 nx) = D2) ∧ Hid (∃ y, (dA d)[32]? = some (.int .u32 y)) ∧ Hid ((d.setH (d.h.go nx)).Ok) := by
  have k : (d.setH (d.h.go nx)).Ok := o.setH (o.h.go wN.1 wN.2)
  exact ⟨_, rfl, dA_size k.h, one_dA k, pc_e o.h nx, ⟨_, (dA_get o.h (by omega)).trans (hL_fld o.h 0)⟩, k⟩
/-- A trap, as a contract and as data. -/
theorem trapF (o : d.Ok) (c : Int) : ∃ Dt, Hid (∀ W : World, Calls Tryd.prog 59 #[.agg (dA d), .int .i64 c] W fun e w' => e = .returned (.agg Dt) ∧ Gr W w') ∧ Hid (Dt.size = 41) ∧ Hid (Dt.all (·.oneCell') = true) ∧ Hid ((d.setH (d.h.trap c)).Ok) ∧ Hid (dA (d.setH (d.h.trap c)) = Dt) :=
  ⟨_, fun W => trap_any o c W, dA_size (d := d.setH _) (o.h.trap c), one_dA (o.setH (o.h.trap c)), o.setH (o.h.trap c), rfl⟩
/-- What is known there. -/
theorem atIns {h : Hv} {ao : Option Addr} {n cap : Nat} {l : List UInt8} {I : Array Value} (o : h.Ok) (M : Mem w ao n l) (HB : Bs w5 w.heap.size J (hA h) Z (dA (dv0 h (.slice ao n cap))) I) (HG : Gr w w5) (hJ : w.heap.size + 1 + 1 < J) :
    Hid (Bs w5 w.heap.size J (hA h) Z (dA (dv0 h (.slice ao n cap))) I) ∧ Hid (Gr w w5) ∧ Hid (Mem w ao n l) ∧ (W h.pc ∧ W (rg h r1) ∧ W (rg h r2) ∧ W (Wd.lo im)) ∧ Hid (∀ W : World, Calls Tryd.prog 62 #[.int .u32 h.pc, .int .u32 (Wd.lo im)] W fun e w' => e = .returned (.int .u32 (Wd.lo (h.pc + Wd.lo im))) ∧ Gr W w') ∧ Hid ((dA (dv0 h (.slice ao n cap))).size = 41) ∧ Hid ((dA (dv0 h (.slice ao n cap))).all (·.oneCell') = true) ∧ (hA h)[32]? = some (.int .u32 h.pc) ∧ w.heap.size < J :=
  ⟨HB, HG, M, ⟨W.pc o, W.reg o r1, W.reg o r2, W.lo im⟩, fun W0 => (sum_any _ _ W0 (W.pc o).1 (W.pc o).2 (W.lo im).1 (W.lo im).2).mono fun e w' h => ⟨h.1, by rw [h.2]; exact Gr.refl _⟩, dA_size (d := dv0 _ _) o, one_dA (dv0_ok o _ _ _), by simp only [hA, List.getElem?_toArray]; exact hL_fld o 0, by omega⟩
theorem insAt {H D : Array Value} {op pc : Int} (HB : Bs w5 w.heap.size J H Z D #[.int .i64 op, .int .i64 rd, .int .i64 r1, .int .i64 r2, .int .i32 im]) (gpc : H[32]? = some (.int .u32 pc)) :
    w5.cell? ⟨w.heap.size, 32, none⟩ = some (.int .u32 pc) ∧ w5.cell? ⟨J, 0, none⟩ = some (.int .i64 op) ∧ w5.cell? ⟨J, 1, none⟩ = some (.int .i64 rd) :=
  ⟨(HB.t.cellH 32).trans gpc, HB.cellI 0, HB.cellI 1⟩
end Go.Proofs.YtdiofidmlgliiaaDoor.Hr
