/-
  Ref5b, Um, Ut, Uu: texts of ours that lie in one file.
-/
import Derived.Test.YtdiofidmlgliiaaDoorK04
import Derived.Test.YtdiofidmlgliiaaDoorRef3Walks
import Derived.Test.YtdiofidmlgliiaaDoorK07
import Derived.Test.YtdiofidmlgliiaaDoorK05
/-
  What ferrybridgeref5.Same answers, of two runs that are shown alike.
-/
namespace Go.Proofs.YtdiofidmlgliiaaDoor.Mc
open Go.ChangeShapes Go.WideShapes Go.ChangeAt Go.RowKit Mm Hh Hc
set_option linter.unusedVariables false
set_option linter.unusedSimpArgs false

theorem neq_hart {h : Hv} (o : h.Ok) (w : World) : (binOp .neq 70 (.agg (hA h)) (.agg (hA h))).run Tryd.prog w = .ok (.bool false) w := by
  have e := eql_hart o w
  have e1 : binOp .eql 70 (.agg (hA h)) (.agg (hA h)) = (do pure (.bool (← Op.equal 70 (.agg (hA h)) (.agg (hA h))))) := rfl
  have e2 : binOp .neq 70 (.agg (hA h)) (.agg (hA h)) = (do pure (.bool (!(← Op.equal 70 (.agg (hA h)) (.agg (hA h)))))) := rfl
  rw [e1, Sem.run_bind] at e
  rw [e2, Sem.run_bind]
  generalize (Op.equal 70 (.agg (hA h)) (.agg (hA h))).run Tryd.prog w = r at e ⊢
  cases r with
  | ok v w' =>
    simp only [Result.andThen_ok, Sem.run_pure, Result.ok.injEq, Value.bool.injEq] at e ⊢
    obtain ⟨rfl, rfl⟩ := e
    exact ⟨rfl, rfl⟩
  | _ => simp [Result.andThen] at e
theorem yieldsIf_neq {P : Program} {ops : Array Oper} {S : World → Prop} {o : Oper} {a : Act} (hw : Region.wanted o (yielded ops a.tmps) = true) (t t' : TypeId) (x y : Operand) (ho : o.op = .binOp .neq t x y t') (A B : Array Value) (hx : a.eval x = .agg A) (hy : a.eval y = .agg B) (hg : P.eqGuardType P.depth t = false)
    {v : Value} (h : ∀ w, (binOp .neq t (.agg A) (.agg B)).run P w = .ok v w) : YieldsIf P ops S o v a :=
  .inl ⟨hw, fun w _ => by
    unfold execOp
    simp only [ho, hx, hy, Sem.run_bind, run_eqGuard_agg w _ _ _ _ _ _ hg, h, Result.andThen_ok]
    rfl⟩
/-- .. of a slice that is nil no more is asked than that it reads as nothing. -/
def Shw (w : World) (v : Value) (c mn : Nat) (S : Sh) : Prop := ∃ ma mc ha hc oa oc, v = .agg #[.slice ma mn mc, .slice ha c hc, .slice oa S.out.length oc, .int .i64 S.steps] ∧ Mem w ma mn S.m ∧ Hs w ha c S.hs ∧ Wm w oa S.out.length S.out
theorem Shn.w {w : World} {v : Value} {c mn : Nat} {S : Sh} (h : Shn w v c mn S) : Shw w v c mn S := by
  obtain ⟨ma, mc, ha, hc, oa, oc, e, h1, _, h3, h4, _⟩ := h
  exact ⟨ma, mc, ha, hc, oa, oc, e, h1, h3, h4⟩
theorem Shw.of {w w' : World} {v : Value} {c mn : Nat} {S : Sh} (h : Shw w v c mn S) (G : Gr w w') : Shw w' v c mn S := by
  obtain ⟨ma, mc, ha, hc, oa, oc, e, h1, h3, h4⟩ := h
  exact ⟨ma, mc, ha, hc, oa, oc, e, h1.of G, h3.of G, h4.of G⟩
set_option maxHeartbeats 2000000 in
set_option maxRecDepth 100000 in
theorem Same_w {w : World} {a b : Value} {c mn : Nat} {S : Sh} (A : Shw w a c mn S) (B : Shw w b c mn S) (ho : S.out.length ≤ 1000000) (hc4 : c ≤ 4) :
    Calls Tryd.prog 13 #[a, b] w fun e w' => e = .returned (.bool true) ∧ Gr w w' := by
  obtain ⟨a1, c1, a2, c2, a3, c3, rfl, A1, A2, A3⟩ := A
  obtain ⟨b1, d1, b2, d2, b3, d3, rfl, B1, B2, B3⟩ := B
  have HBy : Hid (∀ W : World, Gr w W → Calls Tryd.prog 30 #[.slice a1 mn c1, .slice b1 mn d1] W fun e w' => e = .returned (.bool true) ∧ Gr W w') := fun W G =>
    (Mr.Bytes_any c1 d1 (A1.of G) (B1.of G)).mono fun e w' ⟨h1, h2⟩ => ⟨by rw [h1]; simp, by rw [h2]; exact Gr.refl _⟩
  have HWo : Hid (∀ W : World, Gr w W → Calls Tryd.prog 31 #[.slice a3 S.out.length c3, .slice b3 S.out.length d3] W fun e w' => e = .returned (.bool true) ∧ Gr W w') := fun W G => Words_same c3 d3 ho (A3.of G) (B3.of G)
  have HA2 : Hid (Hs w a2 c S.hs) := A2
  have HB2 : Hid (Hs w b2 c S.hs) := B2
  have HL : Hid (S.hs.length = c) := A2.len
  clear A1 A2 A3 B1 B2 B3
  generalize S.out.length = on at *
  generalize S.steps = st at *
  generalize S.hs = hs at *
  have en : ((st : Int) != (st : Int)) = false := by simp
  have en2 : ((c : Int) != (c : Int)) = false := by simp
  go_enter Tryd.func13, Tryd.ntmps13
  go_wp2_with fail
  refine (HBy.out _ (((Gr.refl _).alloc _).alloc _)).mono ?_
  rintro e w1 ⟨rfl, G1⟩
  obtain ⟨hb0, hb1⟩ := two_of G1
  have HX0 : Hid (w1.heap[w.heap.size]? = some (.cells #[.slice a1 mn c1, .slice a2 c c2, .slice a3 on c3, .int .i64 st] 40 (0, 0))) := hb0
  have HX1 : Hid (w1.heap[w.heap.size + 1]? = some (.cells #[.slice b1 mn d1, .slice b2 c d2, .slice b3 on d3, .int .i64 st] 40 (0, 0))) := hb1
  have HG1 : Hid (Gr w w1) := (((Gr.refl _).alloc _).alloc _).trans G1
  have x1 : w1.cell? ⟨w.heap.size, 1, none⟩ = some (.slice a2 c c2) := cell_of_row _ _ _ _ _ _ hb0
  have x2 : w1.cell? ⟨w.heap.size, 2, none⟩ = some (.slice a3 on c3) := cell_of_row _ _ _ _ _ _ hb0
  have x4 : w1.cell? ⟨w.heap.size + 1, 1, none⟩ = some (.slice b2 c d2) := cell_of_row _ _ _ _ _ _ hb1
  have x5 : w1.cell? ⟨w.heap.size + 1, 2, none⟩ = some (.slice b3 on d3) := cell_of_row _ _ _ _ _ _ hb1
  clear G1 hb0 hb1 HBy
  go_wp2_with fail
  refine (HWo.out _ HG1.out).mono ?_
  rintro e w2 ⟨rfl, G2⟩
  have HG2 : Hid (Gr w w2) := HG1.out.trans G2
  have HY0 : Hid (w2.heap[w.heap.size]? = some (.cells #[.slice a1 mn c1, .slice a2 c c2, .slice a3 on c3, .int .i64 st] 40 (0, 0))) := Hr.heap_of_gr G2 HX0.out
  have HY1 : Hid (w2.heap[w.heap.size + 1]? = some (.cells #[.slice b1 mn d1, .slice b2 c d2, .slice b3 on d3, .int .i64 st] 40 (0, 0))) := Hr.heap_of_gr G2 HX1.out
  have y3 : w2.cell? ⟨w.heap.size, 3, none⟩ = some (.int .i64 st) := cell_of_row _ _ _ _ _ _ HY0.out
  have y7 : w2.cell? ⟨w.heap.size + 1, 3, none⟩ = some (.int .i64 st) := cell_of_row _ _ _ _ _ _ HY1.out
  clear G2 x1 x2 x4 x5 HX0 HX1 HWo HG1
  go_wp2_with fail
  go_loopw [5] (fun i wr => ∃ k : Nat, k ≤ c ∧ i = .int .i64 k ∧ Gr w2 wr) (fun i _ => c - (intOf i).toNat)
  case atStart => exact ⟨0, Nat.zero_le _, rfl, Gr.refl _⟩
  case round =>
    obtain ⟨k, hk, rfl, G⟩ := hrel
    have HG : Hid (Gr w2 wr) := G
    have z1 : wr.cell? ⟨w.heap.size, 1, none⟩ = some (.slice a2 c c2) := cell_of_row _ _ _ _ _ _ (Hr.heap_of_gr G HY0.out)
    have z4 : wr.cell? ⟨w.heap.size + 1, 1, none⟩ = some (.slice b2 c d2) := cell_of_row _ _ _ _ _ _ (Hr.heap_of_gr G HY1.out)
    clear G y3 y7
    by_cases hlt : k < c
    · obtain ⟨h, hh⟩ : ∃ h, hs[k]? = some h := ⟨_, List.getElem?_eq_getElem (by rw [HL.out]; exact hlt)⟩
      have okh := HA2.out.ok h (List.mem_of_getElem? hh)
      obtain ⟨p1, o1, rfl, hp1, r1⟩ := HA2.out.spot (by omega)
      obtain ⟨p2, o2, rfl, hp2, r2⟩ := HB2.out.spot (by omega)
      have R1 : Hid (wr.rangeAt p1 (o1 + k * 37) (hL h)) := fun j v hv => ((HG2.out.trans HG.out).cell _ (by exact hp1)).trans (r1 k h hh j v hv)
      have R2 : Hid (wr.rangeAt p2 (o2 + k * 37) (hL h)) := fun j v hv => ((HG2.out.trans HG.out).cell _ (by exact hp2)).trans (r2 k h hh j v hv)
      have HLL : Hid ((hL h).length = 37) := hL_len okh
      have HNQ : Hid (∀ W : World, (binOp .neq 70 (.agg (hL h).toArray) (.agg (hL h).toArray)).run Tryd.prog W = .ok (.bool false) W) := fun W => neq_hart okh W
      clear hh okh r1 r2 en en2
      go_wp2_with fail
      refine wp_region_held_drew (S := fun W => W.cell? ⟨w.heap.size, 1, none⟩ = some (.slice (some ⟨p1, o1, none⟩) c c2) ∧ W.cell? ⟨w.heap.size + 1, 1, none⟩ = some (.slice (some ⟨p2, o2, none⟩) c d2) ∧ W.rangeAt p1 (o1 + k * 37) (hL h) ∧ W.rangeAt p2 (o2 + k * 37) (hL h)) (by kernel_rfl) ?_ (fun hHeld => ?_)
      · exact ⟨z1, z4, R1.out, R2.out⟩
      have HS0 : Hid _ := hHeld
      clear hHeld
      refine wpAnyH_take (i := 0) (v := .pointer (some ⟨w.heap.size, 0, none⟩)) rfl (by kernel_rfl) (by kernel_rfl) (by kernel_rfl) (fun _ _ _ h => h) (Or.inl ⟨by rfl, fun W hW => by obtain ⟨y0, y1, y2, y3⟩ := hW; go_simp⟩) HS0.out ?_
      simp only [List.getElem_toArray, List.getElem_cons_succ, List.getElem_cons_zero, Act.put, List.setIfInBounds_toArray, List.set_cons_zero, List.set_cons_succ]
      refine wpAnyH_take (i := 1) (v := .pointer (some ⟨w.heap.size, 1, none⟩)) rfl (by kernel_rfl) (by kernel_rfl) (by kernel_rfl) (fun _ _ _ h => h) (Or.inl ⟨by rfl, fun W hW => by obtain ⟨y0, y1, y2, y3⟩ := hW; go_simp⟩) HS0.out ?_
      simp only [List.getElem_toArray, List.getElem_cons_succ, List.getElem_cons_zero, Act.put, List.setIfInBounds_toArray, List.set_cons_zero, List.set_cons_succ]
      refine wpAnyH_take (i := 2) (v := .slice (some ⟨p1, o1, none⟩) c c2) rfl (by kernel_rfl) (by kernel_rfl) (by kernel_rfl) (fun _ _ _ h => h) (Or.inl ⟨by rfl, fun W hW => by obtain ⟨y0, y1, y2, y3⟩ := hW; go_simp⟩) HS0.out ?_
      simp only [List.getElem_toArray, List.getElem_cons_succ, List.getElem_cons_zero, Act.put, List.setIfInBounds_toArray, List.set_cons_zero, List.set_cons_succ]
      refine wpAnyH_take (i := 3) (v := .int .i64 k) rfl (by kernel_rfl) (by kernel_rfl) (by kernel_rfl) (fun _ _ _ h => h) (Or.inl ⟨by rfl, fun W hW => by obtain ⟨y0, y1, y2, y3⟩ := hW; go_simp⟩) HS0.out ?_
      simp only [List.getElem_toArray, List.getElem_cons_succ, List.getElem_cons_zero, Act.put, List.setIfInBounds_toArray, List.set_cons_zero, List.set_cons_succ]
      refine wpAnyH_take (i := 4) (v := .pointer (some ⟨p1, o1 + k * 37, none⟩)) rfl (by kernel_rfl) (by kernel_rfl) (by kernel_rfl) (fun _ _ _ h => h) (Or.inl ⟨by rfl, fun W hW => by obtain ⟨y0, y1, y2, y3⟩ := hW; go_simp⟩) HS0.out ?_
      simp only [List.getElem_toArray, List.getElem_cons_succ, List.getElem_cons_zero, Act.put, List.setIfInBounds_toArray, List.set_cons_zero, List.set_cons_succ]
      refine wpAnyH_take (i := 5) (v := .agg (hL h).toArray) rfl (by kernel_rfl) (by kernel_rfl) (by kernel_rfl) (fun _ _ _ h => h) ?hy5 HS0.out ?_
      case hy5 => exact yieldsIf_load_mid (by rfl) 70 (.tmp 52) rfl p1 (o1 + k * 37) (by simp [Act.eval]) (hL h) _ (fun W hW => hW.2.2.1) Tryd.underlying70 rfl (by rw [HLL.out]; exact iH)
      simp only [List.getElem_toArray, List.getElem_cons_succ, List.getElem_cons_zero, Act.put, List.setIfInBounds_toArray, List.set_cons_zero, List.set_cons_succ]
      refine wpAnyH_take (i := 6) (v := .pointer (some ⟨w.heap.size + 1, 0, none⟩)) rfl (by kernel_rfl) (by kernel_rfl) (by kernel_rfl) (fun _ _ _ h => h) (Or.inl ⟨by rfl, fun W hW => by obtain ⟨y0, y1, y2, y3⟩ := hW; go_simp⟩) HS0.out ?_
      simp only [List.getElem_toArray, List.getElem_cons_succ, List.getElem_cons_zero, Act.put, List.setIfInBounds_toArray, List.set_cons_zero, List.set_cons_succ]
      refine wpAnyH_take (i := 7) (v := .pointer (some ⟨w.heap.size + 1, 1, none⟩)) rfl (by kernel_rfl) (by kernel_rfl) (by kernel_rfl) (fun _ _ _ h => h) (Or.inl ⟨by rfl, fun W hW => by obtain ⟨y0, y1, y2, y3⟩ := hW; go_simp⟩) HS0.out ?_
      simp only [List.getElem_toArray, List.getElem_cons_succ, List.getElem_cons_zero, Act.put, List.setIfInBounds_toArray, List.set_cons_zero, List.set_cons_succ]
      refine wpAnyH_take (i := 8) (v := .slice (some ⟨p2, o2, none⟩) c d2) rfl (by kernel_rfl) (by kernel_rfl) (by kernel_rfl) (fun _ _ _ h => h) (Or.inl ⟨by rfl, fun W hW => by obtain ⟨y0, y1, y2, y3⟩ := hW; go_simp⟩) HS0.out ?_
      simp only [List.getElem_toArray, List.getElem_cons_succ, List.getElem_cons_zero, Act.put, List.setIfInBounds_toArray, List.set_cons_zero, List.set_cons_succ]
      refine wpAnyH_take (i := 9) (v := .int .i64 k) rfl (by kernel_rfl) (by kernel_rfl) (by kernel_rfl) (fun _ _ _ h => h) (Or.inl ⟨by rfl, fun W hW => by obtain ⟨y0, y1, y2, y3⟩ := hW; go_simp⟩) HS0.out ?_
      simp only [List.getElem_toArray, List.getElem_cons_succ, List.getElem_cons_zero, Act.put, List.setIfInBounds_toArray, List.set_cons_zero, List.set_cons_succ]
      refine wpAnyH_take (i := 10) (v := .pointer (some ⟨p2, o2 + k * 37, none⟩)) rfl (by kernel_rfl) (by kernel_rfl) (by kernel_rfl) (fun _ _ _ h => h) (Or.inl ⟨by rfl, fun W hW => by obtain ⟨y0, y1, y2, y3⟩ := hW; go_simp⟩) HS0.out ?_
      simp only [List.getElem_toArray, List.getElem_cons_succ, List.getElem_cons_zero, Act.put, List.setIfInBounds_toArray, List.set_cons_zero, List.set_cons_succ]
      refine wpAnyH_take (i := 11) (v := .agg (hL h).toArray) rfl (by kernel_rfl) (by kernel_rfl) (by kernel_rfl) (fun _ _ _ h => h) ?hy11 HS0.out ?_
      case hy11 => exact yieldsIf_load_mid (by rfl) 70 (.tmp 58) rfl p2 (o2 + k * 37) (by simp [Act.eval]) (hL h) _ (fun W hW => hW.2.2.2) Tryd.underlying70 rfl (by rw [HLL.out]; exact iH)
      simp only [List.getElem_toArray, List.getElem_cons_succ, List.getElem_cons_zero, Act.put, List.setIfInBounds_toArray, List.set_cons_zero, List.set_cons_succ]
      refine wpAnyH_take (i := 12) (v := .bool false) rfl (by kernel_rfl) (by kernel_rfl) (by kernel_rfl) (fun _ _ _ h => h) ?hneq HS0.out ?_
      case hneq => exact yieldsIf_neq (by rfl) 70 70 (.tmp 53) (.tmp 59) rfl (hL h).toArray (hL h).toArray (by simp [Act.eval]) (by simp [Act.eval]) (by kernel_rfl) HNQ.out
      simp only [List.getElem_toArray, List.getElem_cons_succ, List.getElem_cons_zero, Act.put, List.setIfInBounds_toArray, List.set_cons_zero, List.set_cons_succ]
      refine wpAnyH_done (by kernel_rfl) ?_ _
      clear HS0 HNQ R1 R2 z1 z4
      go_wp2_with fail
      go_roundw
      case rel => exact ⟨k + 1, by omega, by go_num, Gr.drew HG.out⟩
      case measure => simp [intOf]; omega
    · go_wp2_with fail
      go_ret
      exact ⟨rfl, HG2.out.trans HG.out⟩
theorem Same_any {w : World} {a b : Value} {c mn : Nat} {S : Sh} (A : Shn w a c mn S) (B : Shn w b c mn S) (ho : S.out.length ≤ 1000000) (hc4 : c ≤ 4) :
    Calls Tryd.prog 13 #[a, b] w fun e w' => e = .returned (.bool true) ∧ Gr w w' := Same_w A.w B.w ho hc4
end Go.Proofs.YtdiofidmlgliiaaDoor.Mc
/-
  What ferrybridgeref12.Machines answers, of two machines that are the same.
-/
namespace Go.Proofs.YtdiofidmlgliiaaDoor.Ud
open Go.ChangeShapes Go.WideShapes Go.ChangeAt Go.RowKit Mm Hh Hc Mc
set_option linter.unusedVariables false
set_option linter.unusedSimpArgs false

/-- A machine that is read; of a slice that is nil no more is asked than that it reads as nothing. -/
def Mw (w : World) (v : Value) (c mn : Nat) (hs : List Hv) (m : List UInt8) : Prop := ∃ ma mc ha hc, v = .agg #[.slice ma mn mc, .slice ha c hc] ∧ Mem w ma mn m ∧ Hs w ha c hs
theorem Mv.mw {w : World} {v : Value} {c mn : Nat} {hs : List Hv} {m : List UInt8} (h : Mv w v c mn hs m) : Mw w v c mn hs m := by
  obtain ⟨ma, mc, ha, hc, e, h1, _, h3⟩ := h
  exact ⟨ma, mc, ha, hc, e, h1, h3⟩
theorem Mw.of {w w' : World} {v : Value} {c mn : Nat} {hs : List Hv} {m : List UInt8} (h : Mw w v c mn hs m) (G : Gr w w') : Mw w' v c mn hs m := by
  obtain ⟨ma, mc, ha, hc, e, h1, h3⟩ := h
  exact ⟨ma, mc, ha, hc, e, h1.of G, h3.of G⟩
theorem mw_zero (w : World) : Mw w (.agg #[.slice none 0 0, .slice none 0 0]) 0 0 [] [] := ⟨none, 0, none, 0, rfl, ⟨rfl, fun _ => rfl, fun ad e => by cases e⟩, ⟨rfl, fun h hm => (by cases hm), fun h => absurd h (by omega)⟩⟩
set_option maxHeartbeats 2000000 in
set_option maxRecDepth 100000 in
theorem Machines_same {w : World} {a b : Value} {c mn : Nat} {hs : List Hv} {m : List UInt8} (A : Mw w a c mn hs m) (B : Mw w b c mn hs m) (hc4 : c ≤ 4) :
    Calls Tryd.prog 19 #[a, b] w fun e w' => e = .returned (.bool true) ∧ Gr w w' := by
  obtain ⟨a1, c1, a2, c2, rfl, A1, A2⟩ := A
  obtain ⟨b1, d1, b2, d2, rfl, B1, B2⟩ := B
  have HS : Hid (∀ W : World, Gr w W → Calls Tryd.prog 13 #[.agg #[.slice a1 mn c1, .slice a2 c c2, .slice none 0 0, .int .i64 0], .agg #[.slice b1 mn d1, .slice b2 c d2, .slice none 0 0, .int .i64 0]] W fun e w' => e = .returned (.bool true) ∧ Gr W w') := fun W G =>
    Same_w (S := ⟨hs, m, [], 0⟩) ⟨a1, c1, a2, c2, none, 0, rfl, A1.of G, A2.of G, ⟨rfl, fun _ => rfl, fun ad e => by cases e⟩⟩ ⟨b1, d1, b2, d2, none, 0, rfl, B1.of G, B2.of G, ⟨rfl, fun _ => rfl, fun ad e => by cases e⟩⟩ (by simp) hc4
  clear A1 A2 B1 B2
  go_enter Tryd.func19, Tryd.ntmps19
  go_wp2_with fail
  refine (HS.out _ (((Gr.refl _).alloc _).alloc _)).mono ?_
  rintro e w1 ⟨rfl, G1⟩
  have HG1 : Hid (Gr w w1) := (((Gr.refl _).alloc _).alloc _).trans G1
  clear G1
  go_wp2_with fail
  go_ret
  exact ⟨rfl, HG1.out⟩
end Go.Proofs.YtdiofidmlgliiaaDoor.Ud
/-
  What a recorder's step does: its hart's step, and an Undo of it is kept.
-/
namespace Go.Proofs.YtdiofidmlgliiaaDoor.Ud
open Go.ChangeShapes Go.WideShapes Go.ChangeAt Go.RowKit Mm Hh Hc Mc
set_option linter.unusedVariables false
set_option linter.unusedSimpArgs false

theorem wk_one {s : Sh} {k : Nat} (h : (at' s k).state = 0) : wk (w0 s k) 1 = wk1 (w0 s k) := wk_go (x := w0 s k) h 0
theorem tk_one {s : Sh} {k : Nat} (hk : k < s.hs.length) (h : (at' s k).state = 0) : tk s k (wk (w0 s k) 1) = stepS s k := by
  rw [← runs_wk hk 1]
  unfold runs
  rw [if_pos h]
  rfl
theorem undo_u {s : Sh} {k : Nat} (h : (at' s k).state = 0) : (wk (w0 s k) 1).sto = (stp (at' s k) s.m).sto := by
  rw [wk_one h]
  rfl
/-- Behind step's loop: the Undo is there. -/
def Done (w : World) (ub : Nat) (u : Uv) : Prop := ∃ x : List Value, x.length = 41 ∧ w.heap[ub]? = some (.cells x.toArray 86 (0, 0)) ∧ Uo w u x
/-- Rows of other types than Undos stay. -/
def Nu (w w' : World) : Prop := w.heap.size ≤ w'.heap.size ∧ ∀ (k : Nat) (o : Array Value) (t : Nat) (f : Nat × Nat), t ≠ 86 → w.heap[k]? = some (.cells o t f) → w'.heap[k]? = w.heap[k]?
theorem Nu.refl (w : World) : Nu w w := ⟨Nat.le_refl _, fun _ _ _ _ _ _ => rfl⟩
theorem Nu.trans {a b c : World} (h : Nu a b) (k : Nu b c) : Nu a c := ⟨Nat.le_trans h.1 k.1, fun i o t f ht e => (k.2 i o t f ht ((h.2 i o t f ht e).trans e)).trans (h.2 i o t f ht e)⟩
theorem Nu.gr {a b : World} (G : Gr a b) : Nu a b := ⟨G.size, fun k o t f _ e => G.block _ (gs e).1⟩
theorem Nu.row {a b : World} (h : Nu a b) {k : Nat} {o : Array Value} {t : Nat} {f : Nat × Nat} (e : a.heap[k]? = some (.cells o t f)) (ht : t ≠ 86) : b.heap[k]? = some (.cells o t f) := (h.2 k o t f ht e).trans e
theorem Nu.set {a b : World} {ub : Nat} {Y : Array Value} {f : Nat × Nat} (h : Nu a b) (hy : b.heap[ub]? = some (.cells Y 86 f)) (i : Nat) (v : Value) : Nu a (b.setCell ⟨ub, i, none⟩ v) := ⟨by simpa using h.1, fun k o t f' ht e => by
  have e1 := h.2 k o t f' ht e
  rw [hso (by exact ne_of_types (e1.trans e) hy ht)]
  exact e1⟩
theorem Nu.ky {a b : World} (h : Nu a b) : Ky a b := fun k o t f ht e => h.2 k o t f (by rcases ht with rfl | rfl <;> decide) e
theorem Dq.nu {a b : World} {n : Nat} {d : Qv} {x : Wk} (D : Dq a n d x) (h : Nu a b) : Dq b n d x :=
  ⟨D.hh, D.n, D.mem.to fun k o f e => h.2 k o _ f (by decide) e, owns_to D.out fun k o f e => h.2 k o _ f (by decide) e, owns_to D.sto fun k o f e => h.2 k o _ f (by decide) e⟩
theorem mem_sub {w : World} {b o n f c : Nat} {l : List UInt8} (M : Mem w (some ⟨b, o, none⟩) n l) (h : f + c ≤ n) : Mem w (some ⟨b, o + f, none⟩) c ((l.drop f).take c) := by
  have hl := M.len
  refine Mem.at (by simp; omega) fun t ht => ?_
  have := M.cell _ rfl (f + t) (by omega)
  rw [add_at] at this
  rw [Nat.add_assoc, this]
  unfold bv
  simp only [List.getD, List.getElem?_take, List.getElem?_drop, ht, if_true]
theorem owns_low {w : World} {b b' e sz n : Nat} {v : Value} {xs : List Value} (h : w.ownsRow b e sz v n xs) (hb : b' ≤ b) : w.ownsRow b' e sz v n xs := by
  obtain ⟨h1, h2⟩ := h
  refine ⟨h1, ?_⟩
  rcases h2 with h2 | ⟨g, cp, cur, e1, e2, e3⟩
  · exact .inl h2
  · exact .inr ⟨g, cp, cur, e1, by omega, e3⟩
set_option maxHeartbeats 4000000 in
set_option maxRecDepth 100000 in
theorem step_any {w : World} {base g : Nat} {s : Sh} {us : List Uv} (R : Rc w base g s us) (T : TT w base) {c mn : Nat} (F : Fit s c mn) (hmn : mn ≤ 4096) {k : Nat} (hk : k < c) (hc4 : c ≤ 4) (hst : (at' s k).state = 0) (hus : us.length ≤ 200000) (hout : s.out.length ≤ 200000) (hstp : s.steps ≤ 200000) :
    Calls Tryd.prog 57 #[.pointer (some ⟨g, 0, none⟩), .int .i64 k] w fun e w' => e = .returned (.tuple #[]) ∧ Rc w' base g (stepS s k) (us ++ [undoS s k]) ∧ Fk base w w' := by
  obtain ⟨M, gh, hc, O, U, xs, R⟩ := R
  have hl : k < s.hs.length := by rw [F.len]; exact hk
  have eh : s.hs[k]? = some (at' s k) := by unfold at'; rw [List.getElem?_eq_getElem hl]; simp [List.getD, hl]
  have okh : (at' s k).Ok := (F.ok _ (mem_of_get eh)).1
  have hbb := R.bw.base_le
  have HR : Hid (Rw w base g M gh hc O U xs s us) := R
  have HTT : Hid (TT w w.heap.size) := tt_up T hbb
  have RG : Hid (w.rangeAt gh (k * 37) (hL (at' s k))) := R.bw.row.range eh
  have k1 : w.cell? ⟨g, 1, none⟩ = some (.slice (some ⟨gh, 0, none⟩) c hc) := by have := R.bw.c1; rw [F.len] at this; exact this
  have HLL : Hid ((hL (at' s k)).length = 37) := hL_len okh
  have HOK : Hid (at' s k).Ok := okh
  have HBu : Hid (Tryd.prog.built 86 [(0, .int .i64 k), (1, .agg (hL (at' s k)).toArray)] = some (uL ⟨k, at' s k, 0, [], []⟩ nilS nilS).toArray) := built_undo okh k
  have HX0l : Hid ((uL ⟨k, at' s k, 0, [], []⟩ nilS nilS).length = 41) := uL_len (u := ⟨k, at' s k, 0, [], []⟩) okh
  have HX01 : Hid ((uL ⟨k, at' s k, 0, [], []⟩ nilS nilS).toArray.all (·.oneCell') = true) := uA_one rfl rfl
  have HWk : Hid (∀ W : World, Gr w W → Calls Tryd.prog 41 #[.pointer (some ⟨g, 0, none⟩), .agg #[.int .i64 k, .int .i64 1]] W fun e w' => ∃ d, e = .returned (.agg (qA d)) ∧ d.h.Ok ∧ Dq w' W.heap.size d (wk (w0 s k) 1) ∧ Gr W w') := fun W G => Work_any (R.bw.of G) F hmn (HTT.out.grow G) hk hc4 (n := 1) (by omega)
  have HF : Hid (Fit s c mn) := F
  have HST : Hid ((at' s k).state = 0) := hst
  have hgl : g < w.heap.size := R.bw.lt
  have hgh : gh < w.heap.size := by obtain ⟨_, e⟩ := R.bw.row.row; exact (gs e).1
  clear R T F eh okh hl hst
  generalize hHh : at' s k = hv at *
  have HH : Hid (at' s k = hv) := hHh
  clear hHh
  generalize hX0 : uL ⟨k, hv, 0, [], []⟩ nilS nilS = X0 at *
  have HX0 : Hid (uL ⟨k, hv, 0, [], []⟩ nilS nilS = X0) := hX0
  clear hX0
  go_enter Tryd.func57, Tryd.ntmps57
  have HSZ : Hid (X0.toArray.size = 41) := by unfold Hid; simp [HX0l.out]
  go_wp2_with (first
    | (refine wpList_load_mid rfl 70 _ rfl gh (k * 37) rfl (hL hv) _ ?r1 Tryd.underlying70 rfl (by rw [HLL.out]; exact iH) ?_; (case r1 => exact RG.out))
    | (refine wpList_buildTo rfl 86 _ rfl _ rfl X0.toArray (by have := HBu.out; simp [Act.eval, Act.put]; exact this) ?_)
    | (refine wpList_store_row rfl 86 _ _ rfl w.heap.size X0.toArray rfl rfl 86 _ (heap_alloc_new w _) (by rw [HSZ.out]; exact iU) (by rw [HSZ.out]; rfl) HX01.out ?_))
  refine (HWk.out _ (gr_setRow ((Gr.refl _).alloc _) (Nat.le_refl _) _)).mono ?_
  rintro e w2 ⟨d, rfl, od, D, G2⟩
  have HG2 : Hid (Gr w w2) := (gr_setRow ((Gr.refl _).alloc _) (Nat.le_refl _) _).trans G2
  have HU2 : Hid (w2.heap[w.heap.size]? = some (.cells X0.toArray 86 (0, 0))) := Hr.heap_of_gr G2 (setRow_heap _ _ _ _ _ (0, 0) (heap_alloc_new w _))
  have HXs : Hid ((wk (w0 s k) 1).sto = (stp (at' s k) s.m).sto) := undo_u (by rw [HH.out]; exact HST.out)
  have HXo : Hid (WOk (wk (w0 s k) 1) mn ∧ (wk (w0 s k) 1).n ≤ 1) := by have := wk_ok 1 (w0_ok HF.out hk); have e : (w0 s k).n = 0 := rfl; exact ⟨this.1, by omega⟩
  have HTk : Hid (tk s k (wk (w0 s k) 1) = stepS s k) := tk_one (by rw [HF.out.len]; exact hk) (by rw [HH.out]; exact HST.out)
  have HD : Hid (Dq w2 _ d (wk (w0 s k) 1)) := D
  have HOd : Hid d.h.Ok := od
  obtain ⟨sa, sc, hsto⟩ := (owns_cells D.sto).2.2
  have g40 : (qA d)[40]? = some (.slice sa (wk (w0 s k) 1).sto.length sc) := by rw [qA_fld od 3]; simp [hsto]
  have HSo : Hid (d.sto = .slice sa (wk (w0 s k) 1).sto.length sc) := hsto
  have HSD : Hid ((qA d).size = 41) := qA_size od
  have HOD : Hid ((qA d).all (·.oneCell') = true) := one_qA D.mem.cells.2 (owns_cells D.out).2.1 (owns_cells D.sto).2.1
  clear G2 D hsto od HWk HBu HX01 RG k1
  generalize hXX : wk (w0 s k) 1 = X at *
  clear hXX
  have hsl : X.sto.length ≤ 1 := by have := HXo.out.1.sto; have := HXo.out.2; omega
  have HX3 : Hid (∀ Y : Array Value, Gr w2 ((w2.alloc (.cells Y 101)).setRow w2.heap.size (qA d))) := fun Y => gr_setRow ((Gr.refl _).alloc _) (Nat.le_refl _) _
  have HX4 : Hid (∀ Y : Array Value, ((w2.alloc (.cells Y 101)).setRow w2.heap.size (qA d)).heap[w2.heap.size]? = some (.cells (qA d) 101 (0, 0))) := fun Y => setRow_heap _ _ _ _ _ (0, 0) (heap_alloc_new w2 _)
  have k40 : ∀ Y : Array Value, ((w2.alloc (.cells Y 101)).setRow w2.heap.size (qA d)).cell? ⟨w2.heap.size, 40, none⟩ = some (.slice sa X.sto.length sc) := fun Y => (cr (HX4.out Y)).trans g40
  generalize hsn : X.sto.length = sn at *
  have HSN : Hid (X.sto.length = sn) := hsn
  clear hsn
  go_wp2_with (refine wpList_store_row rfl 101 _ _ rfl w2.heap.size (qA d) rfl rfl 101 _ (heap_alloc_new w2 _) (by rw [HSD.out]; exact iQ) (by rw [HSD.out]; rfl) HOD.out ?_)
  refine atW (fun W => W.heap[w2.heap.size]? = some (.cells (qA d) 101 (0, 0)) ∧ Gr w2 W) ⟨HX4.out _, HX3.out _⟩ ?_
  rintro W3 ⟨KO, G3⟩
  obtain ⟨o, ho⟩ : ∃ o : Nat, o = w2.heap.size := ⟨_, rfl⟩
  obtain ⟨ub, hub⟩ : ∃ ub : Nat, ub = w.heap.size := ⟨_, rfl⟩
  rw [← ho] at KO ⊢
  rw [← hub] at HU2 ⊢
  have HO3 : Hid (W3.heap[o]? = some (.cells (qA d) 101 (0, 0))) := KO
  have HU3 : Hid (W3.heap[ub]? = some (.cells X0.toArray 86 (0, 0))) := Hr.heap_of_gr G3 HU2.out
  have HG3 : Hid (Gr w W3) := HG2.out.trans G3
  have HD3 : Hid (∃ b, Dq W3 b d X) := ⟨_, HD.out.gr G3⟩
  have hol : w.heap.size < o := by have := (gs HU2.out).1; omega
  have huo : ub < o := by have := (gs HU2.out).1; omega
  have hbu : base ≤ ub := by omega
  have HUB : Hid (ub = w.heap.size) := hub
  have hgu : g < ub := by omega
  clear KO G3 HX3 HX4 HU2 HG2 HD k40 g40 ho hub
  clear w2
  have HUN : Hid (∀ W : World, Nu W3 W → X.sto.length = 0 → W.heap[ub]? = some (.cells X0.toArray 86 (0, 0)) → Done W ub (undoS s k)) := fun W N h0 hb => by
    have e0 : (stp (at' s k) s.m).sto = [] := by rw [← HXs.out]; exact List.eq_nil_of_length_eq_zero h0
    refine ⟨X0, HX0l.out, hb, nilS, nilS, ?_, .inl ⟨rfl, ?_⟩, ?_⟩
    · unfold undoS; rw [e0, ← HX0.out]; unfold undoOf; rw [HH.out]
    · unfold undoS; rw [e0]; rfl
    · unfold undoS; rw [e0]; exact World.ownsRow_nil _ _ _ _
  go_loopw [29] (fun i wr => ∃ j : Nat, j ≤ sn ∧ i = .int .i64 j ∧ Gr w wr ∧ Nu W3 wr ∧ (j < sn → wr.heap[ub]? = some (.cells X0.toArray 86 (0, 0))) ∧ (j = sn → Done wr ub (undoS s k))) (fun i _ => sn - (intOf i).toNat)
  case atStart => exact ⟨0, Nat.zero_le _, rfl, HG3.out, Nu.refl _, fun _ => HU3.out, fun h => HUN.out _ (Nu.refl _) (by rw [HSN.out, ← h]) HU3.out⟩
  case round =>
    obtain ⟨j, hj, rfl, G, N, hA, hB⟩ := hrel
    have HGr : Hid (Gr w wr) := G
    have HNr : Hid (Nu W3 wr) := N
    have HOr : Hid (wr.heap[o]? = some (.cells (qA d) 101 (0, 0))) := N.row HO3.out (by decide)
    by_cases hlt : j < sn
    · have HUr : Hid (wr.heap[ub]? = some (.cells X0.toArray 86 (0, 0))) := hA hlt
      clear hA hB G N
      obtain rfl : j = 0 := by omega
      have HS1 : Hid (sn = 1) := by unfold Hid; omega
      obtain ⟨p, hp⟩ : ∃ p, X.sto = [p] := List.length_eq_one_iff.1 (HSN.out.trans HS1.out)
      have hsn0 : (0 : Int) < (sn : Int) := by omega
      have HP : Hid (X.sto = [p]) := hp
      obtain ⟨p0, p1, p2⟩ := HXo.out.1.bd p (by rw [hp]; simp)
      have hlo : Wd.lo (p.1 + p.2) = p.1 + p.2 := by unfold Wd.lo; omega
      obtain ⟨b3, D3⟩ := HD3.out
      have hso' := (Dq.nu D3 HNr.out).sto
      rw [HSo.out, HSN.out, hp] at hso'
      obtain ⟨gs', hgs', hgl', hcs'⟩ := owns_read hso' hlt
      subst hgs'
      have c0 : wr.cell? ⟨gs', 0, none⟩ = some (.int .u32 p.1) := hcs' 0 _ rfl
      have c1 : wr.cell? ⟨gs', 1, none⟩ = some (.int .u32 (p.1 + p.2)) := by rw [← hlo]; exact hcs' 1 _ rfl
      have x38 : wr.cell? ⟨ub, 38, none⟩ = some (.int .u32 0) := (cr HUr.out).trans (by rw [← HX0.out, List.getElem?_toArray]; exact uL_fld (u := ⟨k, hv, 0, [], []⟩) HOK.out 0)
      have f38 : wr.frozen? ⟨ub, 38, none⟩ = false := fzr HUr.out
      have hubl : ub < wr.heap.size := (gs HUr.out).1
      clear hcs' hso' D3 hp
      obtain ⟨pf, pn⟩ := p
      simp only at *
      obtain ⟨f, rfl⟩ := Int.eq_ofNat_of_zero_le p0
      obtain ⟨q, rfl⟩ := Int.eq_ofNat_of_zero_le (show 0 ≤ pn by omega)
      have hml : s.m.length = mn := HF.out.mem
      rcases HR.out.bw.mem with ⟨_, h2⟩ | ⟨mk, mc, hMe, ⟨_, hcap⟩, hrow⟩
      · rw [h2] at hml; simp at hml; omega
      have HMe : Hid (M = .slice (some ⟨mk, 0, none⟩) mn mc) := by rw [hml] at hMe; exact hMe
      have hcp : mn ≤ mc := by omega
      have HRo : Hid (Mem w (some ⟨mk, f, none⟩) q ((s.m.drop f).take q)) := by
        have := mem_sub (f := f) (c := q) (Row.mem hrow) (by omega)
        rwa [Nat.zero_add] at this
      have HLo : Hid (∀ W : World, Gr w W → Calls Tryd.prog 73 #[.pointer (some ⟨g, 0, none⟩), .int .i64 k, .agg #[.int .u32 f, .int .u32 ((f : Int) + (q : Int))]] W fun e w' => ∃ v, e = .returned v ∧ w'.ownsRow W.heap.size 88 2 v (lostU k (f, q) s.hs s.hs.length).length (lsC (lostU k (f, q) s.hs s.hs.length)) ∧ Gr W w') := fun W G => by
        have := Lost_any (HR.out.bw.of G) (by rw [HF.out.len]; exact hc4) k ((f : Int), (q : Int)) p0 p1 (by simp only; omega)
        simp only [hlo] at this
        exact this
      clear hMe hcap hrow hml hlo
      have HX1 : Hid ((uL ⟨k, hv, 0, [], []⟩ nilS nilS).toArray.setIfInBounds 38 (.int .u32 f) = (uL ⟨k, hv, f, [], []⟩ nilS nilS).toArray) := uL_set38 (u := ⟨k, hv, 0, [], []⟩) HOK.out f
      go_wp2_with fail
      refine atW (fun W => W.heap[ub]? = some (.cells (uL ⟨k, hv, f, [], []⟩ nilS nilS).toArray 86 (0, 0)) ∧ W.heap[wr.heap.size]? = some (.cells #[.int .u32 f, .int .u32 ((f : Int) + (q : Int))] 143 (0, 0)) ∧ Gr w W ∧ Nu wr W) ⟨?fa, ?fb, ?fc, ?fd⟩ ?_
      case fa => refine Hr.heap_of_gr ((Gr.refl _).alloc _) ?_; rw [hss HUr.out, ← HX0.out, HX1.out]
      case fb => have := heap_alloc_new (wr.setCell ⟨ub, 38, none⟩ (.int .u32 f)) (.cells #[.int .u32 f, .int .u32 ((f : Int) + (q : Int))] 143); rwa [szC] at this
      case fc => exact (HGr.out.setCell (by have := HUB.out; exact Nat.le_of_eq this.symm) _).alloc _
      case fd => exact ((Nu.refl wr).set HUr.out 38 _).trans (Nu.gr ((Gr.refl _).alloc _))
      rintro W5 ⟨KU, KR, G5, N5⟩
      obtain ⟨rb, hrb⟩ : ∃ rb : Nat, rb = wr.heap.size := ⟨_, rfl⟩
      rw [← hrb] at KR ⊢
      have hru : ub ≠ rb := by omega
      have HU5 : Hid (W5.heap[ub]? = some (.cells (uL ⟨k, hv, f, [], []⟩ nilS nilS).toArray 86 (0, 0))) := KU
      have HR5 : Hid (W5.heap[rb]? = some (.cells #[.int .u32 f, .int .u32 ((f : Int) + (q : Int))] 143 (0, 0))) := KR
      have HG5 : Hid (Gr w W5) := G5
      have HN5 : Hid (Nu W3 W5) := HNr.out.trans N5
      have m0 : W5.cell? ⟨g, 0, none⟩ = some (.slice (some ⟨mk, 0, none⟩) mn mc) := by rw [← HMe.out]; exact (HR.out.bw.of G5).c0
      have r0 := cr0 KR
      have r1 := cr1 KR
      have u39 : W5.cell? ⟨ub, 39, none⟩ = some nilS := (cr KU).trans (by rw [List.getElem?_toArray]; exact uL_fld (u := ⟨k, hv, f, [], []⟩) HOK.out 1)
      have g39 : W5.frozen? ⟨ub, 39, none⟩ = false := fzr KU
      have hub5 : ub < W5.heap.size := (gs KU).1
      have HCl : Hid (∀ W : World, Gr W5 W → Calls Tryd.prog 36 #[.slice (some ⟨mk, f, none⟩) (((f : Int) + (q : Int)).toNat - f) (mc - f)] W fun e w' => ∃ a c', e = .returned (.slice a q c') ∧ Hc.Own w' 0 (.slice a q c') ((s.m.drop f).take q) ∧ Gr W w') := fun W G => by rw [show ((f : Int) + (q : Int)).toNat - f = q by omega]; exact clone_own (HRo.out.of (HG5.out.trans G)) (fun e => by cases e) (by omega)
      have q1 : (0 : Int) ≤ (f : Int) + (q : Int) := by omega
      have q2 : (f : Int) + (q : Int) ≤ (mc : Int) := by omega
      have q3 : (f : Int) ≤ (f : Int) + (q : Int) := by omega
      have q4 : ¬ mc = f := by omega
      clear KU KR G5 N5 hrb HGr HNr HOr HUr c0 c1 x38 f38 HX1 hubl
      go_region_held3 (fun W => W.cell? ⟨g, 0, none⟩ = some (.slice (some ⟨mk, 0, none⟩) mn mc) ∧ W.cell? ⟨rb, 0, none⟩ = some (.int .u32 f) ∧ W.cell? ⟨rb, 1, none⟩ = some (.int .u32 ((f : Int) + (q : Int)))) (first | (refine ⟨?_, ?_, ?_⟩ <;> assumption) | (exact ⟨(World.cell?_of_block (hso (by exact Nat.ne_of_lt hgu))).trans y0, (World.cell?_of_block (hso (by exact hru.symm))).trans y1, (World.cell?_of_block (hso (by exact hru.symm))).trans y2⟩) | (go_keep; done)) (first | (go_at_call 36; refine (HCl.out W5.drew (Gr.refl W5).drew).mono ?_; rintro e w6 ⟨ba, bc', rfl, O6, G6⟩; have HO6 : Hid (Hc.Own w6 0 (.slice ba q bc') ((s.m.drop f).take q)) := O6; have HG6 : Hid (Gr W5 w6) := (Gr.refl W5).drew.trans G6; have y0 : w6.cell? ⟨g, 0, none⟩ = some (.slice (some ⟨mk, 0, none⟩) mn mc) := (G6.cell _ (by exact Nat.lt_trans hgu hub5)).trans m0; have y1 : w6.cell? ⟨rb, 0, none⟩ = some (.int .u32 f) := cr0 (Hr.heap_of_gr G6 HR5.out); have y2 : w6.cell? ⟨rb, 1, none⟩ = some (.int .u32 ((f : Int) + (q : Int))) := cr1 (Hr.heap_of_gr G6 HR5.out); have y3 : w6.cell? ⟨ub, 39, none⟩ = some nilS := (G6.cell _ (by exact hub5)).trans u39; have y4 : w6.frozen? ⟨ub, 39, none⟩ = false := fzr (Hr.heap_of_gr G6 HU5.out); clear O6 G6))
      refine atW (fun W => W.heap[ub]? = some (.cells (uL ⟨k, hv, f, [], []⟩ (.slice ba q bc') nilS).toArray 86 (0, 0)) ∧ W.heap[rb]? = some (.cells #[.int .u32 f, .int .u32 ((f : Int) + (q : Int))] 143 (0, 0)) ∧ Gr w W ∧ Nu W3 W ∧ Hc.Own W 0 (.slice ba q bc') ((s.m.drop f).take q)) ⟨?ga, ?gb, ?gc, ?gd, ?ge⟩ ?_
      case ga => rw [hss (Hr.heap_of_gr HG6.out HU5.out), uL_set39 (u := ⟨k, hv, f, [], []⟩) HOK.out]
      case gb => rw [hso (by exact hru.symm)]; exact Hr.heap_of_gr HG6.out HR5.out
      case gc => exact (HG5.out.trans HG6.out).setCell (by have := HUB.out; exact Nat.le_of_eq this.symm) _
      case gd => exact (HN5.out.trans (Nu.gr HG6.out)).set (Hr.heap_of_gr HG6.out HU5.out) 39 _
      case ge => exact HO6.out.to fun z ob fz hz => hso (by exact ne_of_types hz (Hr.heap_of_gr HG6.out HU5.out) (by decide))
      rintro W7 ⟨KU, KR, G7, N7, O7⟩
      have HU7 : Hid (W7.heap[ub]? = some (.cells (uL ⟨k, hv, f, [], []⟩ (.slice ba q bc') nilS).toArray 86 (0, 0))) := KU
      have HR7 : Hid (W7.heap[rb]? = some (.cells #[.int .u32 f, .int .u32 ((f : Int) + (q : Int))] 143 (0, 0))) := KR
      have HG7 : Hid (Gr w W7) := G7
      have HN7 : Hid (Nu W3 W7) := N7
      have HO7 : Hid (Hc.Own W7 0 (.slice ba q bc') ((s.m.drop f).take q)) := O7
      clear HU5 HR5 HG5 HN5 m0 r0 r1 u39 g39 HCl HO6 HG6 y0 y1 y2 y3 y4 hub5 HMe q4
      have r0 := cr0 KR
      have r1 := cr1 KR
      have u40 : W7.cell? ⟨ub, 40, none⟩ = some nilS := (cr KU).trans (by rw [List.getElem?_toArray]; exact uL_fld (u := ⟨k, hv, f, [], []⟩) HOK.out 2)
      have g40 : W7.frozen? ⟨ub, 40, none⟩ = false := fzr KU
      have hub7 : ub < W7.heap.size := (gs KU).1
      clear KU KR G7 N7 O7
      go_wp2_with fail
      go_region_held3 (fun W => W.cell? ⟨rb, 0, none⟩ = some (.int .u32 f) ∧ W.cell? ⟨rb, 1, none⟩ = some (.int .u32 ((f : Int) + (q : Int)))) (first | (refine ⟨?_, ?_⟩ <;> assumption) | (exact ⟨(World.cell?_of_block (hso (by exact hru.symm))).trans y1, (World.cell?_of_block (hso (by exact hru.symm))).trans y2⟩) | (go_keep; done)) (first | (go_at_call 73; refine (HLo.out W7.drew HG7.out.drew).mono ?_; rintro e w8 ⟨lv, rfl, L8, G8⟩; obtain ⟨_, _, la, lc, rfl⟩ := owns_cells L8; have HL8 : Hid (w8.ownsRow W7.drew.heap.size 88 2 (.slice la (lostU k (f, q) s.hs s.hs.length).length lc) (lostU k (f, q) s.hs s.hs.length).length (lsC (lostU k (f, q) s.hs s.hs.length))) := L8; have HG8 : Hid (Gr W7 w8) := (Gr.refl W7).drew.trans G8; have y1 : w8.cell? ⟨rb, 0, none⟩ = some (.int .u32 f) := cr0 (Hr.heap_of_gr G8 HR7.out); have y2 : w8.cell? ⟨rb, 1, none⟩ = some (.int .u32 ((f : Int) + (q : Int))) := cr1 (Hr.heap_of_gr G8 HR7.out); have y3 : w8.cell? ⟨ub, 40, none⟩ = some nilS := (G8.cell _ (by exact hub7)).trans u40; have y4 : w8.frozen? ⟨ub, 40, none⟩ = false := fzr (Hr.heap_of_gr G8 HU7.out); clear L8 G8))
      have HFin : Hid (Done (w8.setCell ⟨ub, 40, none⟩ (.slice la (lostU k (f, q) s.hs s.hs.length).length lc)) ub (undoS s k)) := by
        have hb := Hr.heap_of_gr HG8.out HU7.out
        have eu : undoS s k = ⟨k, hv, f, (s.m.drop f).take q, lostI (lostU k (f, q) s.hs s.hs.length)⟩ := by
          unfold undoS
          rw [← HXs.out, HP.out]
          unfold undoOf
          rw [HH.out]
          simp only [Int.toNat_natCast]
        have kp : ∀ (z : Nat) (ob : Array Value) (t : Nat) (fz : Nat × Nat), t ≠ 86 → w8.heap[z]? = some (.cells ob t fz) → (w8.setCell ⟨ub, 40, none⟩ (.slice la (lostU k (f, q) s.hs s.hs.length).length lc)).heap[z]? = w8.heap[z]? := fun z ob t fz ht hz => hso (by exact ne_of_types hz hb ht)
        rw [eu]
        refine ⟨uL ⟨k, hv, f, [], []⟩ (.slice ba q bc') (.slice la (lostU k (f, q) s.hs s.hs.length).length lc), uL_len (u := ⟨k, hv, f, [], []⟩) HOK.out, ?_, .slice ba q bc', .slice la (lostU k (f, q) s.hs s.hs.length).length lc, rfl, ?_, ?_⟩
        · rw [hss hb, uL_set40 (u := ⟨k, hv, f, [], []⟩) HOK.out]
        · exact (own_gr HO7.out HG8.out).to fun z ob fz hz => kp z ob _ fz (by decide) hz
        · have := owns_to (owns_low HL8.out (Nat.zero_le _)) fun z ob fz hz => kp z ob _ fz (by decide) hz
          simp only [lsI_lostI]
          rw [show (lostI (lostU k (f, q) s.hs s.hs.length)).length = (lostU k (f, q) s.hs s.hs.length).length by simp [lostI]]
          exact this
      have HGf : Hid (Gr w (w8.setCell ⟨ub, 40, none⟩ (.slice la (lostU k (f, q) s.hs s.hs.length).length lc))) := (HG7.out.trans HG8.out).setCell (by have := HUB.out; exact Nat.le_of_eq this.symm) _
      have HNf : Hid (Nu W3 (w8.setCell ⟨ub, 40, none⟩ (.slice la (lostU k (f, q) s.hs s.hs.length).length lc))) := (HN7.out.trans (Nu.gr HG8.out)).set (Hr.heap_of_gr HG8.out HU7.out) 40 _
      generalize (w8.setCell ⟨ub, 40, none⟩ (.slice la (lostU k (f, q) s.hs s.hs.length).length lc)) = W9 at *
      go_wp2_with fail
      go_roundw
      case rel => exact ⟨1, by omega, by go_num, HGf.out, HNf.out, fun h => absurd h (by have := HS1.out; omega), fun _ => HFin.out⟩
      case measure => simp [intOf]; omega
    · obtain ⟨XL, hXl, hXb, hUo⟩ := hB (by omega)
      have HUr : Hid (wr.heap[ub]? = some (.cells XL.toArray 86 (0, 0))) := hXb
      have HXl : Hid (XL.length = 41) := hXl
      have HUo : Hid (Uo wr (undoS s k) XL) := hUo
      have HRr : Hid (Rw wr base g M gh hc O U xs s us) := HR.out.of HGr.out
      obtain ⟨QL, HQL⟩ : ∃ QL : List Value, Hid (qA d = QL.toArray) := ⟨_, rfl⟩
      have HQl : Hid (QL.length = 41) := by have := HSD.out; rw [HQL.out, List.size_toArray] at this; exact this
      have HSv : Hid (∀ V : World, V.heap[o]? = some (.cells (qA d) 101 (0, 0)) → V.rangeAt o 0 QL) := fun V e i v hv => by rw [Nat.zero_add, cr e, HQL.out, List.getElem?_toArray]; exact hv
      have HTa : Hid (∀ V : World, Gr wr V → Calls Tryd.prog 40 #[.pointer (some ⟨g, 0, none⟩), .int .i64 k, .agg QL.toArray] V fun e w' => e = .returned (.tuple #[]) ∧ Bd 76 [U] w' base g (stepS s k) ∧ Fe 76 base V w') := fun V G => by
        rw [← HQL.out, ← HTk.out]
        obtain ⟨b3, D3⟩ := HD3.out
        have o1 := HXo.out.1.out
        have o2 := HXo.out.1.sto
        have o3 := HXo.out.2
        exact Take_any (HRr.out.bw.of G) HF.out.len hc4 ((Dq.nu D3 HNr.out).gr G) HOd.out (fun p hp => by have := HXo.out.1.bd p hp; omega) (by omega) (by omega) (by omega) hk
      have hul : w.heap.size ≤ ub := by have := HUB.out; omega
      clear hXl hXb hUo hA hB G N
      go_wp2_with fail
      refine wp_region_held_drew (S := fun W => W.rangeAt o 0 QL) (by kernel_rfl) (HSv.out _ HOr.out) (fun hHeld => ?_)
      have HS0 : Hid _ := hHeld
      clear hHeld
      refine wpAnyH_take (i := 0) (v := .pointer (some ⟨g, 0, none⟩)) rfl (by kernel_rfl) (by kernel_rfl) (by kernel_rfl) (fun _ _ _ h => h) (Or.inl ⟨by rfl, fun W hW => by go_simp⟩) HS0.out ?_
      simp only [List.getElem_toArray, List.getElem_cons_succ, List.getElem_cons_zero, Act.put, List.setIfInBounds_toArray, List.set_cons_zero, List.set_cons_succ]
      refine wpAnyH_take (i := 1) (v := .pointer (some ⟨g, 0, none⟩)) rfl (by kernel_rfl) (by kernel_rfl) (by kernel_rfl) (fun _ _ _ h => h) (Or.inl ⟨by rfl, fun W hW => by go_simp⟩) HS0.out ?_
      simp only [List.getElem_toArray, List.getElem_cons_succ, List.getElem_cons_zero, Act.put, List.setIfInBounds_toArray, List.set_cons_zero, List.set_cons_succ]
      refine wpAnyH_take (i := 2) (v := .pointer (some ⟨g, 0, none⟩)) rfl (by kernel_rfl) (by kernel_rfl) (by kernel_rfl) (fun _ _ _ h => h) (Or.inl ⟨by rfl, fun W hW => by go_simp⟩) HS0.out ?_
      simp only [List.getElem_toArray, List.getElem_cons_succ, List.getElem_cons_zero, Act.put, List.setIfInBounds_toArray, List.set_cons_zero, List.set_cons_succ]
      refine wpAnyH_take (i := 3) (v := .int .i64 k) rfl (by kernel_rfl) (by kernel_rfl) (by kernel_rfl) (fun _ _ _ h => h) (Or.inl ⟨by rfl, fun W hW => by go_simp⟩) HS0.out ?_
      simp only [List.getElem_toArray, List.getElem_cons_succ, List.getElem_cons_zero, Act.put, List.setIfInBounds_toArray, List.set_cons_zero, List.set_cons_succ]
      refine wpAnyH_take (i := 4) (v := .agg QL.toArray) rfl (by kernel_rfl) (by kernel_rfl) (by kernel_rfl) (fun _ _ _ h => h) (yieldsIf_load_mid (by rfl) 101 (.tmp 5) rfl o 0 (by simp [Act.eval]) QL _ (fun W hW => hW) Tryd.underlying101 rfl (by rw [HQl.out]; exact iQ)) HS0.out ?_
      simp only [List.getElem_toArray, List.getElem_cons_succ, List.getElem_cons_zero, Act.put, List.setIfInBounds_toArray, List.set_cons_zero, List.set_cons_succ]
      refine wpAnyH_ready (rs := [5]) (by kernel_rfl) (by simp) ?_
      refine AllReadyH.cons rfl (fun K hK => ?_) AllReadyH.nil
      go_simp
      refine (HTa.out _ (Gr.refl _).drew).mono ?_
      rintro e w5 ⟨rfl, B5, F5⟩
      have HF5 : Hid (Fe 76 base wr w5) := ⟨(Below.drew (Below.refl base wr)).trans F5.below, F5.keep⟩
      have HO5 : Hid (w5.heap[o]? = some (.cells (qA d) 101 (0, 0))) := (HF5.out.cells HOr.out (by decide) (by decide) (by decide)).trans HOr.out
      have HU5 : Hid (w5.heap[ub]? = some (.cells XL.toArray 86 (0, 0))) := (HF5.out.cells HUr.out (by decide) (by decide) (by decide)).trans HUr.out
      have HUo5 : Hid (Uo w5 (undoS s k) XL) := HUo.out.to fun z ob t fz ht hz => HF5.out.cells hz (by rcases ht with rfl | rfl <;> decide) (by rcases ht with rfl | rfl <;> decide) (by rcases ht with rfl | rfl <;> decide)
      obtain ⟨M5, gh5, hc5, O5, R5⟩ := HRr.out.take B5 HF5.out
      have HR5 : Hid (Rw w5 base g M5 gh5 hc5 O5 U xs (stepS s k) us) := R5
      have HFk : Hid (Fk base w w5) := (Fk.ofGr HGr.out hbb).trans (Fk.ofFe HF5.out)
      clear B5 F5
      refine hK.out _ _ (HSv.out _ HO5.out) (fun hx => ?_)
      clear hK K hx
      refine wpAnyH_done (by kernel_rfl) ?_ _
      have c4 : w5.cell? ⟨g, 4, none⟩ = some U := R5.bw.rest 0
      have hg5 : g < w5.heap.size := R5.bw.lt
      obtain ⟨ua, uc, hU⟩ := (owns_cells R5.row).2.2
      have HUe : Hid (U = .slice ua us.length uc) := hU
      have HSu : Hid (∀ V : World, V.heap[ub]? = some (.cells XL.toArray 86 (0, 0)) → V.rangeAt ub 0 XL) := fun V e i v hv => by rw [Nat.zero_add, cr e, List.getElem?_toArray]; exact hv
      clear R5 HS0 HTa HSv HOr HUr HRr HUo HO5 HQL
      rw [hU] at c4
      clear hU
      obtain ⟨i0, hi, hz0, hz1, hz2⟩ := info_parts infoU
      go_wp2_with fail
      refine wp_region_held_drew (S := fun W => W.rangeAt ub 0 XL) (by kernel_rfl) (HSu.out _ HU5.out) (fun hHeld => ?_)
      have HT0 : Hid _ := hHeld
      clear hHeld
      refine wpAnyH_take (i := 0) (v := .pointer (some ⟨g, 0, none⟩)) rfl (by kernel_rfl) (by kernel_rfl) (by kernel_rfl) (fun _ _ _ h => h) (Or.inl ⟨by rfl, fun W hW => by go_simp⟩) HT0.out ?_
      simp only [List.getElem_toArray, List.getElem_cons_succ, List.getElem_cons_zero, Act.put, List.setIfInBounds_toArray, List.set_cons_zero, List.set_cons_succ]
      refine wpAnyH_take (i := 1) (v := .pointer (some ⟨g, 0, none⟩)) rfl (by kernel_rfl) (by kernel_rfl) (by kernel_rfl) (fun _ _ _ h => h) (Or.inl ⟨by rfl, fun W hW => by go_simp⟩) HT0.out ?_
      simp only [List.getElem_toArray, List.getElem_cons_succ, List.getElem_cons_zero, Act.put, List.setIfInBounds_toArray, List.set_cons_zero, List.set_cons_succ]
      refine wpAnyH_take (i := 2) (v := .pointer (some ⟨g, 0, none⟩)) rfl (by kernel_rfl) (by kernel_rfl) (by kernel_rfl) (fun _ _ _ h => h) (Or.inl ⟨by rfl, fun W hW => by go_simp⟩) HT0.out ?_
      simp only [List.getElem_toArray, List.getElem_cons_succ, List.getElem_cons_zero, Act.put, List.setIfInBounds_toArray, List.set_cons_zero, List.set_cons_succ]
      refine wpAnyH_take (i := 3) (v := .pointer (some ⟨g, 4, none⟩)) rfl (by kernel_rfl) (by kernel_rfl) (by kernel_rfl) (fun _ _ _ h => h) (Or.inl ⟨by rfl, fun W hW => by go_simp⟩) HT0.out ?_
      simp only [List.getElem_toArray, List.getElem_cons_succ, List.getElem_cons_zero, Act.put, List.setIfInBounds_toArray, List.set_cons_zero, List.set_cons_succ]
      refine wpAnyH_take (i := 5) (v := .agg XL.toArray) rfl (by kernel_rfl) (by kernel_rfl) (by kernel_rfl) (fun _ _ _ h => h) (yieldsIf_load_mid (by rfl) 86 (.tmp 4) rfl ub 0 (by simp [Act.eval]) XL _ (fun W hW => hW) Tryd.underlying86 rfl (by rw [HXl.out]; exact iU)) HT0.out ?_
      simp only [List.getElem_toArray, List.getElem_cons_succ, List.getElem_cons_zero, Act.put, List.setIfInBounds_toArray, List.set_cons_zero, List.set_cons_succ]
      have HX1 : Hid (∀ u ∈ XL, u.oneCell' = true) := HUo5.out.one
      have HG6 : Hid (Gr w5 (w5.drew.alloc (.cells XL.toArray 86))) := Gr.alloc (Gr.drew (Gr.refl _)) _
      have HSa : Hid (∀ Z : Obj, (w5.drew.alloc Z).rangeAt ub 0 XL) := fun Z => HSu.out _ (Hr.heap_of_gr (Gr.alloc (Gr.drew (Gr.refl w5)) Z) HU5.out)
      apply shareP
      · intro CONT
        refine wpAnyH_ready (rs := [4, 6]) (by kernel_rfl) (by simp) ?_
        refine AllReadyH.cons rfl (fun K hK => ?_) (AllReadyH.cons rfl (fun K hK => ?_) AllReadyH.nil)
        · go_simp
          refine hK.out _ _ HT0.out (fun hx => ?_)
          clear hK K hx
          refine wpAnyH_ready (rs := [6]) (by kernel_rfl) (by simp) ?_
          refine AllReadyH.cons rfl (fun K hK => ?_) AllReadyH.nil
          refine step_slice1 rfl 41 86 (.tmp 69) rfl XL.toArray 41 (by simp [Act.eval, Act.put]) (by simp [HXl.out]) Tryd.underlying41 iUz (by decide) (by decide) ?_
          refine hK.out _ _ (HSa.out _) (fun hx => ?_)
          clear hK K hx
          simp only [List.getElem_toArray, List.getElem_cons_succ, List.getElem_cons_zero, Act.put, List.setIfInBounds_toArray, List.set_cons_zero, List.set_cons_succ]
          exact CONT.out
        · refine step_slice1 rfl 41 86 (.tmp 69) rfl XL.toArray 41 (by simp [Act.eval, Act.put]) (by simp [HXl.out]) Tryd.underlying41 iUz (by decide) (by decide) ?_
          refine hK.out _ _ (HSa.out _) (fun hx => ?_)
          clear hK K hx
          simp only [List.getElem_toArray, List.getElem_cons_succ, List.getElem_cons_zero, Act.put, List.setIfInBounds_toArray, List.set_cons_zero, List.set_cons_succ]
          refine wpAnyH_ready (rs := [4]) (by kernel_rfl) (by simp) ?_
          refine AllReadyH.cons rfl (fun K hK => ?_) AllReadyH.nil
          go_simp
          refine hK.out _ _ (HSa.out _) (fun hx => ?_)
          clear hK K hx
          exact CONT.out
      have HXc : Hid (∀ j u, XL[j]? = some u → (w5.drew.alloc (.cells XL.toArray 86)).cell? ((⟨w5.drew.heap.size, 0, none⟩ : Addr).add j) = some u) := fun j u hj => by
        rw [add_at, Nat.zero_add, cr (heap_alloc_new w5.drew (.cells XL.toArray 86)), List.getElem?_toArray]
        exact hj
      refine wpAnyH_ready (rs := [7]) (by kernel_rfl) (by simp) ?_
      refine AllReadyH.cons rfl (fun K hK => ?_) AllReadyH.nil
      refine step_append_own rfl (.tmp 68) (.tmp 70) 41 rfl base 86 i0 _ 41 224 Tryd.underlying41 hi hz0 hz1 hz2 (by simp [Value.cells, uL_len (u := h00) h0_ok]) (by decide) (.slice ua us.length uc) us.length xs (by simp [Act.eval, Act.put]) (by rw [← HUe.out]; exact owns_gr HR5.out.row HG6.out) ⟨w5.drew.heap.size, 0, none⟩ 1 1 XL (by simp [Act.eval, Act.put]) (by rw [HXl.out]) HXc.out HX1.out (by unfold maxLen; omega) (by omega) (by have := HG6.out.size; have := HR5.out.bw.base_le; omega) ?_
      intro v' w7 hown hgrow
      rw [← HUe.out] at hgrow
      obtain ⟨g', cp, rfl⟩ := own_form hown (by omega)
      obtain ⟨c7, f7, RN, FN⟩ := (HR5.out.of HG6.out).put (HUo5.out.to (Ky.ofGr HG6.out)) HXl.out rfl hown hgrow
      have HRN : Hid _ := RN
      have HFN : Hid (Fk base w5 _) := (Fk.ofGr HG6.out HR5.out.bw.base_le).trans FN
      have HS7 : Hid (w7.heap[ub]? = some (.cells XL.toArray 86 (0, 0))) := by
        have hne : some ub ≠ U.ownBlock := fun e => by have := (HR.out.row.lt ub e.symm).2; omega
        exact (hgrow.block ub (by have := HG6.out.size; have := (gs HU5.out).1; omega) hne).trans (Hr.heap_of_gr HG6.out HU5.out)
      clear RN FN
      refine hK.out _ _ (HSu.out _ HS7.out) (fun hx => ?_)
      clear hK K hx hown hgrow
      have HT7 : Hid (w7.rangeAt ub 0 XL) := HSu.out _ HS7.out
      have HS8 : Hid ((w7.setCell ⟨g, 4, none⟩ (.slice (some ⟨g', 0, none⟩) (us.length + 1) cp)).rangeAt ub 0 XL) := HSu.out _ (by rw [hso (by exact Nat.ne_of_gt hgu)]; exact HS7.out)
      refine wpAnyH_take (i := 8) (v := .pointer (some ⟨g, 0, none⟩)) rfl (by kernel_rfl) (by kernel_rfl) (by kernel_rfl) (fun _ _ _ h => h) (Or.inl ⟨by rfl, fun W hW => by go_simp⟩) HT7.out ?_
      simp only [List.getElem_toArray, List.getElem_cons_succ, List.getElem_cons_zero, Act.put, List.setIfInBounds_toArray, List.set_cons_zero, List.set_cons_succ]
      refine wpAnyH_take (i := 9) (v := .pointer (some ⟨g, 4, none⟩)) rfl (by kernel_rfl) (by kernel_rfl) (by kernel_rfl) (fun _ _ _ h => h) (Or.inl ⟨by rfl, fun W hW => by go_simp⟩) HT7.out ?_
      simp only [List.getElem_toArray, List.getElem_cons_succ, List.getElem_cons_zero, Act.put, List.setIfInBounds_toArray, List.set_cons_zero, List.set_cons_succ]
      refine wpAnyH_ready (rs := [10]) (by kernel_rfl) (by simp) ?_
      refine AllReadyH.cons rfl (fun K hK => ?_) AllReadyH.nil
      go_simp
      refine hK.out _ _ HS8.out (fun hx => ?_)
      clear hK K hx
      refine wpAnyH_done (by kernel_rfl) ?_ _
      go_wp2_with fail
      go_end0
      exact ⟨rfl, HRN.out, HFk.out.trans HFN.out⟩
end Go.Proofs.YtdiofidmlgliiaaDoor.Ud
/-
  What a recorder's turn does: a pick, step by step.
-/
namespace Go.Proofs.YtdiofidmlgliiaaDoor.Ud
open Go.ChangeShapes Go.WideShapes Go.ChangeAt Go.RowKit Mm Hh Hc Mc
set_option linter.unusedVariables false
set_option linter.unusedSimpArgs false

theorem trR_stop {s : Sh} {k : Nat} (h : ¬ (at' s k).state = 0) : ∀ n, trR s k n = []
  | 0 => rfl
  | n + 1 => if_neg h
/-- A pick on its way: j of its n steps were done. -/
structure Tw (s : Sh) (us : List Uv) (k n j : Nat) (c mn : Nat) (s' : Sh) (us' : List Uv) : Prop where
  le : j ≤ n
  runs : runs s k n = runs s' k (n - j)
  uns : us ++ uns s (trR s k n) = us' ++ uns s' (trR s' k (n - j))
  fit : Fit s' c mn
  ul : us'.length ≤ us.length + j
  ol : s'.out.length ≤ s.out.length + j
  sl : s'.steps ≤ s.steps + j
theorem step_outl {s : Sh} {c n k : Nat} (F : Fit s c n) (hk : k < c) (h : (at' s k).state = 0) : (stepS s k).out.length ≤ s.out.length + 1 := by
  have hl : k < s.hs.length := by rw [F.len]; exact hk
  have eh : s.hs[k]? = some (at' s k) := by unfold at'; rw [List.getElem?_eq_getElem hl]; simp [List.getD, hl]
  have g := good_stp (rn_of (F.ok _ (mem_of_get eh)).2 h) s.m
  have := g.2.2.2.1
  simp only [stepS, List.length_append]
  omega
theorem Tw.on {s : Sh} {us : List Uv} {k n j c mn : Nat} {s' : Sh} {us' : List Uv} (t : Tw s us k n j c mn s' us') (hk : k < c) (hj : j < n) (h : (at' s' k).state = 0) : Tw s us k n (j + 1) c mn (stepS s' k) (us' ++ [undoS s' k]) := by
  have e : n - j = (n - (j + 1)) + 1 := by omega
  have o := step_outl t.fit hk h
  refine ⟨by omega, ?_, ?_, step_fit t.fit hk h, ?_, ?_, ?_⟩
  · rw [t.runs, e]
    show (if (at' s' k).state = 0 then Mc.runs (stepS s' k) k (n - (j + 1)) else s') = _
    rw [if_pos h]
  · rw [t.uns, e, List.append_assoc]
    show us' ++ Ud.uns s' (if (at' s' k).state = 0 then k :: trR (stepS s' k) k (n - (j + 1)) else []) = _
    rw [if_pos h]
    rfl
  · have := t.ul; simp; omega
  · have := t.ol; omega
  · have := t.sl; show s'.steps + 1 ≤ _; omega
theorem Tw.stop {s : Sh} {us : List Uv} {k n j c mn : Nat} {s' : Sh} {us' : List Uv} (t : Tw s us k n j c mn s' us') (h : ¬ (at' s' k).state = 0 ∨ j = n) : Mc.runs s k n = s' ∧ us ++ Ud.uns s (trR s k n) = us' := by
  rw [t.runs, t.uns]
  rcases h with h | h
  · rw [runs_stop h, trR_stop h]
    exact ⟨rfl, by simp [Ud.uns]⟩
  · rw [h, Nat.sub_self]
    exact ⟨rfl, by simp [trR, Ud.uns]⟩
set_option maxHeartbeats 2000000 in
set_option maxRecDepth 100000 in
theorem turn_any {w : World} {base g : Nat} {s : Sh} {us : List Uv} (R : Rc w base g s us) (T : TT w base) {c mn : Nat} (F : Fit s c mn) (hmn : mn ≤ 4096) {k n : Nat} (hk : k < c) (hc4 : c ≤ 4) (hn : n ≤ 400) (hus : us.length + 400 ≤ 200000) (hout : s.out.length + 400 ≤ 200000) (hstp : s.steps + 400 ≤ 200000) :
    Calls Tryd.prog 29 #[.pointer (some ⟨g, 0, none⟩), .agg #[.int .i64 k, .int .i64 n]] w fun e w' => e = .returned (.tuple #[]) ∧ Rc w' base g (runs s k n) (us ++ uns s (trR s k n)) ∧ Fk base w w' := by
  have hbb : base ≤ w.heap.size := by obtain ⟨_, _, _, _, _, _, R⟩ := R; exact R.bw.base_le
  have HR : Hid (Rc w base g s us) := R
  have HTT : Hid (TT w base) := T
  have HF : Hid (Fit s c mn) := F
  clear R T F
  go_enter Tryd.func29, Tryd.ntmps29
  go_wp2_with fail
  go_loopw [6] (fun i wr => ∃ (j : Nat) (s' : Sh) (us' : List Uv), i = .int .i64 j ∧ Tw s us k n j c mn s' us' ∧ Rc wr base g s' us' ∧ Fk base w wr ∧ wr.heap[w.heap.size]? = some (.cells #[.int .i64 k, .int .i64 n] 56 (0, 0))) (fun i _ => n - (intOf i).toNat)
  case atStart => exact ⟨0, s, us, rfl, ⟨Nat.zero_le _, rfl, rfl, HF.out, Nat.le_refl _, Nat.le_refl _, Nat.le_refl _⟩, HR.out.of ((Gr.refl _).alloc _), Fk.ofGr ((Gr.refl _).alloc _) hbb, heap_alloc_new w _⟩
  case round =>
    obtain ⟨j, s', us', rfl, t, R, FK, KP⟩ := hrel
    have HT : Hid (Tw s us k n j c mn s' us') := t
    have HRr : Hid (Rc wr base g s' us') := R
    have HFK : Hid (Fk base w wr) := FK
    have HP : Hid (wr.heap[w.heap.size]? = some (.cells #[.int .i64 k, .int .i64 n] 56 (0, 0))) := KP
    have p0 := cr0 KP
    have p1 := cr1 KP
    have hle := t.le
    obtain ⟨M0, gh, hc, O0, U0, xs0, R0⟩ := R
    have hl : k < s'.hs.length := by rw [t.fit.len]; exact hk
    have eh : s'.hs[k]? = some (at' s' k) := by unfold at'; rw [List.getElem?_eq_getElem hl]; simp [List.getD, hl]
    have okh : (at' s' k).Ok := (t.fit.ok _ (mem_of_get eh)).1
    have g1 : wr.cell? ⟨g, 1, none⟩ = some (.slice (some ⟨gh, 0, none⟩) c hc) := by have := R0.bw.c1; rw [t.fit.len] at this; exact this
    have c35 : wr.cell? ⟨gh, k * 37 + 35, none⟩ = some (.int .i64 (at' s' k).state) := (R0.bw.row.cell eh (by omega)).trans (hL_fld okh 3)
    have hbr : base ≤ wr.heap.size := R0.bw.base_le
    clear t R0 FK KP hl eh okh HR
    by_cases hlt : j < n
    · by_cases hst : (at' s' k).state = 0
      · have HSt : Hid (∀ W : World, Gr wr W → Calls Tryd.prog 57 #[.pointer (some ⟨g, 0, none⟩), .int .i64 k] W fun e w' => e = .returned (.tuple #[]) ∧ Rc w' base g (stepS s' k) (us' ++ [undoS s' k]) ∧ Fk base W w') := fun W G => by
          have t := HT.out
          have := t.ul; have := t.ol; have := t.sl
          exact step_any (HRr.out.of G) (tt_below HTT.out (HFK.out.below.trans (Below.mono G hbr))) t.fit hmn hk hc4 hst (by omega) (by omega) (by omega)
        have HTn : Hid (Tw s us k n (j + 1) c mn (stepS s' k) (us' ++ [undoS s' k])) := HT.out.on hk hlt hst
        rw [hst] at c35
        clear hst HT HRr
        go_wp2_with fail
        go_quiet (fail)
        go_wp2_with fail
        refine (HSt.out _ ((Gr.refl _).drewN _)).mono ?_
        rintro e w2 ⟨rfl, R2, F2⟩
        have HR2 : Hid (Rc w2 base g (stepS s' k) (us' ++ [undoS s' k])) := R2
        have HF2 : Hid (Fk base w w2) := HFK.out.trans ((Fk.ofGr ((Gr.refl wr).drewN _) hbr).trans F2)
        have HP2 : Hid (w2.heap[w.heap.size]? = some (.cells #[.int .i64 k, .int .i64 n] 56 (0, 0))) := F2.row HP.out (by decide) (by decide) (by decide) (by decide)
        clear R2 F2 HSt p0 p1 g1 c35
        go_wp2_with fail
        go_roundw
        case rel => exact ⟨j + 1, _, _, by go_num, HTn.out, HR2.out, HF2.out, HP2.out⟩
        case measure => simp [intOf]; omega
      · have HFi : Hid (Rc wr base g (runs s k n) (us ++ uns s (trR s k n))) := by
          obtain ⟨e1, e2⟩ := HT.out.stop (.inl hst)
          rw [e1, e2]
          exact HRr.out
        have hne : ((at' s' k).state == 0) = false := by simpa using hst
        have hne2 : ((at' s' k).state != 0) = true := by simpa using hst
        clear HT HRr hst
        generalize (at' s' k).state = st at *
        go_wp2_with fail
        go_quiet (fail)
        go_wp2_with fail
        refine bodyPost_ret (results_none Tryd.results29 _ _ _) rfl ?_
        exact ⟨rfl, HFi.out.of ((Gr.refl _).drewN _), HFK.out.trans (Fk.ofGr ((Gr.refl wr).drewN _) hbr)⟩
    · have HFi : Hid (Rc wr base g (runs s k n) (us ++ uns s (trR s k n))) := by
        obtain ⟨e1, e2⟩ := HT.out.stop (.inr (by omega))
        rw [e1, e2]
        exact HRr.out
      clear HT HRr
      generalize (at' s' k).state = st at *
      go_wp2_with fail
      go_end0
      exact ⟨rfl, HFi.out, HFK.out⟩
end Go.Proofs.YtdiofidmlgliiaaDoor.Ud
