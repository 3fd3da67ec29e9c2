/-
  Ref5b, Imm, IoW, In, Iat: texts of ours that lie in one file.
-/
import Derived.Test.YthgnfmbnbndeeacG09
import Derived.Test.YthgnfmbnbndeeacG05
import Derived.Test.YthgnfmbnbndeeacG07
import Derived.Test.YthgnfmbnbndeeacG08
import Derived.Laws.BytesString
import Derived.Laws.Cells
import Derived.Test.YthgnfmbnbndeeacG04
/-
  What ferrybridgeref5.Same answers, of two runs that are shown alike.
-/
namespace Go.Proofs.Ythgnfmbnbndeeac.Mc
open Go.ChangeShapes Go.WideShapes Go.ChangeAt Go.RowKit Mm Hh Hc
set_option linter.unusedVariables false
set_option linter.unusedSimpArgs false

theorem neq_hart {h : Hv} (o : h.Ok) (w : World) : (binOp .neq 48 (.agg (hA h)) (.agg (hA h))).run Try.prog w = .ok (.bool false) w := by
  have e := eql_hart o w
  have e1 : binOp .eql 48 (.agg (hA h)) (.agg (hA h)) = (do pure (.bool (← Op.equal 48 (.agg (hA h)) (.agg (hA h))))) := rfl
  have e2 : binOp .neq 48 (.agg (hA h)) (.agg (hA h)) = (do pure (.bool (!(← Op.equal 48 (.agg (hA h)) (.agg (hA h)))))) := rfl
  rw [e1, Sem.run_bind] at e
  rw [e2, Sem.run_bind]
  generalize (Op.equal 48 (.agg (hA h)) (.agg (hA h))).run Try.prog w = r at e ⊢
  cases r with
  | ok v w' =>
    simp only [Result.andThen_ok, Sem.run_pure, Result.ok.injEq, Value.bool.injEq] at e ⊢
    obtain ⟨rfl, rfl⟩ := e
    exact ⟨rfl, rfl⟩
  | _ => simp [Result.andThen] at e
theorem yieldsIf_neq {P : Program} {ops : Array Oper} {S : World → Prop} {o : Oper} {a : Act} (hw : Region.wanted o (yielded ops a.tmps) = true) (t t' : TypeId) (x y : Operand) (ho : o.op = .binOp .neq t x y t') (A B : Array Value) (hx : a.eval x = .agg A) (hy : a.eval y = .agg B) (hg : P.eqGuardType P.depth t = false)
    {v : Value} (h : ∀ w, (binOp .neq t (.agg A) (.agg B)).run P w = .ok v w) : YieldsIf P ops S o v a :=
  .inl ⟨hw, fun w _ => by
    unfold execOp
    simp only [ho, hx, hy, Sem.run_bind, run_eqGuard_agg w _ _ _ _ _ _ hg, h, Result.andThen_ok]
    rfl⟩
/-- .. of a slice that is nil no more is asked than that it reads as nothing. -/
def Shw (w : World) (v : Value) (c mn : Nat) (S : Sh) : Prop := ∃ ma mc ha hc oa oc, v = .agg #[.slice ma mn mc, .slice ha c hc, .slice oa S.out.length oc, .int .i64 S.steps] ∧ Mem w ma mn S.m ∧ Hs w ha c S.hs ∧ Wm w oa S.out.length S.out
theorem Shn.w {w : World} {v : Value} {c mn : Nat} {S : Sh} (h : Shn w v c mn S) : Shw w v c mn S := by
  obtain ⟨ma, mc, ha, hc, oa, oc, e, h1, _, h3, h4, _⟩ := h
  exact ⟨ma, mc, ha, hc, oa, oc, e, h1, h3, h4⟩
theorem Shw.of {w w' : World} {v : Value} {c mn : Nat} {S : Sh} (h : Shw w v c mn S) (G : Gr w w') : Shw w' v c mn S := by
  obtain ⟨ma, mc, ha, hc, oa, oc, e, h1, h3, h4⟩ := h
  exact ⟨ma, mc, ha, hc, oa, oc, e, h1.of G, h3.of G, h4.of G⟩
set_option maxHeartbeats 2000000 in
set_option maxRecDepth 100000 in
theorem Same_w {w : World} {a b : Value} {c mn : Nat} {S : Sh} (A : Shw w a c mn S) (B : Shw w b c mn S) (ho : S.out.length ≤ 1000000) (hc4 : c ≤ 4) :
    Calls Try.prog 25 #[a, b] w fun e w' => e = .returned (.bool true) ∧ Gr w w' := by
  obtain ⟨a1, c1, a2, c2, a3, c3, rfl, A1, A2, A3⟩ := A
  obtain ⟨b1, d1, b2, d2, b3, d3, rfl, B1, B2, B3⟩ := B
  have HBy : Hid (∀ W : World, Gr w W → Calls Try.prog 16 #[.slice a1 mn c1, .slice b1 mn d1] W fun e w' => e = .returned (.bool true) ∧ Gr W w') := fun W G =>
    (Mr.Bytes_any c1 d1 (A1.of G) (B1.of G)).mono fun e w' ⟨h1, h2⟩ => ⟨by rw [h1]; simp, by rw [h2]; exact Gr.refl _⟩
  have HWo : Hid (∀ W : World, Gr w W → Calls Try.prog 37 #[.slice a3 S.out.length c3, .slice b3 S.out.length d3] W fun e w' => e = .returned (.bool true) ∧ Gr W w') := fun W G => Words_same c3 d3 ho (A3.of G) (B3.of G)
  have HA2 : Hid (Hs w a2 c S.hs) := A2
  have HB2 : Hid (Hs w b2 c S.hs) := B2
  have HL : Hid (S.hs.length = c) := A2.len
  clear A1 A2 A3 B1 B2 B3
  generalize S.out.length = on at *
  generalize S.steps = st at *
  generalize S.hs = hs at *
  have en : ((st : Int) != (st : Int)) = false := by simp
  have en2 : ((c : Int) != (c : Int)) = false := by simp
  go_enter Try.func25, Try.ntmps25
  go_wp2_with fail
  refine (HBy.out _ (((Gr.refl _).alloc _).alloc _)).mono ?_
  rintro e w1 ⟨rfl, G1⟩
  obtain ⟨hb0, hb1⟩ := two_of G1
  have HX0 : Hid (w1.heap[w.heap.size]? = some (.cells #[.slice a1 mn c1, .slice a2 c c2, .slice a3 on c3, .int .i64 st] 60 (0, 0))) := hb0
  have HX1 : Hid (w1.heap[w.heap.size + 1]? = some (.cells #[.slice b1 mn d1, .slice b2 c d2, .slice b3 on d3, .int .i64 st] 60 (0, 0))) := hb1
  have HG1 : Hid (Gr w w1) := (((Gr.refl _).alloc _).alloc _).trans G1
  have x1 : w1.cell? ⟨w.heap.size, 1, none⟩ = some (.slice a2 c c2) := cell_of_row _ _ _ _ _ _ hb0
  have x2 : w1.cell? ⟨w.heap.size, 2, none⟩ = some (.slice a3 on c3) := cell_of_row _ _ _ _ _ _ hb0
  have x4 : w1.cell? ⟨w.heap.size + 1, 1, none⟩ = some (.slice b2 c d2) := cell_of_row _ _ _ _ _ _ hb1
  have x5 : w1.cell? ⟨w.heap.size + 1, 2, none⟩ = some (.slice b3 on d3) := cell_of_row _ _ _ _ _ _ hb1
  clear G1 hb0 hb1 HBy
  go_wp2_with fail
  refine (HWo.out _ HG1.out).mono ?_
  rintro e w2 ⟨rfl, G2⟩
  have HG2 : Hid (Gr w w2) := HG1.out.trans G2
  have HY0 : Hid (w2.heap[w.heap.size]? = some (.cells #[.slice a1 mn c1, .slice a2 c c2, .slice a3 on c3, .int .i64 st] 60 (0, 0))) := Hr.heap_of_gr G2 HX0.out
  have HY1 : Hid (w2.heap[w.heap.size + 1]? = some (.cells #[.slice b1 mn d1, .slice b2 c d2, .slice b3 on d3, .int .i64 st] 60 (0, 0))) := Hr.heap_of_gr G2 HX1.out
  have y3 : w2.cell? ⟨w.heap.size, 3, none⟩ = some (.int .i64 st) := cell_of_row _ _ _ _ _ _ HY0.out
  have y7 : w2.cell? ⟨w.heap.size + 1, 3, none⟩ = some (.int .i64 st) := cell_of_row _ _ _ _ _ _ HY1.out
  clear G2 x1 x2 x4 x5 HX0 HX1 HWo HG1
  go_wp2_with fail
  go_loopw [5] (fun i wr => ∃ k : Nat, k ≤ c ∧ i = .int .i64 k ∧ Gr w2 wr) (fun i _ => c - (intOf i).toNat)
  case atStart => exact ⟨0, Nat.zero_le _, rfl, Gr.refl _⟩
  case round =>
    obtain ⟨k, hk, rfl, G⟩ := hrel
    have HG : Hid (Gr w2 wr) := G
    have z1 : wr.cell? ⟨w.heap.size, 1, none⟩ = some (.slice a2 c c2) := cell_of_row _ _ _ _ _ _ (Hr.heap_of_gr G HY0.out)
    have z4 : wr.cell? ⟨w.heap.size + 1, 1, none⟩ = some (.slice b2 c d2) := cell_of_row _ _ _ _ _ _ (Hr.heap_of_gr G HY1.out)
    clear G y3 y7
    by_cases hlt : k < c
    · obtain ⟨h, hh⟩ : ∃ h, hs[k]? = some h := ⟨_, List.getElem?_eq_getElem (by rw [HL.out]; exact hlt)⟩
      have okh := HA2.out.ok h (List.mem_of_getElem? hh)
      obtain ⟨p1, o1, rfl, hp1, r1⟩ := HA2.out.spot (by omega)
      obtain ⟨p2, o2, rfl, hp2, r2⟩ := HB2.out.spot (by omega)
      have R1 : Hid (wr.rangeAt p1 (o1 + k * 37) (hL h)) := fun j v hv => ((HG2.out.trans HG.out).cell _ (by exact hp1)).trans (r1 k h hh j v hv)
      have R2 : Hid (wr.rangeAt p2 (o2 + k * 37) (hL h)) := fun j v hv => ((HG2.out.trans HG.out).cell _ (by exact hp2)).trans (r2 k h hh j v hv)
      have HLL : Hid ((hL h).length = 37) := hL_len okh
      have HNQ : Hid (∀ W : World, (binOp .neq 48 (.agg (hL h).toArray) (.agg (hL h).toArray)).run Try.prog W = .ok (.bool false) W) := fun W => neq_hart okh W
      clear hh okh r1 r2 en en2
      go_wp2_with fail
      refine wp_region_held_drew (S := fun W => W.cell? ⟨w.heap.size, 1, none⟩ = some (.slice (some ⟨p1, o1, none⟩) c c2) ∧ W.cell? ⟨w.heap.size + 1, 1, none⟩ = some (.slice (some ⟨p2, o2, none⟩) c d2) ∧ W.rangeAt p1 (o1 + k * 37) (hL h) ∧ W.rangeAt p2 (o2 + k * 37) (hL h)) (by kernel_rfl) ?_ (fun hHeld => ?_)
      · exact ⟨z1, z4, R1.out, R2.out⟩
      have HS0 : Hid _ := hHeld
      clear hHeld
      refine wpAnyH_take (i := 0) (v := .pointer (some ⟨w.heap.size, 0, none⟩)) rfl (by kernel_rfl) (by kernel_rfl) (by kernel_rfl) (fun _ _ _ h => h) (Or.inl ⟨by rfl, fun W hW => by obtain ⟨y0, y1, y2, y3⟩ := hW; go_simp⟩) HS0.out ?_
      simp only [List.getElem_toArray, List.getElem_cons_succ, List.getElem_cons_zero, Act.put, List.setIfInBounds_toArray, List.set_cons_zero, List.set_cons_succ]
      refine wpAnyH_take (i := 1) (v := .pointer (some ⟨w.heap.size, 1, none⟩)) rfl (by kernel_rfl) (by kernel_rfl) (by kernel_rfl) (fun _ _ _ h => h) (Or.inl ⟨by rfl, fun W hW => by obtain ⟨y0, y1, y2, y3⟩ := hW; go_simp⟩) HS0.out ?_
      simp only [List.getElem_toArray, List.getElem_cons_succ, List.getElem_cons_zero, Act.put, List.setIfInBounds_toArray, List.set_cons_zero, List.set_cons_succ]
      refine wpAnyH_take (i := 2) (v := .slice (some ⟨p1, o1, none⟩) c c2) rfl (by kernel_rfl) (by kernel_rfl) (by kernel_rfl) (fun _ _ _ h => h) (Or.inl ⟨by rfl, fun W hW => by obtain ⟨y0, y1, y2, y3⟩ := hW; go_simp⟩) HS0.out ?_
      simp only [List.getElem_toArray, List.getElem_cons_succ, List.getElem_cons_zero, Act.put, List.setIfInBounds_toArray, List.set_cons_zero, List.set_cons_succ]
      refine wpAnyH_take (i := 3) (v := .int .i64 k) rfl (by kernel_rfl) (by kernel_rfl) (by kernel_rfl) (fun _ _ _ h => h) (Or.inl ⟨by rfl, fun W hW => by obtain ⟨y0, y1, y2, y3⟩ := hW; go_simp⟩) HS0.out ?_
      simp only [List.getElem_toArray, List.getElem_cons_succ, List.getElem_cons_zero, Act.put, List.setIfInBounds_toArray, List.set_cons_zero, List.set_cons_succ]
      refine wpAnyH_take (i := 4) (v := .pointer (some ⟨p1, o1 + k * 37, none⟩)) rfl (by kernel_rfl) (by kernel_rfl) (by kernel_rfl) (fun _ _ _ h => h) (Or.inl ⟨by rfl, fun W hW => by obtain ⟨y0, y1, y2, y3⟩ := hW; go_simp⟩) HS0.out ?_
      simp only [List.getElem_toArray, List.getElem_cons_succ, List.getElem_cons_zero, Act.put, List.setIfInBounds_toArray, List.set_cons_zero, List.set_cons_succ]
      refine wpAnyH_take (i := 5) (v := .agg (hL h).toArray) rfl (by kernel_rfl) (by kernel_rfl) (by kernel_rfl) (fun _ _ _ h => h) ?hy5 HS0.out ?_
      case hy5 => exact yieldsIf_load_mid (by rfl) 48 (.tmp 52) rfl p1 (o1 + k * 37) (by simp [Act.eval]) (hL h) _ (fun W hW => hW.2.2.1) Try.underlying48 rfl (by rw [HLL.out]; exact iH)
      simp only [List.getElem_toArray, List.getElem_cons_succ, List.getElem_cons_zero, Act.put, List.setIfInBounds_toArray, List.set_cons_zero, List.set_cons_succ]
      refine wpAnyH_take (i := 6) (v := .pointer (some ⟨w.heap.size + 1, 0, none⟩)) rfl (by kernel_rfl) (by kernel_rfl) (by kernel_rfl) (fun _ _ _ h => h) (Or.inl ⟨by rfl, fun W hW => by obtain ⟨y0, y1, y2, y3⟩ := hW; go_simp⟩) HS0.out ?_
      simp only [List.getElem_toArray, List.getElem_cons_succ, List.getElem_cons_zero, Act.put, List.setIfInBounds_toArray, List.set_cons_zero, List.set_cons_succ]
      refine wpAnyH_take (i := 7) (v := .pointer (some ⟨w.heap.size + 1, 1, none⟩)) rfl (by kernel_rfl) (by kernel_rfl) (by kernel_rfl) (fun _ _ _ h => h) (Or.inl ⟨by rfl, fun W hW => by obtain ⟨y0, y1, y2, y3⟩ := hW; go_simp⟩) HS0.out ?_
      simp only [List.getElem_toArray, List.getElem_cons_succ, List.getElem_cons_zero, Act.put, List.setIfInBounds_toArray, List.set_cons_zero, List.set_cons_succ]
      refine wpAnyH_take (i := 8) (v := .slice (some ⟨p2, o2, none⟩) c d2) rfl (by kernel_rfl) (by kernel_rfl) (by kernel_rfl) (fun _ _ _ h => h) (Or.inl ⟨by rfl, fun W hW => by obtain ⟨y0, y1, y2, y3⟩ := hW; go_simp⟩) HS0.out ?_
      simp only [List.getElem_toArray, List.getElem_cons_succ, List.getElem_cons_zero, Act.put, List.setIfInBounds_toArray, List.set_cons_zero, List.set_cons_succ]
      refine wpAnyH_take (i := 9) (v := .int .i64 k) rfl (by kernel_rfl) (by kernel_rfl) (by kernel_rfl) (fun _ _ _ h => h) (Or.inl ⟨by rfl, fun W hW => by obtain ⟨y0, y1, y2, y3⟩ := hW; go_simp⟩) HS0.out ?_
      simp only [List.getElem_toArray, List.getElem_cons_succ, List.getElem_cons_zero, Act.put, List.setIfInBounds_toArray, List.set_cons_zero, List.set_cons_succ]
      refine wpAnyH_take (i := 10) (v := .pointer (some ⟨p2, o2 + k * 37, none⟩)) rfl (by kernel_rfl) (by kernel_rfl) (by kernel_rfl) (fun _ _ _ h => h) (Or.inl ⟨by rfl, fun W hW => by obtain ⟨y0, y1, y2, y3⟩ := hW; go_simp⟩) HS0.out ?_
      simp only [List.getElem_toArray, List.getElem_cons_succ, List.getElem_cons_zero, Act.put, List.setIfInBounds_toArray, List.set_cons_zero, List.set_cons_succ]
      refine wpAnyH_take (i := 11) (v := .agg (hL h).toArray) rfl (by kernel_rfl) (by kernel_rfl) (by kernel_rfl) (fun _ _ _ h => h) ?hy11 HS0.out ?_
      case hy11 => exact yieldsIf_load_mid (by rfl) 48 (.tmp 58) rfl p2 (o2 + k * 37) (by simp [Act.eval]) (hL h) _ (fun W hW => hW.2.2.2) Try.underlying48 rfl (by rw [HLL.out]; exact iH)
      simp only [List.getElem_toArray, List.getElem_cons_succ, List.getElem_cons_zero, Act.put, List.setIfInBounds_toArray, List.set_cons_zero, List.set_cons_succ]
      refine wpAnyH_take (i := 12) (v := .bool false) rfl (by kernel_rfl) (by kernel_rfl) (by kernel_rfl) (fun _ _ _ h => h) ?hneq HS0.out ?_
      case hneq => exact yieldsIf_neq (by rfl) 48 48 (.tmp 53) (.tmp 59) rfl (hL h).toArray (hL h).toArray (by simp [Act.eval]) (by simp [Act.eval]) (by kernel_rfl) HNQ.out
      simp only [List.getElem_toArray, List.getElem_cons_succ, List.getElem_cons_zero, Act.put, List.setIfInBounds_toArray, List.set_cons_zero, List.set_cons_succ]
      refine wpAnyH_done (by kernel_rfl) ?_ _
      clear HS0 HNQ R1 R2 z1 z4
      go_wp2_with fail
      go_roundw
      case rel => exact ⟨k + 1, by omega, by go_num, Gr.drew HG.out⟩
      case measure => simp [intOf]; omega
    · go_wp2_with fail
      go_ret
      exact ⟨rfl, HG2.out.trans HG.out⟩
theorem Same_any {w : World} {a b : Value} {c mn : Nat} {S : Sh} (A : Shn w a c mn S) (B : Shn w b c mn S) (ho : S.out.length ≤ 1000000) (hc4 : c ≤ 4) :
    Calls Try.prog 25 #[a, b] w fun e w' => e = .returned (.bool true) ∧ Gr w w' := Same_w A.w B.w ho hc4
end Go.Proofs.Ythgnfmbnbndeeac.Mc
/-
  What ferrybridgeref12.Machines answers, of two machines that are the same; Put, of whatever machine.
-/
namespace Go.Proofs.Ythgnfmbnbndeeac.Im
open Go.ChangeShapes Go.WideShapes Go.ChangeAt Go.RowKit Mm Hh Hc Mc
set_option linter.unusedVariables false
set_option linter.unusedSimpArgs false

set_option maxHeartbeats 2000000 in
set_option maxRecDepth 100000 in
theorem Machines_eq {w : World} {a b : Value} {hs : List Hv} {m : List UInt8} (A : Mw w a m hs) (B : Mw w b m hs) (hc4 : hs.length ≤ 4) :
    Calls Try.prog 10 #[a, b] w fun e w' => e = .returned (.bool true) ∧ Gr w w' := by
  obtain ⟨a1, c1, a2, c2, rfl, _, A1, A2⟩ := A
  obtain ⟨b1, d1, b2, d2, rfl, _, B1, B2⟩ := B
  have HS : Hid (∀ W : World, Gr w W → Calls Try.prog 25 #[.agg #[.slice a1 m.length c1, .slice a2 hs.length c2, .slice none 0 0, .int .i64 0], .agg #[.slice b1 m.length d1, .slice b2 hs.length d2, .slice none 0 0, .int .i64 0]] W fun e w' => e = .returned (.bool true) ∧ Gr W w') := fun W G =>
    Same_w (S := ⟨hs, m, [], 0⟩) ⟨a1, c1, a2, c2, none, 0, rfl, A1.of G, A2.of G, ⟨rfl, fun _ => rfl, fun ad e => by cases e⟩⟩ ⟨b1, d1, b2, d2, none, 0, rfl, B1.of G, B2.of G, ⟨rfl, fun _ => rfl, fun ad e => by cases e⟩⟩ (by simp) hc4
  clear A1 A2 B1 B2
  generalize m.length = mn at *
  generalize hs.length = c at *
  go_enter Try.func10, Try.ntmps10
  go_wp2_with fail
  refine (HS.out _ (((Gr.refl _).alloc _).alloc _)).mono ?_
  rintro e w1 ⟨rfl, G1⟩
  have HG1 : Hid (Gr w w1) := (((Gr.refl _).alloc _).alloc _).trans G1
  clear G1
  go_wp2_with fail
  go_ret
  exact ⟨rfl, HG1.out⟩
/-- What Put writes: a machine's bytes, or none; and what it answers. -/
def pB (m : List UInt8) (hs : List Hv) : List UInt8 := if mayM m.length hs = true then mB m hs else []
def pE (m : List UInt8) (hs : List Hv) : Int := if mayM m.length hs = true then 0 else 2
theorem pB_yes {m : List UInt8} {hs : List Hv} (h : mayM m.length hs = true) : pB m hs = mB m hs ∧ pE m hs = 0 := by unfold pB pE; rw [if_pos h, if_pos h]; exact ⟨rfl, rfl⟩
theorem pB_no {m : List UInt8} {hs : List Hv} (h : mayM m.length hs = false) : pB m hs = [] ∧ pE m hs = 2 := by unfold pB pE; rw [if_neg (by rw [h]; decide), if_neg (by rw [h]; decide)]; exact ⟨rfl, rfl⟩
theorem pE_or (m : List UInt8) (hs : List Hv) : (pE m hs = 0 ∧ mayM m.length hs = true) ∨ (pE m hs = 2 ∧ mayM m.length hs = false) := by
  cases h : mayM m.length hs with
  | true => exact .inl ⟨(pB_yes h).2, rfl⟩
  | false => exact .inr ⟨(pB_no h).2, rfl⟩
theorem pB_len {m : List UInt8} {hs : List Hv} (o : ∀ h ∈ hs, h.Ok) : (pB m hs).length ≤ 5000 := by
  rcases pE_or m hs with ⟨_, h⟩ | ⟨_, h⟩
  · obtain ⟨k1, k2, k3, _⟩ := mayM_of h
    rw [(pB_yes h).1, mB_len o]; omega
  · rw [(pB_no h).1]; simp
/-- A slice of bytes that is read. -/
structure Sb (w : World) (a : Option Addr) (n c : Nat) (l : List UInt8) : Prop where
  mem : Mem w a n l
  le : n ≤ c
  nil : a = none → c = 0
theorem Sb.of {w w' : World} {a : Option Addr} {n c : Nat} {l : List UInt8} (h : Sb w a n c l) (G : Gr w w') : Sb w' a n c l := ⟨h.mem.of G, h.le, h.nil⟩
theorem Put_u {w : World} {ma ha : Option Addr} {mn mc hn hc : Nat} {m : List UInt8} {hs : List Hv} (M : Mem w ma mn m) (hcap : ma = none → mc = 0) (H : Hs w ha hn hs) (b1 : mn ≤ 140737488351232) (b2 : hn ≤ 140737488351232) :
    Calls Try.prog 11 #[.agg #[.slice ma mn mc, .slice ha hn hc]] w fun e w' => ∃ sa sc, e = .returned (.tuple #[.slice sa (pB m hs).length sc, .int .i64 (pE m hs)]) ∧ Sb w' sa (pB m hs).length sc (pB m hs) ∧ Gr w w' := by
  have hl := M.len
  rcases pE_or m hs with ⟨_, h⟩ | ⟨_, h⟩
  · rw [(pB_yes h).1, (pB_yes h).2]
    rw [hl] at h
    refine (Put_yes M hcap H h).mono ?_
    rintro e w' ⟨k, cap, rfl, hk, hc', R, G⟩
    exact ⟨_, cap, rfl, ⟨R.mem, hc', fun h => by cases h⟩, G⟩
  · rw [(pB_no h).1, (pB_no h).2]
    rw [hl] at h
    refine (Put_no H b1 b2 h).mono ?_
    rintro e w' ⟨rfl, G⟩
    exact ⟨none, 0, rfl, ⟨⟨rfl, fun _ => rfl, fun ad e => by cases e⟩, by simp, fun _ => rfl⟩, G⟩
end Go.Proofs.Ythgnfmbnbndeeac.Im
/-
  The walk of ImageOne.
-/
namespace Go.Proofs.Ythgnfmbnbndeeac.Im
open Go.ChangeShapes Go.WideShapes Go.ChangeAt Go.RowKit Mm Hh Hc Mc
set_option linter.unusedVariables false
set_option linter.unusedSimpArgs false

/-- A machine that is handed in. -/
structure Ma (w : World) (ma : Option Addr) (mn mc : Nat) (ha : Option Addr) (hn hc : Nat) (m : List UInt8) (hs : List Hv) : Prop where
  mem : Mem w ma mn m
  cap : ma = none → mc = 0
  harts : Hs w ha hn hs
  b1 : mn ≤ 140737488351232
  b2 : hn ≤ 140737488351232
theorem Ma.of {w w' : World} {ma ha : Option Addr} {mn mc hn hc : Nat} {m : List UInt8} {hs : List Hv} (A : Ma w ma mn mc ha hn hc m hs) (G : Gr w w') : Ma w' ma mn mc ha hn hc m hs := ⟨A.mem.of G, A.cap, A.harts.of G, A.b1, A.b2⟩
theorem Ma.mw {w : World} {ma ha : Option Addr} {mn mc hn hc : Nat} {m : List UInt8} {hs : List Hv} (A : Ma w ma mn mc ha hn hc m hs) : Mw w (.agg #[.slice ma mn mc, .slice ha hn hc]) m hs := by
  have h1 := A.mem.len
  have h2 := A.harts.len
  have h3 := A.mem
  have h4 := A.harts
  have h5 := A.cap
  subst h1 h2
  exact ⟨ma, mc, ha, hc, rfl, h5, h3, h4⟩
variable {w : World} {ma ha na ka : Option Addr} {mn mc hn hc nn nc kn kc : Nat} {m m' : List UInt8} {hs hs' : List Hv}
set_option maxHeartbeats 2000000 in
set_option maxRecDepth 100000 in
theorem one_any (A : Ma w ma mn mc ha hn hc m hs) (B : Ma w na nn nc ka kn kc m' hs') :
    Calls Try.prog 7 #[.agg #[.slice ma mn mc, .slice ha hn hc], .agg #[.slice na nn nc, .slice ka kn kc]] w fun e w' => e = .returned (.bool true) ∧ Gr w w' := by
  have HP1 : Hid (∀ W : World, Gr w W → Calls Try.prog 11 #[.agg #[.slice ma mn mc, .slice ha hn hc]] W fun e w' => ∃ sa sc, e = .returned (.tuple #[.slice sa (pB m hs).length sc, .int .i64 (pE m hs)]) ∧ Sb w' sa (pB m hs).length sc (pB m hs) ∧ Gr W w') := fun W G => Put_u (A.mem.of G) A.cap (A.harts.of G) A.b1 A.b2
  have HP2 : Hid (∀ W : World, Gr w W → Calls Try.prog 11 #[.agg #[.slice na nn nc, .slice ka kn kc]] W fun e w' => ∃ sa sc, e = .returned (.tuple #[.slice sa (pB m' hs').length sc, .int .i64 (pE m' hs')]) ∧ Sb w' sa (pB m' hs').length sc (pB m' hs') ∧ Gr W w') := fun W G => Put_u (B.mem.of G) B.cap (B.harts.of G) B.b1 B.b2
  have HS : Hid (pE m hs = 0 → pE m' hs' = 0 → pB m hs = pB m' hs' → 0 < (pB m hs).length ∧ ∀ W : World, Gr w W → Calls Try.prog 10 #[.agg #[.slice ma mn mc, .slice ha hn hc], .agg #[.slice na nn nc, .slice ka kn kc]] W fun e w' => e = .returned (.bool true) ∧ Gr W w') := by
    intro h1 h2 h3
    rcases pE_or m hs with ⟨_, h⟩ | ⟨q, _⟩
    · rcases pE_or m' hs' with ⟨_, h'⟩ | ⟨q, _⟩
      · rw [(pB_yes h).1, (pB_yes h').1] at h3
        rw [(pB_yes h).1]
        obtain ⟨e1, e2⟩ := is_one (b := mB m hs) ⟨h, A.harts.ok, rfl⟩ ⟨h', B.harts.ok, h3.symm⟩
        subst e1 e2
        obtain ⟨k1, k2, k3, _⟩ := mayM_of h
        refine ⟨by rw [mB_len A.harts.ok]; omega, fun W G => Machines_eq (A.mw.of G) (B.mw.of G) k3⟩
      · rw [h2] at q; cases q
    · rw [h1] at q; cases q
  have x1 := pE_or m hs
  have x2 := pE_or m' hs'
  have x1 : pE m hs = 0 ∨ pE m hs = 2 := x1.elim (fun h => .inl h.1) (fun h => .inr h.1)
  have x2 : pE m' hs' = 0 ∨ pE m' hs' = 2 := x2.elim (fun h => .inl h.1) (fun h => .inr h.1)
  clear A B
  generalize pE m hs = E at *
  generalize pE m' hs' = F at *
  generalize pB m hs = L at *
  generalize pB m' hs' = K at *
  obtain ⟨ln, hln⟩ : ∃ q, q = L.length := ⟨_, rfl⟩
  obtain ⟨kn', hkn⟩ : ∃ q, q = K.length := ⟨_, rfl⟩
  rw [← hln] at HP1 HS
  rw [← hkn] at HP2
  clear hln hkn
  have HX1 : Hid (E = 0 ∨ E = 2) := x1
  have HX2 : Hid (F = 0 ∨ F = 2) := x2
  clear x1 x2
  go_enter Try.func7, Try.ntmps7
  go_wp2_with fail
  refine (HP1.out _ (((Gr.refl _).alloc _).alloc _)).mono ?_
  rintro e w1 ⟨sa, sc, rfl, S1, G1⟩
  have HG1 : Hid (Gr w w1) := (((Gr.refl _).alloc _).alloc _).trans G1
  have HB1 : Hid (w1.heap[w.heap.size]? = some (.cells #[.slice ma mn mc, .slice ha hn hc] 25 (0, 0)) ∧ w1.heap[w.heap.size + 1]? = some (.cells #[.slice na nn nc, .slice ka kn kc] 25 (0, 0))) := ⟨Hr.heap_of_gr G1 (heap_alloc2_old w _ _), Hr.heap_of_gr G1 (heap_alloc2_new w _ _)⟩
  have HS1 : Hid (Sb w1 sa ln sc L) := S1
  have y0 := cr0 HB1.out.2
  have y1 := cr1 HB1.out.2
  clear S1 G1 HP1
  go_wp2_with fail
  refine (HP2.out _ HG1.out).mono ?_
  rintro e w2 ⟨ta, tc, rfl, S2, G2⟩
  have HG2 : Hid (Gr w w2) := HG1.out.trans G2
  have HB2 : Hid (w2.heap[w.heap.size]? = some (.cells #[.slice ma mn mc, .slice ha hn hc] 25 (0, 0)) ∧ w2.heap[w.heap.size + 1]? = some (.cells #[.slice na nn nc, .slice ka kn kc] 25 (0, 0))) := ⟨Hr.heap_of_gr G2 HB1.out.1, Hr.heap_of_gr G2 HB1.out.2⟩
  have c1 := Mr.conv_any sc (HS1.out.of G2).mem
  have c2 := Mr.conv_any tc S2.mem
  clear S2 G2 HP2 HS1 HB1 HG1 y0 y1
  have x0 := cr0 HB2.out.1
  have x1 := cr1 HB2.out.1
  have y0 := cr0 HB2.out.2
  have y1 := cr1 HB2.out.2
  rcases HX1.out with rfl | rfl
  · rcases HX2.out with rfl | rfl
    · by_cases hLK : L = K
      · obtain ⟨h0, HMa⟩ := HS.out rfl rfl hLK
        have HM : Hid _ := HMa
        subst hLK
        have dd : ((Mr.sof L).toList == (Mr.sof L).toList) = true := by simp
        clear HS HMa
        go_wp2_with fail
        refine (HM.out _ HG2.out).mono ?_
        rintro e w3 ⟨rfl, G3⟩
        have HG3 : Hid (Gr w w3) := HG2.out.trans G3
        clear G3
        go_wp2_with fail
        go_ret
        exact ⟨rfl, HG3.out⟩
      · have dd : ((Mr.sof L).toList == (Mr.sof K).toList) = false := by rw [Mr.sof_eq]; simp [hLK]
        clear HS
        go_wp2_with fail
        go_ret
        exact ⟨rfl, HG2.out⟩
    · clear HS
      go_wp2_with fail
      go_ret
      exact ⟨rfl, HG2.out⟩
  · clear HS
    go_wp2_with fail
    go_ret
    exact ⟨rfl, HG2.out⟩
end Go.Proofs.Ythgnfmbnbndeeac.Im
/-
  What ferrybridgeref13.number answers: a number's four bytes, as a string.
-/
namespace Go.Proofs.Ythgnfmbnbndeeac.Im
open Go.ChangeShapes Go.WideShapes Go.ChangeAt Go.RowKit Mm Hh Hc Mc
set_option linter.unusedVariables false
set_option linter.unusedSimpArgs false

theorem conv_byte (w : World) {x : Int} (h0 : 0 ≤ x) (h1 : x < 256) (c : Nat) : Sem.run Try.prog (convert 22 9 (.slice (some ⟨w.heap.size, 0, none⟩) 1 c)) (w.alloc (.cells #[.int .u8 x] 5)) = .ok (.string (Mr.sof [UInt8.ofNat x.toNat])) (w.alloc (.cells #[.int .u8 x] 5)) := by
  refine Mr.conv_any c ⟨rfl, fun h => (by cases h), fun ad e t ht => ?_⟩
  obtain rfl := Option.some.inj e
  obtain rfl : t = 0 := by omega
  rw [add_at, cr (heap_alloc_new w _)]
  have : bv [UInt8.ofNat x.toNat] 0 = x := by
    unfold bv
    simp only [List.getD_cons_zero, UInt8.toNat_ofNat']
    omega
  rw [this]
  rfl
/-- The lowest k bytes. -/
def nk (n : Int) : Nat → List UInt8
  | 0 => []
  | k + 1 => nk n k ++ [UInt8.ofNat (n / 256 ^ k % 256).toNat]
theorem nk4 (n : Int) : nk n 4 = n4 n := by
  simp [nk, n4]
theorem nk_len (n : Int) : ∀ k, (nk n k).length = k
  | 0 => rfl
  | k + 1 => by simp [nk, nk_len n k]
theorem sof_app (a b : List UInt8) : Mr.sof a ++ Mr.sof b = Mr.sof (a ++ b) := by
  apply ByteArray.ext
  simp [Mr.sof, ByteArray.data_append]
set_option maxHeartbeats 1000000 in
set_option maxRecDepth 100000 in
theorem rnumber_any {n : Int} (h0 : 0 ≤ n) (h1 : n < 4294967296) (w : World) :
    Calls Try.prog 28 #[.int .i64 n] w fun e w' => e = .returned (.string (Mr.sof (n4 n))) ∧ Gr w w' := by
  go_enter Try.func28, Try.ntmps28
  go_wp2_with fail
  go_loopw [0, 3, 4] (fun x s i wr => ∃ k : Nat, k ≤ 4 ∧ i = .int .i64 k ∧ x = .int .i64 (n / 256 ^ k) ∧ s = .string (Mr.sof (nk n k)) ∧ Gr w wr) (fun _ _ i _ => 4 - (intOf i).toNat)
  case atStart => exact ⟨0, by omega, rfl, by simp, rfl, Gr.refl _⟩
  case round =>
    obtain ⟨k, hk, rfl, rfl, rfl, G⟩ := hrel
    have HG : Hid (Gr w wr) := G
    clear G
    by_cases hlt : k < 4
    · have hlt' : (k : Int) < 4 := by omega
      have HN : Hid (nk n (k + 1) = nk n k ++ [UInt8.ofNat (n / 256 ^ k % 256).toNat] ∧ n / 256 ^ (k + 1) = n / 256 ^ k / 256) := ⟨rfl, by rw [Int.pow_succ, Int.ediv_ediv_of_nonneg (by exact Int.pow_nonneg (by omega))]⟩
      have hq0 : 0 ≤ n / 256 ^ k := Int.ediv_nonneg h0 (Int.pow_nonneg (by omega))
      have hq1 : n / 256 ^ k < 4294967296 := Int.lt_of_le_of_lt (Int.ediv_le_self _ h0) h1
      have HL : Hid ((nk n k).length = k) := nk_len n k
      generalize n / 256 ^ k = x at *
      generalize nk n k = l at *
      have HC : Hid (∀ (w : World) (c : Nat), _) := fun w c => conv_byte w (x := x % 256) (by omega) (by omega) c
      obtain ⟨b, hb⟩ : ∃ b, b = [UInt8.ofNat (x % 256).toNat] := ⟨_, rfl⟩
      have hsz : ¬ 9223372036854775807 < (Mr.sof l).size + (Mr.sof b).size := by
        have e1 : (Mr.sof l).size = l.length := rfl
        have e2 : (Mr.sof b).size = b.length := rfl
        rw [e1, e2, HL.out, hb]
        simp; omega
      have HB : Hid _ := hb
      clear h0 h1 hb
      go_wp2_with fail
      rw [HC.out, ← HB.out]
      go_wp2_with fail
      go_roundw
      case rel => exact ⟨k + 1, by omega, by go_num, by rw [HN.out.2], by rw [HN.out.1, ← HB.out, sof_app], HG.out.alloc _⟩
      case measure => simp [intOf]; omega
    · have hlt' : ¬ (k : Int) < 4 := by omega
      obtain rfl : k = 4 := by omega
      rw [nk4] at *
      go_wp2_with fail
      go_ret
      exact ⟨rfl, HG.out⟩
end Go.Proofs.Ythgnfmbnbndeeac.Im
/-
  What ferrybridgeref13.at answers: the number at a place.
-/
namespace Go.Proofs.Ythgnfmbnbndeeac.Im
open Go.ChangeShapes Go.WideShapes Go.ChangeAt Go.RowKit Mm Hh Hc Mc
set_option linter.unusedVariables false
set_option linter.unusedSimpArgs false

/-- The upper t bytes of the number at k. -/
def up (l : List UInt8) (k : Nat) : Nat → Int
  | 0 => 0
  | t + 1 => 256 * up l k t + bv l (k + (3 - t))
theorem up4 (l : List UInt8) (k : Nat) : up l k 4 = raw l k 4 := by
  rw [raw4]
  simp only [up]
  show 256 * (256 * (256 * (256 * 0 + bv l (k + 3)) + bv l (k + 2)) + bv l (k + 1)) + bv l (k + 0) = _
  have e : bv l (k + 0) = bv l k := rfl
  omega
theorem up_bd (l : List UInt8) (k : Nat) : ∀ t, t ≤ 4 → 0 ≤ up l k t ∧ up l k t < 256 ^ t
  | 0, _ => ⟨by simp [up], by simp [up]⟩
  | t + 1, h => by
    have ih := up_bd l k t (by omega)
    have b := bv_bd l (k + (3 - t))
    show 0 ≤ 256 * up l k t + _ ∧ 256 * up l k t + _ < 256 ^ (t + 1)
    rw [Int.pow_succ]
    omega
variable {w : World} {a : Option Addr} {n c k : Nat} {l : List UInt8}
set_option maxHeartbeats 1000000 in
set_option maxRecDepth 100000 in
theorem at_no (M : Mem w a n l) (hn : n ≤ 140737488351232) (hk : k ≤ 1000000) (h : n < k + 4) :
    Calls Try.prog 30 #[.slice a n c, .int .i64 (k : Int)] w fun e w' => e = .returned (.int .i64 (-1)) ∧ w' = w := by
  have h' : (n : Int) < (k : Int) + 4 := by omega
  clear M
  go_enter Try.func30, Try.ntmps30
  go_wp2_with fail
  go_ret
  exact ⟨rfl, rfl⟩
set_option maxHeartbeats 1000000 in
set_option maxRecDepth 100000 in
theorem at_yes (M : Mem w a n l) (hn : n ≤ 140737488351232) (hk : k ≤ 1000000) (h : k + 4 ≤ n) :
    Calls Try.prog 30 #[.slice a n c, .int .i64 (k : Int)] w fun e w' => e = .returned (.int .i64 (raw l k 4)) ∧ w' = w := by
  have h' : ¬ (n : Int) < (k : Int) + 4 := by omega
  obtain ⟨b, o, rfl, _, hcell⟩ := M.spot (by omega)
  have HC : Hid (∀ t, t < n → w.cell? ⟨b, o + t, none⟩ = some (.int .u8 (bv l t))) := hcell
  rw [← up4]
  clear M hcell
  go_enter Try.func30, Try.ntmps30
  go_wp2_with fail
  go_loopw [5, 6] (fun x j wr => ∃ t : Nat, t ≤ 4 ∧ j = .int .i64 (3 - (t : Int)) ∧ x = .int .i64 (up l k t) ∧ wr = w) (fun _ j _ => (intOf j + 1).toNat)
  case atStart => exact ⟨0, by omega, rfl, rfl, rfl⟩
  case round =>
    obtain ⟨t, ht, rfl, rfl, rfl⟩ := hrel
    have ub := up_bd l k t ht
    have u0 : 0 ≤ up l k t := ub.1
    have u1 : up l k t < 4294967296 := by
      have u := ub.2
      rcases (by omega : t = 0 ∨ t = 1 ∨ t = 2 ∨ t = 3 ∨ t = 4) with e | e | e | e | e <;> rw [e] at u ⊢ <;> simp at u <;> omega
    clear ub
    by_cases hlt : t < 4
    · have HU : Hid (up l k (t + 1) = 256 * up l k t + bv l (k + (3 - t))) := rfl
      have x0 := HC.out (k + (3 - t)) (by omega)
      have b0 := bv_bd l (k + (3 - t))
      have b00 := b0.1
      have b01 := b0.2
      clear b0
      obtain ⟨q, hq⟩ : ∃ q : Nat, q = 3 - t := ⟨_, rfl⟩
      have hq' : (3 : Int) - (t : Int) = (q : Int) := by omega
      rw [← hq] at x0 HU b00 b01
      rw [hq']
      generalize bv l (k + q) = y at *
      generalize up l k t = x at *
      have hq3 : q ≤ 3 := by omega
      have hkq : k + q < n := by omega
      have HQ : Hid ((3 : Int) - (t : Int) = (q : Int)) := hq'
      clear hq hq'
      go_wp2_with fail
      have hh := HQ.out
      exact ⟨⟨t + 1, by omega, by congr 1; omega, by rw [HU.out], trivial⟩, by simp [intOf]⟩
    · obtain rfl : t = 4 := by omega
      go_wp2_with fail
      go_ret
      exact ⟨rfl, rfl⟩
end Go.Proofs.Ythgnfmbnbndeeac.Im
