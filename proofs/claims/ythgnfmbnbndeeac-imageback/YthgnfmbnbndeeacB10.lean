/-
  Ref5b, Imm, IoW, IbW, Ma, Mo: texts of ours that lie in one file.
-/
import Derived.Test.YthgnfmbnbndeeacB09
import Derived.Test.YthgnfmbnbndeeacB05
import Derived.Test.YthgnfmbnbndeeacB07
import Derived.Test.YthgnfmbnbndeeacB08
import Derived.Test.YthgnfmbnbndeeacB02
import Derived.ProofKit
import Derived.SizedLaws
import Derived.Deep.Slices
/-
  What ferrybridgeref5.Same answers, of two runs that are shown alike.
-/
namespace Go.Proofs.Ythgnfmbnbndeeac.Mc
open Go.ChangeShapes Go.WideShapes Go.ChangeAt Go.RowKit Mm Hh Hc
set_option linter.unusedVariables false
set_option linter.unusedSimpArgs false

theorem neq_hart {h : Hv} (o : h.Ok) (w : World) : (binOp .neq 48 (.agg (hA h)) (.agg (hA h))).run Try.prog w = .ok (.bool false) w := by
  have e := eql_hart o w
  have e1 : binOp .eql 48 (.agg (hA h)) (.agg (hA h)) = (do pure (.bool (← Op.equal 48 (.agg (hA h)) (.agg (hA h))))) := rfl
  have e2 : binOp .neq 48 (.agg (hA h)) (.agg (hA h)) = (do pure (.bool (!(← Op.equal 48 (.agg (hA h)) (.agg (hA h)))))) := rfl
  rw [e1, Sem.run_bind] at e
  rw [e2, Sem.run_bind]
  generalize (Op.equal 48 (.agg (hA h)) (.agg (hA h))).run Try.prog w = r at e ⊢
  cases r with
  | ok v w' =>
    simp only [Result.andThen_ok, Sem.run_pure, Result.ok.injEq, Value.bool.injEq] at e ⊢
    obtain ⟨rfl, rfl⟩ := e
    exact ⟨rfl, rfl⟩
  | _ => simp [Result.andThen] at e
theorem yieldsIf_neq {P : Program} {ops : Array Oper} {S : World → Prop} {o : Oper} {a : Act} (hw : Region.wanted o (yielded ops a.tmps) = true) (t t' : TypeId) (x y : Operand) (ho : o.op = .binOp .neq t x y t') (A B : Array Value) (hx : a.eval x = .agg A) (hy : a.eval y = .agg B) (hg : P.eqGuardType P.depth t = false)
    {v : Value} (h : ∀ w, (binOp .neq t (.agg A) (.agg B)).run P w = .ok v w) : YieldsIf P ops S o v a :=
  .inl ⟨hw, fun w _ => by
    unfold execOp
    simp only [ho, hx, hy, Sem.run_bind, run_eqGuard_agg w _ _ _ _ _ _ hg, h, Result.andThen_ok]
    rfl⟩
/-- .. of a slice that is nil no more is asked than that it reads as nothing. -/
def Shw (w : World) (v : Value) (c mn : Nat) (S : Sh) : Prop := ∃ ma mc ha hc oa oc, v = .agg #[.slice ma mn mc, .slice ha c hc, .slice oa S.out.length oc, .int .i64 S.steps] ∧ Mem w ma mn S.m ∧ Hs w ha c S.hs ∧ Wm w oa S.out.length S.out
theorem Shn.w {w : World} {v : Value} {c mn : Nat} {S : Sh} (h : Shn w v c mn S) : Shw w v c mn S := by
  obtain ⟨ma, mc, ha, hc, oa, oc, e, h1, _, h3, h4, _⟩ := h
  exact ⟨ma, mc, ha, hc, oa, oc, e, h1, h3, h4⟩
theorem Shw.of {w w' : World} {v : Value} {c mn : Nat} {S : Sh} (h : Shw w v c mn S) (G : Gr w w') : Shw w' v c mn S := by
  obtain ⟨ma, mc, ha, hc, oa, oc, e, h1, h3, h4⟩ := h
  exact ⟨ma, mc, ha, hc, oa, oc, e, h1.of G, h3.of G, h4.of G⟩
set_option maxHeartbeats 2000000 in
set_option maxRecDepth 100000 in
theorem Same_w {w : World} {a b : Value} {c mn : Nat} {S : Sh} (A : Shw w a c mn S) (B : Shw w b c mn S) (ho : S.out.length ≤ 1000000) (hc4 : c ≤ 4) :
    Calls Try.prog 25 #[a, b] w fun e w' => e = .returned (.bool true) ∧ Gr w w' := by
  obtain ⟨a1, c1, a2, c2, a3, c3, rfl, A1, A2, A3⟩ := A
  obtain ⟨b1, d1, b2, d2, b3, d3, rfl, B1, B2, B3⟩ := B
  have HBy : Hid (∀ W : World, Gr w W → Calls Try.prog 16 #[.slice a1 mn c1, .slice b1 mn d1] W fun e w' => e = .returned (.bool true) ∧ Gr W w') := fun W G =>
    (Mr.Bytes_any c1 d1 (A1.of G) (B1.of G)).mono fun e w' ⟨h1, h2⟩ => ⟨by rw [h1]; simp, by rw [h2]; exact Gr.refl _⟩
  have HWo : Hid (∀ W : World, Gr w W → Calls Try.prog 37 #[.slice a3 S.out.length c3, .slice b3 S.out.length d3] W fun e w' => e = .returned (.bool true) ∧ Gr W w') := fun W G => Words_same c3 d3 ho (A3.of G) (B3.of G)
  have HA2 : Hid (Hs w a2 c S.hs) := A2
  have HB2 : Hid (Hs w b2 c S.hs) := B2
  have HL : Hid (S.hs.length = c) := A2.len
  clear A1 A2 A3 B1 B2 B3
  generalize S.out.length = on at *
  generalize S.steps = st at *
  generalize S.hs = hs at *
  have en : ((st : Int) != (st : Int)) = false := by simp
  have en2 : ((c : Int) != (c : Int)) = false := by simp
  go_enter Try.func25, Try.ntmps25
  go_wp2_with fail
  refine (HBy.out _ (((Gr.refl _).alloc _).alloc _)).mono ?_
  rintro e w1 ⟨rfl, G1⟩
  obtain ⟨hb0, hb1⟩ := two_of G1
  have HX0 : Hid (w1.heap[w.heap.size]? = some (.cells #[.slice a1 mn c1, .slice a2 c c2, .slice a3 on c3, .int .i64 st] 60 (0, 0))) := hb0
  have HX1 : Hid (w1.heap[w.heap.size + 1]? = some (.cells #[.slice b1 mn d1, .slice b2 c d2, .slice b3 on d3, .int .i64 st] 60 (0, 0))) := hb1
  have HG1 : Hid (Gr w w1) := (((Gr.refl _).alloc _).alloc _).trans G1
  have x1 : w1.cell? ⟨w.heap.size, 1, none⟩ = some (.slice a2 c c2) := cell_of_row _ _ _ _ _ _ hb0
  have x2 : w1.cell? ⟨w.heap.size, 2, none⟩ = some (.slice a3 on c3) := cell_of_row _ _ _ _ _ _ hb0
  have x4 : w1.cell? ⟨w.heap.size + 1, 1, none⟩ = some (.slice b2 c d2) := cell_of_row _ _ _ _ _ _ hb1
  have x5 : w1.cell? ⟨w.heap.size + 1, 2, none⟩ = some (.slice b3 on d3) := cell_of_row _ _ _ _ _ _ hb1
  clear G1 hb0 hb1 HBy
  go_wp2_with fail
  refine (HWo.out _ HG1.out).mono ?_
  rintro e w2 ⟨rfl, G2⟩
  have HG2 : Hid (Gr w w2) := HG1.out.trans G2
  have HY0 : Hid (w2.heap[w.heap.size]? = some (.cells #[.slice a1 mn c1, .slice a2 c c2, .slice a3 on c3, .int .i64 st] 60 (0, 0))) := Hr.heap_of_gr G2 HX0.out
  have HY1 : Hid (w2.heap[w.heap.size + 1]? = some (.cells #[.slice b1 mn d1, .slice b2 c d2, .slice b3 on d3, .int .i64 st] 60 (0, 0))) := Hr.heap_of_gr G2 HX1.out
  have y3 : w2.cell? ⟨w.heap.size, 3, none⟩ = some (.int .i64 st) := cell_of_row _ _ _ _ _ _ HY0.out
  have y7 : w2.cell? ⟨w.heap.size + 1, 3, none⟩ = some (.int .i64 st) := cell_of_row _ _ _ _ _ _ HY1.out
  clear G2 x1 x2 x4 x5 HX0 HX1 HWo HG1
  go_wp2_with fail
  go_loopw [5] (fun i wr => ∃ k : Nat, k ≤ c ∧ i = .int .i64 k ∧ Gr w2 wr) (fun i _ => c - (intOf i).toNat)
  case atStart => exact ⟨0, Nat.zero_le _, rfl, Gr.refl _⟩
  case round =>
    obtain ⟨k, hk, rfl, G⟩ := hrel
    have HG : Hid (Gr w2 wr) := G
    have z1 : wr.cell? ⟨w.heap.size, 1, none⟩ = some (.slice a2 c c2) := cell_of_row _ _ _ _ _ _ (Hr.heap_of_gr G HY0.out)
    have z4 : wr.cell? ⟨w.heap.size + 1, 1, none⟩ = some (.slice b2 c d2) := cell_of_row _ _ _ _ _ _ (Hr.heap_of_gr G HY1.out)
    clear G y3 y7
    by_cases hlt : k < c
    · obtain ⟨h, hh⟩ : ∃ h, hs[k]? = some h := ⟨_, List.getElem?_eq_getElem (by rw [HL.out]; exact hlt)⟩
      have okh := HA2.out.ok h (List.mem_of_getElem? hh)
      obtain ⟨p1, o1, rfl, hp1, r1⟩ := HA2.out.spot (by omega)
      obtain ⟨p2, o2, rfl, hp2, r2⟩ := HB2.out.spot (by omega)
      have R1 : Hid (wr.rangeAt p1 (o1 + k * 37) (hL h)) := fun j v hv => ((HG2.out.trans HG.out).cell _ (by exact hp1)).trans (r1 k h hh j v hv)
      have R2 : Hid (wr.rangeAt p2 (o2 + k * 37) (hL h)) := fun j v hv => ((HG2.out.trans HG.out).cell _ (by exact hp2)).trans (r2 k h hh j v hv)
      have HLL : Hid ((hL h).length = 37) := hL_len okh
      have HNQ : Hid (∀ W : World, (binOp .neq 48 (.agg (hL h).toArray) (.agg (hL h).toArray)).run Try.prog W = .ok (.bool false) W) := fun W => neq_hart okh W
      clear hh okh r1 r2 en en2
      go_wp2_with fail
      refine wp_region_held_drew (S := fun W => W.cell? ⟨w.heap.size, 1, none⟩ = some (.slice (some ⟨p1, o1, none⟩) c c2) ∧ W.cell? ⟨w.heap.size + 1, 1, none⟩ = some (.slice (some ⟨p2, o2, none⟩) c d2) ∧ W.rangeAt p1 (o1 + k * 37) (hL h) ∧ W.rangeAt p2 (o2 + k * 37) (hL h)) (by kernel_rfl) ?_ (fun hHeld => ?_)
      · exact ⟨z1, z4, R1.out, R2.out⟩
      have HS0 : Hid _ := hHeld
      clear hHeld
      refine wpAnyH_take (i := 0) (v := .pointer (some ⟨w.heap.size, 0, none⟩)) rfl (by kernel_rfl) (by kernel_rfl) (by kernel_rfl) (fun _ _ _ h => h) (Or.inl ⟨by rfl, fun W hW => by obtain ⟨y0, y1, y2, y3⟩ := hW; go_simp⟩) HS0.out ?_
      simp only [List.getElem_toArray, List.getElem_cons_succ, List.getElem_cons_zero, Act.put, List.setIfInBounds_toArray, List.set_cons_zero, List.set_cons_succ]
      refine wpAnyH_take (i := 1) (v := .pointer (some ⟨w.heap.size, 1, none⟩)) rfl (by kernel_rfl) (by kernel_rfl) (by kernel_rfl) (fun _ _ _ h => h) (Or.inl ⟨by rfl, fun W hW => by obtain ⟨y0, y1, y2, y3⟩ := hW; go_simp⟩) HS0.out ?_
      simp only [List.getElem_toArray, List.getElem_cons_succ, List.getElem_cons_zero, Act.put, List.setIfInBounds_toArray, List.set_cons_zero, List.set_cons_succ]
      refine wpAnyH_take (i := 2) (v := .slice (some ⟨p1, o1, none⟩) c c2) rfl (by kernel_rfl) (by kernel_rfl) (by kernel_rfl) (fun _ _ _ h => h) (Or.inl ⟨by rfl, fun W hW => by obtain ⟨y0, y1, y2, y3⟩ := hW; go_simp⟩) HS0.out ?_
      simp only [List.getElem_toArray, List.getElem_cons_succ, List.getElem_cons_zero, Act.put, List.setIfInBounds_toArray, List.set_cons_zero, List.set_cons_succ]
      refine wpAnyH_take (i := 3) (v := .int .i64 k) rfl (by kernel_rfl) (by kernel_rfl) (by kernel_rfl) (fun _ _ _ h => h) (Or.inl ⟨by rfl, fun W hW => by obtain ⟨y0, y1, y2, y3⟩ := hW; go_simp⟩) HS0.out ?_
      simp only [List.getElem_toArray, List.getElem_cons_succ, List.getElem_cons_zero, Act.put, List.setIfInBounds_toArray, List.set_cons_zero, List.set_cons_succ]
      refine wpAnyH_take (i := 4) (v := .pointer (some ⟨p1, o1 + k * 37, none⟩)) rfl (by kernel_rfl) (by kernel_rfl) (by kernel_rfl) (fun _ _ _ h => h) (Or.inl ⟨by rfl, fun W hW => by obtain ⟨y0, y1, y2, y3⟩ := hW; go_simp⟩) HS0.out ?_
      simp only [List.getElem_toArray, List.getElem_cons_succ, List.getElem_cons_zero, Act.put, List.setIfInBounds_toArray, List.set_cons_zero, List.set_cons_succ]
      refine wpAnyH_take (i := 5) (v := .agg (hL h).toArray) rfl (by kernel_rfl) (by kernel_rfl) (by kernel_rfl) (fun _ _ _ h => h) ?hy5 HS0.out ?_
      case hy5 => exact yieldsIf_load_mid (by rfl) 48 (.tmp 52) rfl p1 (o1 + k * 37) (by simp [Act.eval]) (hL h) _ (fun W hW => hW.2.2.1) Try.underlying48 rfl (by rw [HLL.out]; exact iH)
      simp only [List.getElem_toArray, List.getElem_cons_succ, List.getElem_cons_zero, Act.put, List.setIfInBounds_toArray, List.set_cons_zero, List.set_cons_succ]
      refine wpAnyH_take (i := 6) (v := .pointer (some ⟨w.heap.size + 1, 0, none⟩)) rfl (by kernel_rfl) (by kernel_rfl) (by kernel_rfl) (fun _ _ _ h => h) (Or.inl ⟨by rfl, fun W hW => by obtain ⟨y0, y1, y2, y3⟩ := hW; go_simp⟩) HS0.out ?_
      simp only [List.getElem_toArray, List.getElem_cons_succ, List.getElem_cons_zero, Act.put, List.setIfInBounds_toArray, List.set_cons_zero, List.set_cons_succ]
      refine wpAnyH_take (i := 7) (v := .pointer (some ⟨w.heap.size + 1, 1, none⟩)) rfl (by kernel_rfl) (by kernel_rfl) (by kernel_rfl) (fun _ _ _ h => h) (Or.inl ⟨by rfl, fun W hW => by obtain ⟨y0, y1, y2, y3⟩ := hW; go_simp⟩) HS0.out ?_
      simp only [List.getElem_toArray, List.getElem_cons_succ, List.getElem_cons_zero, Act.put, List.setIfInBounds_toArray, List.set_cons_zero, List.set_cons_succ]
      refine wpAnyH_take (i := 8) (v := .slice (some ⟨p2, o2, none⟩) c d2) rfl (by kernel_rfl) (by kernel_rfl) (by kernel_rfl) (fun _ _ _ h => h) (Or.inl ⟨by rfl, fun W hW => by obtain ⟨y0, y1, y2, y3⟩ := hW; go_simp⟩) HS0.out ?_
      simp only [List.getElem_toArray, List.getElem_cons_succ, List.getElem_cons_zero, Act.put, List.setIfInBounds_toArray, List.set_cons_zero, List.set_cons_succ]
      refine wpAnyH_take (i := 9) (v := .int .i64 k) rfl (by kernel_rfl) (by kernel_rfl) (by kernel_rfl) (fun _ _ _ h => h) (Or.inl ⟨by rfl, fun W hW => by obtain ⟨y0, y1, y2, y3⟩ := hW; go_simp⟩) HS0.out ?_
      simp only [List.getElem_toArray, List.getElem_cons_succ, List.getElem_cons_zero, Act.put, List.setIfInBounds_toArray, List.set_cons_zero, List.set_cons_succ]
      refine wpAnyH_take (i := 10) (v := .pointer (some ⟨p2, o2 + k * 37, none⟩)) rfl (by kernel_rfl) (by kernel_rfl) (by kernel_rfl) (fun _ _ _ h => h) (Or.inl ⟨by rfl, fun W hW => by obtain ⟨y0, y1, y2, y3⟩ := hW; go_simp⟩) HS0.out ?_
      simp only [List.getElem_toArray, List.getElem_cons_succ, List.getElem_cons_zero, Act.put, List.setIfInBounds_toArray, List.set_cons_zero, List.set_cons_succ]
      refine wpAnyH_take (i := 11) (v := .agg (hL h).toArray) rfl (by kernel_rfl) (by kernel_rfl) (by kernel_rfl) (fun _ _ _ h => h) ?hy11 HS0.out ?_
      case hy11 => exact yieldsIf_load_mid (by rfl) 48 (.tmp 58) rfl p2 (o2 + k * 37) (by simp [Act.eval]) (hL h) _ (fun W hW => hW.2.2.2) Try.underlying48 rfl (by rw [HLL.out]; exact iH)
      simp only [List.getElem_toArray, List.getElem_cons_succ, List.getElem_cons_zero, Act.put, List.setIfInBounds_toArray, List.set_cons_zero, List.set_cons_succ]
      refine wpAnyH_take (i := 12) (v := .bool false) rfl (by kernel_rfl) (by kernel_rfl) (by kernel_rfl) (fun _ _ _ h => h) ?hneq HS0.out ?_
      case hneq => exact yieldsIf_neq (by rfl) 48 48 (.tmp 53) (.tmp 59) rfl (hL h).toArray (hL h).toArray (by simp [Act.eval]) (by simp [Act.eval]) (by kernel_rfl) HNQ.out
      simp only [List.getElem_toArray, List.getElem_cons_succ, List.getElem_cons_zero, Act.put, List.setIfInBounds_toArray, List.set_cons_zero, List.set_cons_succ]
      refine wpAnyH_done (by kernel_rfl) ?_ _
      clear HS0 HNQ R1 R2 z1 z4
      go_wp2_with fail
      go_roundw
      case rel => exact ⟨k + 1, by omega, by go_num, Gr.drew HG.out⟩
      case measure => simp [intOf]; omega
    · go_wp2_with fail
      go_ret
      exact ⟨rfl, HG2.out.trans HG.out⟩
theorem Same_any {w : World} {a b : Value} {c mn : Nat} {S : Sh} (A : Shn w a c mn S) (B : Shn w b c mn S) (ho : S.out.length ≤ 1000000) (hc4 : c ≤ 4) :
    Calls Try.prog 25 #[a, b] w fun e w' => e = .returned (.bool true) ∧ Gr w w' := Same_w A.w B.w ho hc4
end Go.Proofs.Ythgnfmbnbndeeac.Mc
/-
  What ferrybridgeref12.Machines answers, of two machines that are the same; Put, of whatever machine.
-/
namespace Go.Proofs.Ythgnfmbnbndeeac.Im
open Go.ChangeShapes Go.WideShapes Go.ChangeAt Go.RowKit Mm Hh Hc Mc
set_option linter.unusedVariables false
set_option linter.unusedSimpArgs false

set_option maxHeartbeats 2000000 in
set_option maxRecDepth 100000 in
theorem Machines_eq {w : World} {a b : Value} {hs : List Hv} {m : List UInt8} (A : Mw w a m hs) (B : Mw w b m hs) (hc4 : hs.length ≤ 4) :
    Calls Try.prog 10 #[a, b] w fun e w' => e = .returned (.bool true) ∧ Gr w w' := by
  obtain ⟨a1, c1, a2, c2, rfl, _, A1, A2⟩ := A
  obtain ⟨b1, d1, b2, d2, rfl, _, B1, B2⟩ := B
  have HS : Hid (∀ W : World, Gr w W → Calls Try.prog 25 #[.agg #[.slice a1 m.length c1, .slice a2 hs.length c2, .slice none 0 0, .int .i64 0], .agg #[.slice b1 m.length d1, .slice b2 hs.length d2, .slice none 0 0, .int .i64 0]] W fun e w' => e = .returned (.bool true) ∧ Gr W w') := fun W G =>
    Same_w (S := ⟨hs, m, [], 0⟩) ⟨a1, c1, a2, c2, none, 0, rfl, A1.of G, A2.of G, ⟨rfl, fun _ => rfl, fun ad e => by cases e⟩⟩ ⟨b1, d1, b2, d2, none, 0, rfl, B1.of G, B2.of G, ⟨rfl, fun _ => rfl, fun ad e => by cases e⟩⟩ (by simp) hc4
  clear A1 A2 B1 B2
  generalize m.length = mn at *
  generalize hs.length = c at *
  go_enter Try.func10, Try.ntmps10
  go_wp2_with fail
  refine (HS.out _ (((Gr.refl _).alloc _).alloc _)).mono ?_
  rintro e w1 ⟨rfl, G1⟩
  have HG1 : Hid (Gr w w1) := (((Gr.refl _).alloc _).alloc _).trans G1
  clear G1
  go_wp2_with fail
  go_ret
  exact ⟨rfl, HG1.out⟩
/-- What Put writes: a machine's bytes, or none; and what it answers. -/
def pB (m : List UInt8) (hs : List Hv) : List UInt8 := if mayM m.length hs = true then mB m hs else []
def pE (m : List UInt8) (hs : List Hv) : Int := if mayM m.length hs = true then 0 else 2
theorem pB_yes {m : List UInt8} {hs : List Hv} (h : mayM m.length hs = true) : pB m hs = mB m hs ∧ pE m hs = 0 := by unfold pB pE; rw [if_pos h, if_pos h]; exact ⟨rfl, rfl⟩
theorem pB_no {m : List UInt8} {hs : List Hv} (h : mayM m.length hs = false) : pB m hs = [] ∧ pE m hs = 2 := by unfold pB pE; rw [if_neg (by rw [h]; decide), if_neg (by rw [h]; decide)]; exact ⟨rfl, rfl⟩
theorem pE_or (m : List UInt8) (hs : List Hv) : (pE m hs = 0 ∧ mayM m.length hs = true) ∨ (pE m hs = 2 ∧ mayM m.length hs = false) := by
  cases h : mayM m.length hs with
  | true => exact .inl ⟨(pB_yes h).2, rfl⟩
  | false => exact .inr ⟨(pB_no h).2, rfl⟩
theorem pB_len {m : List UInt8} {hs : List Hv} (o : ∀ h ∈ hs, h.Ok) : (pB m hs).length ≤ 5000 := by
  rcases pE_or m hs with ⟨_, h⟩ | ⟨_, h⟩
  · obtain ⟨k1, k2, k3, _⟩ := mayM_of h
    rw [(pB_yes h).1, mB_len o]; omega
  · rw [(pB_no h).1]; simp
/-- A slice of bytes that is read. -/
structure Sb (w : World) (a : Option Addr) (n c : Nat) (l : List UInt8) : Prop where
  mem : Mem w a n l
  le : n ≤ c
  nil : a = none → c = 0
theorem Sb.of {w w' : World} {a : Option Addr} {n c : Nat} {l : List UInt8} (h : Sb w a n c l) (G : Gr w w') : Sb w' a n c l := ⟨h.mem.of G, h.le, h.nil⟩
theorem Put_u {w : World} {ma ha : Option Addr} {mn mc hn hc : Nat} {m : List UInt8} {hs : List Hv} (M : Mem w ma mn m) (hcap : ma = none → mc = 0) (H : Hs w ha hn hs) (b1 : mn ≤ 140737488351232) (b2 : hn ≤ 140737488351232) :
    Calls Try.prog 11 #[.agg #[.slice ma mn mc, .slice ha hn hc]] w fun e w' => ∃ sa sc, e = .returned (.tuple #[.slice sa (pB m hs).length sc, .int .i64 (pE m hs)]) ∧ Sb w' sa (pB m hs).length sc (pB m hs) ∧ Gr w w' := by
  have hl := M.len
  rcases pE_or m hs with ⟨_, h⟩ | ⟨_, h⟩
  · rw [(pB_yes h).1, (pB_yes h).2]
    rw [hl] at h
    refine (Put_yes M hcap H h).mono ?_
    rintro e w' ⟨k, cap, rfl, hk, hc', R, G⟩
    exact ⟨_, cap, rfl, ⟨R.mem, hc', fun h => by cases h⟩, G⟩
  · rw [(pB_no h).1, (pB_no h).2]
    rw [hl] at h
    refine (Put_no H b1 b2 h).mono ?_
    rintro e w' ⟨rfl, G⟩
    exact ⟨none, 0, rfl, ⟨⟨rfl, fun _ => rfl, fun ad e => by cases e⟩, by simp, fun _ => rfl⟩, G⟩
end Go.Proofs.Ythgnfmbnbndeeac.Im
/-
  The walk of ImageOne.
-/
namespace Go.Proofs.Ythgnfmbnbndeeac.Im
open Go.ChangeShapes Go.WideShapes Go.ChangeAt Go.RowKit Mm Hh Hc Mc
set_option linter.unusedVariables false
set_option linter.unusedSimpArgs false

/-- A machine that is handed in. -/
structure Ma (w : World) (ma : Option Addr) (mn mc : Nat) (ha : Option Addr) (hn hc : Nat) (m : List UInt8) (hs : List Hv) : Prop where
  mem : Mem w ma mn m
  cap : ma = none → mc = 0
  harts : Hs w ha hn hs
  b1 : mn ≤ 140737488351232
  b2 : hn ≤ 140737488351232
theorem Ma.of {w w' : World} {ma ha : Option Addr} {mn mc hn hc : Nat} {m : List UInt8} {hs : List Hv} (A : Ma w ma mn mc ha hn hc m hs) (G : Gr w w') : Ma w' ma mn mc ha hn hc m hs := ⟨A.mem.of G, A.cap, A.harts.of G, A.b1, A.b2⟩
theorem Ma.mw {w : World} {ma ha : Option Addr} {mn mc hn hc : Nat} {m : List UInt8} {hs : List Hv} (A : Ma w ma mn mc ha hn hc m hs) : Mw w (.agg #[.slice ma mn mc, .slice ha hn hc]) m hs := by
  have h1 := A.mem.len
  have h2 := A.harts.len
  have h3 := A.mem
  have h4 := A.harts
  have h5 := A.cap
  subst h1 h2
  exact ⟨ma, mc, ha, hc, rfl, h5, h3, h4⟩
variable {w : World} {ma ha na ka : Option Addr} {mn mc hn hc nn nc kn kc : Nat} {m m' : List UInt8} {hs hs' : List Hv}
set_option maxHeartbeats 2000000 in
set_option maxRecDepth 100000 in
theorem one_any (A : Ma w ma mn mc ha hn hc m hs) (B : Ma w na nn nc ka kn kc m' hs') :
    Calls Try.prog 7 #[.agg #[.slice ma mn mc, .slice ha hn hc], .agg #[.slice na nn nc, .slice ka kn kc]] w fun e w' => e = .returned (.bool true) ∧ Gr w w' := by
  have HP1 : Hid (∀ W : World, Gr w W → Calls Try.prog 11 #[.agg #[.slice ma mn mc, .slice ha hn hc]] W fun e w' => ∃ sa sc, e = .returned (.tuple #[.slice sa (pB m hs).length sc, .int .i64 (pE m hs)]) ∧ Sb w' sa (pB m hs).length sc (pB m hs) ∧ Gr W w') := fun W G => Put_u (A.mem.of G) A.cap (A.harts.of G) A.b1 A.b2
  have HP2 : Hid (∀ W : World, Gr w W → Calls Try.prog 11 #[.agg #[.slice na nn nc, .slice ka kn kc]] W fun e w' => ∃ sa sc, e = .returned (.tuple #[.slice sa (pB m' hs').length sc, .int .i64 (pE m' hs')]) ∧ Sb w' sa (pB m' hs').length sc (pB m' hs') ∧ Gr W w') := fun W G => Put_u (B.mem.of G) B.cap (B.harts.of G) B.b1 B.b2
  have HS : Hid (pE m hs = 0 → pE m' hs' = 0 → pB m hs = pB m' hs' → 0 < (pB m hs).length ∧ ∀ W : World, Gr w W → Calls Try.prog 10 #[.agg #[.slice ma mn mc, .slice ha hn hc], .agg #[.slice na nn nc, .slice ka kn kc]] W fun e w' => e = .returned (.bool true) ∧ Gr W w') := by
    intro h1 h2 h3
    rcases pE_or m hs with ⟨_, h⟩ | ⟨q, _⟩
    · rcases pE_or m' hs' with ⟨_, h'⟩ | ⟨q, _⟩
      · rw [(pB_yes h).1, (pB_yes h').1] at h3
        rw [(pB_yes h).1]
        obtain ⟨e1, e2⟩ := is_one (b := mB m hs) ⟨h, A.harts.ok, rfl⟩ ⟨h', B.harts.ok, h3.symm⟩
        subst e1 e2
        obtain ⟨k1, k2, k3, _⟩ := mayM_of h
        refine ⟨by rw [mB_len A.harts.ok]; omega, fun W G => Machines_eq (A.mw.of G) (B.mw.of G) k3⟩
      · rw [h2] at q; cases q
    · rw [h1] at q; cases q
  have x1 := pE_or m hs
  have x2 := pE_or m' hs'
  have x1 : pE m hs = 0 ∨ pE m hs = 2 := x1.elim (fun h => .inl h.1) (fun h => .inr h.1)
  have x2 : pE m' hs' = 0 ∨ pE m' hs' = 2 := x2.elim (fun h => .inl h.1) (fun h => .inr h.1)
  clear A B
  generalize pE m hs = E at *
  generalize pE m' hs' = F at *
  generalize pB m hs = L at *
  generalize pB m' hs' = K at *
  obtain ⟨ln, hln⟩ : ∃ q, q = L.length := ⟨_, rfl⟩
  obtain ⟨kn', hkn⟩ : ∃ q, q = K.length := ⟨_, rfl⟩
  rw [← hln] at HP1 HS
  rw [← hkn] at HP2
  clear hln hkn
  have HX1 : Hid (E = 0 ∨ E = 2) := x1
  have HX2 : Hid (F = 0 ∨ F = 2) := x2
  clear x1 x2
  go_enter Try.func7, Try.ntmps7
  go_wp2_with fail
  refine (HP1.out _ (((Gr.refl _).alloc _).alloc _)).mono ?_
  rintro e w1 ⟨sa, sc, rfl, S1, G1⟩
  have HG1 : Hid (Gr w w1) := (((Gr.refl _).alloc _).alloc _).trans G1
  have HB1 : Hid (w1.heap[w.heap.size]? = some (.cells #[.slice ma mn mc, .slice ha hn hc] 25 (0, 0)) ∧ w1.heap[w.heap.size + 1]? = some (.cells #[.slice na nn nc, .slice ka kn kc] 25 (0, 0))) := ⟨Hr.heap_of_gr G1 (heap_alloc2_old w _ _), Hr.heap_of_gr G1 (heap_alloc2_new w _ _)⟩
  have HS1 : Hid (Sb w1 sa ln sc L) := S1
  have y0 := cr0 HB1.out.2
  have y1 := cr1 HB1.out.2
  clear S1 G1 HP1
  go_wp2_with fail
  refine (HP2.out _ HG1.out).mono ?_
  rintro e w2 ⟨ta, tc, rfl, S2, G2⟩
  have HG2 : Hid (Gr w w2) := HG1.out.trans G2
  have HB2 : Hid (w2.heap[w.heap.size]? = some (.cells #[.slice ma mn mc, .slice ha hn hc] 25 (0, 0)) ∧ w2.heap[w.heap.size + 1]? = some (.cells #[.slice na nn nc, .slice ka kn kc] 25 (0, 0))) := ⟨Hr.heap_of_gr G2 HB1.out.1, Hr.heap_of_gr G2 HB1.out.2⟩
  have c1 := Mr.conv_any sc (HS1.out.of G2).mem
  have c2 := Mr.conv_any tc S2.mem
  clear S2 G2 HP2 HS1 HB1 HG1 y0 y1
  have x0 := cr0 HB2.out.1
  have x1 := cr1 HB2.out.1
  have y0 := cr0 HB2.out.2
  have y1 := cr1 HB2.out.2
  rcases HX1.out with rfl | rfl
  · rcases HX2.out with rfl | rfl
    · by_cases hLK : L = K
      · obtain ⟨h0, HMa⟩ := HS.out rfl rfl hLK
        have HM : Hid _ := HMa
        subst hLK
        have dd : ((Mr.sof L).toList == (Mr.sof L).toList) = true := by simp
        clear HS HMa
        go_wp2_with fail
        refine (HM.out _ HG2.out).mono ?_
        rintro e w3 ⟨rfl, G3⟩
        have HG3 : Hid (Gr w w3) := HG2.out.trans G3
        clear G3
        go_wp2_with fail
        go_ret
        exact ⟨rfl, HG3.out⟩
      · have dd : ((Mr.sof L).toList == (Mr.sof K).toList) = false := by rw [Mr.sof_eq]; simp [hLK]
        clear HS
        go_wp2_with fail
        go_ret
        exact ⟨rfl, HG2.out⟩
    · clear HS
      go_wp2_with fail
      go_ret
      exact ⟨rfl, HG2.out⟩
  · clear HS
    go_wp2_with fail
    go_ret
    exact ⟨rfl, HG2.out⟩
end Go.Proofs.Ythgnfmbnbndeeac.Im
/-
  The walk of ImageBack.
-/
namespace Go.Proofs.Ythgnfmbnbndeeac.Im
open Go.ChangeShapes Go.WideShapes Go.ChangeAt Go.RowKit Mm Hh Hc Mc
set_option linter.unusedVariables false
set_option linter.unusedSimpArgs false

theorem Get_is {w : World} {a : Option Addr} {n c : Nat} {b m : List UInt8} {hs : List Hv} (S : Sb w a n c b) (hn : n ≤ 140737488351232) (h : Is b m hs) :
    Calls Try.prog 14 #[.slice a n c] w fun e w' => ∃ ma mc ha hc, e = .returned (.tuple #[.agg #[.slice ma m.length mc, .slice ha hs.length hc], .int .i64 0]) ∧ Ma w' ma m.length mc ha hs.length hc m hs ∧ Gr w w' := by
  obtain ⟨g, e1, e2⟩ := is_got h
  obtain ⟨k1, k2, k3, _⟩ := mayM_of h.may
  refine (Get_gp S.mem S.le S.nil hn).mono ?_
  rintro e w' ⟨G, ⟨_, v, rfl, M⟩ | ⟨q, _⟩⟩
  · rw [e1, e2] at M
    obtain ⟨ma, mc, ha, hc, rfl, h1, h2, h3⟩ := M
    exact ⟨ma, mc, ha, hc, rfl, ⟨h2, h1, h3, by omega, by omega⟩, G⟩
  · rw [g] at q; cases q
theorem Get_none {w : World} {a : Option Addr} {n c : Nat} {b : List UInt8} (S : Sb w a n c b) (hn : n ≤ 140737488351232) (h : gotB b = false) :
    Calls Try.prog 14 #[.slice a n c] w fun e w' => e = .returned (.tuple #[.agg #[.slice none 0 0, .slice none 0 0], .int .i64 2]) ∧ Gr w w' := by
  refine (Get_gp S.mem S.le S.nil hn).mono ?_
  rintro e w' ⟨G, ⟨q, _⟩ | ⟨_, rfl⟩⟩
  · rw [h] at q; cases q
  · exact ⟨rfl, G⟩
variable {w : World} {ma ha : Option Addr} {mn mc hn hc : Nat} {m : List UInt8} {hs : List Hv}
set_option maxHeartbeats 2000000 in
set_option maxRecDepth 100000 in
theorem back_no (A : Ma w ma mn mc ha hn hc m hs) (h : mayM m.length hs = false) (x : Int) :
    Calls Try.prog 6 #[.agg #[.slice ma mn mc, .slice ha hn hc], .int .u16 x] w fun e w' => e = .returned (.bool true) ∧ Gr w w' := by
  have HP1 : Hid (∀ W : World, Gr w W → Calls Try.prog 11 #[.agg #[.slice ma mn mc, .slice ha hn hc]] W fun e w' => e = .returned (.tuple #[.slice none 0 0, .int .i64 2]) ∧ Gr W w') := fun W G => Put_no (A.harts.of G) A.b1 A.b2 (by rw [← A.mem.len]; exact h)
  clear A h
  go_enter Try.func6, Try.ntmps6
  go_wp2_with fail
  refine (HP1.out _ ((Gr.refl _).alloc _)).mono ?_
  rintro e w1 ⟨rfl, G1⟩
  have HG1 : Hid (Gr w w1) := ((Gr.refl _).alloc _).trans G1
  clear G1 HP1
  go_wp2_with fail
  go_ret
  exact ⟨rfl, HG1.out⟩
set_option maxHeartbeats 4000000 in
set_option maxRecDepth 100000 in
theorem back_yes (A : Ma w ma mn mc ha hn hc m hs) (h : mayM m.length hs = true) (x : Nat) (hx : x < 65536) :
    Calls Try.prog 6 #[.agg #[.slice ma mn mc, .slice ha hn hc], .int .u16 (x : Int)] w fun e w' => e = .returned (.bool true) ∧ Gr w w' := by
  have hI : Is (mB m hs) m hs := ⟨h, A.harts.ok, rfl⟩
  obtain ⟨k1, k2, k3, _⟩ := mayM_of h
  have hBl : (mB m hs).length ≤ 5000 ∧ 0 < (mB m hs).length := by rw [mB_len A.harts.ok]; omega
  have HP1 : Hid (∀ W : World, Gr w W → Calls Try.prog 11 #[.agg #[.slice ma mn mc, .slice ha hn hc]] W fun e w' => ∃ sa sc, e = .returned (.tuple #[.slice sa (mB m hs).length sc, .int .i64 0]) ∧ Sb w' sa (mB m hs).length sc (mB m hs) ∧ Gr W w') := fun W G => by
    have := Put_u (hc := hc) (A.mem.of G) A.cap (A.harts.of G) A.b1 A.b2
    rwa [(pB_yes h).1, (pB_yes h).2] at this
  have HP2 : Hid (∀ (W : World) (na ka : Option Addr) (nc kc : Nat), Ma W na m.length nc ka hs.length kc m hs → Calls Try.prog 11 #[.agg #[.slice na m.length nc, .slice ka hs.length kc]] W fun e w' => ∃ sa sc, e = .returned (.tuple #[.slice sa (mB m hs).length sc, .int .i64 0]) ∧ Sb w' sa (mB m hs).length sc (mB m hs) ∧ Gr W w') := fun W na ka nc kc N => by
    have := Put_u (hc := kc) N.mem N.cap N.harts N.b1 N.b2
    rwa [(pB_yes h).1, (pB_yes h).2] at this
  have HGe : Hid (∀ (W : World) (a : Option Addr) (c : Nat), Sb W a (mB m hs).length c (mB m hs) → Calls Try.prog 14 #[.slice a (mB m hs).length c] W fun e w' => ∃ ma mc ha hc, e = .returned (.tuple #[.agg #[.slice ma m.length mc, .slice ha hs.length hc], .int .i64 0]) ∧ Ma w' ma m.length mc ha hs.length hc m hs ∧ Gr W w') := fun W a c S => Get_is S (by omega) hI
  have HGn : Hid (∀ (W : World) (a : Option Addr) (c : Nat), Sb W a (mB m hs).length c (mB m hs) → x < (mB m hs).length → Calls Try.prog 14 #[.slice a x c] W fun e w' => e = .returned (.tuple #[.agg #[.slice none 0 0, .slice none 0 0], .int .i64 2]) ∧ Gr W w') := fun W a c S hxl => Get_none (b := (mB m hs).take x) ⟨mem_take S.mem (by omega), by have := S.le; omega, S.nil⟩ (by omega) (is_short hI hxl)
  have HMa : Hid (∀ (W : World) (na ka : Option Addr) (nc kc : Nat), Gr w W → Ma W na m.length nc ka hs.length kc m hs → Calls Try.prog 10 #[.agg #[.slice ma mn mc, .slice ha hn hc], .agg #[.slice na m.length nc, .slice ka hs.length kc]] W fun e w' => e = .returned (.bool true) ∧ Gr W w') := fun W na ka nc kc G N => Machines_eq (A.mw.of G) N.mw k3
  obtain ⟨hB1, hB0⟩ := hBl
  clear A h hI k1 k2 k3
  generalize mB m hs = B at *
  obtain ⟨n, hn'⟩ : ∃ n, n = B.length := ⟨_, rfl⟩
  rw [← hn'] at HP1 HP2 HGe HGn hB1 hB0
  clear hn'
  have HMaI : Hid (∀ (W : World) (na ka : Option Addr) (nc kc q r : Nat), Ma W na q nc ka r kc m hs → Ma W na q nc ka r kc m hs) := fun _ _ _ _ _ _ _ h => h
  obtain ⟨q, hq⟩ : ∃ n, n = m.length := ⟨_, rfl⟩
  obtain ⟨r, hr⟩ : ∃ n, n = hs.length := ⟨_, rfl⟩
  rw [← hq, ← hr] at HP2 HGe HMa
  clear hq hr HMaI
  go_enter Try.func6, Try.ntmps6
  go_wp2_with fail
  refine (HP1.out _ ((Gr.refl _).alloc _)).mono ?_
  rintro e w1 ⟨sa, sc, rfl, S1, G1⟩
  have HG1 : Hid (Gr w w1) := ((Gr.refl _).alloc _).trans G1
  have HX1 : Hid (w1.heap[w.heap.size]? = some (.cells #[.slice ma mn mc, .slice ha hn hc] 25 (0, 0))) := Hr.heap_of_gr G1 (heap_alloc_new w _)
  have HS1 : Hid (Sb w1 sa n sc B) := S1
  have hsc : n ≤ sc := S1.le
  clear S1 G1 HP1
  go_wp2_with fail
  refine (HGe.out _ _ _ HS1.out).mono ?_
  rintro e w2 ⟨na, nc, ka, kc, rfl, N2, G2⟩
  have HG2 : Hid (Gr w w2) := HG1.out.trans G2
  have HX2 : Hid (w2.heap[w.heap.size]? = some (.cells #[.slice ma mn mc, .slice ha hn hc] 25 (0, 0))) := Hr.heap_of_gr G2 HX1.out
  have HS2 : Hid (Sb w2 sa n sc B) := HS1.out.of G2
  have HN2 : Hid (Ma w2 na q nc ka r kc m hs) := N2
  clear N2 G2 HGe HS1 HX1 HG1
  go_wp2_with fail
  refine (HP2.out _ _ _ _ _ (HN2.out.of ((Gr.refl _).alloc _))).mono ?_
  rintro e w3 ⟨ta, tc, rfl, S3, G3⟩
  have G23 : Gr w2 w3 := ((Gr.refl _).alloc _).trans G3
  have HG3 : Hid (Gr w w3) := HG2.out.trans G23
  have HX3 : Hid (w3.heap[w.heap.size]? = some (.cells #[.slice ma mn mc, .slice ha hn hc] 25 (0, 0)) ∧ w3.heap[w2.heap.size]? = some (.cells #[.slice na q nc, .slice ka r kc] 25 (0, 0))) := ⟨Hr.heap_of_gr G23 HX2.out, Hr.heap_of_gr G3 (heap_alloc_new w2 _)⟩
  have HS3 : Hid (Sb w3 sa n sc B) := HS2.out.of G23
  have HT3 : Hid (Sb w3 ta n tc B) := S3
  have HN3 : Hid (Ma w3 na q nc ka r kc m hs) := HN2.out.of G23
  generalize w2.heap.size = z2 at *
  clear S3 G3 G23 HP2 HS2 HX2 HG2 HN2
  clear w1 w2
  have dd : ((Mr.sof B).toList == (Mr.sof B).toList) = true := by simp
  have hx' : (x : Int) < 65536 := by omega
  by_cases hxn : x < n
  · have hxn' : (x : Int) < (n : Int) := by omega
    go_wp2_with fail
    refine (HGn.out _ _ _ HS3.out hxn).mono ?_
    rintro e w4 ⟨rfl, G4⟩
    have G5 : Gr w3 (w4.alloc (.cells #[.slice none 0 0, .slice none 0 0] 25)) := G4.alloc _
    have HG5 : Hid (Gr w (w4.alloc (.cells #[.slice none 0 0, .slice none 0 0] 25))) := HG3.out.trans G5
    have x0 := cr0 (Hr.heap_of_gr G4 HX3.out.1)
    have x1 := cr1 (Hr.heap_of_gr G4 HX3.out.1)
    have y0 := cr0 (Hr.heap_of_gr G4 HX3.out.2)
    have y1 := cr1 (Hr.heap_of_gr G4 HX3.out.2)
    have l0 := (gs (Hr.heap_of_gr G4 HX3.out.1)).1
    have l1 := (gs (Hr.heap_of_gr G4 HX3.out.2)).1
    have c1 := Mr.conv_any sc (HS3.out.of G5).mem
    have c2 := Mr.conv_any tc (HT3.out.of G5).mem
    have HN5 : Hid (Ma (w4.alloc (.cells #[.slice none 0 0, .slice none 0 0] 25)) na q nc ka r kc m hs) := HN3.out.of G5
    clear G4 G5 HS3 HT3 HN3 HX3 HG3 HGn
    go_wp2_with fail
    refine (HMa.out _ _ _ _ _ HG5.out HN5.out).mono ?_
    rintro e w6 ⟨rfl, G6⟩
    have HG6 : Hid (Gr w w6) := HG5.out.trans G6
    clear G6
    go_wp2_with fail
    go_ret
    exact ⟨rfl, HG6.out⟩
  · have hxn' : ¬ (x : Int) < (n : Int) := by omega
    have c1 := Mr.conv_any sc HS3.out.mem
    have c2 := Mr.conv_any tc HT3.out.mem
    have x0 := cr0 HX3.out.1
    have x1 := cr1 HX3.out.1
    have y0 := cr0 HX3.out.2
    have y1 := cr1 HX3.out.2
    go_wp2_with fail
    refine (HMa.out _ _ _ _ _ HG3.out HN3.out).mono ?_
    rintro e w6 ⟨rfl, G6⟩
    have HG6 : Hid (Gr w w6) := HG3.out.trans G6
    clear G6
    go_wp2_with fail
    go_ret
    exact ⟨rfl, HG6.out⟩
end Go.Proofs.Ythgnfmbnbndeeac.Im
/-
  The cells of a hart, and of harts and picks in slices, that are handed in: opened.
-/
namespace Go.Proofs.Ythgnfmbnbndeeac.Mc
open Go.ChangeShapes Go.WideShapes Go.ChangeAt Go.RowKit Mm Hh
set_option linter.unusedVariables false
set_option linter.unusedSimpArgs false

variable {α H : Type} {l : List Value} {v : Value} {n : Int} {enc : TypeId × Value → H} {W w : World} {b0 fuel len cap : Nat} {sp : Nat → Bool} {held : Bool} {x : DataW H × List MemPlace} {a : Addr} {ao : Option Addr} {d : DataW H} {p : List MemPlace}
theorem c34 : Try.prog.cellsOf 48 = 37 := by kernel_rfl
theorem c32 : Try.prog.cellsOf 46 = 32 := by kernel_rfl
theorem c22 : Try.prog.cellsOf 45 = 1 := by kernel_rfl
theorem c4 : Try.prog.cellsOf 4 = 1 := by kernel_rfl
theorem c3 : Try.prog.cellsOf 3 = 1 := by kernel_rfl
theorem list6 {l : List α} (h : l.length = 6) : ∃ a b c d e f, l = [a, b, c, d, e, f] := by
  match l, h with
  | [a, b, c, d, e, f], _ => exact ⟨a, b, c, d, e, f, rfl⟩
theorem cut_one {k : Nat} (h : (l.drop k).take 1 = [v]) : l[k]? = some v := by
  have := congrArg (fun x => x[0]?) h
  simpa using this
theorem u32_bd (h : (Lit.int .u32 n).wf = true) : 0 ≤ n ∧ n < 4294967296 := by
  have : 0 ≤ n ∧ n ≤ 4294967295 := by simpa [Lit.wf, IntKind.min, IntKind.max, IntKind.signed, IntKind.bits] using h
  omega
set_option maxRecDepth 100000 in
theorem hart_cells
    (hf : DataW.trod enc Try.prog W b0 sp held fuel 48 l = some x) : ∃ hh : Hv, l = hL hh ∧ hh.Ok := by
  obtain ⟨xs, m, rfl, hx, hcl, hlen, hel⟩ := DataW.trod_struct Try.underlying48 hf
  obtain ⟨y0, y1, y2, y3, y4, y5, rfl⟩ := list6 (l := xs) hlen
  clear hf hlen hx
  have k0 : DataW.trod enc Try.prog W b0 sp held m 46 ((l.drop 0).take (Try.prog.cellsOf 46)) = some y0 := hel 0 _ rfl
  have k1 : DataW.trod enc Try.prog W b0 sp held m 45 ((l.drop 32).take (Try.prog.cellsOf 45)) = some y1 := hel 1 _ rfl
  have k2 : DataW.trod enc Try.prog W b0 sp held m 4 ((l.drop 33).take (Try.prog.cellsOf 4)) = some y2 := hel 2 _ rfl
  have k3 : DataW.trod enc Try.prog W b0 sp held m 45 ((l.drop 34).take (Try.prog.cellsOf 45)) = some y3 := hel 3 _ rfl
  have k4 : DataW.trod enc Try.prog W b0 sp held m 3 ((l.drop 35).take (Try.prog.cellsOf 3)) = some y4 := hel 4 _ rfl
  have k5 : DataW.trod enc Try.prog W b0 sp held m 3 ((l.drop 36).take (Try.prog.cellsOf 3)) = some y5 := hel 5 _ rfl
  clear hel
  have hl : l.length = 37 := by rw [hcl, c34]
  obtain ⟨pc, e1, _, w1⟩ := DataW.trod_int Try.underlying45 k1
  obtain ⟨hd, e2, _⟩ := DataW.trod_bool Try.underlying4 k2
  obtain ⟨ha, e3, _, w3⟩ := DataW.trod_int Try.underlying45 k3
  obtain ⟨st, e4, _, _⟩ := DataW.trod_int Try.underlying3 k4
  obtain ⟨ca, e5, _, _⟩ := DataW.trod_int Try.underlying3 k5
  obtain ⟨zs, m2, rfl, _, _, hzl, hze⟩ := DataW.trod_array Try.underlying46 k0
  clear k0 k1 k2 k3 k4 k5
  rw [c22] at e1 e3
  rw [c4] at e2
  rw [c3] at e4 e5
  have q1 := cut_one e1
  have q2 := cut_one e2
  have q3 := cut_one e3
  have q4 := cut_one e4
  have q5 := cut_one e5
  have qr : ∀ i, i < 32 → ∃ n, l[i]? = some (.int .u32 n) ∧ 0 ≤ n ∧ n < 4294967296 := fun i hi => by
    have ki := hze i hi
    rw [List.getElem?_eq_getElem (by omega)] at ki
    obtain ⟨n, en, _, wn⟩ := DataW.trod_int Try.underlying45 ki
    rw [c22, c32] at en
    refine ⟨n, ?_, u32_bd wn⟩
    have := congrArg (fun x => x[0]?) en
    simp only [List.getElem?_take, List.getElem?_drop] at this
    rw [if_pos (by omega), if_pos (by omega)] at this
    simpa using this
  clear hze e1 e2 e3 e4 e5
  have qn : ∀ i, i < 32 → l[i]? = some (.int .u32 (intOf (l.getD i undef))) ∧ 0 ≤ intOf (l.getD i undef) ∧ intOf (l.getD i undef) < 4294967296 := fun i hi => by
    obtain ⟨n, en, b⟩ := qr i hi
    simp only [List.getD, en, Option.getD_some, intOf]
    exact ⟨trivial, b⟩
  refine ⟨⟨(List.range 32).map fun i => intOf (l.getD i undef), pc, hd, ha, st, ca⟩, ?_, ?_⟩
  · have : l = hL ⟨(List.range 32).map fun i => intOf (l.getD i undef), pc, hd, ha, st, ca⟩ := by
      apply List.ext_getElem?
      intro i
      unfold hL
      by_cases hi : i < 32
      · rw [List.getElem?_append_left (by simpa using hi), (qn i hi).1]
        simp [hi]
      · rw [List.getElem?_append_right (by simp; omega)]
        simp only [List.length_map, List.length_range]
        by_cases h37 : i < 37
        · have : i = 32 ∨ i = 33 ∨ i = 34 ∨ i = 35 ∨ i = 36 := by omega
          rcases this with rfl | rfl | rfl | rfl | rfl
          · exact q1
          · exact q2
          · exact q3
          · exact q4
          · exact q5
        · rw [List.getElem?_eq_none (by omega), List.getElem?_eq_none (by simp; omega)]
    exact this
  · refine ⟨by simp, fun i => ?_, (u32_bd w1).1, (u32_bd w1).2, (u32_bd w3).1, (u32_bd w3).2⟩
    unfold rg
    simp only [List.getD, List.getElem?_map]
    by_cases hi : i < 32
    · rw [List.getElem?_eq_getElem (by simpa using hi)]
      simp only [List.getElem_range, Option.map_some, Option.getD_some]
      exact (qn i hi).2
    · rw [List.getElem?_eq_none (by simp; omega)]
      simp


theorem c62 : Try.prog.cellsOf 71 = 2 := by kernel_rfl
theorem list2 {l : List α} (h : l.length = 2) : ∃ a b, l = [a, b] := by
  match l, h with
  | [a, b], _ => exact ⟨a, b, rfl⟩
theorem i64_bd (h : (Lit.int .i64 n).wf = true) : -9223372036854775808 ≤ n ∧ n ≤ 9223372036854775807 := by
  simpa [Lit.wf, IntKind.min, IntKind.max, IntKind.signed, IntKind.bits] using h
set_option maxRecDepth 100000 in
theorem pick_cells
    (hf : DataW.trod enc Try.prog W b0 sp held fuel 71 l = some x) : ∃ p : Int × Int, l = [.int .i64 p.1, .int .i64 p.2] ∧ -9223372036854775808 ≤ p.1 ∧ p.1 ≤ 9223372036854775807 ∧ -9223372036854775808 ≤ p.2 ∧ p.2 ≤ 9223372036854775807 := by
  obtain ⟨xs, m, rfl, hx, hcl, hlen, hel⟩ := DataW.trod_struct Try.underlying71 hf
  obtain ⟨y0, y1, rfl⟩ := list2 (l := xs) hlen
  have k0 : DataW.trod enc Try.prog W b0 sp held m 3 ((l.drop 0).take (Try.prog.cellsOf 3)) = some y0 := hel 0 _ rfl
  have k1 : DataW.trod enc Try.prog W b0 sp held m 3 ((l.drop 1).take (Try.prog.cellsOf 3)) = some y1 := hel 1 _ rfl
  rw [c62] at hcl
  obtain ⟨a, b, rfl⟩ := list2 hcl
  obtain ⟨p, e0, _, w0⟩ := DataW.trod_int Try.underlying3 k0
  obtain ⟨q, e1, _, w1⟩ := DataW.trod_int Try.underlying3 k1
  rw [c3] at e0 e1
  simp at e0 e1
  subst e0 e1
  exact ⟨(p, q), rfl, (i64_bd w0).1, (i64_bd w0).2, (i64_bd w1).1, (i64_bd w1).2⟩

/-- Cells from an address on, one by one. -/
theorem cells_each {n : Nat} {cs : List Value} (h : w.cells? 0 a n = some cs) : cs.length = n ∧ ∀ j, j < n → w.cell? (a.add j) = cs[j]? := by
  obtain ⟨_, hl, hc⟩ := World.cells?_some h
  exact ⟨hl, hc⟩
theorem spot_none (h : w.cell? (a.add 0) = some v) : a.spot = none := by simpa [Addr.add] using World.cell?_spot h
/-- An argument of type []api.Hart, opened. -/
theorem open_harts
    (hf : DataW.trod enc Try.prog W 0 (fun _ => true) true fuel 23 (Value.slice ao len cap).cells.toList = some (d, p)) : ∃ hs : List Hv, Hs W ao len hs ∧ (ao = none → cap = 0) ∧ (d = .nil ∧ len = 0 ∨ ∃ el sp, d = .slice el sp ∧ el.length = len) := by
  rcases Deep.open_slice Try.underlying23 hf with ⟨hcs, hx⟩ | ⟨a, len', cap', m, n, D, Pl, hcs, hb, hl, hm, em, hx, hel⟩
  · simp [Value.cells] at hcs
    obtain ⟨rfl, rfl, rfl⟩ := hcs
    exact ⟨[], ⟨rfl, fun h hm => (by cases hm), fun h => absurd h (by omega)⟩, fun _ => rfl, .inl ⟨by injection hx, rfl⟩⟩
  · simp [Value.cells] at hcs
    obtain ⟨rfl, rfl, rfl⟩ := hcs
    have em2 : m = cap := by simpa using em
    have hex : ∀ i, i < len → ∃ h : Hv, h.Ok ∧ ∀ j v, (hL h)[j]? = some v → W.cell? (a.add (i * 37 + j)) = some v := fun i hi => by
      obtain ⟨cs', hc, ht⟩ := hel i (by omega)
      obtain ⟨hh, rfl, ok⟩ := hart_cells ht
      rw [c34] at hc
      obtain ⟨_, hc⟩ := cells_each hc
      refine ⟨hh, ok, fun j v hv => ?_⟩
      have hj : j < 37 := by have := (List.getElem?_eq_some_iff.1 hv).1; rwa [hL_len ok] at this
      have := hc j hj
      rw [Deep.add_add] at this
      rw [this]
      exact hv
    obtain ⟨f, hf2⟩ := @Deep.choose_lt Hv ⟨hN⟩ len _ hex
    refine ⟨(List.range len).map f, ⟨by simp, fun h hm => ?_, fun hn => ?_⟩, fun e => (by cases e), .inr ⟨_, _, by injection hx, by simp⟩⟩
    · obtain ⟨i, hi, rfl⟩ := List.mem_map.1 hm
      exact (hf2 i (List.mem_range.1 hi)).1
    · obtain ⟨b, o, s⟩ := a
      have c0 := (hf2 0 hn).2 0 _ (hL_reg (hf2 0 hn).1 (by omega))
      have hs : s = none := spot_none (by simpa using c0)
      subst hs
      have hb : b < W.heap.size := by simpa [Addr.add] using World.block_lt_of_cell? W _ c0
      refine ⟨b, o, rfl, hb, fun i h hi j v hv => ?_⟩
      rw [List.getElem?_map] at hi
      by_cases hl2 : i < len
      · rw [List.getElem?_eq_getElem (by simpa using hl2)] at hi
        simp at hi
        subst hi
        have := (hf2 i hl2).2 j v hv
        rw [add_at] at this
        rw [Nat.add_assoc]
        exact this
      · rw [List.getElem?_eq_none (by simp; omega)] at hi
        cases hi
/-- An argument of type []api.Pick, opened. -/
theorem open_picks
    (hf : DataW.trod enc Try.prog W 0 (fun _ => true) true fuel 68 (Value.slice ao len cap).cells.toList = some (d, p)) :
    ∃ ps : List (Int × Int), Ps W ao len ps ∧ (ao = none → cap = 0) ∧ (len ≤ cap ∧ cap ≤ maxLen) ∧ (d = .nil ∧ len = 0 ∨ ∃ el sp, d = .slice el sp ∧ el.length = len) ∧ ∀ p ∈ ps, -9223372036854775808 ≤ p.1 ∧ p.1 ≤ 9223372036854775807 ∧ -9223372036854775808 ≤ p.2 ∧ p.2 ≤ 9223372036854775807 := by
  rcases Deep.open_slice Try.underlying68 hf with ⟨hcs, hx⟩ | ⟨a, len', cap', m, n, D, Pl, hcs, hb, hl, hm, em, hx, hel⟩
  · simp [Value.cells] at hcs
    obtain ⟨rfl, rfl, rfl⟩ := hcs
    exact ⟨[], ⟨rfl, fun h => absurd h (by omega)⟩, fun _ => rfl, ⟨Nat.le_refl _, Nat.zero_le _⟩, .inl ⟨by injection hx, rfl⟩, fun h hm => (by cases hm)⟩
  · simp [Value.cells] at hcs
    obtain ⟨rfl, rfl, rfl⟩ := hcs
    have em2 : m = cap := by simpa using em
    have hex : ∀ i, i < len → ∃ q : Int × Int, (-9223372036854775808 ≤ q.1 ∧ q.1 ≤ 9223372036854775807 ∧ -9223372036854775808 ≤ q.2 ∧ q.2 ≤ 9223372036854775807) ∧ W.cell? (a.add (i * 2)) = some (.int .i64 q.1) ∧ W.cell? (a.add (i * 2 + 1)) = some (.int .i64 q.2) := fun i hi => by
      obtain ⟨cs', hc, ht⟩ := hel i (by omega)
      obtain ⟨q, rfl, bd⟩ := pick_cells ht
      rw [c62] at hc
      obtain ⟨_, hc⟩ := cells_each hc
      have h0 := hc 0 (by omega)
      have h1 := hc 1 (by omega)
      rw [Deep.add_add] at h0 h1
      exact ⟨q, bd, h0, h1⟩
    obtain ⟨f, hf2⟩ := @Deep.choose_lt (Int × Int) ⟨(0, 0)⟩ len _ hex
    refine ⟨(List.range len).map f, ⟨by simp, fun hn => ?_⟩, fun e => (by cases e), ⟨hl, hm⟩, .inr ⟨_, _, by injection hx, by simp⟩, fun h hm => ?_⟩
    · obtain ⟨b, o, s⟩ := a
      have c0 := (hf2 0 hn).2.1
      have hs : s = none := spot_none (by simpa using c0)
      subst hs
      have hb : b < W.heap.size := by simpa [Addr.add] using World.block_lt_of_cell? W _ c0
      refine ⟨b, o, rfl, hb, fun i h hi => ?_⟩
      rw [List.getElem?_map] at hi
      by_cases hl2 : i < len
      · rw [List.getElem?_eq_getElem (by simpa using hl2)] at hi
        simp at hi
        subst hi
        obtain ⟨_, q0, q1⟩ := hf2 i hl2
        rw [add_at] at q0 q1
        exact ⟨q0, by rw [Nat.add_assoc]; exact q1⟩
      · rw [List.getElem?_eq_none (by simp; omega)] at hi
        cases hi
    · obtain ⟨i, hi, rfl⟩ := List.mem_map.1 hm
      exact (hf2 i (List.mem_range.1 hi)).1
end Go.Proofs.Ythgnfmbnbndeeac.Mc
/-
  A machine and a script that are handed in, opened; how many harts, bytes and picks there can be.
-/
namespace Go.Proofs.Ythgnfmbnbndeeac.Mc
open Go.ChangeShapes Go.WideShapes Go.ChangeAt Go.RowKit Mm Hh
set_option linter.unusedVariables false
set_option linter.unusedSimpArgs false

variable {H : Type} {enc : TypeId × Value → H} {W : World} {fuel base : Nat} {d : DataW H} {p : List MemPlace} {v : Value} {ts : List TypeId} {ds : List (DataW H)}
theorem cM : Try.prog.cellsOf 25 = 2 := by kernel_rfl
theorem cB : Try.prog.cellsOf 22 = 1 := by kernel_rfl
theorem cH : Try.prog.cellsOf 23 = 1 := by kernel_rfl
theorem byH : Try.prog.bytesOf 48 = 160 := by kernel_rfl
theorem byP : Try.prog.bytesOf 71 = 16 := by kernel_rfl
/-- A machine that is handed in. -/
structure Mg (W : World) (v : Value) (ma : Option Addr) (mn mc : Nat) (ha : Option Addr) (hn hc : Nat) (m : List UInt8) (hs : List Hv) : Prop where
  eq : v = .agg #[.slice ma mn mc, .slice ha hn hc]
  mem : Mem W ma mn m
  cap : ma = none → mc = 0
  harts : Hs W ha hn hs
  b1 : mn ≤ 140737488351232
  b2 : hn ≤ 140737488351232
theorem one_slice {t e : TypeId} {l : List Value} {k : Nat} {x : DataW H × List MemPlace} (hu : Try.prog.underlying t = some (.slice e)) (h : DataW.trod enc Try.prog W 0 (fun _ => true) true fuel t ((l.drop k).take 1) = some x) : ∃ ao n c, l[k]? = some (.slice ao n c) ∧ (l.drop k).take 1 = (Value.slice ao n c).cells.toList := by
  rcases Deep.open_slice hu h with ⟨hcs, _⟩ | ⟨a, len, cap, _, _, _, _, hcs, _⟩
  · exact ⟨none, 0, 0, cut_one hcs, hcs⟩
  · exact ⟨some a, len, cap, cut_one hcs, hcs⟩
theorem mem_cap {ao : Option Addr} {len cap : Nat}
    (hf : DataW.trod enc Try.prog W 0 (fun _ => true) true fuel 22 (Value.slice ao len cap).cells.toList = some (d, p)) : ao = none → cap = 0 := by
  rcases open_ints Try.underlying22 Try.underlying5 cells5 hf with ⟨hcs, _⟩ | ⟨a, len', cap', zs, hcs, _⟩
  · simp [Value.cells] at hcs
    exact fun _ => hcs.2.2
  · simp [Value.cells] at hcs
    intro h
    rw [h] at hcs
    cases hcs.1
set_option maxRecDepth 100000 in
theorem open_machine (hv : Value.okWide Try.prog W .any base 25 v) (h : DataW.Trod enc Try.prog W 0 (fun _ => true) true 25 v d p)
    (hsz : (DataW.weightsEach Try.prog ts ds).all (· ≤ reachBytes) = true) (ht : ts[0]? = some 25) (hd : ds[0]? = some d) : ∃ ma mn mc ha hn hc m hs, Mg W v ma mn mc ha hn hc m hs := by
  obtain ⟨cs, rfl, hcs⟩ := okWide_struct Try.underlying25 hv
  rw [cM] at hcs
  obtain ⟨l⟩ := cs
  obtain ⟨fuel, hf⟩ := h
  obtain ⟨xs, n, rfl, hx, _, hlen, hel⟩ := DataW.trod_struct Try.underlying25 hf
  obtain ⟨y0, y1, rfl⟩ := list2 (l := xs) hlen
  have k0 : DataW.trod enc Try.prog W 0 (fun _ => true) true n 22 ((l.drop 0).take (Try.prog.cellsOf 22)) = some y0 := hel 0 _ rfl
  have k1 : DataW.trod enc Try.prog W 0 (fun _ => true) true n 23 ((l.drop 1).take (Try.prog.cellsOf 23)) = some y1 := hel 1 _ rfl
  clear hf hel hv
  rw [cB] at k0
  rw [cH] at k1
  obtain ⟨ma, mn, mc, e0, q0⟩ := one_slice Try.underlying22 k0
  obtain ⟨ha, hn, hc, e1, q1⟩ := one_slice Try.underlying23 k1
  rw [q0] at k0
  rw [q1] at k1
  obtain ⟨d0, p0⟩ := y0
  obtain ⟨d1, p1⟩ := y1
  obtain ⟨m, M, hm⟩ := open_mem k0
  obtain ⟨hs, H2, _, hh⟩ := open_harts k1
  have ed : d = .agg [d0, d1] := by injection hx
  subst ed
  have hw := DataW.weights_mem_each (P := Try.prog) ht hd
  have hin : (DataW.weightsEach Try.prog [22, 23] [d0, d1]).all (· ≤ reachBytes) = true := by
    rw [List.all_eq_true]
    intro z hz
    refine List.all_eq_true.1 hsz z (hw z ?_)
    unfold DataW.weights
    rw [Try.underlying25]
    exact hz
  have ll : l = [.slice ma mn mc, .slice ha hn hc] := by
    obtain ⟨a, b, rfl⟩ := list2 (l := l) (by simpa using hcs)
    simp at e0 e1
    rw [e0, e1]
  refine ⟨ma, mn, mc, ha, hn, hc, m, hs, by rw [ll], M, mem_cap k0, H2, ?_, ?_⟩
  · rcases hm with ⟨_, h⟩ | ⟨zs, sp, h, hz⟩
    · rw [h]; decide
    · have := sized_slice hin (j := 0) (t := 22) (e := 5) rfl (by rw [h]; rfl) Try.underlying22
      rw [bytes5] at this
      simp only [lits, List.length_map, hz, reachBytes] at this
      omega
  · rcases hh with ⟨_, h⟩ | ⟨zs, sp, h, hz⟩
    · rw [h]; decide
    · have := sized_slice hin (j := 1) (t := 23) (e := 48) rfl (by rw [h]; rfl) Try.underlying23
      rw [byH] at this
      simp only [hz, reachBytes] at this
      omega
set_option maxRecDepth 100000 in
/-- A script that is handed in. -/
theorem open_script (hv : Value.okWide Try.prog W .any base 68 v) (h : DataW.Trod enc Try.prog W 0 (fun _ => true) true 68 v d p)
    (hsz : (DataW.weightsEach Try.prog ts ds).all (· ≤ reachBytes) = true) (j : Nat) (ht : ts[j]? = some 68) (hd : ds[j]? = some d) : ∃ pa pn pc ps, v = .slice pa pn pc ∧ Ps W pa pn ps ∧ (pa = none → pc = 0) ∧ pn ≤ pc ∧ pc ≤ maxLen ∧ pn ≤ 8796093022208 ∧ (d = .nil ∧ pn = 0 ∨ ∃ el sp, d = .slice el sp ∧ el.length = pn) := by
  obtain ⟨pa, pn, pc, rfl⟩ := okWide_slice Try.underlying68 hv
  obtain ⟨fa, hfa⟩ := h
  obtain ⟨ps, P, c0, ⟨c1, c2⟩, hd2, _⟩ := open_picks hfa
  refine ⟨pa, pn, pc, ps, rfl, P, c0, c1, c2, ?_, hd2⟩
  rcases hd2 with ⟨_, h⟩ | ⟨zs, sp, h, hz⟩
  · omega
  · have := sized_slice hsz (j := j) (t := 68) (e := 71) ht (by rw [hd, h]) Try.underlying68
    rw [byP] at this
    simp only [hz, reachBytes] at this
    omega
end Go.Proofs.Ythgnfmbnbndeeac.Mc
