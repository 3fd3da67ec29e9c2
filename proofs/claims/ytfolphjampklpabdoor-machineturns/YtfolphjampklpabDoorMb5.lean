/-
  What Board's Work answers: what its hart does in so many steps ('wk').
-/
import Derived.Test.YtfolphjampklpabDoorMb4
namespace Go.Proofs.YtfolphjampklpabDoor.Mc
open Go.ChangeShapes Go.WideShapes Go.ChangeAt Go.RowKit Mm Hh Hc
set_option linter.unusedVariables false
set_option linter.unusedSimpArgs false

theorem yieldsIf_build {P : Program} {ops : Array Oper} {S : World → Prop} {o : Oper} {a : Act} (hw : Region.wanted o (yielded ops a.tmps) = true) (t : TypeId) (parts : Array (Nat × Operand)) (ho : o.op = .build t parts)
    (cells : Array Value) (hf : P.built t (parts.map fun (i, x) => (i, a.eval x)).toList = some cells) : YieldsIf P ops S o (.agg cells) a :=
  .inl ⟨hw, fun w _ => by
    unfold execOp
    simp only [ho, Sem.run_bind, run_build w t _ _ hf, Result.andThen_ok]
    rfl⟩
/-- In world w, what hart d did is x. -/
structure Dq (w : World) (base : Nat) (d : Qv) (x : Wk) : Prop where
  hh : d.h = x.h
  n : d.n = x.n
  mem : Own w 0 d.m x.m
  out : w.ownsRow base 38 1 d.out x.out.length (x.out.map (Value.int .u32))
  sto : w.ownsRow base 73 2 d.sto x.sto.length (rgs x.sto)
theorem owns_cells {w : World} {base e sz n : Nat} {v : Value} {xs : List Value} (h : w.ownsRow base e sz v n xs) : v.cells = #[v] ∧ v.oneCell' = true ∧ ∃ a c, v = .slice a n c := by
  rcases h.2 with ⟨rfl, rfl⟩ | ⟨g, cap, _, rfl, _⟩
  · exact ⟨rfl, rfl, none, 0, rfl⟩
  · exact ⟨rfl, rfl, _, cap, rfl⟩
theorem heap3_new (w : World) (a b c : Obj) : (((w.alloc a).alloc b).alloc c).drew.heap[w.heap.size + 2]? = some c := by
  have := heap_alloc_new ((w.alloc a).alloc b) c
  have e : ((w.alloc a).alloc b).heap.size = w.heap.size + 2 := by simp
  rw [e] at this
  exact this
theorem heap3_gr (w : World) (a b c : Obj) : Gr w (((w.alloc a).alloc b).alloc c).drew := Gr.drew (Gr.alloc (Gr.alloc (Gr.alloc (Gr.refl _) _) _) _)
theorem heap3_old (w : World) (A : Array Value) (t : Nat) (b c : Obj) : (((w.alloc (.cells A t)).alloc b).alloc c).drew.heap[w.heap.size]? = some (.cells A t (0, 0)) := Hr.heap_of_gr (Gr.drew (Gr.alloc (Gr.refl _) _)) (heap_alloc2_old w _ _)
theorem heap3_mid (w : World) (a : Obj) (A : Array Value) (t : Nat) (c : Obj) : (((w.alloc a).alloc (.cells A t)).alloc c).drew.heap[w.heap.size + 1]? = some (.cells A t (0, 0)) := Hr.heap_of_gr (Gr.drew (Gr.alloc (Gr.refl _) _)) (heap_alloc2_new w _ _)
theorem Gr.toBelow {w w' : World} (h : Below w.heap.size w w') : Gr w w' := h
set_option maxHeartbeats 2000000 in
set_option maxRecDepth 100000 in
theorem Work_any {w : World} {base g gh hc : Nat} {M O : Value} {s : Sh} (B : Bw w base g M gh hc O s) {c mn : Nat} (F : Fit s c mn) (hmn : mn ≤ 4096) (T : TT w w.heap.size) {k n : Nat} (hk : k < c) (hc4 : c ≤ 4) (hn : n ≤ 400) :
    Calls Tryd.prog 12 #[.pointer (some ⟨g, 0, none⟩), .agg #[.int .i64 k, .int .i64 n]] w fun e w' => ∃ d, e = .returned (.agg (qA d)) ∧ d.h.Ok ∧ Dq w' w.heap.size d (wk (w0 s k) n) ∧ Gr w w' := by
  have hl : k < s.hs.length := by rw [F.len]; exact hk
  have eh : s.hs[k]? = some (at' s k) := by unfold at'; rw [List.getElem?_eq_getElem hl]; simp [List.getD, hl]
  have W0 := w0_ok F hk
  have okh : (at' s k).Ok := W0.ok
  have RG : Hid (w.rangeAt gh (k * 37) (hL (at' s k))) := B.row.range eh
  obtain ⟨ma, mc, rfl, _⟩ := B.mem.mem
  have hml : s.m.length = mn := F.mem
  have HOM : Hid (Own w 0 (.slice ma mn mc) s.m) := by unfold Hid; rw [← hml]; exact B.mem
  have HB : Hid (w.heap[g]? = some (.cells #[.slice ma mn mc, .slice (some ⟨gh, 0, none⟩) c hc, O, .int .i64 s.steps] 46 (0, 0))) := by have := B.blk; rw [F.len, hml] at this; exact this
  have HT : Hid (TT w w.heap.size) := T
  have hgl : g < w.heap.size := (Array.getElem?_eq_some_iff.1 HB.out).1
  have hghl : gh < w.heap.size := by obtain ⟨_, e⟩ := B.row.row; exact (Array.getElem?_eq_some_iff.1 e).1
  have HX : Hid (w0 s k = ⟨at' s k, s.m, [], [], 0⟩) := rfl
  have HW0 : Hid (WOk (w0 s k) mn) := W0
  have HLL : Hid ((hL (at' s k)).length = 37) := hL_len okh
  have HOK : Hid (at' s k).Ok := okh
  clear B F T hml W0 okh eh hl
  generalize at' s k = h at *
  generalize w0 s k = x0 at *
  generalize s.m = l at *
  have HBu : Hid (Tryd.prog.built 79 [(0, .agg (hL h).toArray), (1, .slice ma mn mc)] = some (cA ⟨h, .slice ma mn mc, nilS, nilS⟩)) := built_core HOK.out _ rfl
  have HZc : Hid ((cA ⟨h, .slice ma mn mc, nilS, nilS⟩).size = 40) := cA_size HOK.out
  have HOc : Hid ((cA ⟨h, .slice ma mn mc, nilS, nilS⟩).all (·.oneCell') = true) := one_cA _ rfl rfl rfl
  have HSG : Hid (∀ W : World, Gr w W → W.heap[w.heap.size]? = some (.cells #[.int .i64 k, .int .i64 n] 35 (0, 0)) → W.cell? ⟨g, 1, none⟩ = some (.slice (some ⟨gh, 0, none⟩) c hc) ∧ W.cell? ⟨w.heap.size, 0, none⟩ = some (.int .i64 k) ∧ W.rangeAt gh (k * 37) (hL h) ∧ W.cell? ⟨g, 0, none⟩ = some (.slice ma mn mc)) := fun W G e =>
    ⟨cell_of_row _ _ _ _ _ _ (Hr.heap_of_gr G HB.out), cell_of_row _ _ _ _ _ _ e, fun j v hv => (G.cell _ (by exact hghl)).trans (RG.out j v hv), cell_of_row _ _ _ _ _ _ (Hr.heap_of_gr G HB.out)⟩
  go_enter Tryd.func12, Tryd.ntmps12
  go_wp2_with fail
  refine wp_region_held_drew (S := fun W => W.cell? ⟨g, 1, none⟩ = some (.slice (some ⟨gh, 0, none⟩) c hc) ∧ W.cell? ⟨w.heap.size, 0, none⟩ = some (.int .i64 k) ∧ W.rangeAt gh (k * 37) (hL h) ∧ W.cell? ⟨g, 0, none⟩ = some (.slice ma mn mc)) (by kernel_rfl) ?_ (fun hHeld => ?_)
  · exact HSG.out _ (((Gr.refl _).alloc _).alloc _).drew (Hr.heap_of_gr (Gr.refl _).drew (heap_alloc2_old w _ _))
  have HS0 : Hid _ := hHeld
  clear hHeld
  refine wpAnyH_take (i := 0) (v := .pointer (some ⟨g, 0, none⟩)) rfl (by kernel_rfl) (by kernel_rfl) (by kernel_rfl) (fun _ _ _ h => h) (Or.inl ⟨by rfl, fun W hW => by obtain ⟨q0, q1, q2, q3⟩ := hW; go_simp⟩) HS0.out ?_
  simp only [Act.put, List.setIfInBounds_toArray, List.set_cons_zero, List.set_cons_succ]
  refine wpAnyH_take (i := 1) (v := .pointer (some ⟨g, 0, none⟩)) rfl (by kernel_rfl) (by kernel_rfl) (by kernel_rfl) (fun _ _ _ h => h) (Or.inl ⟨by rfl, fun W hW => by obtain ⟨q0, q1, q2, q3⟩ := hW; go_simp⟩) HS0.out ?_
  simp only [Act.put, List.setIfInBounds_toArray, List.set_cons_zero, List.set_cons_succ]
  refine wpAnyH_take (i := 2) (v := .pointer (some ⟨g, 0, none⟩)) rfl (by kernel_rfl) (by kernel_rfl) (by kernel_rfl) (fun _ _ _ h => h) (Or.inl ⟨by rfl, fun W hW => by obtain ⟨q0, q1, q2, q3⟩ := hW; go_simp⟩) HS0.out ?_
  simp only [Act.put, List.setIfInBounds_toArray, List.set_cons_zero, List.set_cons_succ]
  refine wpAnyH_take (i := 3) (v := .pointer (some ⟨g, 0, none⟩)) rfl (by kernel_rfl) (by kernel_rfl) (by kernel_rfl) (fun _ _ _ h => h) (Or.inl ⟨by rfl, fun W hW => by obtain ⟨q0, q1, q2, q3⟩ := hW; go_simp⟩) HS0.out ?_
  simp only [Act.put, List.setIfInBounds_toArray, List.set_cons_zero, List.set_cons_succ]
  refine wpAnyH_take (i := 4) (v := .pointer (some ⟨g, 1, none⟩)) rfl (by kernel_rfl) (by kernel_rfl) (by kernel_rfl) (fun _ _ _ h => h) (Or.inl ⟨by rfl, fun W hW => by obtain ⟨q0, q1, q2, q3⟩ := hW; go_simp⟩) HS0.out ?_
  simp only [Act.put, List.setIfInBounds_toArray, List.set_cons_zero, List.set_cons_succ]
  refine wpAnyH_take (i := 5) (v := .slice (some ⟨gh, 0, none⟩) c hc) rfl (by kernel_rfl) (by kernel_rfl) (by kernel_rfl) (fun _ _ _ h => h) (Or.inl ⟨by rfl, fun W hW => by obtain ⟨q0, q1, q2, q3⟩ := hW; go_simp⟩) HS0.out ?_
  simp only [Act.put, List.setIfInBounds_toArray, List.set_cons_zero, List.set_cons_succ]
  refine wpAnyH_take (i := 6) (v := .pointer (some ⟨w.heap.size, 0, none⟩)) rfl (by kernel_rfl) (by kernel_rfl) (by kernel_rfl) (fun _ _ _ h => h) (Or.inl ⟨by rfl, fun W hW => by obtain ⟨q0, q1, q2, q3⟩ := hW; go_simp⟩) HS0.out ?_
  simp only [Act.put, List.setIfInBounds_toArray, List.set_cons_zero, List.set_cons_succ]
  refine wpAnyH_take (i := 7) (v := .int .i64 k) rfl (by kernel_rfl) (by kernel_rfl) (by kernel_rfl) (fun _ _ _ h => h) (Or.inl ⟨by rfl, fun W hW => by obtain ⟨q0, q1, q2, q3⟩ := hW; go_simp⟩) HS0.out ?_
  simp only [Act.put, List.setIfInBounds_toArray, List.set_cons_zero, List.set_cons_succ]
  refine wpAnyH_take (i := 8) (v := .pointer (some ⟨gh, k * 37, none⟩)) rfl (by kernel_rfl) (by kernel_rfl) (by kernel_rfl) (fun _ _ _ h => h) (Or.inl ⟨by rfl, fun W hW => by obtain ⟨q0, q1, q2, q3⟩ := hW; go_simp⟩) HS0.out ?_
  simp only [Act.put, List.setIfInBounds_toArray, List.set_cons_zero, List.set_cons_succ]
  refine wpAnyH_take (i := 9) (v := .agg (hL h).toArray) rfl (by kernel_rfl) (by kernel_rfl) (by kernel_rfl) (fun _ _ _ h => h) ?hy HS0.out ?_
  case hy => exact yieldsIf_load_mid (by rfl) 52 (.tmp 15) rfl gh (k * 37) (by simp [Act.eval]) (hL h) _ (fun W hW => hW.2.2.1) Tryd.underlying52 rfl (by rw [HLL.out]; exact iH)
  simp only [Act.put, List.setIfInBounds_toArray, List.set_cons_zero, List.set_cons_succ]
  refine wpAnyH_take (i := 10) (v := .pointer (some ⟨g, 0, none⟩)) rfl (by kernel_rfl) (by kernel_rfl) (by kernel_rfl) (fun _ _ _ h => h) (Or.inl ⟨by rfl, fun W hW => by obtain ⟨q0, q1, q2, q3⟩ := hW; go_simp⟩) HS0.out ?_
  simp only [Act.put, List.setIfInBounds_toArray, List.set_cons_zero, List.set_cons_succ]
  refine wpAnyH_take (i := 11) (v := .pointer (some ⟨g, 0, none⟩)) rfl (by kernel_rfl) (by kernel_rfl) (by kernel_rfl) (fun _ _ _ h => h) (Or.inl ⟨by rfl, fun W hW => by obtain ⟨q0, q1, q2, q3⟩ := hW; go_simp⟩) HS0.out ?_
  simp only [Act.put, List.setIfInBounds_toArray, List.set_cons_zero, List.set_cons_succ]
  refine wpAnyH_take (i := 12) (v := .pointer (some ⟨g, 0, none⟩)) rfl (by kernel_rfl) (by kernel_rfl) (by kernel_rfl) (fun _ _ _ h => h) (Or.inl ⟨by rfl, fun W hW => by obtain ⟨q0, q1, q2, q3⟩ := hW; go_simp⟩) HS0.out ?_
  simp only [Act.put, List.setIfInBounds_toArray, List.set_cons_zero, List.set_cons_succ]
  refine wpAnyH_take (i := 13) (v := .pointer (some ⟨g, 0, none⟩)) rfl (by kernel_rfl) (by kernel_rfl) (by kernel_rfl) (fun _ _ _ h => h) (Or.inl ⟨by rfl, fun W hW => by obtain ⟨q0, q1, q2, q3⟩ := hW; go_simp⟩) HS0.out ?_
  simp only [Act.put, List.setIfInBounds_toArray, List.set_cons_zero, List.set_cons_succ]
  refine wpAnyH_take (i := 14) (v := .pointer (some ⟨g, 0, none⟩)) rfl (by kernel_rfl) (by kernel_rfl) (by kernel_rfl) (fun _ _ _ h => h) (Or.inl ⟨by rfl, fun W hW => by obtain ⟨q0, q1, q2, q3⟩ := hW; go_simp⟩) HS0.out ?_
  simp only [Act.put, List.setIfInBounds_toArray, List.set_cons_zero, List.set_cons_succ]
  refine wpAnyH_take (i := 15) (v := .slice ma mn mc) rfl (by kernel_rfl) (by kernel_rfl) (by kernel_rfl) (fun _ _ _ h => h) (Or.inl ⟨by rfl, fun W hW => by obtain ⟨q0, q1, q2, q3⟩ := hW; go_simp⟩) HS0.out ?_
  simp only [Act.put, List.setIfInBounds_toArray, List.set_cons_zero, List.set_cons_succ]
  refine wpAnyH_take (i := 16) (v := .agg (cA ⟨h, .slice ma mn mc, nilS, nilS⟩)) rfl (by kernel_rfl) (by kernel_rfl) (by kernel_rfl) (fun _ _ _ h => h) ?hy HS0.out ?_
  case hy => exact yieldsIf_build (by rfl) 79 _ rfl _ (by simpa [Act.eval] using HBu.out)
  simp only [Act.put, List.setIfInBounds_toArray, List.set_cons_zero, List.set_cons_succ]
  refine wpAnyH_ready (rs := [17]) (by kernel_rfl) (by simp) ?_
  refine AllReadyH.cons rfl (fun K hK => ?_) AllReadyH.nil
  go_simp
  refine hK.out _ _ ?_ (fun _ => ?_)
  · exact HSG.out _ (heap3_gr _ _ _ _) (heap3_old _ _ _ _ _)
  clear hK K HS0
  refine wpAnyH_ready (rs := [18]) (by kernel_rfl) (by simp) ?_
  refine AllReadyH.cons rfl (fun K hK => ?_) AllReadyH.nil
  refine step_store rfl 79 (.tmp 5) (.tmp 23) rfl (w.heap.size + 2) (cA ⟨h, .slice ma mn mc, nilS, nilS⟩) (by simp [Act.eval]) (by simp [Act.eval]) 79 (cA ⟨h0, nilS, nilS, nilS⟩) (heap3_new _ _ _ _) (by rw [HZc.out]; exact iC) (by rw [HZc.out]; rfl) HOc.out ?_
  refine hK.out _ _ ?_ (fun _ => ?_)
  · refine HSG.out _ (gr_setRow (heap3_gr _ _ _ _) (by omega) _) ?_
    rw [setRow_other _ _ _ _ (by omega)]
    exact heap3_old _ _ _ _ _
  clear hK K
  refine wpAnyH_done (by kernel_rfl) ?_ _
  have HIn : Hid (∀ o1 o2 : Obj, Inv ((((w.alloc o1).alloc o2).alloc (.cells (cA ⟨h0, nilS, nilS, nilS⟩) 79)).drew.setRow (w.heap.size + 2) (cA ⟨h, .slice ma mn mc, nilS, nilS⟩)) w.heap.size (w.heap.size + 2) ⟨h, .slice ma mn mc, nilS, nilS⟩ l [] []) := fun o1 o2 => by
    refine ⟨HOK.out, by omega, setRow_heap _ _ _ _ _ (0, 0) (heap3_new _ _ _ _), HOM.out.to fun q ob f hq => ?_, World.ownsRow_nil _ _ _ _, World.ownsRow_nil _ _ _ _⟩
    have := (Array.getElem?_eq_some_iff.1 hq).1
    rw [setRow_other _ _ _ _ (by omega)]
    exact (heap3_gr w o1 o2 _).block q this
  have HG4 : Hid (∀ o1 o2 o3 : Obj, Gr w ((((w.alloc o1).alloc o2).alloc o3).drew.setRow (w.heap.size + 2) (cA ⟨h, .slice ma mn mc, nilS, nilS⟩))) := fun _ _ _ => gr_setRow (heap3_gr _ _ _ _) (by omega) _
  go_wp2_with fail
  go_loopw [6] (fun i wr => ∃ x : Wk, i = .int .i64 x.n ∧ x.n ≤ n ∧ wk x0 n = wk x (n - x.n) ∧ WOk x mn ∧ In wr w.heap.size (w.heap.size + 2) x.h x.m x.out x.sto ∧ Fr w.heap.size w wr ∧ wr.heap[w.heap.size]? = some (.cells #[.int .i64 k, .int .i64 n] 35 (0, 0)) ∧ ∃ Z : Array Value, Z.size = 41 ∧ wr.heap[w.heap.size + 1]? = some (.cells Z 55 (0, 0))) (fun i _ => n - (intOf i).toNat)
  case atStart =>
    refine ⟨x0, by rw [HX.out]; rfl, by rw [HX.out]; exact Nat.zero_le _, by rw [HX.out]; rfl, HW0.out, ?_, Fr.ofGr (HG4.out _ _ _) (Nat.le_refl _), ?_, qA ⟨h0, nilS, nilS, 0, nilS⟩, qA_size (d := ⟨h0, nilS, nilS, 0, nilS⟩) h0_ok, ?_⟩
    · rw [HX.out]; exact (HIn.out _ _).inn
    · rw [setRow_other _ _ _ _ (by omega)]; exact heap3_old _ _ _ _ _
    · rw [setRow_other _ _ _ _ (by omega)]; exact heap3_mid _ _ _ _ _
  case round =>
    obtain ⟨x, rfl, hxn, hxw, ok, I, Fq, P4, Z, hZ, D4⟩ := hrel
    have HI : Hid (In wr w.heap.size (w.heap.size + 2) x.h x.m x.out x.sto) := I
    have HF : Hid (Fr w.heap.size w wr) := Fq
    have HPk : Hid (wr.heap[w.heap.size]? = some (.cells #[.int .i64 k, .int .i64 n] 35 (0, 0))) := P4
    have HD4 : Hid (wr.heap[w.heap.size + 1]? = some (.cells Z 55 (0, 0))) := D4
    have HZ : Hid (Z.size = 41) := hZ
    have HXW : Hid (wk x0 n = wk x (n - x.n)) := hxw
    have HWO : Hid (WOk x mn) := ok
    have k1 : wr.cell? ⟨w.heap.size, 1, none⟩ = some (.int .i64 n) := cell_of_row _ _ _ _ _ _ P4
    have k35 : wr.cell? ⟨w.heap.size + 2, 35, none⟩ = some (.int .i64 x.h.state) := by
      obtain ⟨cv, e, J⟩ := HI.out
      rw [← e]; exact (J.hcell (by omega)).trans (hL_fld J.ok 3)
    clear hxw ok I Fq P4 D4 hZ HIn HG4 HSG HB HOM RG
    by_cases hgo : x.n < n ∧ x.h.state = 0
    · obtain ⟨hlt, hst⟩ := hgo
      have hst2 : Hid (x.h.state = 0) := hst
      rw [hst] at k35
      clear hst
      have HST : Hid (Calls Tryd.prog 24 #[.pointer (some ⟨w.heap.size + 2, 0, none⟩)] wr fun e w' => e = .returned (.tuple #[]) ∧ In w' w.heap.size (w.heap.size + 2) (stp x.h x.m).h (stp x.h x.m).m (x.out ++ (stp x.h x.m).out) (x.sto ++ (stp x.h x.m).sto) ∧ Fr w.heap.size wr w') := Step_any HI.out (HT.out.of HF.out) (by rw [HWO.out.mem]; omega) (by have := HWO.out.sto; omega) (by have := HWO.out.out; omega)
      go_wp2_with fail
      refine Calls.mono HST.out ?_
      rintro e w1 ⟨rfl, I1, F1⟩
      have HI1 : Hid (In w1 w.heap.size (w.heap.size + 2) (wk1 x).h (wk1 x).m (wk1 x).out (wk1 x).sto) := I1
      have HF1 : Hid (Fr w.heap.size w w1) := HF.out.trans F1
      have HP1 : Hid (w1.heap[w.heap.size]? = some (.cells #[.int .i64 k, .int .i64 n] 35 (0, 0))) := (F1.keep _ _ _ _ HPk.out (by decide) (by decide) (by decide)).trans HPk.out
      have HD1 : Hid (w1.heap[w.heap.size + 1]? = some (.cells Z 55 (0, 0))) := (F1.keep _ _ _ _ HD4.out (by decide) (by decide) (by decide)).trans HD4.out
      have HX1 : Hid (wk x0 n = wk (wk1 x) (n - (wk1 x).n)) := by
        unfold Hid
        rw [HXW.out, show n - x.n = (n - (x.n + 1)) + 1 by omega, wk_go hst2.out]
        rfl
      clear I1 F1 HST HI HF HPk HD4 k1 k35 HXW
      go_wp2_with fail
      go_roundw
      case rel => exact ⟨wk1 x, by show Value.int .i64 _ = .int .i64 ((x.n + 1 : Nat) : Int); go_num, by show x.n + 1 ≤ n; omega, HX1.out, wk1_ok HWO.out hst2.out, HI1.out, HF1.out, HP1.out, Z, HZ.out, HD1.out⟩
      case measure => simp [intOf]; omega
    · have HE : Hid (wk x0 n = x) := by
        unfold Hid
        rw [HXW.out]
        by_cases h1 : x.n < n
        · exact wk_stop (fun e => hgo ⟨h1, e⟩) _
        · rw [show n - x.n = 0 by omega]; rfl
      have hc2 : ¬ x.n < n ∨ (x.n < n ∧ (x.h.state == 0) = false) := by
        by_cases h1 : x.n < n
        · exact .inr ⟨h1, by simpa using fun e => hgo ⟨h1, e⟩⟩
        · exact .inl h1
      clear hgo HXW
      obtain ⟨cv, hcv, J⟩ := HI.out
      have HOKx : Hid x.h.Ok := HWO.out.ok
      have HLx : Hid ((hL x.h).length = 37) := hL_len HOKx.out
      have HRx : Hid (wr.rangeAt (w.heap.size + 2) 0 (hL x.h)) := fun j v hv => by
        have hj : j < 37 := by have := (List.getElem?_eq_some_iff.1 hv).1; rwa [HLx.out] at this
        rw [Nat.zero_add, J.hcell hj, hcv]; exact hv
      have k37 : wr.cell? ⟨w.heap.size + 2, 37, none⟩ = some cv.m := J.fcell 0
      have k38 : wr.cell? ⟨w.heap.size + 2, 38, none⟩ = some cv.out := J.fcell 1
      have k39 : wr.cell? ⟨w.heap.size + 2, 39, none⟩ = some cv.sto := J.fcell 2
      have HQ : Hid (Dq wr w.heap.size ⟨x.h, cv.m, cv.out, x.n, cv.sto⟩ x) := ⟨rfl, rfl, J.mem, J.out, J.sto⟩
      have HBd : Hid (Tryd.prog.built 55 [(0, .agg (hL x.h).toArray), (1, cv.m), (2, cv.out), (3, .int .i64 x.n), (4, cv.sto)] = some (qA ⟨x.h, cv.m, cv.out, x.n, cv.sto⟩)) := built_did5 HOKx.out _ _ _ _ HQ.out.mem.cells.1 (owns_cells HQ.out.out).1 (owns_cells HQ.out.sto).1
      have HOd : Hid ((qA ⟨x.h, cv.m, cv.out, x.n, cv.sto⟩).all (·.oneCell') = true) := one_qA HQ.out.mem.cells.2 (owns_cells HQ.out.out).2.1 (owns_cells HQ.out.sto).2.1
      have HSd : Hid ((qA ⟨x.h, cv.m, cv.out, x.n, cv.sto⟩).size = 41) := qA_size HOKx.out
      clear J hcv HI
      generalize hQA : qA ⟨x.h, cv.m, cv.out, x.n, cv.sto⟩ = QA at *
      have HQA : Hid (qA ⟨x.h, cv.m, cv.out, x.n, cv.sto⟩ = QA) := hQA
      clear hQA
      rcases hc2 with h1 | ⟨h1, h2⟩
      all_goals
        go_wp2_with (first
          | (refine wpList_load_mid rfl 52 _ rfl (w.heap.size + 2) 0 rfl (hL x.h) _ ?r1 Tryd.underlying52 rfl (by rw [HLx.out]; exact iH) ?_; (case r1 => exact HRx.out))
          | (refine wpList_buildTo rfl 55 _ rfl _ rfl QA (by have := HBd.out; simp [Act.eval, Act.put]; exact this) ?_)
          | (refine wpList_store_row rfl 55 _ _ rfl (w.heap.size + 1) QA rfl rfl 55 Z ?r2 (by rw [HSd.out]; exact iQ) (by rw [HSd.out, HZ.out]) HOd.out ?_; (case r2 => exact HD4.out)))
        refine bodyPost_ret (v := .agg QA) (results_cell_row rfl _ _ _ _ _ (0, 0) _ rfl (setRow_heap _ _ _ _ _ (0, 0) HD4.out) Tryd.underlying55 rfl (by rw [HSd.out]; exact iQ)) rfl ⟨⟨x.h, cv.m, cv.out, x.n, cv.sto⟩, by rw [HQA.out], HOKx.out, ?_, ?_⟩
        · rw [HE.out]
          refine ⟨rfl, rfl, ?_, ?_, ?_⟩
          · exact HQ.out.mem.to fun q ob f hq => setRow_other _ _ _ _ (ne_of_types hq HD4.out (by decide))
          · exact owns_to HQ.out.out fun q ob f hq => setRow_other _ _ _ _ (ne_of_types hq HD4.out (by decide))
          · exact owns_to HQ.out.sto fun q ob f hq => setRow_other _ _ _ _ (ne_of_types hq HD4.out (by decide))
        · exact gr_setRow HF.out.below (Nat.le_succ _) _
end Go.Proofs.YtfolphjampklpabDoor.Mc
