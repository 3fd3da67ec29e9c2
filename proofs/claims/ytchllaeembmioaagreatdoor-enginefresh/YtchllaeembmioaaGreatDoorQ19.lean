/-
  Mb5, Mb6: texts of ours that lie in one file.
-/
import Derived.Test.YtchllaeembmioaaGreatDoorQ18
import Derived.Test.YtchllaeembmioaaGreatDoorQ16
set_option linter.unusedVariables false
set_option linter.unusedSimpArgs false
set_option maxHeartbeats 8000000
set_option maxRecDepth 100000
namespace Go.Proofs.YtchllaeembmioaaGreatDoor.Mc
open Go.ChangeShapes Go.WideShapes Go.ChangeAt Go.RowKit Mm Hh Hc

variable {ty : Nat} {rs : List Value}
theorem yieldsIf_build {P : Program} {ops : Array Oper} {S : World → Prop} {o : Oper} {a : Act} (hw : Region.wanted o (yielded ops a.tmps) = true) (t : TypeId) (parts : Array (Nat × Operand)) (ho : o.op = .build t parts)
  (cells : Array Value) (hf : P.built t (parts.map fun (i, x) => (i, a.eval x)).toList = some cells) : YieldsIf P ops S o (.agg cells) a :=
 .inl ⟨hw, fun w _ => by
  unfold execOp
  simp only [ho, Sem.run_bind, run_build w t _ _ hf, Result.andThen_ok]
  rfl⟩
structure Dq (w : World) (base : Nat) (d : Qv) (x : Wk) : Prop where
 hh : d.h = x.h
 n : d.n = x.n
 mem : Own w 0 d.m x.m
 out : w.ownsRow base 42 1 d.out x.out.length (x.out.map (Value.int .u32))
 sto : w.ownsRow base 109 2 d.sto x.sto.length (rgs x.sto)
theorem owns_cells {w : World} {base e sz n : Nat} {v : Value} {xs : List Value} (h : w.ownsRow base e sz v n xs) : v.cells = #[v] ∧ v.oneCell' = true ∧ ∃ a c, v = .slice a n c := by
 rcases h.2 with ⟨rfl, rfl⟩ | ⟨g, cap, _, rfl, _⟩
 ·exact ⟨rfl, rfl, none, 0, rfl⟩
 ·exact ⟨rfl, rfl, _, cap, rfl⟩
theorem heap3_new (w : World) (a b c : Obj) : (((w.alloc a).alloc b).alloc c).drew.heap[w.heap.size + 2]? = some c := by
 have := heap_alloc_new ((w.alloc a).alloc b) c
 have e : ((w.alloc a).alloc b).heap.size = w.heap.size + 2 := by simp
 rw [e] at this
 exact this
theorem heap3_gr (w : World) (a b c : Obj) : Gr w (((w.alloc a).alloc b).alloc c).drew := Gr.drew (Gr.alloc (Gr.alloc (Gr.alloc (Gr.refl _) _) _) _)
theorem heap3_old (w : World) (A : Array Value) (t : Nat) (b c : Obj) : (((w.alloc (.cells A t)).alloc b).alloc c).drew.heap[w.heap.size]? = some (.cells A t (0, 0)) := Hr.heap_of_gr (Gr.drew (Gr.alloc (Gr.refl _) _)) (heap_alloc2_old w _ _)
theorem heap3_mid (w : World) (a : Obj) (A : Array Value) (t : Nat) (c : Obj) : (((w.alloc a).alloc (.cells A t)).alloc c).drew.heap[w.heap.size + 1]? = some (.cells A t (0, 0)) := Hr.heap_of_gr (Gr.drew (Gr.alloc (Gr.refl _) _)) (heap_alloc2_new w _ _)
theorem Work_any {w : World} {base g gh hc : Nat} {M O : Value} {s : Sh} (B : Bw ty rs w base g M gh hc O s) {c mn : Nat} (F : Fit s c mn) (hmn : mn ≤ 4096) (T : TT w w.heap.size) {k n : Nat} (hk : k < c) (hc4 : c ≤ 4) (hn : n ≤ 400) :
  Calls Tryz.prog 28 #[.pointer (some ⟨g, 0, none⟩), .agg #[.int .i64 k, .int .i64 n]] w fun e w' => ∃ d, e = .returned (.agg (qA d)) ∧ d.h.Ok ∧ Dq w' w.heap.size d (wk (w0 s k) n) ∧ Gr w w' := by
 have hl : k < s.hs.length := by rw [F.len]; exact hk
 have eh : s.hs[k]? = some (at' s k) := by unfold at'; rw [List.getElem?_eq_getElem hl]; simp [List.getD, hl]
 have W0 := w0_ok F hk
 have okh : (at' s k).Ok := W0.ok
 have RG : Hid (w.rangeAt gh (k * 37) (hL (at' s k))) := B.row.range eh
 obtain ⟨ma, mc, rfl, _⟩ := B.mem.mem
 have hml : s.m.length = mn := F.mem
 have HOM : Hid (Own w 0 (.slice ma mn mc) s.m) := by unfold Hid; rw [← hml]; exact B.mem
 have HB0 : Hid (w.cell? ⟨g, 0, none⟩ = some (.slice ma mn mc)) := by have := B.c0; rw [hml] at this; exact this
 have HB1 : Hid (w.cell? ⟨g, 1, none⟩ = some (.slice (some ⟨gh, 0, none⟩) c hc)) := by have := B.c1; rw [F.len] at this; exact this
 have HT : Hid (TT w w.heap.size) := T
 have hgl : g < w.heap.size := B.lt
 have hghl : gh < w.heap.size := by obtain ⟨_, e⟩ := B.row.row; exact (Array.getElem?_eq_some_iff.1 e).1
 have HX : Hid (w0 s k = ⟨at' s k, s.m, [], [], 0⟩) := rfl
 have HW0 : Hid (WOk (w0 s k) mn) := W0
 have HLL : Hid ((hL (at' s k)).length = 37) := hL_len okh
 have HOK : Hid (at' s k).Ok := okh
 clear B F T hml W0 okh eh hl
 generalize at' s k = h at *
 generalize w0 s k = x0 at *
 generalize s.m = l at *
 have HBu : Hid (Tryz.prog.built 115 [(0, .agg (hL h).toArray), (1, .slice ma mn mc)] = some (cA ⟨h, .slice ma mn mc, nilS, nilS⟩)) := built_core HOK.out _ rfl
 have HZc : Hid ((cA ⟨h, .slice ma mn mc, nilS, nilS⟩).size = 40) := cA_size HOK.out
 have HOc : Hid ((cA ⟨h, .slice ma mn mc, nilS, nilS⟩).all (·.oneCell') = true) := one_cA _ rfl rfl rfl
 have HSG : Hid (∀ W : World, Gr w W → W.heap[w.heap.size]? = some (.cells #[.int .i64 k, .int .i64 n] 53 (0, 0)) → W.cell? ⟨g, 1, none⟩ = some (.slice (some ⟨gh, 0, none⟩) c hc) ∧ W.cell? ⟨w.heap.size, 0, none⟩ = some (.int .i64 k) ∧ W.rangeAt gh (k * 37) (hL h) ∧ W.cell? ⟨g, 0, none⟩ = some (.slice ma mn mc)) := fun W G e =>
  ⟨(G.cell _ (by exact hgl)).trans HB1.out, cell_of_row _ _ _ _ _ _ e, fun j v hv => (G.cell _ (by exact hghl)).trans (RG.out j v hv), (G.cell _ (by exact hgl)).trans HB0.out⟩
 go_enter Tryz.func28, Tryz.ntmps28
 go_wp2_with fail
 refine wp_region_held_drew (S := fun W => W.cell? ⟨g, 1, none⟩ = some (.slice (some ⟨gh, 0, none⟩) c hc) ∧ W.cell? ⟨w.heap.size, 0, none⟩ = some (.int .i64 k) ∧ W.rangeAt gh (k * 37) (hL h) ∧ W.cell? ⟨g, 0, none⟩ = some (.slice ma mn mc)) (by kernel_rfl) ?_ (fun hHeld => ?_)
 ·exact HSG.out _ (((Gr.refl _).alloc _).alloc _).drew (Hr.heap_of_gr (Gr.refl _).drew (heap_alloc2_old w _ _))
 have HS0 : Hid _ := hHeld
 clear hHeld
 refine wpAnyH_take (i := 0) (v := .pointer (some ⟨g, 0, none⟩)) rfl (by kernel_rfl) (by kernel_rfl) (by kernel_rfl) (fun _ _ _ h => h) (Or.inl ⟨by rfl, fun W hW => by obtain ⟨q0, q1, q2, q3⟩ := hW; go_simp⟩) HS0.out ?_
 simp only [Act.put, List.setIfInBounds_toArray, List.set_cons_zero, List.set_cons_succ]
 refine wpAnyH_take (i := 1) (v := .pointer (some ⟨g, 0, none⟩)) rfl (by kernel_rfl) (by kernel_rfl) (by kernel_rfl) (fun _ _ _ h => h) (Or.inl ⟨by rfl, fun W hW => by obtain ⟨q0, q1, q2, q3⟩ := hW; go_simp⟩) HS0.out ?_
 simp only [Act.put, List.setIfInBounds_toArray, List.set_cons_zero, List.set_cons_succ]
 refine wpAnyH_take (i := 2) (v := .pointer (some ⟨g, 0, none⟩)) rfl (by kernel_rfl) (by kernel_rfl) (by kernel_rfl) (fun _ _ _ h => h) (Or.inl ⟨by rfl, fun W hW => by obtain ⟨q0, q1, q2, q3⟩ := hW; go_simp⟩) HS0.out ?_
 simp only [Act.put, List.setIfInBounds_toArray, List.set_cons_zero, List.set_cons_succ]
 refine wpAnyH_take (i := 3) (v := .pointer (some ⟨g, 0, none⟩)) rfl (by kernel_rfl) (by kernel_rfl) (by kernel_rfl) (fun _ _ _ h => h) (Or.inl ⟨by rfl, fun W hW => by obtain ⟨q0, q1, q2, q3⟩ := hW; go_simp⟩) HS0.out ?_
 simp only [Act.put, List.setIfInBounds_toArray, List.set_cons_zero, List.set_cons_succ]
 refine wpAnyH_take (i := 4) (v := .pointer (some ⟨g, 1, none⟩)) rfl (by kernel_rfl) (by kernel_rfl) (by kernel_rfl) (fun _ _ _ h => h) (Or.inl ⟨by rfl, fun W hW => by obtain ⟨q0, q1, q2, q3⟩ := hW; go_simp⟩) HS0.out ?_
 simp only [Act.put, List.setIfInBounds_toArray, List.set_cons_zero, List.set_cons_succ]
 refine wpAnyH_take (i := 5) (v := .slice (some ⟨gh, 0, none⟩) c hc) rfl (by kernel_rfl) (by kernel_rfl) (by kernel_rfl) (fun _ _ _ h => h) (Or.inl ⟨by rfl, fun W hW => by obtain ⟨q0, q1, q2, q3⟩ := hW; go_simp⟩) HS0.out ?_
 simp only [Act.put, List.setIfInBounds_toArray, List.set_cons_zero, List.set_cons_succ]
 refine wpAnyH_take (i := 6) (v := .pointer (some ⟨w.heap.size, 0, none⟩)) rfl (by kernel_rfl) (by kernel_rfl) (by kernel_rfl) (fun _ _ _ h => h) (Or.inl ⟨by rfl, fun W hW => by obtain ⟨q0, q1, q2, q3⟩ := hW; go_simp⟩) HS0.out ?_
 simp only [Act.put, List.setIfInBounds_toArray, List.set_cons_zero, List.set_cons_succ]
 refine wpAnyH_take (i := 7) (v := .int .i64 k) rfl (by kernel_rfl) (by kernel_rfl) (by kernel_rfl) (fun _ _ _ h => h) (Or.inl ⟨by rfl, fun W hW => by obtain ⟨q0, q1, q2, q3⟩ := hW; go_simp⟩) HS0.out ?_
 simp only [Act.put, List.setIfInBounds_toArray, List.set_cons_zero, List.set_cons_succ]
 refine wpAnyH_take (i := 8) (v := .pointer (some ⟨gh, k * 37, none⟩)) rfl (by kernel_rfl) (by kernel_rfl) (by kernel_rfl) (fun _ _ _ h => h) (Or.inl ⟨by rfl, fun W hW => by obtain ⟨q0, q1, q2, q3⟩ := hW; go_simp⟩) HS0.out ?_
 simp only [Act.put, List.setIfInBounds_toArray, List.set_cons_zero, List.set_cons_succ]
 refine wpAnyH_take (i := 9) (v := .agg (hL h).toArray) rfl (by kernel_rfl) (by kernel_rfl) (by kernel_rfl) (fun _ _ _ h => h) ?hy HS0.out ?_
 case hy => exact yieldsIf_load_mid (by rfl) 51 (.tmp 15) rfl gh (k * 37) (by simp [Act.eval]) (hL h) _ (fun W hW => hW.2.2.1) Tryz.underlying51 rfl (by rw [HLL.out]; exact iH)
 simp only [Act.put, List.setIfInBounds_toArray, List.set_cons_zero, List.set_cons_succ]
 refine wpAnyH_take (i := 10) (v := .pointer (some ⟨g, 0, none⟩)) rfl (by kernel_rfl) (by kernel_rfl) (by kernel_rfl) (fun _ _ _ h => h) (Or.inl ⟨by rfl, fun W hW => by obtain ⟨q0, q1, q2, q3⟩ := hW; go_simp⟩) HS0.out ?_
 simp only [Act.put, List.setIfInBounds_toArray, List.set_cons_zero, List.set_cons_succ]
 refine wpAnyH_take (i := 11) (v := .pointer (some ⟨g, 0, none⟩)) rfl (by kernel_rfl) (by kernel_rfl) (by kernel_rfl) (fun _ _ _ h => h) (Or.inl ⟨by rfl, fun W hW => by obtain ⟨q0, q1, q2, q3⟩ := hW; go_simp⟩) HS0.out ?_
 simp only [Act.put, List.setIfInBounds_toArray, List.set_cons_zero, List.set_cons_succ]
 refine wpAnyH_take (i := 12) (v := .pointer (some ⟨g, 0, none⟩)) rfl (by kernel_rfl) (by kernel_rfl) (by kernel_rfl) (fun _ _ _ h => h) (Or.inl ⟨by rfl, fun W hW => by obtain ⟨q0, q1, q2, q3⟩ := hW; go_simp⟩) HS0.out ?_
 simp only [Act.put, List.setIfInBounds_toArray, List.set_cons_zero, List.set_cons_succ]
 refine wpAnyH_take (i := 13) (v := .pointer (some ⟨g, 0, none⟩)) rfl (by kernel_rfl) (by kernel_rfl) (by kernel_rfl) (fun _ _ _ h => h) (Or.inl ⟨by rfl, fun W hW => by obtain ⟨q0, q1, q2, q3⟩ := hW; go_simp⟩) HS0.out ?_
 simp only [Act.put, List.setIfInBounds_toArray, List.set_cons_zero, List.set_cons_succ]
 refine wpAnyH_take (i := 14) (v := .pointer (some ⟨g, 0, none⟩)) rfl (by kernel_rfl) (by kernel_rfl) (by kernel_rfl) (fun _ _ _ h => h) (Or.inl ⟨by rfl, fun W hW => by obtain ⟨q0, q1, q2, q3⟩ := hW; go_simp⟩) HS0.out ?_
 simp only [Act.put, List.setIfInBounds_toArray, List.set_cons_zero, List.set_cons_succ]
 refine wpAnyH_take (i := 15) (v := .slice ma mn mc) rfl (by kernel_rfl) (by kernel_rfl) (by kernel_rfl) (fun _ _ _ h => h) (Or.inl ⟨by rfl, fun W hW => by obtain ⟨q0, q1, q2, q3⟩ := hW; go_simp⟩) HS0.out ?_
 simp only [Act.put, List.setIfInBounds_toArray, List.set_cons_zero, List.set_cons_succ]
 refine wpAnyH_take (i := 16) (v := .agg (cA ⟨h, .slice ma mn mc, nilS, nilS⟩)) rfl (by kernel_rfl) (by kernel_rfl) (by kernel_rfl) (fun _ _ _ h => h) ?hy HS0.out ?_
 case hy => exact yieldsIf_build (by rfl) 115 _ rfl _ (by simpa [Act.eval] using HBu.out)
 simp only [Act.put, List.setIfInBounds_toArray, List.set_cons_zero, List.set_cons_succ]
 refine wpAnyH_ready (rs := [17]) (by kernel_rfl) (by simp) ?_
 refine AllReadyH.cons rfl (fun K hK => ?_) AllReadyH.nil
 go_simp
 refine hK.out _ _ ?_ (fun _ => ?_)
 ·exact HSG.out _ (heap3_gr _ _ _ _) (heap3_old _ _ _ _ _)
 clear hK K HS0
 refine wpAnyH_ready (rs := [18]) (by kernel_rfl) (by simp) ?_
 refine AllReadyH.cons rfl (fun K hK => ?_) AllReadyH.nil
 refine step_store rfl 115 (.tmp 5) (.tmp 23) rfl (w.heap.size + 2) (cA ⟨h, .slice ma mn mc, nilS, nilS⟩) (by simp [Act.eval]) (by simp [Act.eval]) 115 (cA ⟨h0, nilS, nilS, nilS⟩) (heap3_new _ _ _ _) (by rw [HZc.out]; exact iC) (by rw [HZc.out]; rfl) HOc.out ?_
 refine hK.out _ _ ?_ (fun _ => ?_)
 ·refine HSG.out _ (gr_setRow (heap3_gr _ _ _ _) (by omega) _) ?_
  rw [setRow_other _ _ _ _ (by omega)]
  exact heap3_old _ _ _ _ _
 clear hK K
 refine wpAnyH_done (by kernel_rfl) ?_ _
 have HIn : Hid (∀ o1 o2 : Obj, Inv ((((w.alloc o1).alloc o2).alloc (.cells (cA ⟨h0, nilS, nilS, nilS⟩) 115)).drew.setRow (w.heap.size + 2) (cA ⟨h, .slice ma mn mc, nilS, nilS⟩)) w.heap.size (w.heap.size + 2) ⟨h, .slice ma mn mc, nilS, nilS⟩ l [] []) := fun o1 o2 => by
  refine ⟨HOK.out, by omega, setRow_heap _ _ _ _ _ (0, 0) (heap3_new _ _ _ _), HOM.out.to fun q ob f hq => ?_, World.ownsRow_nil _ _ _ _, World.ownsRow_nil _ _ _ _⟩
  have := (Array.getElem?_eq_some_iff.1 hq).1
  rw [setRow_other _ _ _ _ (by omega)]
  exact (heap3_gr w o1 o2 _).block q this
 have HG4 : Hid (∀ o1 o2 o3 : Obj, Gr w ((((w.alloc o1).alloc o2).alloc o3).drew.setRow (w.heap.size + 2) (cA ⟨h, .slice ma mn mc, nilS, nilS⟩))) := fun _ _ _ => gr_setRow (heap3_gr _ _ _ _) (by omega) _
 go_wp2_with fail
 go_loopw [6] (fun i wr => ∃ x : Wk, i = .int .i64 x.n ∧ x.n ≤ n ∧ wk x0 n = wk x (n - x.n) ∧ WOk x mn ∧ In wr w.heap.size (w.heap.size + 2) x.h x.m x.out x.sto ∧ Fr w.heap.size w wr ∧ wr.heap[w.heap.size]? = some (.cells #[.int .i64 k, .int .i64 n] 53 (0, 0)) ∧ ∃ Z : Array Value, Z.size = 41 ∧ wr.heap[w.heap.size + 1]? = some (.cells Z 84 (0, 0))) (fun i _ => n - (intOf i).toNat)
 case atStart =>
  refine ⟨x0, by rw [HX.out]; rfl, by rw [HX.out]; exact Nat.zero_le _, by rw [HX.out]; rfl, HW0.out, ?_, Fr.ofGr (HG4.out _ _ _) (Nat.le_refl _), ?_, qA ⟨h0, nilS, nilS, 0, nilS⟩, qA_size (d := ⟨h0, nilS, nilS, 0, nilS⟩) h0_ok, ?_⟩
  ·rw [HX.out]; exact (HIn.out _ _).inn
  ·rw [setRow_other _ _ _ _ (by omega)]; exact heap3_old _ _ _ _ _
  ·rw [setRow_other _ _ _ _ (by omega)]; exact heap3_mid _ _ _ _ _
 case round =>
  obtain ⟨x, rfl, hxn, hxw, ok, I, Fq, P4, Z, hZ, D4⟩ := hrel
  have HI : Hid (In wr w.heap.size (w.heap.size + 2) x.h x.m x.out x.sto) := I
  have HF : Hid (Fr w.heap.size w wr) := Fq
  have HPk : Hid (wr.heap[w.heap.size]? = some (.cells #[.int .i64 k, .int .i64 n] 53 (0, 0))) := P4
  have HD4 : Hid (wr.heap[w.heap.size + 1]? = some (.cells Z 84 (0, 0))) := D4
  have HZ : Hid (Z.size = 41) := hZ
  have HXW : Hid (wk x0 n = wk x (n - x.n)) := hxw
  have HWO : Hid (WOk x mn) := ok
  have k1 : wr.cell? ⟨w.heap.size, 1, none⟩ = some (.int .i64 n) := cell_of_row _ _ _ _ _ _ P4
  have k35 : wr.cell? ⟨w.heap.size + 2, 35, none⟩ = some (.int .i64 x.h.state) := by
   obtain ⟨cv, e, J⟩ := HI.out
   rw [← e]; exact (J.hcell (by omega)).trans (hL_fld J.ok 3)
  clear hxw ok I Fq P4 D4 hZ HIn HG4 HSG HB0 HB1 HOM RG
  by_cases hgo : x.n < n ∧ x.h.state = 0
  ·obtain ⟨hlt, hst⟩ := hgo
   have hst2 : Hid (x.h.state = 0) := hst
   rw [hst] at k35
   clear hst
   have HST : Hid (Calls Tryz.prog 50 #[.pointer (some ⟨w.heap.size + 2, 0, none⟩)] wr fun e w' => e = .returned (.tuple #[]) ∧ In w' w.heap.size (w.heap.size + 2) (stp x.h x.m).h (stp x.h x.m).m (x.out ++ (stp x.h x.m).out) (x.sto ++ (stp x.h x.m).sto) ∧ Fr w.heap.size wr w') := Step_any HI.out (HT.out.of HF.out) (by rw [HWO.out.mem]; omega) (by have := HWO.out.sto; omega) (by have := HWO.out.out; omega)
   go_wp2_with fail
   refine Calls.mono HST.out ?_
   rintro e w1 ⟨rfl, I1, F1⟩
   have HI1 : Hid (In w1 w.heap.size (w.heap.size + 2) (wk1 x).h (wk1 x).m (wk1 x).out (wk1 x).sto) := I1
   have HF1 : Hid (Fr w.heap.size w w1) := HF.out.trans F1
   have HP1 : Hid (w1.heap[w.heap.size]? = some (.cells #[.int .i64 k, .int .i64 n] 53 (0, 0))) := (F1.keep _ _ _ _ HPk.out (by decide) (by decide) (by decide)).trans HPk.out
   have HD1 : Hid (w1.heap[w.heap.size + 1]? = some (.cells Z 84 (0, 0))) := (F1.keep _ _ _ _ HD4.out (by decide) (by decide) (by decide)).trans HD4.out
   have HX1 : Hid (wk x0 n = wk (wk1 x) (n - (wk1 x).n)) := by
    unfold Hid
    rw [HXW.out, show n - x.n = (n - (x.n + 1)) + 1 by omega, wk_go hst2.out]
    rfl
   clear I1 F1 HST HI HF HPk HD4 k1 k35 HXW
   go_wp2_with fail
   go_roundw
   case rel => exact ⟨wk1 x, by show Value.int .i64 _ = .int .i64 ((x.n + 1 : Nat) : Int); go_num, by show x.n + 1 ≤ n; omega, HX1.out, wk1_ok HWO.out hst2.out, HI1.out, HF1.out, HP1.out, Z, HZ.out, HD1.out⟩
   case measure => simp [intOf]; omega
  ·have HE : Hid (wk x0 n = x) := by
    unfold Hid
    rw [HXW.out]
    by_cases h1 : x.n < n
    ·exact wk_stop (fun e => hgo ⟨h1, e⟩) _
    ·rw [show n - x.n = 0 by omega]; rfl
   have hc2 : ¬ x.n < n ∨ (x.n < n ∧ (x.h.state == 0) = false) := by
    by_cases h1 : x.n < n
    ·exact .inr ⟨h1, by simpa using fun e => hgo ⟨h1, e⟩⟩
    ·exact .inl h1
   clear hgo HXW
   obtain ⟨cv, hcv, J⟩ := HI.out
   have HOKx : Hid x.h.Ok := HWO.out.ok
   have HLx : Hid ((hL x.h).length = 37) := hL_len HOKx.out
   have HRx : Hid (wr.rangeAt (w.heap.size + 2) 0 (hL x.h)) := fun j v hv => by
    have hj : j < 37 := by have := (List.getElem?_eq_some_iff.1 hv).1; rwa [HLx.out] at this
    rw [Nat.zero_add, J.hcell hj, hcv]; exact hv
   have k37 : wr.cell? ⟨w.heap.size + 2, 37, none⟩ = some cv.m := J.fcell 0
   have k38 : wr.cell? ⟨w.heap.size + 2, 38, none⟩ = some cv.out := J.fcell 1
   have k39 : wr.cell? ⟨w.heap.size + 2, 39, none⟩ = some cv.sto := J.fcell 2
   have HQ : Hid (Dq wr w.heap.size ⟨x.h, cv.m, cv.out, x.n, cv.sto⟩ x) := ⟨rfl, rfl, J.mem, J.out, J.sto⟩
   have HBd : Hid (Tryz.prog.built 84 [(0, .agg (hL x.h).toArray), (1, cv.m), (2, cv.out), (3, .int .i64 x.n), (4, cv.sto)] = some (qA ⟨x.h, cv.m, cv.out, x.n, cv.sto⟩)) := built_did5 HOKx.out _ _ _ _ HQ.out.mem.cells.1 (owns_cells HQ.out.out).1 (owns_cells HQ.out.sto).1
   have HOd : Hid ((qA ⟨x.h, cv.m, cv.out, x.n, cv.sto⟩).all (·.oneCell') = true) := one_qA HQ.out.mem.cells.2 (owns_cells HQ.out.out).2.1 (owns_cells HQ.out.sto).2.1
   have HSd : Hid ((qA ⟨x.h, cv.m, cv.out, x.n, cv.sto⟩).size = 41) := qA_size HOKx.out
   clear J hcv HI
   generalize hQA : qA ⟨x.h, cv.m, cv.out, x.n, cv.sto⟩ = QA at *
   have HQA : Hid (qA ⟨x.h, cv.m, cv.out, x.n, cv.sto⟩ = QA) := hQA
   clear hQA
   rcases hc2 with h1 | ⟨h1, h2⟩
   all_goals
    go_wp2_with (first
     | (refine wpList_load_mid rfl 51 _ rfl (w.heap.size + 2) 0 rfl (hL x.h) _ ?r1 Tryz.underlying51 rfl (by rw [HLx.out]; exact iH) ?_; (case r1 => exact HRx.out))
     | (refine wpList_buildTo rfl 84 _ rfl _ rfl QA (by have := HBd.out; simp [Act.eval, Act.put]; exact this) ?_)
     | (refine wpList_store_row rfl 84 _ _ rfl (w.heap.size + 1) QA rfl rfl 84 Z ?r2 (by rw [HSd.out]; exact iQ) (by rw [HSd.out, HZ.out]) HOd.out ?_; (case r2 => exact HD4.out)))
    refine bodyPost_ret (v := .agg QA) (results_cell_row rfl _ _ _ _ _ (0, 0) _ rfl (setRow_heap _ _ _ _ _ (0, 0) HD4.out) Tryz.underlying84 rfl (by rw [HSd.out]; exact iQ)) rfl ⟨⟨x.h, cv.m, cv.out, x.n, cv.sto⟩, by rw [HQA.out], HOKx.out, ?_, ?_⟩
    ·rw [HE.out]
     refine ⟨rfl, rfl, ?_, ?_, ?_⟩
     ·exact HQ.out.mem.to fun q ob f hq => setRow_other _ _ _ _ (ne_of_types hq HD4.out (by decide))
     ·exact owns_to HQ.out.out fun q ob f hq => setRow_other _ _ _ _ (ne_of_types hq HD4.out (by decide))
     ·exact owns_to HQ.out.sto fun q ob f hq => setRow_other _ _ _ _ (ne_of_types hq HD4.out (by decide))
    ·exact gr_setRow HF.out.below (Nat.le_succ _) _
end Go.Proofs.YtchllaeembmioaaGreatDoor.Mc
namespace Go.Proofs.YtchllaeembmioaaGreatDoor.Mc
open Go.ChangeShapes Go.WideShapes Go.ChangeAt Go.RowKit Mm Hh Hc

variable {ty : Nat} {rs : List Value}
def lsC (ls : List (Nat × Int)) : List Value := ls.flatMap fun q => [.int .i64 q.1, .int .u32 q.2]
theorem lsC_snoc (ls : List (Nat × Int)) (q : Nat × Int) : lsC (ls ++ [q]) = lsC ls ++ [.int .i64 q.1, .int .u32 q.2] := by simp [lsC]
theorem lsC_get : ∀ (ls : List (Nat × Int)) (i : Nat) (q : Nat × Int), ls[i]? = some q → (lsC ls)[i * 2]? = some (.int .i64 q.1) ∧ (lsC ls)[i * 2 + 1]? = some (.int .u32 q.2)
 | [], i, q, h => by simp at h
 | p :: r, 0, q, h => by simp at h; subst h; exact ⟨rfl, rfl⟩
 | p :: r, i + 1, q, h => by
  have ih := lsC_get r i q (by simpa using h)
  have e : lsC (p :: r) = [.int .i64 p.1, .int .u32 p.2] ++ lsC r := rfl
  rw [e, List.getElem?_append_right (by simp; omega), List.getElem?_append_right (by simp; omega)]
  simp only [List.length_cons, List.length_nil]
  rw [show (i + 1) * 2 - (0 + 1 + 1) = i * 2 by omega, show (i + 1) * 2 + 1 - (0 + 1 + 1) = i * 2 + 1 by omega]
  exact ih
theorem two_lost (a b : Int) : ∀ u ∈ [Value.int .i64 a, Value.int .u32 b], u.oneCell' = true := by
 intro u hu
 simp only [List.mem_cons, List.not_mem_nil, or_false] at hu
 rcases hu with rfl | rfl <;> rfl
theorem infoL : (Tryz.prog.info? 113).map (fun i => (i.zero, i.size, i.bytes)) = some (some (.agg #[.int .i64 0, .int .u32 0]), 2, 16) := by kernel_rfl
theorem Lost_any {w : World} {base g gh hc : Nat} {M O : Value} {s : Sh} (B : Bw ty rs w base g M gh hc O s) (hc4 : s.hs.length ≤ 4) (k : Nat) (p : Int × Int) (p0 : 0 ≤ p.1) (p1 : 0 < p.2) (p2 : p.1 + p.2 ≤ 4096) :
  Calls Tryz.prog 49 #[.pointer (some ⟨g, 0, none⟩), .int .i64 k, .agg #[.int .u32 p.1, .int .u32 (Wd.lo (p.1 + p.2))]] w fun e w' => ∃ v, e = .returned v ∧ w'.ownsRow w.heap.size 113 2 v (lostU k p s.hs s.hs.length).length (lsC (lostU k p s.hs s.hs.length)) ∧ Gr w w' := by
 have HR : Hid (HRow w gh s.hs) := B.row
 have hgl : g < w.heap.size := B.lt
 have hghl : gh < w.heap.size := by obtain ⟨_, e⟩ := B.row.row; exact (Array.getElem?_eq_some_iff.1 e).1
 have k1 : w.cell? ⟨g, 1, none⟩ = some (.slice (some ⟨gh, 0, none⟩) s.hs.length hc) := B.c1
 clear B
 have hlo : Wd.lo (p.1 + p.2) = p.1 + p.2 := by unfold Wd.lo; omega
 have HMe : Hid (∀ h : Hv, h.Ok → ∀ W : World, Calls Tryz.prog 65 #[.int .u32 h.heldAt, .agg #[.int .u32 p.1, .int .u32 (p.1 + p.2)]] W fun e w' => e = .returned (.bool (near h.heldAt p.1 p.2)) ∧ Gr W w') := fun h o W => by
  rw [meets_near o.at0 o.at1 p0 p1 p2 (Int.le_refl _)]
  exact meets_any o.at0 o.at1 p0 (by omega) W
 rw [hlo]
 obtain ⟨f, q⟩ := p
 simp only at *
 generalize hcc : s.hs.length = c at *
 have HC : Hid (s.hs.length = c) := hcc
 generalize s.hs = hs at *
 obtain ⟨i0, hi, hz0, hz1, hz2⟩ := info_parts infoL
 clear hlo hcc
 generalize hT : f + q = t at *
 clear hT
 go_enter Tryz.func49, Tryz.ntmps49
 go_wp2
 go_loopw [17, 7] (fun i v wr => ∃ (j : Nat) (L : Value), j ≤ c ∧ i = .int .i64 j ∧ L = v ∧ wr.ownsRow (w.heap.size + 1) 113 2 L (lostU k (f, q) hs j).length (lsC (lostU k (f, q) hs j)) ∧ Gr (w.alloc (.cells #[.int .u32 f, .int .u32 t] 109)) wr) (fun i _ _ => c - (intOf i).toNat)
 case atStart => exact ⟨0, _, Nat.zero_le _, rfl, rfl, World.ownsRow_nil _ _ _ _, Gr.refl _⟩
 case round =>
  obtain ⟨j, L, hj, rfl, rfl, hown, G⟩ := hrel
  have HO : Hid (wr.ownsRow (w.heap.size + 1) 113 2 L (lostU k (f, q) hs j).length (lsC (lostU k (f, q) hs j))) := hown
  have HG : Hid (Gr (w.alloc (.cells #[.int .u32 f, .int .u32 t] 109)) wr) := G
  clear hown G
  by_cases hlt : j < c
  ·obtain ⟨h, hh⟩ : ∃ h, hs[j]? = some h := ⟨_, List.getElem?_eq_getElem (by rw [HC.out]; exact hlt)⟩
   have hgd : hs.getD j hN = h := by simp [List.getD, hh]
   have okh := HR.out.ok h (List.mem_of_getElem? hh)
   have hgw : Gr w wr := ((Gr.refl _).alloc _).trans HG.out
   have RG : Hid (wr.rangeAt gh (j * 37) (hL h)) := (HR.out.of hgw).range hh
   have HLL : Hid ((hL h).length = 37) := hL_len okh
   have HSZ : Hid ((hL h).toArray.size = 37) := by unfold Hid; simp [HLL.out]
   have HONE : Hid ((hL h).toArray.all (·.oneCell') = true) := one_hA h
   have HLU : Hid (lostU k (f, q) hs (j + 1) = lostU k (f, q) hs j ++ (if loses k (f, q) j h = true then [(j, h.heldAt)] else [])) := by unfold Hid; rw [lostU, hgd]
   have hlu := lostU_len k (f, q) hs j
   have HME : Hid (∀ W : World, Calls Tryz.prog 65 #[.int .u32 h.heldAt, .agg #[.int .u32 f, .int .u32 t]] W fun e w' => e = .returned (.bool (near h.heldAt f q)) ∧ Gr W w') := HMe.out h okh
   have HW4 : Hid (∀ Y : Array Value, Gr wr ((wr.alloc (.cells Y 51)).setRow wr.heap.size (hL h).toArray)) := fun Y => gr_setRow ((Gr.refl _).alloc _) (Nat.le_refl _) _
   have HX4 : Hid (∀ Y : Array Value, ((wr.alloc (.cells Y 51)).setRow wr.heap.size (hL h).toArray).heap[wr.heap.size]? = some (.cells (hL h).toArray 51 (0, 0))) := fun Y => setRow_heap _ _ _ _ _ (0, 0) (heap_alloc_new wr _)
   have k33 : ∀ Y : Array Value, ((wr.alloc (.cells Y 51)).setRow wr.heap.size (hL h).toArray).cell? ⟨wr.heap.size, 33, none⟩ = some (.bool h.held) := fun Y => (cell_of_row _ _ _ _ _ _ (HX4.out Y)).trans (by rw [List.getElem?_toArray]; exact hL_fld okh 1)
   have k34 : ∀ Y : Array Value, ((wr.alloc (.cells Y 51)).setRow wr.heap.size (hL h).toArray).cell? ⟨wr.heap.size, 34, none⟩ = some (.int .u32 h.heldAt) := fun Y => (cell_of_row _ _ _ _ _ _ (HX4.out Y)).trans (by rw [List.getElem?_toArray]; exact hL_fld okh 2)
   have HRg : Hid (wr.heap[w.heap.size]? = some (.cells #[.int .u32 f, .int .u32 t] 109 (0, 0))) := Hr.heap_of_gr HG.out (heap_alloc_new w _)
   have r0 : ∀ Y : Array Value, ((wr.alloc (.cells Y 51)).setRow wr.heap.size (hL h).toArray).cell? ⟨w.heap.size, 0, none⟩ = some (.int .u32 f) := fun Y => cell_of_row _ _ _ _ _ _ (Hr.heap_of_gr (HW4.out Y) HRg.out)
   have r1 : ∀ Y : Array Value, ((wr.alloc (.cells Y 51)).setRow wr.heap.size (hL h).toArray).cell? ⟨w.heap.size, 1, none⟩ = some (.int .u32 t) := fun Y => cell_of_row _ _ _ _ _ _ (Hr.heap_of_gr (HW4.out Y) HRg.out)
   have hwr : w.heap.size + 1 ≤ wr.heap.size := by have := HG.out.size; simpa using this
   have HB0 : Hid (0 ≤ h.heldAt) := okh.at0
   clear hh hgd okh hgw HR HMe HRg
   generalize lostU k (f, q) hs j = U at *
   generalize hhd : h.held = bh at *
   generalize hat : h.heldAt = ah at *
   have HLo : Hid (loses k (f, q) j h = (decide (j ≠ k) && (bh && near ah f q))) := by unfold Hid loses; rw [hhd, hat]
   clear hhd hat
   by_cases hjk : j = k
   ·have hne : ((j : Int) != (k : Int)) = false := by simp [hjk]
    have HN : Hid (lostU k (f, q) hs (j + 1) = U) := by unfold Hid; rw [HLU.out, HLo.out, decide_eq_false (by simp [hjk])]; simp
    clear hjk HLU HLo
    go_wp2_with (first
      | (refine wpList_load_mid rfl 51 _ rfl gh (j * 37) rfl (hL h) _ ?r1 Tryz.underlying51 rfl (by rw [HLL.out]; exact iH) ?_; (case r1 => exact RG.out))
      | (refine wpList_store_row rfl 51 _ _ rfl wr.heap.size (hL h).toArray rfl rfl 51 _ (heap_alloc_new wr _) (by rw [HSZ.out]; exact iH) (by rw [HSZ.out]; rfl) HONE.out ?_))
    go_roundw
    case rel => exact ⟨j + 1, L, by omega, by go_num, rfl, by rw [HN.out]; exact owns_gr HO.out (HW4.out _), HG.out.trans (HW4.out _)⟩
    case measure => simp [intOf]; omega
   ·have hne : ((j : Int) != (k : Int)) = true := by simp; omega
    cases bh with
    | false =>
     have HN : Hid (lostU k (f, q) hs (j + 1) = U) := by unfold Hid; rw [HLU.out, HLo.out]; simp
     clear hjk HLU HLo
     go_wp2_with (first
      | (refine wpList_load_mid rfl 51 _ rfl gh (j * 37) rfl (hL h) _ ?r1 Tryz.underlying51 rfl (by rw [HLL.out]; exact iH) ?_; (case r1 => exact RG.out))
      | (refine wpList_store_row rfl 51 _ _ rfl wr.heap.size (hL h).toArray rfl rfl 51 _ (heap_alloc_new wr _) (by rw [HSZ.out]; exact iH) (by rw [HSZ.out]; rfl) HONE.out ?_))
     go_roundw
     case rel => exact ⟨j + 1, L, by omega, by go_num, rfl, by rw [HN.out]; exact owns_gr HO.out (HW4.out _), HG.out.trans (HW4.out _)⟩
     case measure => simp [intOf]; omega
    | true =>
     cases hnr : near ah f q with
     | false =>
      have HM2 : Hid (∀ W : World, Calls Tryz.prog 65 #[.int .u32 ah, .agg #[.int .u32 f, .int .u32 t]] W fun e w' => e = .returned (.bool false) ∧ Gr W w') := fun W => by have := HME.out W; rwa [hnr] at this
      have HN : Hid (lostU k (f, q) hs (j + 1) = U) := by unfold Hid; rw [HLU.out, HLo.out, hnr]; simp
      clear hjk HLU HLo HME hnr
      go_wp2_with (first
      | (refine wpList_load_mid rfl 51 _ rfl gh (j * 37) rfl (hL h) _ ?r1 Tryz.underlying51 rfl (by rw [HLL.out]; exact iH) ?_; (case r1 => exact RG.out))
      | (refine wpList_store_row rfl 51 _ _ rfl wr.heap.size (hL h).toArray rfl rfl 51 _ (heap_alloc_new wr _) (by rw [HSZ.out]; exact iH) (by rw [HSZ.out]; rfl) HONE.out ?_))
      refine (HM2.out _).mono ?_
      rintro e w1 ⟨rfl, G1⟩
      have HG1 : Hid (Gr wr w1) := (HW4.out _).trans G1
      clear G1 HM2 HW4 HX4 k33 k34 r0 r1 RG
      go_wp2_with fail
      go_roundw
      case rel => exact ⟨j + 1, L, by omega, by go_num, rfl, by rw [HN.out]; exact owns_gr HO.out HG1.out, HG.out.trans HG1.out⟩
      case measure => simp [intOf]; omega
     | true =>
      have HM2 : Hid (∀ W : World, Calls Tryz.prog 65 #[.int .u32 ah, .agg #[.int .u32 f, .int .u32 t]] W fun e w' => e = .returned (.bool true) ∧ Gr W w') := fun W => by have := HME.out W; rwa [hnr] at this
      have HN : Hid (lostU k (f, q) hs (j + 1) = U ++ [(j, ah)]) := by unfold Hid; rw [HLU.out, HLo.out, hnr, decide_eq_true (show j ≠ k from hjk)]; simp
      clear hjk HLU HLo HME hnr
      go_wp2_with (first
      | (refine wpList_load_mid rfl 51 _ rfl gh (j * 37) rfl (hL h) _ ?r1 Tryz.underlying51 rfl (by rw [HLL.out]; exact iH) ?_; (case r1 => exact RG.out))
      | (refine wpList_store_row rfl 51 _ _ rfl wr.heap.size (hL h).toArray rfl rfl 51 _ (heap_alloc_new wr _) (by rw [HSZ.out]; exact iH) (by rw [HSZ.out]; rfl) HONE.out ?_))
      refine (HM2.out _).mono ?_
      rintro e w1 ⟨rfl, G1⟩
      have HG1 : Hid (Gr wr w1) := (HW4.out _).trans G1
      have q34 : w1.cell? ⟨wr.heap.size, 34, none⟩ = some (.int .u32 ah) := (G1.cell _ (by simp)).trans (k34 _)
      have hwr1 : wr.heap.size < w1.heap.size := by have := G1.size; simp at this; omega
      clear G1 HM2 HW4 HX4 k33 k34 r0 r1 RG
      go_wp2_with (at_builtin; refine wpList_append_own _ rfl (.tmp 35) (.tmp 40) 110 rfl (w.heap.size + 1) 113 i0 (.agg #[.int .i64 0, .int .u32 0]) 2 16 Tryz.underlying110 hi hz0 hz1 hz2 rfl (by decide) L U.length (lsC U) rfl (owns_gr HO.out (HG1.out.alloc _)) ⟨w1.heap.size, 0, none⟩ 1 1 [.int .i64 j, .int .u32 ah] rfl rfl (two_cells (by simp) (by simp)) (two_lost _ _) (by unfold maxLen; omega) (by omega) (by simp; omega) ?_; intro v' w2 hown hgrow _; have HO2 : Hid (w2.ownsRow (w.heap.size + 1) 113 2 v' (U.length + 1) (lsC U ++ [.int .i64 j, .int .u32 ah])) := hown; have HG2 : Hid (Gr (w.alloc (.cells #[.int .u32 f, .int .u32 t] 109)) w2) := (((HG.out.trans HG1.out).alloc _).grown hgrow (fun b e => by have := (HO.out.lt b e).1; simp; omega)); clear hown hgrow)
      go_roundw
      case rel => exact ⟨j + 1, v', by omega, by go_num, rfl, by rw [HN.out, lsC_snoc, List.length_append]; exact HO2.out, HG2.out⟩
      case measure => simp [intOf]; omega
  ·have ej : j = c := by omega
   go_wp2_with fail
   go_ret
   refine ⟨L, rfl, ?_, ((Gr.refl _).alloc _).trans HG.out⟩
   have := HO.out
   rw [ej] at this
   refine ⟨this.1, ?_⟩
   rcases this.2 with h | ⟨g', cap, cur, hv, hb, r⟩
   ·exact .inl h
   ·exact .inr ⟨g', cap, cur, hv, by omega, r⟩
end Go.Proofs.YtchllaeembmioaaGreatDoor.Mc
