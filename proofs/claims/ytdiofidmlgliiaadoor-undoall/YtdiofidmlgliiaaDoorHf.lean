/-
  What package hart's Fetch answers: the instruction at a place, and 0; else an empty one, and why. Conditions: the place is from 0 to 2^32 - 1; the memory is one that a machine can hold; the tables of package decode hold what their initialisers lay.
-/
import Derived.Test.YtdiofidmlgliiaaDoorBk
import Derived.Test.YtdiofidmlgliiaaDoorMemWalks
namespace Go.Proofs.YtdiofidmlgliiaaDoor.Hf
open Go.ChangeShapes Go.WideShapes Go.ChangeAt Go.RowKit Mm Hh
set_option linter.unusedVariables false
set_option linter.unusedSimpArgs false

theorem five_set {W : World} {g t : Nat} {z0 z1 z2 z3 z4 : Value} (h : W.heap[g]? = some (.cells #[z0, z1, z2, z3, z4] t (0, 0))) (a b c d e : Value) (o : Obj) :
    ((((((W.setCell ⟨g, 0, none⟩ a).setCell ⟨g, 1, none⟩ b).setCell ⟨g, 2, none⟩ c).setCell ⟨g, 3, none⟩ d).setCell ⟨g, 4, none⟩ e).alloc o).heap[g]? = some (.cells #[a, b, c, d, e] t (0, 0)) := by
  have h0 := heap_setCell_same W g 0 _ _ a h
  have h1 := heap_setCell_same _ g 1 _ _ b h0
  have h2 := heap_setCell_same _ g 2 _ _ c h1
  have h3 := heap_setCell_same _ g 3 _ _ d h2
  have h4 := heap_setCell_same _ g 4 _ _ e h3
  exact (((Gr.refl _).alloc o).block _ (gs h4).1).trans h4
theorem ins_one (x0 x1 x2 x3 x4 : Int) : (#[.int .i64 x0, .int .i64 x1, .int .i64 x2, .int .i64 x3, .int .i32 x4] : Array Value).all (·.oneCell') = true := by
  refine all_oneCell_toArray (cs := [.int .i64 x0, .int .i64 x1, .int .i64 x2, .int .i64 x3, .int .i32 x4]) ?_
  intro u hu
  simp only [List.mem_cons, List.not_mem_nil, or_false] at hu
  rcases hu with rfl | rfl | rfl | rfl | rfl <;> rfl
theorem iI : (Tryd.prog.info? 23).map (·.size) = some 5 := by kernel_rfl
theorem results_cell_tmp1 {P : Program} {fn : Func} {p t : Tmp} {ty : TypeId} (h : fn.results = #[.cell p ty, .tmp t]) (tmps : Array Value) (w : World) (g : Nat) (tt : TypeId) (cs : Array Value) (fr : Nat × Nat) (d : TypeDesc)
    (v : Value) (hp : tmps.getD p undef = .pointer (some ⟨g, 0, none⟩)) (hv : tmps.getD t undef = v) (hg : w.heap[g]? = some (.cells cs tt fr))
    (hu : P.underlying ty = some d) (hd : (match d with | .struct _ | .array _ _ => true | _ => false) = true) (hi : (P.info? ty).map (·.size) = some cs.size) :
    (results fn tmps).run P w = .ok (.tuple #[.agg cs, v]) w := by
  subst hv
  have hp' : tmps[p]?.getD undef = .pointer (some ⟨g, 0, none⟩) := by simpa using hp
  simp [results, h, hp', asAddr, run_loadVar_row w g tt ty cs fr d hg hu hd hi]
set_option maxHeartbeats 1000000 in
set_option maxRecDepth 100000 in
theorem Fetch_any {w : World} {ao : Option Addr} {n : Nat} (cap : Nat) {l : List UInt8} (pc : Int) (M : Mem w ao n l) (T : Dw.Tab w) (hn : n ≤ 140737488351232) (h0 : 0 ≤ pc) (h1 : pc < 4294967296) :
    Calls Tryd.prog 103 #[.slice ao n cap, .int .u32 pc] w fun e w' => e = .returned (.tuple #[Dw.decV (ldV l 13 pc), .int .i64 (Bk.ftC l pc)]) ∧ Gr w w' := by
  have L : Hid (∀ W : World, Gr w W → Calls Tryd.prog 120 #[.slice ao n cap, .int .i64 13, .int .u32 pc] W fun e w' => e = .returned (.tuple #[.int .u32 (ldV l 13 pc), .bool (ldOk l 13 pc)]) ∧ w' = W) := fun W G => Mm.Load_any cap 13 pc (M.of G) hn h0 h1
  have wx := W.ldV l 13 pc
  have HT : Hid (∀ W : World, Gr w W → Dw.Tab W) := fun W G => ⟨fun i v e => (G.cell _ (by exact Dw.lt_of_cell (T.shapes i v e))).trans (T.shapes i v e), fun i v e => (G.cell _ (by exact Dw.lt_of_cell (T.uppers i v e))).trans (T.uppers i v e)⟩
  have D : Hid (∀ W : World, Gr w W → Calls Tryd.prog 43 #[.int .u32 (ldV l 13 pc)] W fun e w' => e = .returned (.tuple #[Dw.decV (ldV l 13 pc), .bool (Dw.decOk (ldV l 13 pc))]) ∧ Gr W w') := fun W G => (Dw.Decode_any _ W (HT.out W G) wx.1 wx.2).mono fun e w' h => ⟨h.1, h.2.1⟩
  have E1 : Hid (ldOk l 13 pc = false → ldV l 13 pc = 0) := Bk.ldV_no
  have E2 : Hid (Bk.ftC l pc = if ldOk l 13 pc = true then (if Dc.dop (ldV l 13 pc) = 0 then 2 else 0) else 1) := rfl
  generalize ldV l 13 pc = x at *
  generalize ldOk l 13 pc = B at *
  generalize Bk.ftC l pc = c at *
  clear M T HT wx
  cases B with
  | false =>
    have e1 := E1.out rfl
    have e2 : c = 1 := E2.out
    subst e1 e2
    have e3 := (Dw.dec_none Bk.dop0).1
    rw [e3]
    clear E1 E2 D e3
    unfold Dw.insV
    go_enter Tryd.func103, Tryd.ntmps103
    go_wp2_with fail
    refine (L.out _ ((Gr.refl _).alloc _)).mono ?_
    rintro e w1 ⟨rfl, rfl⟩
    clear L
    go_wp2_with (refine wpList_store_row rfl 23 _ _ rfl w.heap.size #[.int .i64 0, .int .i64 0, .int .i64 0, .int .i64 0, .int .i32 0] rfl rfl 23 _ (heap_alloc_new w _) iI rfl rfl ?_)
    refine bodyPost_ret (v := .tuple #[.agg #[.int .i64 0, .int .i64 0, .int .i64 0, .int .i64 0, .int .i32 0], .int .i64 1]) (results_cell_tmp1 Tryd.results103 _ _ _ _ _ (0, 0) _ _ rfl rfl (heap_alloc_new w _) Tryd.underlying23 rfl iI) rfl ⟨rfl, ?_⟩
    exact (Gr.refl _).alloc _
  | true =>
    by_cases hd : Dc.dop x = 0
    · have e2 : c = 2 := by rw [E2.out, if_pos rfl, if_pos hd]
      obtain ⟨d1, d2⟩ := Dw.dec_none hd
      rw [d1, d2] at D
      rw [d1]
      unfold Dw.insV at D ⊢
      subst e2
      clear E1 E2 d1 d2 hd
      go_enter Tryd.func103, Tryd.ntmps103
      go_wp2_with fail
      refine (L.out _ ((Gr.refl _).alloc _)).mono ?_
      rintro e w1 ⟨rfl, rfl⟩
      clear L
      go_wp2_with fail
      refine (D.out _ ((Gr.refl _).alloc _)).mono ?_
      rintro e w1 ⟨rfl, G1⟩
      have HB : Hid (w1.heap[w.heap.size]? = some (.cells #[.int .i64 0, .int .i64 0, .int .i64 0, .int .i64 0, .int .i32 0] 23 (0, 0))) := (G1.block _ (by simp)).trans (heap_alloc_new w _)
      have HG1 : Hid (Gr w w1) := ((Gr.refl _).alloc _).trans G1
      have hlt : w.heap.size < w1.heap.size := (Array.getElem?_eq_some_iff.1 HB.out).1
      have r0 : w1.cell? ⟨w.heap.size, 0, none⟩ = some (.int .i64 0) := cell_of_row _ _ _ _ _ _ HB.out
      have r1 : w1.cell? ⟨w.heap.size, 1, none⟩ = some (.int .i64 0) := cell_of_row _ _ _ _ _ _ HB.out
      have r2 : w1.cell? ⟨w.heap.size, 2, none⟩ = some (.int .i64 0) := cell_of_row _ _ _ _ _ _ HB.out
      have r3 : w1.cell? ⟨w.heap.size, 3, none⟩ = some (.int .i64 0) := cell_of_row _ _ _ _ _ _ HB.out
      have r4 : w1.cell? ⟨w.heap.size, 4, none⟩ = some (.int .i32 0) := cell_of_row _ _ _ _ _ _ HB.out
      have f3 : ∀ j, w1.frozen? ⟨w.heap.size, j, none⟩ = false := fun j => frozen_of_row _ _ _ _ _ HB.out
      clear G1 D
      go_wp2_with fail
      refine bodyPost_ret (v := .tuple #[.agg #[.int .i64 0, .int .i64 0, .int .i64 0, .int .i64 0, .int .i32 0], .int .i64 2]) (results_cell_tmp1 Tryd.results103 _ _ _ _ _ (0, 0) _ _ rfl rfl (five_set HB.out _ _ _ _ _ _) Tryd.underlying23 rfl iI) rfl ⟨rfl, ?_⟩
      exact (((((HG1.out.setCell (by simp) _).setCell (by simp) _).setCell (by simp) _).setCell (by simp) _).setCell (by simp) _).alloc _
    · have e2 : c = 0 := by rw [E2.out, if_pos rfl, if_neg hd]
      have d2 : Dw.decOk x = true := by unfold Dw.decOk; simp [hd]
      rw [d2] at D
      unfold Dw.decV Dw.insV at D ⊢
      subst e2
      clear E1 E2 d2 hd
      generalize Dc.rdF (Dc.frm (Dc.dop x)) x = x1 at *
      generalize Dc.rs1F (Dc.frm (Dc.dop x)) x = x2 at *
      generalize Dc.rs2F (Dc.frm (Dc.dop x)) x = x3 at *
      generalize Dc.immF (Dc.frm (Dc.dop x)) x = x4 at *
      generalize Dc.dop x = x0 at *
      go_enter Tryd.func103, Tryd.ntmps103
      go_wp2_with fail
      refine (L.out _ ((Gr.refl _).alloc _)).mono ?_
      rintro e w1 ⟨rfl, rfl⟩
      clear L
      go_wp2_with fail
      refine (D.out _ ((Gr.refl _).alloc _)).mono ?_
      rintro e w1 ⟨rfl, G1⟩
      have HB : Hid (w1.heap[w.heap.size]? = some (.cells #[.int .i64 0, .int .i64 0, .int .i64 0, .int .i64 0, .int .i32 0] 23 (0, 0))) := (G1.block _ (by simp)).trans (heap_alloc_new w _)
      have HG1 : Hid (Gr w w1) := ((Gr.refl _).alloc _).trans G1
      have hlt : w.heap.size < w1.heap.size := (Array.getElem?_eq_some_iff.1 HB.out).1
      have r0 : w1.cell? ⟨w.heap.size, 0, none⟩ = some (.int .i64 0) := cell_of_row _ _ _ _ _ _ HB.out
      have r1 : w1.cell? ⟨w.heap.size, 1, none⟩ = some (.int .i64 0) := cell_of_row _ _ _ _ _ _ HB.out
      have r2 : w1.cell? ⟨w.heap.size, 2, none⟩ = some (.int .i64 0) := cell_of_row _ _ _ _ _ _ HB.out
      have r3 : w1.cell? ⟨w.heap.size, 3, none⟩ = some (.int .i64 0) := cell_of_row _ _ _ _ _ _ HB.out
      have r4 : w1.cell? ⟨w.heap.size, 4, none⟩ = some (.int .i32 0) := cell_of_row _ _ _ _ _ _ HB.out
      have f3 : ∀ j, w1.frozen? ⟨w.heap.size, j, none⟩ = false := fun j => frozen_of_row _ _ _ _ _ HB.out
      clear G1 D
      go_wp2_with fail
      refine bodyPost_ret (v := .tuple #[.agg #[.int .i64 x0, .int .i64 x1, .int .i64 x2, .int .i64 x3, .int .i32 x4], .int .i64 0]) (results_cell_tmp1 Tryd.results103 _ _ _ _ _ (0, 0) _ _ rfl rfl (five_set HB.out _ _ _ _ _ _) Tryd.underlying23 rfl iI) rfl ⟨rfl, ?_⟩
      exact (((((HG1.out.setCell (by simp) _).setCell (by simp) _).setCell (by simp) _).setCell (by simp) _).setCell (by simp) _).alloc _
end Go.Proofs.YtdiofidmlgliiaaDoor.Hf
