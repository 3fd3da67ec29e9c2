/-
  Hf, Hm6, Hao, Ha, Mb4, Mb5, Mb6: texts of ours that lie in one file.
-/
import Derived.Test.YtdiofidmlgliiaaDoorL03
import Derived.Test.YtdiofidmlgliiaaDoorMemWalks
import Derived.Test.YtdiofidmlgliiaaDoorL02
import Derived.Deep.RegionHeld3
import Derived.Test.YtdiofidmlgliiaaDoorMemArgs
import Derived.Test.YtdiofidmlgliiaaDoorTabs
/-
  What package hart's Fetch answers: the instruction at a place, and 0; else an empty one, and why. Conditions: the place is from 0 to 2^32 - 1; the memory is one that a machine can hold; the tables of package decode hold what their initialisers lay.
-/
namespace Go.Proofs.YtdiofidmlgliiaaDoor.Hf
open Go.ChangeShapes Go.WideShapes Go.ChangeAt Go.RowKit Mm Hh
set_option linter.unusedVariables false
set_option linter.unusedSimpArgs false

theorem five_set {W : World} {g t : Nat} {z0 z1 z2 z3 z4 : Value} (h : W.heap[g]? = some (.cells #[z0, z1, z2, z3, z4] t (0, 0))) (a b c d e : Value) (o : Obj) :
    ((((((W.setCell ⟨g, 0, none⟩ a).setCell ⟨g, 1, none⟩ b).setCell ⟨g, 2, none⟩ c).setCell ⟨g, 3, none⟩ d).setCell ⟨g, 4, none⟩ e).alloc o).heap[g]? = some (.cells #[a, b, c, d, e] t (0, 0)) := by
  have h0 := heap_setCell_same W g 0 _ _ a h
  have h1 := heap_setCell_same _ g 1 _ _ b h0
  have h2 := heap_setCell_same _ g 2 _ _ c h1
  have h3 := heap_setCell_same _ g 3 _ _ d h2
  have h4 := heap_setCell_same _ g 4 _ _ e h3
  exact (((Gr.refl _).alloc o).block _ (gs h4).1).trans h4
theorem ins_one (x0 x1 x2 x3 x4 : Int) : (#[.int .i64 x0, .int .i64 x1, .int .i64 x2, .int .i64 x3, .int .i32 x4] : Array Value).all (·.oneCell') = true := by
  refine all_oneCell_toArray (cs := [.int .i64 x0, .int .i64 x1, .int .i64 x2, .int .i64 x3, .int .i32 x4]) ?_
  intro u hu
  simp only [List.mem_cons, List.not_mem_nil, or_false] at hu
  rcases hu with rfl | rfl | rfl | rfl | rfl <;> rfl
theorem iI : (Tryd.prog.info? 23).map (·.size) = some 5 := by kernel_rfl
theorem results_cell_tmp1 {P : Program} {fn : Func} {p t : Tmp} {ty : TypeId} (h : fn.results = #[.cell p ty, .tmp t]) (tmps : Array Value) (w : World) (g : Nat) (tt : TypeId) (cs : Array Value) (fr : Nat × Nat) (d : TypeDesc)
    (v : Value) (hp : tmps.getD p undef = .pointer (some ⟨g, 0, none⟩)) (hv : tmps.getD t undef = v) (hg : w.heap[g]? = some (.cells cs tt fr))
    (hu : P.underlying ty = some d) (hd : (match d with | .struct _ | .array _ _ => true | _ => false) = true) (hi : (P.info? ty).map (·.size) = some cs.size) :
    (results fn tmps).run P w = .ok (.tuple #[.agg cs, v]) w := by
  subst hv
  have hp' : tmps[p]?.getD undef = .pointer (some ⟨g, 0, none⟩) := by simpa using hp
  simp [results, h, hp', asAddr, run_loadVar_row w g tt ty cs fr d hg hu hd hi]
set_option maxHeartbeats 1000000 in
set_option maxRecDepth 100000 in
theorem Fetch_any {w : World} {ao : Option Addr} {n : Nat} (cap : Nat) {l : List UInt8} (pc : Int) (M : Mem w ao n l) (T : Dw.Tab w) (hn : n ≤ 140737488351232) (h0 : 0 ≤ pc) (h1 : pc < 4294967296) :
    Calls Tryd.prog 103 #[.slice ao n cap, .int .u32 pc] w fun e w' => e = .returned (.tuple #[Dw.decV (ldV l 13 pc), .int .i64 (Bk.ftC l pc)]) ∧ Gr w w' := by
  have L : Hid (∀ W : World, Gr w W → Calls Tryd.prog 120 #[.slice ao n cap, .int .i64 13, .int .u32 pc] W fun e w' => e = .returned (.tuple #[.int .u32 (ldV l 13 pc), .bool (ldOk l 13 pc)]) ∧ w' = W) := fun W G => Mm.Load_any cap 13 pc (M.of G) hn h0 h1
  have wx := W.ldV l 13 pc
  have HT : Hid (∀ W : World, Gr w W → Dw.Tab W) := fun W G => ⟨fun i v e => (G.cell _ (by exact Dw.lt_of_cell (T.shapes i v e))).trans (T.shapes i v e), fun i v e => (G.cell _ (by exact Dw.lt_of_cell (T.uppers i v e))).trans (T.uppers i v e)⟩
  have D : Hid (∀ W : World, Gr w W → Calls Tryd.prog 43 #[.int .u32 (ldV l 13 pc)] W fun e w' => e = .returned (.tuple #[Dw.decV (ldV l 13 pc), .bool (Dw.decOk (ldV l 13 pc))]) ∧ Gr W w') := fun W G => (Dw.Decode_any _ W (HT.out W G) wx.1 wx.2).mono fun e w' h => ⟨h.1, h.2.1⟩
  have E1 : Hid (ldOk l 13 pc = false → ldV l 13 pc = 0) := Bk.ldV_no
  have E2 : Hid (Bk.ftC l pc = if ldOk l 13 pc = true then (if Dc.dop (ldV l 13 pc) = 0 then 2 else 0) else 1) := rfl
  generalize ldV l 13 pc = x at *
  generalize ldOk l 13 pc = B at *
  generalize Bk.ftC l pc = c at *
  clear M T HT wx
  cases B with
  | false =>
    have e1 := E1.out rfl
    have e2 : c = 1 := E2.out
    subst e1 e2
    have e3 := (Dw.dec_none Bk.dop0).1
    rw [e3]
    clear E1 E2 D e3
    unfold Dw.insV
    go_enter Tryd.func103, Tryd.ntmps103
    go_wp2_with fail
    refine (L.out _ ((Gr.refl _).alloc _)).mono ?_
    rintro e w1 ⟨rfl, rfl⟩
    clear L
    go_wp2_with (refine wpList_store_row rfl 23 _ _ rfl w.heap.size #[.int .i64 0, .int .i64 0, .int .i64 0, .int .i64 0, .int .i32 0] rfl rfl 23 _ (heap_alloc_new w _) iI rfl rfl ?_)
    refine bodyPost_ret (v := .tuple #[.agg #[.int .i64 0, .int .i64 0, .int .i64 0, .int .i64 0, .int .i32 0], .int .i64 1]) (results_cell_tmp1 Tryd.results103 _ _ _ _ _ (0, 0) _ _ rfl rfl (heap_alloc_new w _) Tryd.underlying23 rfl iI) rfl ⟨rfl, ?_⟩
    exact (Gr.refl _).alloc _
  | true =>
    by_cases hd : Dc.dop x = 0
    · have e2 : c = 2 := by rw [E2.out, if_pos rfl, if_pos hd]
      obtain ⟨d1, d2⟩ := Dw.dec_none hd
      rw [d1, d2] at D
      rw [d1]
      unfold Dw.insV at D ⊢
      subst e2
      clear E1 E2 d1 d2 hd
      go_enter Tryd.func103, Tryd.ntmps103
      go_wp2_with fail
      refine (L.out _ ((Gr.refl _).alloc _)).mono ?_
      rintro e w1 ⟨rfl, rfl⟩
      clear L
      go_wp2_with fail
      refine (D.out _ ((Gr.refl _).alloc _)).mono ?_
      rintro e w1 ⟨rfl, G1⟩
      have HB : Hid (w1.heap[w.heap.size]? = some (.cells #[.int .i64 0, .int .i64 0, .int .i64 0, .int .i64 0, .int .i32 0] 23 (0, 0))) := (G1.block _ (by simp)).trans (heap_alloc_new w _)
      have HG1 : Hid (Gr w w1) := ((Gr.refl _).alloc _).trans G1
      have hlt : w.heap.size < w1.heap.size := (Array.getElem?_eq_some_iff.1 HB.out).1
      have r0 : w1.cell? ⟨w.heap.size, 0, none⟩ = some (.int .i64 0) := cell_of_row _ _ _ _ _ _ HB.out
      have r1 : w1.cell? ⟨w.heap.size, 1, none⟩ = some (.int .i64 0) := cell_of_row _ _ _ _ _ _ HB.out
      have r2 : w1.cell? ⟨w.heap.size, 2, none⟩ = some (.int .i64 0) := cell_of_row _ _ _ _ _ _ HB.out
      have r3 : w1.cell? ⟨w.heap.size, 3, none⟩ = some (.int .i64 0) := cell_of_row _ _ _ _ _ _ HB.out
      have r4 : w1.cell? ⟨w.heap.size, 4, none⟩ = some (.int .i32 0) := cell_of_row _ _ _ _ _ _ HB.out
      have f3 : ∀ j, w1.frozen? ⟨w.heap.size, j, none⟩ = false := fun j => frozen_of_row _ _ _ _ _ HB.out
      clear G1 D
      go_wp2_with fail
      refine bodyPost_ret (v := .tuple #[.agg #[.int .i64 0, .int .i64 0, .int .i64 0, .int .i64 0, .int .i32 0], .int .i64 2]) (results_cell_tmp1 Tryd.results103 _ _ _ _ _ (0, 0) _ _ rfl rfl (five_set HB.out _ _ _ _ _ _) Tryd.underlying23 rfl iI) rfl ⟨rfl, ?_⟩
      exact (((((HG1.out.setCell (by simp) _).setCell (by simp) _).setCell (by simp) _).setCell (by simp) _).setCell (by simp) _).alloc _
    · have e2 : c = 0 := by rw [E2.out, if_pos rfl, if_neg hd]
      have d2 : Dw.decOk x = true := by unfold Dw.decOk; simp [hd]
      rw [d2] at D
      unfold Dw.decV Dw.insV at D ⊢
      subst e2
      clear E1 E2 d2 hd
      generalize Dc.rdF (Dc.frm (Dc.dop x)) x = x1 at *
      generalize Dc.rs1F (Dc.frm (Dc.dop x)) x = x2 at *
      generalize Dc.rs2F (Dc.frm (Dc.dop x)) x = x3 at *
      generalize Dc.immF (Dc.frm (Dc.dop x)) x = x4 at *
      generalize Dc.dop x = x0 at *
      go_enter Tryd.func103, Tryd.ntmps103
      go_wp2_with fail
      refine (L.out _ ((Gr.refl _).alloc _)).mono ?_
      rintro e w1 ⟨rfl, rfl⟩
      clear L
      go_wp2_with fail
      refine (D.out _ ((Gr.refl _).alloc _)).mono ?_
      rintro e w1 ⟨rfl, G1⟩
      have HB : Hid (w1.heap[w.heap.size]? = some (.cells #[.int .i64 0, .int .i64 0, .int .i64 0, .int .i64 0, .int .i32 0] 23 (0, 0))) := (G1.block _ (by simp)).trans (heap_alloc_new w _)
      have HG1 : Hid (Gr w w1) := ((Gr.refl _).alloc _).trans G1
      have hlt : w.heap.size < w1.heap.size := (Array.getElem?_eq_some_iff.1 HB.out).1
      have r0 : w1.cell? ⟨w.heap.size, 0, none⟩ = some (.int .i64 0) := cell_of_row _ _ _ _ _ _ HB.out
      have r1 : w1.cell? ⟨w.heap.size, 1, none⟩ = some (.int .i64 0) := cell_of_row _ _ _ _ _ _ HB.out
      have r2 : w1.cell? ⟨w.heap.size, 2, none⟩ = some (.int .i64 0) := cell_of_row _ _ _ _ _ _ HB.out
      have r3 : w1.cell? ⟨w.heap.size, 3, none⟩ = some (.int .i64 0) := cell_of_row _ _ _ _ _ _ HB.out
      have r4 : w1.cell? ⟨w.heap.size, 4, none⟩ = some (.int .i32 0) := cell_of_row _ _ _ _ _ _ HB.out
      have f3 : ∀ j, w1.frozen? ⟨w.heap.size, j, none⟩ = false := fun j => frozen_of_row _ _ _ _ _ HB.out
      clear G1 D
      go_wp2_with fail
      refine bodyPost_ret (v := .tuple #[.agg #[.int .i64 x0, .int .i64 x1, .int .i64 x2, .int .i64 x3, .int .i32 x4], .int .i64 0]) (results_cell_tmp1 Tryd.results103 _ _ _ _ _ (0, 0) _ _ rfl rfl (five_set HB.out _ _ _ _ _ _) Tryd.underlying23 rfl iI) rfl ⟨rfl, ?_⟩
      exact (((((HG1.out.setCell (by simp) _).setCell (by simp) _).setCell (by simp) _).setCell (by simp) _).setCell (by simp) _).alloc _
end Go.Proofs.YtdiofidmlgliiaaDoor.Hf
/-
  What the method Step of package hart's core does: one step ('stp'), of every hart and memory.
-/
namespace Go.Proofs.YtdiofidmlgliiaaDoor.Hc
open Go.ChangeShapes Go.WideShapes Go.ChangeAt Go.RowKit Mm Hh
set_option linter.unusedVariables false
set_option linter.unusedSimpArgs false

variable {w w' : World} {base g : Nat} {h : Hv} {l : List UInt8} {os : List Int} {ss : List (Int × Int)}
/-- All tables that a step reads hold what their initialisers lay. -/
structure TT (w : World) (base : Nat) : Prop where
  tab : Dw.Tab w
  tb : Tb w base
  b1 : 2 < base
  b2 : 4 < base
theorem TT.of (T : TT w base) (h : Fr base w w') : TT w' base :=
  ⟨⟨fun i n e => (Below.cell h.below (by exact T.b1)).trans (T.tab.shapes i n e), fun i n e => (Below.cell h.below (by exact T.b2)).trans (T.tab.uppers i n e)⟩, T.tb.of h, T.b1, T.b2⟩
theorem rd_bd (f x : Int) : 0 ≤ Dc.rdF f x ∧ Dc.rdF f x < 32 := by unfold Dc.rdF; split <;> omega
theorem r1_bd (f x : Int) : 0 ≤ Dc.rs1F f x ∧ Dc.rs1F f x < 32 := by unfold Dc.rs1F; split <;> omega
theorem r2_bd (f x : Int) : 0 ≤ Dc.rs2F f x ∧ Dc.rs2F f x < 32 := by unfold Dc.rs2F; split <;> omega
theorem imm_bd {v : Int} (f : Int) (h0 : 0 ≤ v) (h1 : v < 4294967296) : -2147483648 ≤ Dc.immF f v ∧ Dc.immF f v < 2147483648 := by
  unfold Dc.immF Wd.sg Dc.sgn
  repeat' split
  all_goals omega
theorem ret_eq {v v' : Value} (h : v = v') : Ending.returned v = .returned v' := by rw [h]

theorem held_store_row {P : Program} {md : Region.Mode} {ops : Array Oper} {Q : Exit → Act → World → Prop} {S : World → Prop} {fuel i : Nat} {listed : Array Bool} {o : Oper} {a : Act} (hr : Region.ready md ops listed = [i]) (hoi : ops[i]? = some o) (hg : o.guard = none) (ty : TypeId) (x y : Operand) (ho : o.op = .store ty x y)
    (g : Nat) (cells : Array Value) (hx : a.eval x = .pointer (some ⟨g, 0, none⟩)) (hy : a.eval y = .agg cells) (t : TypeId) (old : Array Value) (hb : w.heap[g]? = some (.cells old t (0, 0))) (hi : (P.info? ty).map (·.size) = some cells.size) (hold : old.size = cells.size) (h1 : cells.all (·.oneCell') = true)
    (hS : S (w.setRow g cells)) (h : wpAnyH P md ops Q S fuel (listed.setIfInBounds i true) (a.put o.dst undef) (w.setRow g cells)) : wpAnyH P md ops Q S (fuel + 1) listed a w :=
  wpAnyH_ready hr (by simp) (AllReadyH.cons hoi (fun K hK => step_store hg ty x y ho g cells hx hy t old hb hi hold h1 (hK.out _ _ hS fun _ => h)) AllReadyH.nil)
theorem at_world {p : World → Prop} {x : World} (F : World → Prop) (hF : F x) (h : ∀ y, F y → p y) : p x := h x hF
theorem heap_gr (g : Gr w w') {k : Nat} {x : Obj} (h : w.heap[k]? = some x) : w'.heap[k]? = some x := by
  rw [Below.block g k (gs h).1]; exact h
/-- A step, by what stands at the hart's PC. -/
theorem stp_no (hc : ¬ Bk.ftC l h.pc = 0) : stp h l = ⟨h.trap (Bk.ftC l h.pc), l, [], []⟩ := by
  unfold stp Bk.ftC at *
  by_cases ok : ldOk l 13 h.pc = true
  · rw [if_pos ok] at hc ⊢
    rw [if_pos ok]
    by_cases hd : Dc.dop (ldV l 13 h.pc) = 0
    · rw [if_pos hd]; unfold insW; rw [if_pos hd]
    · rw [if_neg hd] at hc; exact absurd rfl hc
  · rw [if_neg ok, if_neg ok]
theorem stp_yes (hc : Bk.ftC l h.pc = 0) : stp h l = ins h l (Dc.dop (ldV l 13 h.pc)) (Dc.rdF (Dc.frm (Dc.dop (ldV l 13 h.pc))) (ldV l 13 h.pc)) (Dc.rs1F (Dc.frm (Dc.dop (ldV l 13 h.pc))) (ldV l 13 h.pc)) (Dc.rs2F (Dc.frm (Dc.dop (ldV l 13 h.pc))) (ldV l 13 h.pc)) (Dc.immF (Dc.frm (Dc.dop (ldV l 13 h.pc))) (ldV l 13 h.pc)) := by
  unfold stp
  unfold Bk.ftC at hc
  by_cases ok : ldOk l 13 h.pc = true
  · rw [if_pos ok] at hc ⊢
    by_cases hd : Dc.dop (ldV l 13 h.pc) = 0
    · rw [if_pos hd] at hc; omega
    · unfold insW; rw [if_neg hd]
  · rw [if_neg ok] at hc; omega
set_option maxHeartbeats 2000000 in
set_option maxRecDepth 100000 in
theorem Step_gen {w : World} {base g : Nat} {h : Hv} {l : List UInt8} {os : List Int} {ss : List (Int × Int)} (I : In w base g h l os ss) (T : TT w base) (hl : l.length ≤ 140737488351232)
    (DO : Bk.ftC l h.pc = 0 → ∀ W, In W base g h l os ss → Tb W base → Calls Tryd.prog 105 #[.pointer (some ⟨g, 0, none⟩), Dw.decV (ldV l 13 h.pc)] W fun e w' => e = .returned (.tuple #[]) ∧ In w' base g (stp h l).h (stp h l).m (os ++ (stp h l).out) (ss ++ (stp h l).sto) ∧ Fr base W w') :
    Calls Tryd.prog 74 #[.pointer (some ⟨g, 0, none⟩)] w fun e w' => e = .returned (.tuple #[]) ∧ In w' base g (stp h l).h (stp h l).m (os ++ (stp h l).out) (ss ++ (stp h l).sto) ∧ Fr base w w' := by
  have Tr : Hid (∀ W, In W base g h l os ss → ∀ c, Calls Tryd.prog 104 #[.pointer (some ⟨g, 0, none⟩), .int .i64 c] W fun e w' => e = .returned (.tuple #[]) ∧ In w' base g (h.trap c) l os ss ∧ Ch g W w') := fun W I c => trap_any I c
  have HD : Hid _ := DO
  clear DO
  have HI : Hid (In w base g h l os ss) := I
  have HT : Hid (TT w base) := T
  obtain ⟨c0, rfl, J⟩ := I
  obtain ⟨ao, cap, hm, M⟩ := J.mem.mem
  have k37 : w.cell? ⟨g, 37, none⟩ = some (.slice ao l.length cap) := (J.fcell 0).trans (by rw [hm]; rfl)
  have k32 : w.cell? ⟨g, 32, none⟩ = some (.int .u32 c0.h.pc) := (J.hcell (by omega)).trans (hL_fld J.ok 0)
  have hbl : base ≤ w.heap.size := J.base_le
  have hgl : g < w.heap.size := J.lt
  have F : Hid (∀ W : World, Gr w W → Calls Tryd.prog 103 #[.slice ao l.length cap, .int .u32 c0.h.pc] W fun e w' => e = .returned (.tuple #[Dw.decV (ldV l 13 c0.h.pc), .int .i64 (Bk.ftC l c0.h.pc)]) ∧ Gr W w') := fun W G => Hf.Fetch_any cap c0.h.pc (M.of G) (T.of (Fr.ofGr G hbl)).tab hl J.ok.pc0 J.ok.pc1
  have HS13 : Hid (∀ W : World, Gr w W → W.cell? ⟨g, 37, none⟩ = some (.slice ao l.length cap) ∧ W.cell? ⟨g, 32, none⟩ = some (.int .u32 c0.h.pc)) := fun W G => ⟨(G.cell _ (by exact hgl)).trans k37, (G.cell _ (by exact hgl)).trans k32⟩
  have HN : Hid (¬ Bk.ftC l c0.h.pc = 0 → stp c0.h l = ⟨c0.h.trap (Bk.ftC l c0.h.pc), l, [], []⟩) := stp_no
  unfold Dw.decV Dw.insV at F HD
  generalize ldV l 13 c0.h.pc = x at *
  generalize stp c0.h l = Z at *
  clear J M hm T
  generalize Dc.rdF (Dc.frm (Dc.dop x)) x = x1 at *
  generalize Dc.rs1F (Dc.frm (Dc.dop x)) x = x2 at *
  generalize Dc.rs2F (Dc.frm (Dc.dop x)) x = x3 at *
  generalize Dc.immF (Dc.frm (Dc.dop x)) x = x4 at *
  generalize Dc.dop x = x0 at *
  generalize Bk.ftC l c0.h.pc = c at *
  generalize c0.h.pc = pc at *
  generalize c0.h = h at *
  go_enter Tryd.func74, Tryd.ntmps74
  go_wp2_with fail
  refine wp_region_held_drew (S := fun W => W.cell? ⟨g, 37, none⟩ = some (.slice ao l.length cap) ∧ W.cell? ⟨g, 32, none⟩ = some (.int .u32 pc)) (by kernel_rfl) ?_ (fun hHeld => ?_)
  · exact HS13.out _ (Gr.refl _).drew
  have HS0 : Hid _ := hHeld
  clear hHeld
  refine wpAnyH_take (i := 0) (v := .pointer (some ⟨g, 0, none⟩)) rfl (by kernel_rfl) (by kernel_rfl) (by kernel_rfl) (fun _ _ _ h => h) (Or.inl ⟨by rfl, fun W hW => by obtain ⟨y0, y1⟩ := hW; go_simp⟩) HS0.out ?_
  simp only [List.getElem_toArray, List.getElem_cons_succ, List.getElem_cons_zero, Act.put, List.setIfInBounds_toArray, List.set_cons_zero, List.set_cons_succ]
  refine wpAnyH_take (i := 1) (v := .pointer (some ⟨g, 0, none⟩)) rfl (by kernel_rfl) (by kernel_rfl) (by kernel_rfl) (fun _ _ _ h => h) (Or.inl ⟨by rfl, fun W hW => by obtain ⟨y0, y1⟩ := hW; go_simp⟩) HS0.out ?_
  simp only [List.getElem_toArray, List.getElem_cons_succ, List.getElem_cons_zero, Act.put, List.setIfInBounds_toArray, List.set_cons_zero, List.set_cons_succ]
  refine wpAnyH_take (i := 2) (v := .pointer (some ⟨g, 37, none⟩)) rfl (by kernel_rfl) (by kernel_rfl) (by kernel_rfl) (fun _ _ _ h => h) (Or.inl ⟨by rfl, fun W hW => by obtain ⟨y0, y1⟩ := hW; go_simp⟩) HS0.out ?_
  simp only [List.getElem_toArray, List.getElem_cons_succ, List.getElem_cons_zero, Act.put, List.setIfInBounds_toArray, List.set_cons_zero, List.set_cons_succ]
  refine wpAnyH_take (i := 3) (v := .slice ao l.length cap) rfl (by kernel_rfl) (by kernel_rfl) (by kernel_rfl) (fun _ _ _ h => h) (Or.inl ⟨by rfl, fun W hW => by obtain ⟨y0, y1⟩ := hW; go_simp⟩) HS0.out ?_
  simp only [List.getElem_toArray, List.getElem_cons_succ, List.getElem_cons_zero, Act.put, List.setIfInBounds_toArray, List.set_cons_zero, List.set_cons_succ]
  refine wpAnyH_take (i := 4) (v := .pointer (some ⟨g, 0, none⟩)) rfl (by kernel_rfl) (by kernel_rfl) (by kernel_rfl) (fun _ _ _ h => h) (Or.inl ⟨by rfl, fun W hW => by obtain ⟨y0, y1⟩ := hW; go_simp⟩) HS0.out ?_
  simp only [List.getElem_toArray, List.getElem_cons_succ, List.getElem_cons_zero, Act.put, List.setIfInBounds_toArray, List.set_cons_zero, List.set_cons_succ]
  refine wpAnyH_take (i := 5) (v := .pointer (some ⟨g, 0, none⟩)) rfl (by kernel_rfl) (by kernel_rfl) (by kernel_rfl) (fun _ _ _ h => h) (Or.inl ⟨by rfl, fun W hW => by obtain ⟨y0, y1⟩ := hW; go_simp⟩) HS0.out ?_
  simp only [List.getElem_toArray, List.getElem_cons_succ, List.getElem_cons_zero, Act.put, List.setIfInBounds_toArray, List.set_cons_zero, List.set_cons_succ]
  refine wpAnyH_take (i := 6) (v := .pointer (some ⟨g, 0, none⟩)) rfl (by kernel_rfl) (by kernel_rfl) (by kernel_rfl) (fun _ _ _ h => h) (Or.inl ⟨by rfl, fun W hW => by obtain ⟨y0, y1⟩ := hW; go_simp⟩) HS0.out ?_
  simp only [List.getElem_toArray, List.getElem_cons_succ, List.getElem_cons_zero, Act.put, List.setIfInBounds_toArray, List.set_cons_zero, List.set_cons_succ]
  refine wpAnyH_take (i := 7) (v := .pointer (some ⟨g, 32, none⟩)) rfl (by kernel_rfl) (by kernel_rfl) (by kernel_rfl) (fun _ _ _ h => h) (Or.inl ⟨by rfl, fun W hW => by obtain ⟨y0, y1⟩ := hW; go_simp⟩) HS0.out ?_
  simp only [List.getElem_toArray, List.getElem_cons_succ, List.getElem_cons_zero, Act.put, List.setIfInBounds_toArray, List.set_cons_zero, List.set_cons_succ]
  refine wpAnyH_take (i := 8) (v := .int .u32 pc) rfl (by kernel_rfl) (by kernel_rfl) (by kernel_rfl) (fun _ _ _ h => h) (Or.inl ⟨by rfl, fun W hW => by obtain ⟨y0, y1⟩ := hW; go_simp⟩) HS0.out ?_
  simp only [List.getElem_toArray, List.getElem_cons_succ, List.getElem_cons_zero, Act.put, List.setIfInBounds_toArray, List.set_cons_zero, List.set_cons_succ]
  refine wpAnyH_ready (rs := [9, 13]) (by kernel_rfl) (by simp) ?_
  refine AllReadyH.cons rfl (fun K hK => ?cf) (AllReadyH.cons rfl (fun K hK => ?af) AllReadyH.nil)
  case cf =>
    go_simp
    refine (F.out _ (Gr.refl _).drew).mono ?_
    rintro e wd ⟨rfl, Gd⟩
    have HGd : Hid (Gr w wd) := (Gr.refl _).drew.trans Gd
    clear Gd
    have HS1 : Hid _ := HS13.out _ HGd.out
    refine hK.out _ _ HS1.out (fun hx => ?_)
    clear hK K hx
    refine wpAnyH_take (i := 10) (v := .tuple #[.agg #[.int .i64 x0, .int .i64 x1, .int .i64 x2, .int .i64 x3, .int .i32 x4], .int .i64 c]) rfl (by kernel_rfl) (by kernel_rfl) (by kernel_rfl) (fun _ _ _ h => h) (Or.inl ⟨by rfl, fun W hW => by obtain ⟨y0, y1⟩ := hW; go_simp⟩) HS1.out ?_
    simp only [List.getElem_toArray, List.getElem_cons_succ, List.getElem_cons_zero, Act.put, List.setIfInBounds_toArray, List.set_cons_zero, List.set_cons_succ]
    refine wpAnyH_take (i := 11) (v := .agg #[.int .i64 x0, .int .i64 x1, .int .i64 x2, .int .i64 x3, .int .i32 x4]) rfl (by kernel_rfl) (by kernel_rfl) (by kernel_rfl) (fun _ _ _ h => h) (Or.inl ⟨by rfl, fun W hW => by obtain ⟨y0, y1⟩ := hW; go_simp⟩) HS1.out ?_
    simp only [List.getElem_toArray, List.getElem_cons_succ, List.getElem_cons_zero, Act.put, List.setIfInBounds_toArray, List.set_cons_zero, List.set_cons_succ]
    refine wpAnyH_take (i := 12) (v := .int .i64 c) rfl (by kernel_rfl) (by kernel_rfl) (by kernel_rfl) (fun _ _ _ h => h) (Or.inl ⟨by rfl, fun W hW => by obtain ⟨y0, y1⟩ := hW; go_simp⟩) HS1.out ?_
    simp only [List.getElem_toArray, List.getElem_cons_succ, List.getElem_cons_zero, Act.put, List.setIfInBounds_toArray, List.set_cons_zero, List.set_cons_succ]
    refine wpAnyH_ready (rs := [13]) (by kernel_rfl) (by simp) ?_
    refine AllReadyH.cons rfl (fun K hK => ?_) AllReadyH.nil
    go_simp
    refine hK.out _ _ (HS13.out _ (HGd.out.alloc _)) (fun hx => ?_)
    clear hK K hx
    refine held_store_row (i := 14) (by kernel_rfl) rfl rfl 23 (.tmp 2) (.tmp 15) rfl wd.heap.size #[.int .i64 x0, .int .i64 x1, .int .i64 x2, .int .i64 x3, .int .i32 x4] (by simp [Act.eval]) (by simp [Act.eval]) 23 _ (heap_alloc_new wd _) Hf.iI rfl (Hf.ins_one _ _ _ _ _) ?_ ?_
    · exact HS13.out _ (gr_setRow (HGd.out.alloc _) HGd.out.size _)
    refine wpAnyH_take (i := 15) (v := .int .i64 c) rfl (by kernel_rfl) (by kernel_rfl) (by kernel_rfl) (fun _ _ _ h => h) (Or.inl ⟨by rfl, fun W hW => by obtain ⟨y0, y1⟩ := hW; go_simp⟩) (HS13.out _ (gr_setRow (HGd.out.alloc _) HGd.out.size _)) ?_
    simp only [List.getElem_toArray, List.getElem_cons_succ, List.getElem_cons_zero, Act.put, List.setIfInBounds_toArray, List.set_cons_zero, List.set_cons_succ]
    refine wpAnyH_done (by kernel_rfl) ?_ _
    refine at_world (fun W => W.heap[wd.heap.size]? = some (.cells #[.int .i64 x0, .int .i64 x1, .int .i64 x2, .int .i64 x3, .int .i32 x4] 23 (0, 0)) ∧ Gr w W) ?_ ?_
    · exact ⟨setRow_heap _ _ _ _ _ (0, 0) (heap_alloc_new wd _), gr_setRow (HGd.out.alloc _) HGd.out.size _⟩
    clear HGd HS1
    generalize wd.heap.size = gi at *
    clear wd
    clear HS13 HS0 F
    rintro wD ⟨BD, GD⟩
    have q0 : wD.cell? ⟨gi, 0, none⟩ = some (.int .i64 x0) := cell_of_row _ _ _ _ _ _ BD
    have q1 : wD.cell? ⟨gi, 1, none⟩ = some (.int .i64 x1) := cell_of_row _ _ _ _ _ _ BD
    have q2 : wD.cell? ⟨gi, 2, none⟩ = some (.int .i64 x2) := cell_of_row _ _ _ _ _ _ BD
    have q3 : wD.cell? ⟨gi, 3, none⟩ = some (.int .i64 x3) := cell_of_row _ _ _ _ _ _ BD
    have q4 : wD.cell? ⟨gi, 4, none⟩ = some (.int .i32 x4) := cell_of_row _ _ _ _ _ _ BD
    have HID : Hid (In wD base g h l os ss) := HI.out.of GD
    have HFD : Hid (Fr base w wD) := Fr.ofGr GD hbl
    have HTD : Hid (TT wD base) := HT.out.of HFD.out
    clear BD GD HI HT k37 k32
    by_cases hc : c = 0
    · have Do : Hid (∀ W, In W base g h l os ss → Tb W base → Calls Tryd.prog 105 #[.pointer (some ⟨g, 0, none⟩), .agg #[.int .i64 x0, .int .i64 x1, .int .i64 x2, .int .i64 x3, .int .i32 x4]] W fun e w' => e = .returned (.tuple #[]) ∧ In w' base g Z.h Z.m (os ++ Z.out) (ss ++ Z.sto) ∧ Fr base W w') := HD.out hc
      subst hc
      clear HD HN Tr
      go_wp2_with fail
      refine (Do.out _ HID.out HTD.out.tb).mono ?_
      rintro e w2 ⟨rfl, I2, C2⟩
      have HI2 : Hid (In w2 base g Z.h Z.m (os ++ Z.out) (ss ++ Z.sto)) := I2
      have HF2 : Hid (Fr base w w2) := HFD.out.trans C2
      clear I2 C2 Do HID HFD HTD
      go_wp2_with fail
      go_end0
      exact ⟨rfl, HI2.out, HF2.out⟩
    · have hb : (c == 0) = false := by simpa using hc
      have HZ : Hid (Z = ⟨h.trap c, l, [], []⟩) := HN.out hc
      clear HD HN hc
      go_wp2_with fail
      refine (Tr.out _ HID.out c).mono ?_
      rintro e w2 ⟨rfl, I2, C2⟩
      have HI2 : Hid (In w2 base g Z.h Z.m (os ++ Z.out) (ss ++ Z.sto)) := by unfold Hid; rw [HZ.out, List.append_nil, List.append_nil]; exact I2
      have HF2 : Hid (Fr base w w2) := HFD.out.trans (HID.out.below C2)
      clear I2 C2 Tr HID HFD HTD HZ
      go_wp2_with fail
      refine bodyPost_ret (results_none Tryd.results74 _ _ _) rfl ?_
      exact ⟨rfl, HI2.out, HF2.out⟩
  case af =>
    go_simp
    refine hK.out _ _ (HS13.out _ ((Gr.refl _).alloc _).drew) (fun hx => ?_)
    clear hK K hx
    refine wpAnyH_ready (rs := [9]) (by kernel_rfl) (by simp) ?_
    refine AllReadyH.cons rfl (fun K hK => ?_) AllReadyH.nil
    go_simp
    refine (F.out _ ((Gr.refl _).alloc _).drew).mono ?_
    rintro e wd ⟨rfl, Gd⟩
    have HNw : Hid (wd.heap[w.heap.size]? = some (.cells _ 23 (0, 0))) := heap_gr Gd (heap_gr (Gr.refl _).drew (heap_alloc_new w _))
    have HGd : Hid (Gr w wd) := Gr.trans (Gr.drew ((Gr.refl w).alloc _)) Gd
    clear Gd
    have HS1 : Hid _ := HS13.out _ HGd.out
    refine hK.out _ _ HS1.out (fun hx => ?_)
    clear hK K hx
    refine wpAnyH_take (i := 10) (v := .tuple #[.agg #[.int .i64 x0, .int .i64 x1, .int .i64 x2, .int .i64 x3, .int .i32 x4], .int .i64 c]) rfl (by kernel_rfl) (by kernel_rfl) (by kernel_rfl) (fun _ _ _ h => h) (Or.inl ⟨by rfl, fun W hW => by obtain ⟨y0, y1⟩ := hW; go_simp⟩) HS1.out ?_
    simp only [List.getElem_toArray, List.getElem_cons_succ, List.getElem_cons_zero, Act.put, List.setIfInBounds_toArray, List.set_cons_zero, List.set_cons_succ]
    refine wpAnyH_take (i := 11) (v := .agg #[.int .i64 x0, .int .i64 x1, .int .i64 x2, .int .i64 x3, .int .i32 x4]) rfl (by kernel_rfl) (by kernel_rfl) (by kernel_rfl) (fun _ _ _ h => h) (Or.inl ⟨by rfl, fun W hW => by obtain ⟨y0, y1⟩ := hW; go_simp⟩) HS1.out ?_
    simp only [List.getElem_toArray, List.getElem_cons_succ, List.getElem_cons_zero, Act.put, List.setIfInBounds_toArray, List.set_cons_zero, List.set_cons_succ]
    refine wpAnyH_take (i := 12) (v := .int .i64 c) rfl (by kernel_rfl) (by kernel_rfl) (by kernel_rfl) (fun _ _ _ h => h) (Or.inl ⟨by rfl, fun W hW => by obtain ⟨y0, y1⟩ := hW; go_simp⟩) HS1.out ?_
    simp only [List.getElem_toArray, List.getElem_cons_succ, List.getElem_cons_zero, Act.put, List.setIfInBounds_toArray, List.set_cons_zero, List.set_cons_succ]
    refine held_store_row (i := 14) (by kernel_rfl) rfl rfl 23 (.tmp 2) (.tmp 15) rfl w.heap.size #[.int .i64 x0, .int .i64 x1, .int .i64 x2, .int .i64 x3, .int .i32 x4] (by simp [Act.eval]) (by simp [Act.eval]) 23 _ HNw.out Hf.iI rfl (Hf.ins_one _ _ _ _ _) ?_ ?_
    · exact HS13.out _ (gr_setRow HGd.out (Nat.le_refl _) _)
    refine wpAnyH_take (i := 15) (v := .int .i64 c) rfl (by kernel_rfl) (by kernel_rfl) (by kernel_rfl) (fun _ _ _ h => h) (Or.inl ⟨by rfl, fun W hW => by obtain ⟨y0, y1⟩ := hW; go_simp⟩) (HS13.out _ (gr_setRow HGd.out (Nat.le_refl _) _)) ?_
    simp only [List.getElem_toArray, List.getElem_cons_succ, List.getElem_cons_zero, Act.put, List.setIfInBounds_toArray, List.set_cons_zero, List.set_cons_succ]
    refine wpAnyH_done (by kernel_rfl) ?_ _
    refine at_world (fun W => W.heap[w.heap.size]? = some (.cells #[.int .i64 x0, .int .i64 x1, .int .i64 x2, .int .i64 x3, .int .i32 x4] 23 (0, 0)) ∧ Gr w W) ?_ ?_
    · exact ⟨setRow_heap _ _ _ _ _ (0, 0) HNw.out, gr_setRow HGd.out (Nat.le_refl _) _⟩
    clear HGd HNw HS1
    obtain ⟨gi, hgi⟩ : ∃ g : Nat, g = w.heap.size := ⟨_, rfl⟩
    rw [← hgi]
    clear hgi wd
    clear HS13 HS0 F
    rintro wD ⟨BD, GD⟩
    have q0 : wD.cell? ⟨gi, 0, none⟩ = some (.int .i64 x0) := cell_of_row _ _ _ _ _ _ BD
    have q1 : wD.cell? ⟨gi, 1, none⟩ = some (.int .i64 x1) := cell_of_row _ _ _ _ _ _ BD
    have q2 : wD.cell? ⟨gi, 2, none⟩ = some (.int .i64 x2) := cell_of_row _ _ _ _ _ _ BD
    have q3 : wD.cell? ⟨gi, 3, none⟩ = some (.int .i64 x3) := cell_of_row _ _ _ _ _ _ BD
    have q4 : wD.cell? ⟨gi, 4, none⟩ = some (.int .i32 x4) := cell_of_row _ _ _ _ _ _ BD
    have HID : Hid (In wD base g h l os ss) := HI.out.of GD
    have HFD : Hid (Fr base w wD) := Fr.ofGr GD hbl
    have HTD : Hid (TT wD base) := HT.out.of HFD.out
    clear BD GD HI HT k37 k32
    by_cases hc : c = 0
    · have Do : Hid (∀ W, In W base g h l os ss → Tb W base → Calls Tryd.prog 105 #[.pointer (some ⟨g, 0, none⟩), .agg #[.int .i64 x0, .int .i64 x1, .int .i64 x2, .int .i64 x3, .int .i32 x4]] W fun e w' => e = .returned (.tuple #[]) ∧ In w' base g Z.h Z.m (os ++ Z.out) (ss ++ Z.sto) ∧ Fr base W w') := HD.out hc
      subst hc
      clear HD HN Tr
      go_wp2_with fail
      refine (Do.out _ HID.out HTD.out.tb).mono ?_
      rintro e w2 ⟨rfl, I2, C2⟩
      have HI2 : Hid (In w2 base g Z.h Z.m (os ++ Z.out) (ss ++ Z.sto)) := I2
      have HF2 : Hid (Fr base w w2) := HFD.out.trans C2
      clear I2 C2 Do HID HFD HTD
      go_wp2_with fail
      go_end0
      exact ⟨rfl, HI2.out, HF2.out⟩
    · have hb : (c == 0) = false := by simpa using hc
      have HZ : Hid (Z = ⟨h.trap c, l, [], []⟩) := HN.out hc
      clear HD HN hc
      go_wp2_with fail
      refine (Tr.out _ HID.out c).mono ?_
      rintro e w2 ⟨rfl, I2, C2⟩
      have HI2 : Hid (In w2 base g Z.h Z.m (os ++ Z.out) (ss ++ Z.sto)) := by unfold Hid; rw [HZ.out, List.append_nil, List.append_nil]; exact I2
      have HF2 : Hid (Fr base w w2) := HFD.out.trans (HID.out.below C2)
      clear I2 C2 Tr HID HFD HTD HZ
      go_wp2_with fail
      refine bodyPost_ret (results_none Tryd.results74 _ _ _) rfl ?_
      exact ⟨rfl, HI2.out, HF2.out⟩
theorem Step_any (I : In w base g h l os ss) (T : TT w base) (hl : l.length ≤ 140737488351232) (hss : ss.length ≤ 1000000) (hos : os.length ≤ 1000000) :
    Calls Tryd.prog 74 #[.pointer (some ⟨g, 0, none⟩)] w fun e w' => e = .returned (.tuple #[]) ∧ In w' base g (stp h l).h (stp h l).m (os ++ (stp h l).out) (ss ++ (stp h l).sto) ∧ Fr base w w' :=
  Step_gen I T hl fun hc V I1 T1 => by
    have HW := W.ldV l 13 h.pc
    rw [stp_yes hc]
    have ib := imm_bd (Dc.frm (Dc.dop (ldV l 13 h.pc))) HW.1 HW.2
    exact do_any I1 T1 hl hss hos _ _ _ _ _ (rd_bd _ _).1 (rd_bd _ _).2 (r1_bd _ _).1 (r1_bd _ _).2 (r2_bd _ _).1 (r2_bd _ _).2 ib.1 (by omega)
/-- Where no instruction stands at the PC. -/
theorem Step_trap (I : In w base g h l os ss) (T : TT w base) (hl : l.length ≤ 140737488351232) (hf : ¬ Bk.ftC l h.pc = 0) :
    Calls Tryd.prog 74 #[.pointer (some ⟨g, 0, none⟩)] w fun e w' => e = .returned (.tuple #[]) ∧ In w' base g (stp h l).h (stp h l).m (os ++ (stp h l).out) (ss ++ (stp h l).sto) ∧ Fr base w w' :=
  Step_gen I T hl fun hc => absurd hc hf
end Go.Proofs.YtdiofidmlgliiaaDoor.Hc
/-
  A hart that is handed in, opened.
-/
namespace Go.Proofs.YtdiofidmlgliiaaDoor.Hc
open Go.ChangeShapes Go.WideShapes Go.ChangeAt Go.RowKit Mm Hh
set_option linter.unusedVariables false
set_option linter.unusedSimpArgs false

variable {v : Value}
theorem c34 : Tryd.prog.cellsOf 70 = 37 := by kernel_rfl
theorem c32 : Tryd.prog.cellsOf 68 = 32 := by kernel_rfl
theorem c22 : Tryd.prog.cellsOf 59 = 1 := by kernel_rfl
theorem c4 : Tryd.prog.cellsOf 4 = 1 := by kernel_rfl
theorem c3 : Tryd.prog.cellsOf 3 = 1 := by kernel_rfl
theorem list6 {α : Type} {l : List α} (h : l.length = 6) : ∃ a b c d e f, l = [a, b, c, d, e, f] := by
  match l, h with
  | [a, b, c, d, e, f], _ => exact ⟨a, b, c, d, e, f, rfl⟩
theorem cut_one {l : List Value} {k : Nat} (h : (l.drop k).take 1 = [v]) : l[k]? = some v := by
  have := congrArg (fun x => x[0]?) h
  simpa using this
theorem u32_bd {n : Int} (h : (Lit.int .u32 n).wf = true) : 0 ≤ n ∧ n < 4294967296 := by
  have : 0 ≤ n ∧ n ≤ 4294967295 := by simpa [Lit.wf, IntKind.min, IntKind.max, IntKind.signed, IntKind.bits] using h
  omega
set_option maxRecDepth 100000 in
theorem open_hart {H : Type} {enc : TypeId × Value → H} {W : World} {base b0 : Nat} {sp : Nat → Bool} {held : Bool} {d : DataW H} {p : List MemPlace}
    (hv : Value.okWide Tryd.prog W .any base 70 v) (h : DataW.Trod enc Tryd.prog W b0 sp held 70 v d p) : ∃ hh : Hv, v = .agg (hA hh) ∧ hh.Ok := by
  obtain ⟨cs, rfl, hsz⟩ := okWide_struct Tryd.underlying70 hv
  rw [c34] at hsz
  obtain ⟨l⟩ := cs
  obtain ⟨fuel, hf⟩ := h
  obtain ⟨xs, m, rfl, hx, _, hlen, hel⟩ := DataW.trod_struct Tryd.underlying70 hf
  obtain ⟨y0, y1, y2, y3, y4, y5, rfl⟩ := list6 (l := xs) hlen
  clear hf hv hlen hx
  have k0 : DataW.trod enc Tryd.prog W b0 sp held m 68 ((l.drop 0).take (Tryd.prog.cellsOf 68)) = some y0 := hel 0 _ rfl
  have k1 : DataW.trod enc Tryd.prog W b0 sp held m 59 ((l.drop 32).take (Tryd.prog.cellsOf 59)) = some y1 := hel 1 _ rfl
  have k2 : DataW.trod enc Tryd.prog W b0 sp held m 4 ((l.drop 33).take (Tryd.prog.cellsOf 4)) = some y2 := hel 2 _ rfl
  have k3 : DataW.trod enc Tryd.prog W b0 sp held m 59 ((l.drop 34).take (Tryd.prog.cellsOf 59)) = some y3 := hel 3 _ rfl
  have k4 : DataW.trod enc Tryd.prog W b0 sp held m 3 ((l.drop 35).take (Tryd.prog.cellsOf 3)) = some y4 := hel 4 _ rfl
  have k5 : DataW.trod enc Tryd.prog W b0 sp held m 3 ((l.drop 36).take (Tryd.prog.cellsOf 3)) = some y5 := hel 5 _ rfl
  clear hel
  have hl : l.length = 37 := by simpa using hsz
  obtain ⟨pc, e1, _, w1⟩ := DataW.trod_int Tryd.underlying59 k1
  obtain ⟨hd, e2, _⟩ := DataW.trod_bool Tryd.underlying4 k2
  obtain ⟨ha, e3, _, w3⟩ := DataW.trod_int Tryd.underlying59 k3
  obtain ⟨st, e4, _, _⟩ := DataW.trod_int Tryd.underlying3 k4
  obtain ⟨ca, e5, _, _⟩ := DataW.trod_int Tryd.underlying3 k5
  obtain ⟨zs, m2, rfl, _, _, hzl, hze⟩ := DataW.trod_array Tryd.underlying68 k0
  clear k0 k1 k2 k3 k4 k5
  rw [c22] at e1 e3
  rw [c4] at e2
  rw [c3] at e4 e5
  have q1 := cut_one e1
  have q2 := cut_one e2
  have q3 := cut_one e3
  have q4 := cut_one e4
  have q5 := cut_one e5
  have qr : ∀ i, i < 32 → ∃ n, l[i]? = some (.int .u32 n) ∧ 0 ≤ n ∧ n < 4294967296 := fun i hi => by
    have ki := hze i hi
    rw [List.getElem?_eq_getElem (by omega)] at ki
    obtain ⟨n, en, _, wn⟩ := DataW.trod_int Tryd.underlying59 ki
    rw [c22, c32] at en
    refine ⟨n, ?_, u32_bd wn⟩
    have := congrArg (fun x => x[0]?) en
    simp only [List.getElem?_take, List.getElem?_drop] at this
    rw [if_pos (by omega), if_pos (by omega)] at this
    simpa using this
  clear hze e1 e2 e3 e4 e5
  have qn : ∀ i, i < 32 → l[i]? = some (.int .u32 (intOf (l.getD i undef))) ∧ 0 ≤ intOf (l.getD i undef) ∧ intOf (l.getD i undef) < 4294967296 := fun i hi => by
    obtain ⟨n, en, b⟩ := qr i hi
    simp only [List.getD, en, Option.getD_some, intOf]
    exact ⟨trivial, b⟩
  refine ⟨⟨(List.range 32).map fun i => intOf (l.getD i undef), pc, hd, ha, st, ca⟩, ?_, ?_⟩
  · have : l = hL ⟨(List.range 32).map fun i => intOf (l.getD i undef), pc, hd, ha, st, ca⟩ := by
      apply List.ext_getElem?
      intro i
      unfold hL
      by_cases hi : i < 32
      · rw [List.getElem?_append_left (by simpa using hi), (qn i hi).1]
        simp [hi]
      · rw [List.getElem?_append_right (by simp; omega)]
        simp only [List.length_map, List.length_range]
        by_cases h37 : i < 37
        · have : i = 32 ∨ i = 33 ∨ i = 34 ∨ i = 35 ∨ i = 36 := by omega
          rcases this with rfl | rfl | rfl | rfl | rfl
          · exact q1
          · exact q2
          · exact q3
          · exact q4
          · exact q5
        · rw [List.getElem?_eq_none (by omega), List.getElem?_eq_none (by simp; omega)]
    unfold hA
    rw [← this]
  · refine ⟨by simp, fun i => ?_, (u32_bd w1).1, (u32_bd w1).2, (u32_bd w3).1, (u32_bd w3).2⟩
    unfold rg
    simp only [List.getD, List.getElem?_map]
    by_cases hi : i < 32
    · rw [List.getElem?_eq_getElem (by simpa using hi)]
      simp only [List.getElem_range, Option.map_some, Option.getD_some]
      exact (qn i hi).2
    · rw [List.getElem?_eq_none (by simp; omega)]
      simp
end Go.Proofs.YtdiofidmlgliiaaDoor.Hc
/-
  What the condition on the package's tables gives.
-/
namespace Go.Proofs.YtdiofidmlgliiaaDoor.Hc
open Go.ChangeShapes Go.WideShapes Go.ChangeAt Go.RowKit Mm Hh
set_option linter.unusedVariables false
set_option linter.unusedSimpArgs false

def sizesL : List Int := [0, 0, 0, 0, 0, 0, 0, 0, 0, 0, 0, 0, 0, 0, 0, 0, 1, 2, 4]
def opersL : List Int := [0, 0, 0, 0, 0, 0, 0, 0, 0, 0, 0, 0, 0, 0, 0, 0, 0, 0, 0, 28, 31, 32, 33, 36, 37, 30, 34, 35]
theorem gSizes : Tryd.prog.globalNamed "ferrybridge/hart.sizes" = some 8 := by kernel_rfl
theorem gOpers : Tryd.prog.globalNamed "ferrybridge/hart.operations" = some 5 := by kernel_rfl
theorem tSizes : (Tryd.prog.globals[8]?).map (·.type) = some 231 := by kernel_rfl
theorem tOpers : (Tryd.prog.globals[5]?).map (·.type) = some 216 := by kernel_rfl
theorem lookSizes : (List.range 19).map (Dw.look Tryd.prog 3 231 (Rows.laid_ferrybridge_hart_sizes (H := Unit))) = sizesL.map fun n => some (.int .u32 n) := by kernel_rfl
theorem lookOpers : (List.range 28).map (Dw.look Tryd.prog 3 216 (Rows.laid_ferrybridge_hart_operations (H := Unit))) = opersL.map fun n => some (.int .i64 n) := by kernel_rfl
/-- The condition gives the tables. -/
theorem tt_of_laid {W : World} (h : laidMetH Tryd.prog [("ferrybridge/decode.shapes", Rows.laid_ferrybridge_decode_shapes), ("ferrybridge/decode.uppers", Rows.laid_ferrybridge_decode_uppers), ("ferrybridge/hart.sizes", Rows.laid_ferrybridge_hart_sizes), ("ferrybridge/hart.operations", Rows.laid_ferrybridge_hart_operations)] W) : TT W W.heap.size := by
  rw [MakeChecks.laidMetH_plain _ _ _ (by kernel_rfl)] at h
  obtain ⟨ps, ⟨g0, t0, cs0, f0, p0, q0, hg0, ht0, hv0, hd0, ⟨g1, t1, cs1, f1, p1, q1, hg1, ht1, hv1, hd1, ⟨g2, t2, cs2, f2, p2, q2, hg2, ht2, hv2, hd2, ⟨g3, t3, cs3, f3, p3, q3, hg3, ht3, hv3, hd3, _, _⟩, _⟩, _⟩, _⟩, _, _⟩ := h
  obtain rfl := Option.some.inj (Dw.gShapes.symm.trans hg0)
  obtain rfl := Option.some.inj (Dw.gUppers.symm.trans hg1)
  obtain rfl := Option.some.inj (gSizes.symm.trans hg2)
  obtain rfl := Option.some.inj (gOpers.symm.trans hg3)
  obtain rfl := Option.some.inj (Dw.tShapes.symm.trans ht0)
  obtain rfl := Option.some.inj (Dw.tUppers.symm.trans ht1)
  obtain rfl := Option.some.inj (tSizes.symm.trans ht2)
  obtain rfl := Option.some.inj (tOpers.symm.trans ht3)
  have T : Dw.Tab W := by
    refine ⟨fun i v hi => ?_, fun i n hi => ?_⟩
    · have := Dw.look_cell 5 hd0 (Dw.look_of Dw.lookShapes hi)
      rw [World.var?_cell hg0 hv0 i]; simpa using this
    · have := Dw.look_cell 3 hd1 (Dw.look_of (l := Dc.uppers.map fun n => .int .u32 n) (i := i) (v := .int .u32 n) (by rw [Dw.lookUppers]; simp [Function.comp_def]) (by simp [hi]))
      rw [World.var?_cell hg1 hv1 i]; simpa using this
  have S : ∀ i n, sizesL[i]? = some n → W.cell? ⟨8, i, none⟩ = some (.int .u32 n) := fun i n hi => by
    have := Dw.look_cell 3 hd2 (Dw.look_of (l := sizesL.map fun n => .int .u32 n) (i := i) (v := .int .u32 n) (by rw [lookSizes]; simp [Function.comp_def]) (by simp [hi]))
    rw [World.var?_cell hg2 hv2 i]; simpa using this
  have O : ∀ i n, opersL[i]? = some n → W.cell? ⟨5, i, none⟩ = some (.int .i64 n) := fun i n hi => by
    have := Dw.look_cell 3 hd3 (Dw.look_of (l := opersL.map fun n => .int .i64 n) (i := i) (v := .int .i64 n) (by rw [lookOpers]; simp [Function.comp_def]) (by simp [hi]))
    rw [World.var?_cell hg3 hv3 i]; simpa using this
  exact ⟨T, ⟨S, O, Dw.lt_of_cell (S 0 _ rfl), Dw.lt_of_cell (O 0 _ rfl)⟩, Dw.lt_of_cell (T.shapes 0 _ rfl), Dw.lt_of_cell (T.uppers 0 _ rfl)⟩
theorem TT.grow {w w' : World} (T : TT w w.heap.size) (G : Gr w w') : TT w' w'.heap.size := by
  have h := T.of (Fr.ofGr G (Nat.le_refl _))
  have s := G.size
  exact ⟨h.tab, ⟨h.tb.sizes, h.tb.opers, Nat.lt_of_lt_of_le h.tb.b1 s, Nat.lt_of_lt_of_le h.tb.b2 s⟩, Nat.lt_of_lt_of_le h.b1 s, Nat.lt_of_lt_of_le h.b2 s⟩
end Go.Proofs.YtdiofidmlgliiaaDoor.Hc
/-
  What a hart of a board did, as the cells of a struct (api.Did); what Board's Work answers.
-/
namespace Go.Proofs.YtdiofidmlgliiaaDoor.Mc
open Go.ChangeShapes Go.WideShapes Go.ChangeAt Go.RowKit Mm Hh Hc
set_option linter.unusedVariables false
set_option linter.unusedSimpArgs false

/-- What a hart did: the hart, the memory, what came out, steps, where was stored (as slices). -/
structure Qv where
  h : Hv
  m : Value
  out : Value
  n : Int
  sto : Value
def qA (d : Qv) : Array Value := (hL d.h ++ [d.m, d.out, .int .i64 d.n, d.sto]).toArray
theorem qA_size {d : Qv} (o : d.h.Ok) : (qA d).size = 41 := by simp [qA, hL_len o]
theorem qA_get {d : Qv} (o : d.h.Ok) {i : Nat} (hi : i < 37) : (qA d)[i]? = (hL d.h)[i]? := by
  have := hL_len o
  unfold qA
  rw [List.getElem?_toArray, List.getElem?_append_left (by omega)]
theorem qA_fld {d : Qv} (o : d.h.Ok) (j : Nat) : (qA d)[37 + j]? = [d.m, d.out, .int .i64 d.n, d.sto][j]? := by
  unfold qA
  rw [List.getElem?_toArray, List.getElem?_append_right (by simp [hL_len o])]
  simp [hL_len o]
theorem one_qA {d : Qv} (h1 : d.m.oneCell' = true) (h2 : d.out.oneCell' = true) (h3 : d.sto.oneCell' = true) : (qA d).all (·.oneCell') = true := by
  refine all_oneCell_toArray ?_
  intro v hv
  simp only [hL, List.mem_append, List.mem_map, List.mem_cons, List.not_mem_nil, or_false] at hv
  rcases hv with (⟨n, _, rfl⟩ | rfl | rfl | rfl | rfl | rfl) | rfl | rfl | rfl | rfl <;> first | rfl | assumption
theorem iQ : (Tryd.prog.info? 101).map (·.size) = some 41 := by kernel_rfl
theorem zQ : (Tryd.prog.info? 101).bind (·.zero) = some (.agg (qA ⟨h0, nilS, nilS, 0, nilS⟩)) := by kernel_rfl
theorem fold_one (off : Nat) (v : Value) (cs : Array Value) : ((#[v] : Array Value).zipIdx.foldl (fun cs (x : Value × Nat) => cs.setIfInBounds (off + x.2) x.1) cs) = cs.setIfInBounds off v := rfl
theorem fold_hart {h : Hv} (o : h.Ok) (d : Qv) (od : d.h.Ok) : ((hA h).zipIdx.foldl (fun cs (x : Value × Nat) => cs.setIfInBounds (0 + x.2) x.1) (qA d)) = qA { d with h := h } := by
  have a1 := fold_set 0 (hA h) (qA d)
  have s1 := hA_size o
  have s2 := qA_size od
  apply Array.ext_getElem?
  intro k
  rw [a1.2 k]
  by_cases hk : k < 37
  · rw [if_pos (by omega), qA_get (d := { d with h := h }) o hk]
    simp [hA]
  · rw [if_neg (by omega)]
    obtain ⟨j, rfl⟩ : ∃ j, k = 37 + j := ⟨k - 37, by omega⟩
    rw [qA_fld od, qA_fld (d := { d with h := h }) o]
theorem qA_set {d : Qv} (o : d.h.Ok) (i : Nat) (v : Value) : (qA d).setIfInBounds (37 + i) v = (hL d.h ++ ([d.m, d.out, .int .i64 d.n, d.sto].set i v)).toArray := by
  have := hL_len o
  unfold qA
  simp only [List.setIfInBounds_toArray]
  rw [List.set_append_right _ _ (by omega), this, Nat.add_sub_cancel_left]
theorem built_five {P : Program} {t : TypeId} {it : TypeInfo} {z : Value} {fs : Array Field} {ps : List (Nat × Nat)} (hi : P.info? t = some it) (hu : P.underlying t = some (.struct fs)) (hz : it.zero = some z)
    (hp : fs.toList.mapM (fun f => (P.info? f.type).map fun i => (f.offset, i.size)) = some ps) {n : Nat} (p0 : ps.toArray[0]? = some (0, n)) (p1 : ps.toArray[1]? = some (n, 1)) (p2 : ps.toArray[2]? = some (n + 1, 1)) (p3 : ps.toArray[3]? = some (n + 2, 1)) (p4 : ps.toArray[4]? = some (n + 3, 1))
    (A : Array Value) (hA : A.size = n) (v1 v2 v3 v4 : Value) (h1 : v1.cells = #[v1]) (h2 : v2.cells = #[v2]) (h3 : v3.cells = #[v3]) (h4 : v4.cells = #[v4]) (hs : z.cells.size = n + 4) :
    P.built t [(0, .agg A), (1, v1), (2, v2), (3, v3), (4, v4)] = some ((((((A.zipIdx.foldl (fun cs (x : Value × Nat) => cs.setIfInBounds (0 + x.2) x.1) z.cells).setIfInBounds n v1).setIfInBounds (n + 1) v2).setIfInBounds (n + 2) v3).setIfInBounds (n + 3) v4)) := by
  unfold Program.built
  simp only [hi, hu, hz, hp]
  have a1 := (fold_set 0 A z.cells).1
  unfold Instr.fill
  simp only [p0]
  have e : (Value.agg A).cells = A := rfl
  rw [e, if_neg (by simp [hA]; omega)]
  unfold Instr.fill
  simp only [p1]
  rw [h1, if_neg (by rw [a1]; simp; omega), fold_one]
  unfold Instr.fill
  simp only [p2]
  rw [h2, if_neg (by rw [Array.size_setIfInBounds, a1]; simp; omega), fold_one]
  unfold Instr.fill
  simp only [p3]
  rw [h3, if_neg (by rw [Array.size_setIfInBounds, Array.size_setIfInBounds, a1]; simp; omega), fold_one]
  unfold Instr.fill
  simp only [p4]
  rw [h4, if_neg (by rw [Array.size_setIfInBounds, Array.size_setIfInBounds, Array.size_setIfInBounds, a1]; simp; omega), fold_one]
  unfold Instr.fill
  rfl
theorem built_did5 {h : Hv} (o : h.Ok) (m out : Value) (n : Int) (sto : Value) (h1 : m.cells = #[m]) (h2 : out.cells = #[out]) (h3 : sto.cells = #[sto]) :
    Tryd.prog.built 101 [(0, .agg (hA h)), (1, m), (2, out), (3, .int .i64 n), (4, sto)] = some (qA ⟨h, m, out, n, sto⟩) := by
  obtain ⟨it, hi, hz⟩ := info_zero zQ
  have z0 := h0_ok
  rw [built_five (n := 37) hi Tryd.underlying101 hz (ps := [(0, 37), (37, 1), (38, 1), (39, 1), (40, 1)]) (by kernel_rfl) rfl rfl rfl rfl rfl (hA h) (hA_size o) m out (.int .i64 n) sto h1 h2 rfl h3 (by show (qA _).size = 41; exact qA_size z0)]
  have c0 : (Value.agg (qA ⟨h0, nilS, nilS, 0, nilS⟩)).cells = qA ⟨h0, nilS, nilS, 0, nilS⟩ := rfl
  rw [c0, fold_hart o _ z0]
  have l := hL_len o
  unfold qA
  simp only [List.setIfInBounds_toArray, List.set_append_right _ _ (show (hL h).length ≤ 37 by omega), List.set_append_right _ _ (show (hL h).length ≤ 38 by omega), List.set_append_right _ _ (show (hL h).length ≤ 39 by omega), List.set_append_right _ _ (show (hL h).length ≤ 40 by omega), l]
  rfl
end Go.Proofs.YtdiofidmlgliiaaDoor.Mc
/-
  What Board's Work answers: what its hart does in so many steps ('wk').
-/
namespace Go.Proofs.YtdiofidmlgliiaaDoor.Mc
open Go.ChangeShapes Go.WideShapes Go.ChangeAt Go.RowKit Mm Hh Hc
set_option linter.unusedVariables false
set_option linter.unusedSimpArgs false

variable {ty : Nat} {rs : List Value}
theorem yieldsIf_build {P : Program} {ops : Array Oper} {S : World → Prop} {o : Oper} {a : Act} (hw : Region.wanted o (yielded ops a.tmps) = true) (t : TypeId) (parts : Array (Nat × Operand)) (ho : o.op = .build t parts)
    (cells : Array Value) (hf : P.built t (parts.map fun (i, x) => (i, a.eval x)).toList = some cells) : YieldsIf P ops S o (.agg cells) a :=
  .inl ⟨hw, fun w _ => by
    unfold execOp
    simp only [ho, Sem.run_bind, run_build w t _ _ hf, Result.andThen_ok]
    rfl⟩
/-- In world w, what hart d did is x. -/
structure Dq (w : World) (base : Nat) (d : Qv) (x : Wk) : Prop where
  hh : d.h = x.h
  n : d.n = x.n
  mem : Own w 0 d.m x.m
  out : w.ownsRow base 59 1 d.out x.out.length (x.out.map (Value.int .u32))
  sto : w.ownsRow base 143 2 d.sto x.sto.length (rgs x.sto)
theorem owns_cells {w : World} {base e sz n : Nat} {v : Value} {xs : List Value} (h : w.ownsRow base e sz v n xs) : v.cells = #[v] ∧ v.oneCell' = true ∧ ∃ a c, v = .slice a n c := by
  rcases h.2 with ⟨rfl, rfl⟩ | ⟨g, cap, _, rfl, _⟩
  · exact ⟨rfl, rfl, none, 0, rfl⟩
  · exact ⟨rfl, rfl, _, cap, rfl⟩
theorem heap3_new (w : World) (a b c : Obj) : (((w.alloc a).alloc b).alloc c).drew.heap[w.heap.size + 2]? = some c := by
  have := heap_alloc_new ((w.alloc a).alloc b) c
  have e : ((w.alloc a).alloc b).heap.size = w.heap.size + 2 := by simp
  rw [e] at this
  exact this
theorem heap3_gr (w : World) (a b c : Obj) : Gr w (((w.alloc a).alloc b).alloc c).drew := Gr.drew (Gr.alloc (Gr.alloc (Gr.alloc (Gr.refl _) _) _) _)
theorem heap3_old (w : World) (A : Array Value) (t : Nat) (b c : Obj) : (((w.alloc (.cells A t)).alloc b).alloc c).drew.heap[w.heap.size]? = some (.cells A t (0, 0)) := Hr.heap_of_gr (Gr.drew (Gr.alloc (Gr.refl _) _)) (heap_alloc2_old w _ _)
theorem heap3_mid (w : World) (a : Obj) (A : Array Value) (t : Nat) (c : Obj) : (((w.alloc a).alloc (.cells A t)).alloc c).drew.heap[w.heap.size + 1]? = some (.cells A t (0, 0)) := Hr.heap_of_gr (Gr.drew (Gr.alloc (Gr.refl _) _)) (heap_alloc2_new w _ _)
theorem Gr.toBelow {w w' : World} (h : Below w.heap.size w w') : Gr w w' := h
set_option maxHeartbeats 2000000 in
set_option maxRecDepth 100000 in
theorem Work_gen {w : World} {base g gh hc : Nat} {M O : Value} {s : Sh} (B : Bw ty rs w base g M gh hc O s) {c mn : Nat} (F : Fit s c mn) (hmn : mn ≤ 4096) (T : TT w w.heap.size) {k n : Nat} (hk : k < c) (hc4 : c ≤ 4) (hn : n ≤ 400)
    (ST : ∀ (x : Wk) (W : World), WOk x mn → x.n < n → (x.n = 0 → x = w0 s k) → In W w.heap.size (w.heap.size + 2) x.h x.m x.out x.sto → TT W w.heap.size → Calls Tryd.prog 74 #[.pointer (some ⟨w.heap.size + 2, 0, none⟩)] W fun e w' => e = .returned (.tuple #[]) ∧ In w' w.heap.size (w.heap.size + 2) (stp x.h x.m).h (stp x.h x.m).m (x.out ++ (stp x.h x.m).out) (x.sto ++ (stp x.h x.m).sto) ∧ Fr w.heap.size W w') :
    Calls Tryd.prog 41 #[.pointer (some ⟨g, 0, none⟩), .agg #[.int .i64 k, .int .i64 n]] w fun e w' => ∃ d, e = .returned (.agg (qA d)) ∧ d.h.Ok ∧ Dq w' w.heap.size d (wk (w0 s k) n) ∧ Gr w w' := by
  have hl : k < s.hs.length := by rw [F.len]; exact hk
  have eh : s.hs[k]? = some (at' s k) := by unfold at'; rw [List.getElem?_eq_getElem hl]; simp [List.getD, hl]
  have W0 := w0_ok F hk
  have okh : (at' s k).Ok := W0.ok
  have RG : Hid (w.rangeAt gh (k * 37) (hL (at' s k))) := B.row.range eh
  obtain ⟨ma, mc, rfl, _⟩ := B.mem.mem
  have hml : s.m.length = mn := F.mem
  have HOM : Hid (Own w 0 (.slice ma mn mc) s.m) := by unfold Hid; rw [← hml]; exact B.mem
  have HB0 : Hid (w.cell? ⟨g, 0, none⟩ = some (.slice ma mn mc)) := by have := B.c0; rw [hml] at this; exact this
  have HB1 : Hid (w.cell? ⟨g, 1, none⟩ = some (.slice (some ⟨gh, 0, none⟩) c hc)) := by have := B.c1; rw [F.len] at this; exact this
  have HT : Hid (TT w w.heap.size) := T
  have HSt : Hid _ := ST
  clear ST
  have hgl : g < w.heap.size := B.lt
  have hghl : gh < w.heap.size := by obtain ⟨_, e⟩ := B.row.row; exact (Array.getElem?_eq_some_iff.1 e).1
  have HX : Hid (w0 s k = ⟨at' s k, s.m, [], [], 0⟩) := rfl
  have HW0 : Hid (WOk (w0 s k) mn) := W0
  have HLL : Hid ((hL (at' s k)).length = 37) := hL_len okh
  have HOK : Hid (at' s k).Ok := okh
  clear B F T hml W0 okh eh hl
  generalize at' s k = h at *
  generalize w0 s k = x0 at *
  generalize s.m = l at *
  have HBu : Hid (Tryd.prog.built 146 [(0, .agg (hL h).toArray), (1, .slice ma mn mc)] = some (cA ⟨h, .slice ma mn mc, nilS, nilS⟩)) := built_core HOK.out _ rfl
  have HZc : Hid ((cA ⟨h, .slice ma mn mc, nilS, nilS⟩).size = 40) := cA_size HOK.out
  have HOc : Hid ((cA ⟨h, .slice ma mn mc, nilS, nilS⟩).all (·.oneCell') = true) := one_cA _ rfl rfl rfl
  have HSG : Hid (∀ W : World, Gr w W → W.heap[w.heap.size]? = some (.cells #[.int .i64 k, .int .i64 n] 56 (0, 0)) → W.cell? ⟨g, 1, none⟩ = some (.slice (some ⟨gh, 0, none⟩) c hc) ∧ W.cell? ⟨w.heap.size, 0, none⟩ = some (.int .i64 k) ∧ W.rangeAt gh (k * 37) (hL h) ∧ W.cell? ⟨g, 0, none⟩ = some (.slice ma mn mc)) := fun W G e =>
    ⟨(G.cell _ (by exact hgl)).trans HB1.out, cell_of_row _ _ _ _ _ _ e, fun j v hv => (G.cell _ (by exact hghl)).trans (RG.out j v hv), (G.cell _ (by exact hgl)).trans HB0.out⟩
  go_enter Tryd.func41, Tryd.ntmps41
  go_wp2_with fail
  refine wp_region_held_drew (S := fun W => W.cell? ⟨g, 1, none⟩ = some (.slice (some ⟨gh, 0, none⟩) c hc) ∧ W.cell? ⟨w.heap.size, 0, none⟩ = some (.int .i64 k) ∧ W.rangeAt gh (k * 37) (hL h) ∧ W.cell? ⟨g, 0, none⟩ = some (.slice ma mn mc)) (by kernel_rfl) ?_ (fun hHeld => ?_)
  · exact HSG.out _ (((Gr.refl _).alloc _).alloc _).drew (Hr.heap_of_gr (Gr.refl _).drew (heap_alloc2_old w _ _))
  have HS0 : Hid _ := hHeld
  clear hHeld
  refine wpAnyH_take (i := 0) (v := .pointer (some ⟨g, 0, none⟩)) rfl (by kernel_rfl) (by kernel_rfl) (by kernel_rfl) (fun _ _ _ h => h) (Or.inl ⟨by rfl, fun W hW => by obtain ⟨q0, q1, q2, q3⟩ := hW; go_simp⟩) HS0.out ?_
  simp only [Act.put, List.setIfInBounds_toArray, List.set_cons_zero, List.set_cons_succ]
  refine wpAnyH_take (i := 1) (v := .pointer (some ⟨g, 0, none⟩)) rfl (by kernel_rfl) (by kernel_rfl) (by kernel_rfl) (fun _ _ _ h => h) (Or.inl ⟨by rfl, fun W hW => by obtain ⟨q0, q1, q2, q3⟩ := hW; go_simp⟩) HS0.out ?_
  simp only [Act.put, List.setIfInBounds_toArray, List.set_cons_zero, List.set_cons_succ]
  refine wpAnyH_take (i := 2) (v := .pointer (some ⟨g, 0, none⟩)) rfl (by kernel_rfl) (by kernel_rfl) (by kernel_rfl) (fun _ _ _ h => h) (Or.inl ⟨by rfl, fun W hW => by obtain ⟨q0, q1, q2, q3⟩ := hW; go_simp⟩) HS0.out ?_
  simp only [Act.put, List.setIfInBounds_toArray, List.set_cons_zero, List.set_cons_succ]
  refine wpAnyH_take (i := 3) (v := .pointer (some ⟨g, 0, none⟩)) rfl (by kernel_rfl) (by kernel_rfl) (by kernel_rfl) (fun _ _ _ h => h) (Or.inl ⟨by rfl, fun W hW => by obtain ⟨q0, q1, q2, q3⟩ := hW; go_simp⟩) HS0.out ?_
  simp only [Act.put, List.setIfInBounds_toArray, List.set_cons_zero, List.set_cons_succ]
  refine wpAnyH_take (i := 4) (v := .pointer (some ⟨g, 1, none⟩)) rfl (by kernel_rfl) (by kernel_rfl) (by kernel_rfl) (fun _ _ _ h => h) (Or.inl ⟨by rfl, fun W hW => by obtain ⟨q0, q1, q2, q3⟩ := hW; go_simp⟩) HS0.out ?_
  simp only [Act.put, List.setIfInBounds_toArray, List.set_cons_zero, List.set_cons_succ]
  refine wpAnyH_take (i := 5) (v := .slice (some ⟨gh, 0, none⟩) c hc) rfl (by kernel_rfl) (by kernel_rfl) (by kernel_rfl) (fun _ _ _ h => h) (Or.inl ⟨by rfl, fun W hW => by obtain ⟨q0, q1, q2, q3⟩ := hW; go_simp⟩) HS0.out ?_
  simp only [Act.put, List.setIfInBounds_toArray, List.set_cons_zero, List.set_cons_succ]
  refine wpAnyH_take (i := 6) (v := .pointer (some ⟨w.heap.size, 0, none⟩)) rfl (by kernel_rfl) (by kernel_rfl) (by kernel_rfl) (fun _ _ _ h => h) (Or.inl ⟨by rfl, fun W hW => by obtain ⟨q0, q1, q2, q3⟩ := hW; go_simp⟩) HS0.out ?_
  simp only [Act.put, List.setIfInBounds_toArray, List.set_cons_zero, List.set_cons_succ]
  refine wpAnyH_take (i := 7) (v := .int .i64 k) rfl (by kernel_rfl) (by kernel_rfl) (by kernel_rfl) (fun _ _ _ h => h) (Or.inl ⟨by rfl, fun W hW => by obtain ⟨q0, q1, q2, q3⟩ := hW; go_simp⟩) HS0.out ?_
  simp only [Act.put, List.setIfInBounds_toArray, List.set_cons_zero, List.set_cons_succ]
  refine wpAnyH_take (i := 8) (v := .pointer (some ⟨gh, k * 37, none⟩)) rfl (by kernel_rfl) (by kernel_rfl) (by kernel_rfl) (fun _ _ _ h => h) (Or.inl ⟨by rfl, fun W hW => by obtain ⟨q0, q1, q2, q3⟩ := hW; go_simp⟩) HS0.out ?_
  simp only [Act.put, List.setIfInBounds_toArray, List.set_cons_zero, List.set_cons_succ]
  refine wpAnyH_take (i := 9) (v := .agg (hL h).toArray) rfl (by kernel_rfl) (by kernel_rfl) (by kernel_rfl) (fun _ _ _ h => h) ?hy HS0.out ?_
  case hy => exact yieldsIf_load_mid (by rfl) 70 (.tmp 15) rfl gh (k * 37) (by simp [Act.eval]) (hL h) _ (fun W hW => hW.2.2.1) Tryd.underlying70 rfl (by rw [HLL.out]; exact iH)
  simp only [Act.put, List.setIfInBounds_toArray, List.set_cons_zero, List.set_cons_succ]
  refine wpAnyH_take (i := 10) (v := .pointer (some ⟨g, 0, none⟩)) rfl (by kernel_rfl) (by kernel_rfl) (by kernel_rfl) (fun _ _ _ h => h) (Or.inl ⟨by rfl, fun W hW => by obtain ⟨q0, q1, q2, q3⟩ := hW; go_simp⟩) HS0.out ?_
  simp only [Act.put, List.setIfInBounds_toArray, List.set_cons_zero, List.set_cons_succ]
  refine wpAnyH_take (i := 11) (v := .pointer (some ⟨g, 0, none⟩)) rfl (by kernel_rfl) (by kernel_rfl) (by kernel_rfl) (fun _ _ _ h => h) (Or.inl ⟨by rfl, fun W hW => by obtain ⟨q0, q1, q2, q3⟩ := hW; go_simp⟩) HS0.out ?_
  simp only [Act.put, List.setIfInBounds_toArray, List.set_cons_zero, List.set_cons_succ]
  refine wpAnyH_take (i := 12) (v := .pointer (some ⟨g, 0, none⟩)) rfl (by kernel_rfl) (by kernel_rfl) (by kernel_rfl) (fun _ _ _ h => h) (Or.inl ⟨by rfl, fun W hW => by obtain ⟨q0, q1, q2, q3⟩ := hW; go_simp⟩) HS0.out ?_
  simp only [Act.put, List.setIfInBounds_toArray, List.set_cons_zero, List.set_cons_succ]
  refine wpAnyH_take (i := 13) (v := .pointer (some ⟨g, 0, none⟩)) rfl (by kernel_rfl) (by kernel_rfl) (by kernel_rfl) (fun _ _ _ h => h) (Or.inl ⟨by rfl, fun W hW => by obtain ⟨q0, q1, q2, q3⟩ := hW; go_simp⟩) HS0.out ?_
  simp only [Act.put, List.setIfInBounds_toArray, List.set_cons_zero, List.set_cons_succ]
  refine wpAnyH_take (i := 14) (v := .pointer (some ⟨g, 0, none⟩)) rfl (by kernel_rfl) (by kernel_rfl) (by kernel_rfl) (fun _ _ _ h => h) (Or.inl ⟨by rfl, fun W hW => by obtain ⟨q0, q1, q2, q3⟩ := hW; go_simp⟩) HS0.out ?_
  simp only [Act.put, List.setIfInBounds_toArray, List.set_cons_zero, List.set_cons_succ]
  refine wpAnyH_take (i := 15) (v := .slice ma mn mc) rfl (by kernel_rfl) (by kernel_rfl) (by kernel_rfl) (fun _ _ _ h => h) (Or.inl ⟨by rfl, fun W hW => by obtain ⟨q0, q1, q2, q3⟩ := hW; go_simp⟩) HS0.out ?_
  simp only [Act.put, List.setIfInBounds_toArray, List.set_cons_zero, List.set_cons_succ]
  refine wpAnyH_take (i := 16) (v := .agg (cA ⟨h, .slice ma mn mc, nilS, nilS⟩)) rfl (by kernel_rfl) (by kernel_rfl) (by kernel_rfl) (fun _ _ _ h => h) ?hy HS0.out ?_
  case hy => exact yieldsIf_build (by rfl) 146 _ rfl _ (by simpa [Act.eval] using HBu.out)
  simp only [Act.put, List.setIfInBounds_toArray, List.set_cons_zero, List.set_cons_succ]
  refine wpAnyH_ready (rs := [17]) (by kernel_rfl) (by simp) ?_
  refine AllReadyH.cons rfl (fun K hK => ?_) AllReadyH.nil
  go_simp
  refine hK.out _ _ ?_ (fun _ => ?_)
  · exact HSG.out _ (heap3_gr _ _ _ _) (heap3_old _ _ _ _ _)
  clear hK K HS0
  refine wpAnyH_ready (rs := [18]) (by kernel_rfl) (by simp) ?_
  refine AllReadyH.cons rfl (fun K hK => ?_) AllReadyH.nil
  refine step_store rfl 146 (.tmp 5) (.tmp 23) rfl (w.heap.size + 2) (cA ⟨h, .slice ma mn mc, nilS, nilS⟩) (by simp [Act.eval]) (by simp [Act.eval]) 146 (cA ⟨h0, nilS, nilS, nilS⟩) (heap3_new _ _ _ _) (by rw [HZc.out]; exact iC) (by rw [HZc.out]; rfl) HOc.out ?_
  refine hK.out _ _ ?_ (fun _ => ?_)
  · refine HSG.out _ (gr_setRow (heap3_gr _ _ _ _) (by omega) _) ?_
    rw [setRow_other _ _ _ _ (by omega)]
    exact heap3_old _ _ _ _ _
  clear hK K
  refine wpAnyH_done (by kernel_rfl) ?_ _
  have HIn : Hid (∀ o1 o2 : Obj, Inv ((((w.alloc o1).alloc o2).alloc (.cells (cA ⟨h0, nilS, nilS, nilS⟩) 146)).drew.setRow (w.heap.size + 2) (cA ⟨h, .slice ma mn mc, nilS, nilS⟩)) w.heap.size (w.heap.size + 2) ⟨h, .slice ma mn mc, nilS, nilS⟩ l [] []) := fun o1 o2 => by
    refine ⟨HOK.out, by omega, setRow_heap _ _ _ _ _ (0, 0) (heap3_new _ _ _ _), HOM.out.to fun q ob f hq => ?_, World.ownsRow_nil _ _ _ _, World.ownsRow_nil _ _ _ _⟩
    have := (Array.getElem?_eq_some_iff.1 hq).1
    rw [setRow_other _ _ _ _ (by omega)]
    exact (heap3_gr w o1 o2 _).block q this
  have HG4 : Hid (∀ o1 o2 o3 : Obj, Gr w ((((w.alloc o1).alloc o2).alloc o3).drew.setRow (w.heap.size + 2) (cA ⟨h, .slice ma mn mc, nilS, nilS⟩))) := fun _ _ _ => gr_setRow (heap3_gr _ _ _ _) (by omega) _
  go_wp2_with fail
  go_loopw [6] (fun i wr => ∃ x : Wk, i = .int .i64 x.n ∧ x.n ≤ n ∧ wk x0 n = wk x (n - x.n) ∧ WOk x mn ∧ (x.n = 0 → x = x0) ∧ In wr w.heap.size (w.heap.size + 2) x.h x.m x.out x.sto ∧ Fr w.heap.size w wr ∧ wr.heap[w.heap.size]? = some (.cells #[.int .i64 k, .int .i64 n] 56 (0, 0)) ∧ ∃ Z : Array Value, Z.size = 41 ∧ wr.heap[w.heap.size + 1]? = some (.cells Z 101 (0, 0))) (fun i _ => n - (intOf i).toNat)
  case atStart =>
    refine ⟨x0, by rw [HX.out]; rfl, by rw [HX.out]; exact Nat.zero_le _, by rw [HX.out]; rfl, HW0.out, fun _ => rfl, ?_, Fr.ofGr (HG4.out _ _ _) (Nat.le_refl _), ?_, qA ⟨h0, nilS, nilS, 0, nilS⟩, qA_size (d := ⟨h0, nilS, nilS, 0, nilS⟩) h0_ok, ?_⟩
    · rw [HX.out]; exact (HIn.out _ _).inn
    · rw [setRow_other _ _ _ _ (by omega)]; exact heap3_old _ _ _ _ _
    · rw [setRow_other _ _ _ _ (by omega)]; exact heap3_mid _ _ _ _ _
  case round =>
    obtain ⟨x, rfl, hxn, hxw, ok, hx0, I, Fq, P4, Z, hZ, D4⟩ := hrel
    have HX0 : Hid _ := hx0
    have HI : Hid (In wr w.heap.size (w.heap.size + 2) x.h x.m x.out x.sto) := I
    have HF : Hid (Fr w.heap.size w wr) := Fq
    have HPk : Hid (wr.heap[w.heap.size]? = some (.cells #[.int .i64 k, .int .i64 n] 56 (0, 0))) := P4
    have HD4 : Hid (wr.heap[w.heap.size + 1]? = some (.cells Z 101 (0, 0))) := D4
    have HZ : Hid (Z.size = 41) := hZ
    have HXW : Hid (wk x0 n = wk x (n - x.n)) := hxw
    have HWO : Hid (WOk x mn) := ok
    have k1 : wr.cell? ⟨w.heap.size, 1, none⟩ = some (.int .i64 n) := cell_of_row _ _ _ _ _ _ P4
    have k35 : wr.cell? ⟨w.heap.size + 2, 35, none⟩ = some (.int .i64 x.h.state) := by
      obtain ⟨cv, e, J⟩ := HI.out
      rw [← e]; exact (J.hcell (by omega)).trans (hL_fld J.ok 3)
    clear hxw ok hx0 I Fq P4 D4 hZ HIn HG4 HSG HB0 HB1 HOM RG
    by_cases hgo : x.n < n ∧ x.h.state = 0
    · obtain ⟨hlt, hst⟩ := hgo
      have hst2 : Hid (x.h.state = 0) := hst
      rw [hst] at k35
      clear hst
      have HST : Hid (Calls Tryd.prog 74 #[.pointer (some ⟨w.heap.size + 2, 0, none⟩)] wr fun e w' => e = .returned (.tuple #[]) ∧ In w' w.heap.size (w.heap.size + 2) (stp x.h x.m).h (stp x.h x.m).m (x.out ++ (stp x.h x.m).out) (x.sto ++ (stp x.h x.m).sto) ∧ Fr w.heap.size wr w') := HSt.out x wr HWO.out hlt HX0.out HI.out (HT.out.of HF.out)
      go_wp2_with fail
      refine Calls.mono HST.out ?_
      rintro e w1 ⟨rfl, I1, F1⟩
      have HI1 : Hid (In w1 w.heap.size (w.heap.size + 2) (wk1 x).h (wk1 x).m (wk1 x).out (wk1 x).sto) := I1
      have HF1 : Hid (Fr w.heap.size w w1) := HF.out.trans F1
      have HP1 : Hid (w1.heap[w.heap.size]? = some (.cells #[.int .i64 k, .int .i64 n] 56 (0, 0))) := (F1.keep _ _ _ _ HPk.out (by decide) (by decide) (by decide)).trans HPk.out
      have HD1 : Hid (w1.heap[w.heap.size + 1]? = some (.cells Z 101 (0, 0))) := (F1.keep _ _ _ _ HD4.out (by decide) (by decide) (by decide)).trans HD4.out
      have HX1 : Hid (wk x0 n = wk (wk1 x) (n - (wk1 x).n)) := by
        unfold Hid
        rw [HXW.out, show n - x.n = (n - (x.n + 1)) + 1 by omega, wk_go hst2.out]
        rfl
      clear I1 F1 HST HI HF HPk HD4 k1 k35 HXW
      go_wp2_with fail
      go_roundw
      case rel => exact ⟨wk1 x, by show Value.int .i64 _ = .int .i64 ((x.n + 1 : Nat) : Int); go_num, by show x.n + 1 ≤ n; omega, HX1.out, wk1_ok HWO.out hst2.out, fun e => absurd e (Nat.succ_ne_zero _), HI1.out, HF1.out, HP1.out, Z, HZ.out, HD1.out⟩
      case measure => simp [intOf]; omega
    · have HE : Hid (wk x0 n = x) := by
        unfold Hid
        rw [HXW.out]
        by_cases h1 : x.n < n
        · exact wk_stop (fun e => hgo ⟨h1, e⟩) _
        · rw [show n - x.n = 0 by omega]; rfl
      have hc2 : ¬ x.n < n ∨ (x.n < n ∧ (x.h.state == 0) = false) := by
        by_cases h1 : x.n < n
        · exact .inr ⟨h1, by simpa using fun e => hgo ⟨h1, e⟩⟩
        · exact .inl h1
      clear hgo HXW
      obtain ⟨cv, hcv, J⟩ := HI.out
      have HOKx : Hid x.h.Ok := HWO.out.ok
      have HLx : Hid ((hL x.h).length = 37) := hL_len HOKx.out
      have HRx : Hid (wr.rangeAt (w.heap.size + 2) 0 (hL x.h)) := fun j v hv => by
        have hj : j < 37 := by have := (List.getElem?_eq_some_iff.1 hv).1; rwa [HLx.out] at this
        rw [Nat.zero_add, J.hcell hj, hcv]; exact hv
      have k37 : wr.cell? ⟨w.heap.size + 2, 37, none⟩ = some cv.m := J.fcell 0
      have k38 : wr.cell? ⟨w.heap.size + 2, 38, none⟩ = some cv.out := J.fcell 1
      have k39 : wr.cell? ⟨w.heap.size + 2, 39, none⟩ = some cv.sto := J.fcell 2
      have HQ : Hid (Dq wr w.heap.size ⟨x.h, cv.m, cv.out, x.n, cv.sto⟩ x) := ⟨rfl, rfl, J.mem, J.out, J.sto⟩
      have HBd : Hid (Tryd.prog.built 101 [(0, .agg (hL x.h).toArray), (1, cv.m), (2, cv.out), (3, .int .i64 x.n), (4, cv.sto)] = some (qA ⟨x.h, cv.m, cv.out, x.n, cv.sto⟩)) := built_did5 HOKx.out _ _ _ _ HQ.out.mem.cells.1 (owns_cells HQ.out.out).1 (owns_cells HQ.out.sto).1
      have HOd : Hid ((qA ⟨x.h, cv.m, cv.out, x.n, cv.sto⟩).all (·.oneCell') = true) := one_qA HQ.out.mem.cells.2 (owns_cells HQ.out.out).2.1 (owns_cells HQ.out.sto).2.1
      have HSd : Hid ((qA ⟨x.h, cv.m, cv.out, x.n, cv.sto⟩).size = 41) := qA_size HOKx.out
      clear J hcv HI
      generalize hQA : qA ⟨x.h, cv.m, cv.out, x.n, cv.sto⟩ = QA at *
      have HQA : Hid (qA ⟨x.h, cv.m, cv.out, x.n, cv.sto⟩ = QA) := hQA
      clear hQA
      rcases hc2 with h1 | ⟨h1, h2⟩
      all_goals
        go_wp2_with (first
          | (refine wpList_load_mid rfl 70 _ rfl (w.heap.size + 2) 0 rfl (hL x.h) _ ?r1 Tryd.underlying70 rfl (by rw [HLx.out]; exact iH) ?_; (case r1 => exact HRx.out))
          | (refine wpList_buildTo rfl 101 _ rfl _ rfl QA (by have := HBd.out; simp [Act.eval, Act.put]; exact this) ?_)
          | (refine wpList_store_row rfl 101 _ _ rfl (w.heap.size + 1) QA rfl rfl 101 Z ?r2 (by rw [HSd.out]; exact iQ) (by rw [HSd.out, HZ.out]) HOd.out ?_; (case r2 => exact HD4.out)))
        refine bodyPost_ret (v := .agg QA) (results_cell_row rfl _ _ _ _ _ (0, 0) _ rfl (setRow_heap _ _ _ _ _ (0, 0) HD4.out) Tryd.underlying101 rfl (by rw [HSd.out]; exact iQ)) rfl ⟨⟨x.h, cv.m, cv.out, x.n, cv.sto⟩, by rw [HQA.out], HOKx.out, ?_, ?_⟩
        · rw [HE.out]
          refine ⟨rfl, rfl, ?_, ?_, ?_⟩
          · exact HQ.out.mem.to fun q ob f hq => setRow_other _ _ _ _ (ne_of_types hq HD4.out (by decide))
          · exact owns_to HQ.out.out fun q ob f hq => setRow_other _ _ _ _ (ne_of_types hq HD4.out (by decide))
          · exact owns_to HQ.out.sto fun q ob f hq => setRow_other _ _ _ _ (ne_of_types hq HD4.out (by decide))
        · exact gr_setRow HF.out.below (Nat.le_succ _) _
theorem Work_any {w : World} {base g gh hc : Nat} {M O : Value} {s : Sh} (B : Bw ty rs w base g M gh hc O s) {c mn : Nat} (F : Fit s c mn) (hmn : mn ≤ 4096) (T : TT w w.heap.size) {k n : Nat} (hk : k < c) (hc4 : c ≤ 4) (hn : n ≤ 400) :
    Calls Tryd.prog 41 #[.pointer (some ⟨g, 0, none⟩), .agg #[.int .i64 k, .int .i64 n]] w fun e w' => ∃ d, e = .returned (.agg (qA d)) ∧ d.h.Ok ∧ Dq w' w.heap.size d (wk (w0 s k) n) ∧ Gr w w' := 
  Work_gen B F hmn T hk hc4 hn fun x W ok hx _ I T => Step_any I T (by rw [ok.mem]; omega) (by have := ok.sto; omega) (by have := ok.out; omega)
/-- One step, where no instruction stands at the hart's PC. -/
theorem Work_trap {w : World} {base g gh hc : Nat} {M O : Value} {s : Sh} (B : Bw ty rs w base g M gh hc O s) {c mn : Nat} (F : Fit s c mn) (hmn : mn ≤ 4096) (T : TT w w.heap.size) {k : Nat} (hk : k < c) (hc4 : c ≤ 4) (hf : ¬ Bk.ftC s.m (at' s k).pc = 0) :
    Calls Tryd.prog 41 #[.pointer (some ⟨g, 0, none⟩), .agg #[.int .i64 k, .int .i64 1]] w fun e w' => ∃ d, e = .returned (.agg (qA d)) ∧ d.h.Ok ∧ Dq w' w.heap.size d (wk (w0 s k) 1) ∧ Gr w w' := 
  Work_gen (n := 1) B F hmn T hk hc4 (by omega) fun x W ok hx h0 I T => Step_trap I T (by rw [ok.mem]; omega) (by rw [h0 (by omega)]; exact hf)
end Go.Proofs.YtdiofidmlgliiaaDoor.Mc
/-
  What Board's Lost answers: the harts that lose what they have reserved ('lostU').
-/
namespace Go.Proofs.YtdiofidmlgliiaaDoor.Mc
open Go.ChangeShapes Go.WideShapes Go.ChangeAt Go.RowKit Mm Hh Hc
set_option linter.unusedVariables false
set_option linter.unusedSimpArgs false

variable {ty : Nat} {rs : List Value}
def lsC (ls : List (Nat × Int)) : List Value := ls.flatMap fun q => [.int .i64 q.1, .int .u32 q.2]
theorem lsC_snoc (ls : List (Nat × Int)) (q : Nat × Int) : lsC (ls ++ [q]) = lsC ls ++ [.int .i64 q.1, .int .u32 q.2] := by simp [lsC]
theorem lsC_len (ls : List (Nat × Int)) : (lsC ls).length = ls.length * 2 := by
  induction ls with
  | nil => rfl
  | cons p r ih => simp only [lsC, List.flatMap_cons, List.length_append, List.length_cons, List.length_nil] at ih ⊢; omega
theorem lsC_get : ∀ (ls : List (Nat × Int)) (i : Nat) (q : Nat × Int), ls[i]? = some q → (lsC ls)[i * 2]? = some (.int .i64 q.1) ∧ (lsC ls)[i * 2 + 1]? = some (.int .u32 q.2)
  | [], i, q, h => by simp at h
  | p :: r, 0, q, h => by simp at h; subst h; exact ⟨rfl, rfl⟩
  | p :: r, i + 1, q, h => by
    have ih := lsC_get r i q (by simpa using h)
    have e : lsC (p :: r) = [.int .i64 p.1, .int .u32 p.2] ++ lsC r := rfl
    rw [e, List.getElem?_append_right (by simp; omega), List.getElem?_append_right (by simp; omega)]
    simp only [List.length_cons, List.length_nil]
    rw [show (i + 1) * 2 - (0 + 1 + 1) = i * 2 by omega, show (i + 1) * 2 + 1 - (0 + 1 + 1) = i * 2 + 1 by omega]
    exact ih
theorem two_lost (a b : Int) : ∀ u ∈ [Value.int .i64 a, Value.int .u32 b], u.oneCell' = true := by
  intro u hu
  simp only [List.mem_cons, List.not_mem_nil, or_false] at hu
  rcases hu with rfl | rfl <;> rfl
theorem infoL : (Tryd.prog.info? 88).map (fun i => (i.zero, i.size, i.bytes)) = some (some (.agg #[.int .i64 0, .int .u32 0]), 2, 16) := by kernel_rfl
set_option maxHeartbeats 2000000 in
set_option maxRecDepth 100000 in
theorem Lost_any {w : World} {base g gh hc : Nat} {M O : Value} {s : Sh} (B : Bw ty rs w base g M gh hc O s) (hc4 : s.hs.length ≤ 4) (k : Nat) (p : Int × Int) (p0 : 0 ≤ p.1) (p1 : 0 < p.2) (p2 : p.1 + p.2 ≤ 4096) :
    Calls Tryd.prog 73 #[.pointer (some ⟨g, 0, none⟩), .int .i64 k, .agg #[.int .u32 p.1, .int .u32 (Wd.lo (p.1 + p.2))]] w fun e w' => ∃ v, e = .returned v ∧ w'.ownsRow w.heap.size 88 2 v (lostU k p s.hs s.hs.length).length (lsC (lostU k p s.hs s.hs.length)) ∧ Gr w w' := by
  have HR : Hid (HRow w gh s.hs) := B.row
  have hgl : g < w.heap.size := B.lt
  have hghl : gh < w.heap.size := by obtain ⟨_, e⟩ := B.row.row; exact (Array.getElem?_eq_some_iff.1 e).1
  have k1 : w.cell? ⟨g, 1, none⟩ = some (.slice (some ⟨gh, 0, none⟩) s.hs.length hc) := B.c1
  clear B
  have hlo : Wd.lo (p.1 + p.2) = p.1 + p.2 := by unfold Wd.lo; omega
  have HMe : Hid (∀ h : Hv, h.Ok → ∀ W : World, Calls Tryd.prog 102 #[.int .u32 h.heldAt, .agg #[.int .u32 p.1, .int .u32 (p.1 + p.2)]] W fun e w' => e = .returned (.bool (near h.heldAt p.1 p.2)) ∧ Gr W w') := fun h o W => by
    rw [meets_near o.at0 o.at1 p0 p1 p2 (Int.le_refl _)]
    exact meets_any o.at0 o.at1 p0 (by omega) W
  rw [hlo]
  obtain ⟨f, q⟩ := p
  simp only at *
  generalize hcc : s.hs.length = c at *
  have HC : Hid (s.hs.length = c) := hcc
  generalize s.hs = hs at *
  obtain ⟨i0, hi, hz0, hz1, hz2⟩ := info_parts infoL
  clear hlo hcc
  generalize hT : f + q = t at *
  clear hT
  go_enter Tryd.func73, Tryd.ntmps73
  go_wp2
  go_loopw [17, 7] (fun i v wr => ∃ (j : Nat) (L : Value), j ≤ c ∧ i = .int .i64 j ∧ L = v ∧ wr.ownsRow (w.heap.size + 1) 88 2 L (lostU k (f, q) hs j).length (lsC (lostU k (f, q) hs j)) ∧ Gr (w.alloc (.cells #[.int .u32 f, .int .u32 t] 143)) wr) (fun i _ _ => c - (intOf i).toNat)
  case atStart => exact ⟨0, _, Nat.zero_le _, rfl, rfl, World.ownsRow_nil _ _ _ _, Gr.refl _⟩
  case round =>
    obtain ⟨j, L, hj, rfl, rfl, hown, G⟩ := hrel
    have HO : Hid (wr.ownsRow (w.heap.size + 1) 88 2 L (lostU k (f, q) hs j).length (lsC (lostU k (f, q) hs j))) := hown
    have HG : Hid (Gr (w.alloc (.cells #[.int .u32 f, .int .u32 t] 143)) wr) := G
    clear hown G
    by_cases hlt : j < c
    · obtain ⟨h, hh⟩ : ∃ h, hs[j]? = some h := ⟨_, List.getElem?_eq_getElem (by rw [HC.out]; exact hlt)⟩
      have hgd : hs.getD j hN = h := by simp [List.getD, hh]
      have okh := HR.out.ok h (List.mem_of_getElem? hh)
      have hgw : Gr w wr := ((Gr.refl _).alloc _).trans HG.out
      have RG : Hid (wr.rangeAt gh (j * 37) (hL h)) := (HR.out.of hgw).range hh
      have HLL : Hid ((hL h).length = 37) := hL_len okh
      have HSZ : Hid ((hL h).toArray.size = 37) := by unfold Hid; simp [HLL.out]
      have HONE : Hid ((hL h).toArray.all (·.oneCell') = true) := one_hA h
      have HLU : Hid (lostU k (f, q) hs (j + 1) = lostU k (f, q) hs j ++ (if loses k (f, q) j h = true then [(j, h.heldAt)] else [])) := by unfold Hid; rw [lostU, hgd]
      have hlu := lostU_len k (f, q) hs j
      have HME : Hid (∀ W : World, Calls Tryd.prog 102 #[.int .u32 h.heldAt, .agg #[.int .u32 f, .int .u32 t]] W fun e w' => e = .returned (.bool (near h.heldAt f q)) ∧ Gr W w') := HMe.out h okh
      have HW4 : Hid (∀ Y : Array Value, Gr wr ((wr.alloc (.cells Y 70)).setRow wr.heap.size (hL h).toArray)) := fun Y => gr_setRow ((Gr.refl _).alloc _) (Nat.le_refl _) _
      have HX4 : Hid (∀ Y : Array Value, ((wr.alloc (.cells Y 70)).setRow wr.heap.size (hL h).toArray).heap[wr.heap.size]? = some (.cells (hL h).toArray 70 (0, 0))) := fun Y => setRow_heap _ _ _ _ _ (0, 0) (heap_alloc_new wr _)
      have k33 : ∀ Y : Array Value, ((wr.alloc (.cells Y 70)).setRow wr.heap.size (hL h).toArray).cell? ⟨wr.heap.size, 33, none⟩ = some (.bool h.held) := fun Y => (cell_of_row _ _ _ _ _ _ (HX4.out Y)).trans (by rw [List.getElem?_toArray]; exact hL_fld okh 1)
      have k34 : ∀ Y : Array Value, ((wr.alloc (.cells Y 70)).setRow wr.heap.size (hL h).toArray).cell? ⟨wr.heap.size, 34, none⟩ = some (.int .u32 h.heldAt) := fun Y => (cell_of_row _ _ _ _ _ _ (HX4.out Y)).trans (by rw [List.getElem?_toArray]; exact hL_fld okh 2)
      have HRg : Hid (wr.heap[w.heap.size]? = some (.cells #[.int .u32 f, .int .u32 t] 143 (0, 0))) := Hr.heap_of_gr HG.out (heap_alloc_new w _)
      have r0 : ∀ Y : Array Value, ((wr.alloc (.cells Y 70)).setRow wr.heap.size (hL h).toArray).cell? ⟨w.heap.size, 0, none⟩ = some (.int .u32 f) := fun Y => cell_of_row _ _ _ _ _ _ (Hr.heap_of_gr (HW4.out Y) HRg.out)
      have r1 : ∀ Y : Array Value, ((wr.alloc (.cells Y 70)).setRow wr.heap.size (hL h).toArray).cell? ⟨w.heap.size, 1, none⟩ = some (.int .u32 t) := fun Y => cell_of_row _ _ _ _ _ _ (Hr.heap_of_gr (HW4.out Y) HRg.out)
      have hwr : w.heap.size + 1 ≤ wr.heap.size := by have := HG.out.size; simpa using this
      have HB0 : Hid (0 ≤ h.heldAt) := okh.at0
      clear hh hgd okh hgw HR HMe HRg
      generalize lostU k (f, q) hs j = U at *
      generalize hhd : h.held = bh at *
      generalize hat : h.heldAt = ah at *
      have HLo : Hid (loses k (f, q) j h = (decide (j ≠ k) && (bh && near ah f q))) := by unfold Hid loses; rw [hhd, hat]
      clear hhd hat
      by_cases hjk : j = k
      · have hne : ((j : Int) != (k : Int)) = false := by simp [hjk]
        have HN : Hid (lostU k (f, q) hs (j + 1) = U) := by unfold Hid; rw [HLU.out, HLo.out, decide_eq_false (by simp [hjk])]; simp
        clear hjk HLU HLo
        go_wp2_with (first
            | (refine wpList_load_mid rfl 70 _ rfl gh (j * 37) rfl (hL h) _ ?r1 Tryd.underlying70 rfl (by rw [HLL.out]; exact iH) ?_; (case r1 => exact RG.out))
            | (refine wpList_store_row rfl 70 _ _ rfl wr.heap.size (hL h).toArray rfl rfl 70 _ (heap_alloc_new wr _) (by rw [HSZ.out]; exact iH) (by rw [HSZ.out]; rfl) HONE.out ?_))
        go_roundw
        case rel => exact ⟨j + 1, L, by omega, by go_num, rfl, by rw [HN.out]; exact owns_gr HO.out (HW4.out _), HG.out.trans (HW4.out _)⟩
        case measure => simp [intOf]; omega
      · have hne : ((j : Int) != (k : Int)) = true := by simp; omega
        cases bh with
        | false =>
          have HN : Hid (lostU k (f, q) hs (j + 1) = U) := by unfold Hid; rw [HLU.out, HLo.out]; simp
          clear hjk HLU HLo
          go_wp2_with (first
            | (refine wpList_load_mid rfl 70 _ rfl gh (j * 37) rfl (hL h) _ ?r1 Tryd.underlying70 rfl (by rw [HLL.out]; exact iH) ?_; (case r1 => exact RG.out))
            | (refine wpList_store_row rfl 70 _ _ rfl wr.heap.size (hL h).toArray rfl rfl 70 _ (heap_alloc_new wr _) (by rw [HSZ.out]; exact iH) (by rw [HSZ.out]; rfl) HONE.out ?_))
          go_roundw
          case rel => exact ⟨j + 1, L, by omega, by go_num, rfl, by rw [HN.out]; exact owns_gr HO.out (HW4.out _), HG.out.trans (HW4.out _)⟩
          case measure => simp [intOf]; omega
        | true =>
          cases hnr : near ah f q with
          | false =>
            have HM2 : Hid (∀ W : World, Calls Tryd.prog 102 #[.int .u32 ah, .agg #[.int .u32 f, .int .u32 t]] W fun e w' => e = .returned (.bool false) ∧ Gr W w') := fun W => by have := HME.out W; rwa [hnr] at this
            have HN : Hid (lostU k (f, q) hs (j + 1) = U) := by unfold Hid; rw [HLU.out, HLo.out, hnr]; simp
            clear hjk HLU HLo HME hnr
            go_wp2_with (first
            | (refine wpList_load_mid rfl 70 _ rfl gh (j * 37) rfl (hL h) _ ?r1 Tryd.underlying70 rfl (by rw [HLL.out]; exact iH) ?_; (case r1 => exact RG.out))
            | (refine wpList_store_row rfl 70 _ _ rfl wr.heap.size (hL h).toArray rfl rfl 70 _ (heap_alloc_new wr _) (by rw [HSZ.out]; exact iH) (by rw [HSZ.out]; rfl) HONE.out ?_))
            refine (HM2.out _).mono ?_
            rintro e w1 ⟨rfl, G1⟩
            have HG1 : Hid (Gr wr w1) := (HW4.out _).trans G1
            clear G1 HM2 HW4 HX4 k33 k34 r0 r1 RG
            go_wp2_with fail
            go_roundw
            case rel => exact ⟨j + 1, L, by omega, by go_num, rfl, by rw [HN.out]; exact owns_gr HO.out HG1.out, HG.out.trans HG1.out⟩
            case measure => simp [intOf]; omega
          | true =>
            have HM2 : Hid (∀ W : World, Calls Tryd.prog 102 #[.int .u32 ah, .agg #[.int .u32 f, .int .u32 t]] W fun e w' => e = .returned (.bool true) ∧ Gr W w') := fun W => by have := HME.out W; rwa [hnr] at this
            have HN : Hid (lostU k (f, q) hs (j + 1) = U ++ [(j, ah)]) := by unfold Hid; rw [HLU.out, HLo.out, hnr, decide_eq_true (show j ≠ k from hjk)]; simp
            clear hjk HLU HLo HME hnr
            go_wp2_with (first
            | (refine wpList_load_mid rfl 70 _ rfl gh (j * 37) rfl (hL h) _ ?r1 Tryd.underlying70 rfl (by rw [HLL.out]; exact iH) ?_; (case r1 => exact RG.out))
            | (refine wpList_store_row rfl 70 _ _ rfl wr.heap.size (hL h).toArray rfl rfl 70 _ (heap_alloc_new wr _) (by rw [HSZ.out]; exact iH) (by rw [HSZ.out]; rfl) HONE.out ?_))
            refine (HM2.out _).mono ?_
            rintro e w1 ⟨rfl, G1⟩
            have HG1 : Hid (Gr wr w1) := (HW4.out _).trans G1
            have q34 : w1.cell? ⟨wr.heap.size, 34, none⟩ = some (.int .u32 ah) := (G1.cell _ (by simp)).trans (k34 _)
            have hwr1 : wr.heap.size < w1.heap.size := by have := G1.size; simp at this; omega
            clear G1 HM2 HW4 HX4 k33 k34 r0 r1 RG
            go_wp2_with (at_builtin; refine wpList_append_own _ rfl (.tmp 35) (.tmp 40) 84 rfl (w.heap.size + 1) 88 i0 (.agg #[.int .i64 0, .int .u32 0]) 2 16 Tryd.underlying84 hi hz0 hz1 hz2 rfl (by decide) L U.length (lsC U) rfl (owns_gr HO.out (HG1.out.alloc _)) ⟨w1.heap.size, 0, none⟩ 1 1 [.int .i64 j, .int .u32 ah] rfl rfl (two_cells (by simp) (by simp)) (two_lost _ _) (by unfold maxLen; omega) (by omega) (by simp; omega) ?_; intro v' w2 hown hgrow _; have HO2 : Hid (w2.ownsRow (w.heap.size + 1) 88 2 v' (U.length + 1) (lsC U ++ [.int .i64 j, .int .u32 ah])) := hown; have HG2 : Hid (Gr (w.alloc (.cells #[.int .u32 f, .int .u32 t] 143)) w2) := (((HG.out.trans HG1.out).alloc _).grown hgrow (fun b e => by have := (HO.out.lt b e).1; simp; omega)); clear hown hgrow)
            go_roundw
            case rel => exact ⟨j + 1, v', by omega, by go_num, rfl, by rw [HN.out, lsC_snoc, List.length_append]; exact HO2.out, HG2.out⟩
            case measure => simp [intOf]; omega
    · have ej : j = c := by omega
      go_wp2_with fail
      go_ret
      refine ⟨L, rfl, ?_, ((Gr.refl _).alloc _).trans HG.out⟩
      have := HO.out
      rw [ej] at this
      refine ⟨this.1, ?_⟩
      rcases this.2 with h | ⟨g', cap, cur, hv, hb, r⟩
      · exact .inl h
      · exact .inr ⟨g', cap, cur, hv, by omega, r⟩
end Go.Proofs.YtdiofidmlgliiaaDoor.Mc
