/-
  What the method Step of package hart's core does: one step ('stp'), of every hart and memory.
-/
import Derived.Test.YtdiofidmlgliiaaDoorHm5
import Derived.Test.YtdiofidmlgliiaaDoorHf
import Derived.Test.YtdiofidmlgliiaaDoorHk
import Derived.Deep.RegionHeld3
namespace Go.Proofs.YtdiofidmlgliiaaDoor.Hc
open Go.ChangeShapes Go.WideShapes Go.ChangeAt Go.RowKit Mm Hh
set_option linter.unusedVariables false
set_option linter.unusedSimpArgs false

variable {w w' : World} {base g : Nat} {h : Hv} {l : List UInt8} {os : List Int} {ss : List (Int × Int)}
/-- All tables that a step reads hold what their initialisers lay. -/
structure TT (w : World) (base : Nat) : Prop where
  tab : Dw.Tab w
  tb : Tb w base
  b1 : 2 < base
  b2 : 4 < base
theorem TT.of (T : TT w base) (h : Fr base w w') : TT w' base :=
  ⟨⟨fun i n e => (Below.cell h.below (by exact T.b1)).trans (T.tab.shapes i n e), fun i n e => (Below.cell h.below (by exact T.b2)).trans (T.tab.uppers i n e)⟩, T.tb.of h, T.b1, T.b2⟩
theorem rd_bd (f x : Int) : 0 ≤ Dc.rdF f x ∧ Dc.rdF f x < 32 := by unfold Dc.rdF; split <;> omega
theorem r1_bd (f x : Int) : 0 ≤ Dc.rs1F f x ∧ Dc.rs1F f x < 32 := by unfold Dc.rs1F; split <;> omega
theorem r2_bd (f x : Int) : 0 ≤ Dc.rs2F f x ∧ Dc.rs2F f x < 32 := by unfold Dc.rs2F; split <;> omega
theorem imm_bd {v : Int} (f : Int) (h0 : 0 ≤ v) (h1 : v < 4294967296) : -2147483648 ≤ Dc.immF f v ∧ Dc.immF f v < 2147483648 := by
  unfold Dc.immF Wd.sg Dc.sgn
  repeat' split
  all_goals omega
theorem ret_eq {v v' : Value} (h : v = v') : Ending.returned v = .returned v' := by rw [h]

theorem held_store_row {P : Program} {md : Region.Mode} {ops : Array Oper} {Q : Exit → Act → World → Prop} {S : World → Prop} {fuel i : Nat} {listed : Array Bool} {o : Oper} {a : Act} (hr : Region.ready md ops listed = [i]) (hoi : ops[i]? = some o) (hg : o.guard = none) (ty : TypeId) (x y : Operand) (ho : o.op = .store ty x y)
    (g : Nat) (cells : Array Value) (hx : a.eval x = .pointer (some ⟨g, 0, none⟩)) (hy : a.eval y = .agg cells) (t : TypeId) (old : Array Value) (hb : w.heap[g]? = some (.cells old t (0, 0))) (hi : (P.info? ty).map (·.size) = some cells.size) (hold : old.size = cells.size) (h1 : cells.all (·.oneCell') = true)
    (hS : S (w.setRow g cells)) (h : wpAnyH P md ops Q S fuel (listed.setIfInBounds i true) (a.put o.dst undef) (w.setRow g cells)) : wpAnyH P md ops Q S (fuel + 1) listed a w :=
  wpAnyH_ready hr (by simp) (AllReadyH.cons hoi (fun K hK => step_store hg ty x y ho g cells hx hy t old hb hi hold h1 (hK.out _ _ hS fun _ => h)) AllReadyH.nil)
theorem at_world {p : World → Prop} {x : World} (F : World → Prop) (hF : F x) (h : ∀ y, F y → p y) : p x := h x hF
theorem heap_gr (g : Gr w w') {k : Nat} {x : Obj} (h : w.heap[k]? = some x) : w'.heap[k]? = some x := by
  rw [Below.block g k (gs h).1]; exact h
/-- A step, by what stands at the hart's PC. -/
theorem stp_no (hc : ¬ Bk.ftC l h.pc = 0) : stp h l = ⟨h.trap (Bk.ftC l h.pc), l, [], []⟩ := by
  unfold stp Bk.ftC at *
  by_cases ok : ldOk l 13 h.pc = true
  · rw [if_pos ok] at hc ⊢
    rw [if_pos ok]
    by_cases hd : Dc.dop (ldV l 13 h.pc) = 0
    · rw [if_pos hd]; unfold insW; rw [if_pos hd]
    · rw [if_neg hd] at hc; exact absurd rfl hc
  · rw [if_neg ok, if_neg ok]
theorem stp_yes (hc : Bk.ftC l h.pc = 0) : stp h l = ins h l (Dc.dop (ldV l 13 h.pc)) (Dc.rdF (Dc.frm (Dc.dop (ldV l 13 h.pc))) (ldV l 13 h.pc)) (Dc.rs1F (Dc.frm (Dc.dop (ldV l 13 h.pc))) (ldV l 13 h.pc)) (Dc.rs2F (Dc.frm (Dc.dop (ldV l 13 h.pc))) (ldV l 13 h.pc)) (Dc.immF (Dc.frm (Dc.dop (ldV l 13 h.pc))) (ldV l 13 h.pc)) := by
  unfold stp
  unfold Bk.ftC at hc
  by_cases ok : ldOk l 13 h.pc = true
  · rw [if_pos ok] at hc ⊢
    by_cases hd : Dc.dop (ldV l 13 h.pc) = 0
    · rw [if_pos hd] at hc; omega
    · unfold insW; rw [if_neg hd]
  · rw [if_neg ok] at hc; omega
set_option maxHeartbeats 2000000 in
set_option maxRecDepth 100000 in
theorem Step_gen {w : World} {base g : Nat} {h : Hv} {l : List UInt8} {os : List Int} {ss : List (Int × Int)} (I : In w base g h l os ss) (T : TT w base) (hl : l.length ≤ 140737488351232)
    (DO : Bk.ftC l h.pc = 0 → ∀ W, In W base g h l os ss → Tb W base → Calls Tryd.prog 105 #[.pointer (some ⟨g, 0, none⟩), Dw.decV (ldV l 13 h.pc)] W fun e w' => e = .returned (.tuple #[]) ∧ In w' base g (stp h l).h (stp h l).m (os ++ (stp h l).out) (ss ++ (stp h l).sto) ∧ Fr base W w') :
    Calls Tryd.prog 74 #[.pointer (some ⟨g, 0, none⟩)] w fun e w' => e = .returned (.tuple #[]) ∧ In w' base g (stp h l).h (stp h l).m (os ++ (stp h l).out) (ss ++ (stp h l).sto) ∧ Fr base w w' := by
  have Tr : Hid (∀ W, In W base g h l os ss → ∀ c, Calls Tryd.prog 104 #[.pointer (some ⟨g, 0, none⟩), .int .i64 c] W fun e w' => e = .returned (.tuple #[]) ∧ In w' base g (h.trap c) l os ss ∧ Ch g W w') := fun W I c => trap_any I c
  have HD : Hid _ := DO
  clear DO
  have HI : Hid (In w base g h l os ss) := I
  have HT : Hid (TT w base) := T
  obtain ⟨c0, rfl, J⟩ := I
  obtain ⟨ao, cap, hm, M⟩ := J.mem.mem
  have k37 : w.cell? ⟨g, 37, none⟩ = some (.slice ao l.length cap) := (J.fcell 0).trans (by rw [hm]; rfl)
  have k32 : w.cell? ⟨g, 32, none⟩ = some (.int .u32 c0.h.pc) := (J.hcell (by omega)).trans (hL_fld J.ok 0)
  have hbl : base ≤ w.heap.size := J.base_le
  have hgl : g < w.heap.size := J.lt
  have F : Hid (∀ W : World, Gr w W → Calls Tryd.prog 103 #[.slice ao l.length cap, .int .u32 c0.h.pc] W fun e w' => e = .returned (.tuple #[Dw.decV (ldV l 13 c0.h.pc), .int .i64 (Bk.ftC l c0.h.pc)]) ∧ Gr W w') := fun W G => Hf.Fetch_any cap c0.h.pc (M.of G) (T.of (Fr.ofGr G hbl)).tab hl J.ok.pc0 J.ok.pc1
  have HS13 : Hid (∀ W : World, Gr w W → W.cell? ⟨g, 37, none⟩ = some (.slice ao l.length cap) ∧ W.cell? ⟨g, 32, none⟩ = some (.int .u32 c0.h.pc)) := fun W G => ⟨(G.cell _ (by exact hgl)).trans k37, (G.cell _ (by exact hgl)).trans k32⟩
  have HN : Hid (¬ Bk.ftC l c0.h.pc = 0 → stp c0.h l = ⟨c0.h.trap (Bk.ftC l c0.h.pc), l, [], []⟩) := stp_no
  unfold Dw.decV Dw.insV at F HD
  generalize ldV l 13 c0.h.pc = x at *
  generalize stp c0.h l = Z at *
  clear J M hm T
  generalize Dc.rdF (Dc.frm (Dc.dop x)) x = x1 at *
  generalize Dc.rs1F (Dc.frm (Dc.dop x)) x = x2 at *
  generalize Dc.rs2F (Dc.frm (Dc.dop x)) x = x3 at *
  generalize Dc.immF (Dc.frm (Dc.dop x)) x = x4 at *
  generalize Dc.dop x = x0 at *
  generalize Bk.ftC l c0.h.pc = c at *
  generalize c0.h.pc = pc at *
  generalize c0.h = h at *
  go_enter Tryd.func74, Tryd.ntmps74
  go_wp2_with fail
  refine wp_region_held_drew (S := fun W => W.cell? ⟨g, 37, none⟩ = some (.slice ao l.length cap) ∧ W.cell? ⟨g, 32, none⟩ = some (.int .u32 pc)) (by kernel_rfl) ?_ (fun hHeld => ?_)
  · exact HS13.out _ (Gr.refl _).drew
  have HS0 : Hid _ := hHeld
  clear hHeld
  refine wpAnyH_take (i := 0) (v := .pointer (some ⟨g, 0, none⟩)) rfl (by kernel_rfl) (by kernel_rfl) (by kernel_rfl) (fun _ _ _ h => h) (Or.inl ⟨by rfl, fun W hW => by obtain ⟨y0, y1⟩ := hW; go_simp⟩) HS0.out ?_
  simp only [List.getElem_toArray, List.getElem_cons_succ, List.getElem_cons_zero, Act.put, List.setIfInBounds_toArray, List.set_cons_zero, List.set_cons_succ]
  refine wpAnyH_take (i := 1) (v := .pointer (some ⟨g, 0, none⟩)) rfl (by kernel_rfl) (by kernel_rfl) (by kernel_rfl) (fun _ _ _ h => h) (Or.inl ⟨by rfl, fun W hW => by obtain ⟨y0, y1⟩ := hW; go_simp⟩) HS0.out ?_
  simp only [List.getElem_toArray, List.getElem_cons_succ, List.getElem_cons_zero, Act.put, List.setIfInBounds_toArray, List.set_cons_zero, List.set_cons_succ]
  refine wpAnyH_take (i := 2) (v := .pointer (some ⟨g, 37, none⟩)) rfl (by kernel_rfl) (by kernel_rfl) (by kernel_rfl) (fun _ _ _ h => h) (Or.inl ⟨by rfl, fun W hW => by obtain ⟨y0, y1⟩ := hW; go_simp⟩) HS0.out ?_
  simp only [List.getElem_toArray, List.getElem_cons_succ, List.getElem_cons_zero, Act.put, List.setIfInBounds_toArray, List.set_cons_zero, List.set_cons_succ]
  refine wpAnyH_take (i := 3) (v := .slice ao l.length cap) rfl (by kernel_rfl) (by kernel_rfl) (by kernel_rfl) (fun _ _ _ h => h) (Or.inl ⟨by rfl, fun W hW => by obtain ⟨y0, y1⟩ := hW; go_simp⟩) HS0.out ?_
  simp only [List.getElem_toArray, List.getElem_cons_succ, List.getElem_cons_zero, Act.put, List.setIfInBounds_toArray, List.set_cons_zero, List.set_cons_succ]
  refine wpAnyH_take (i := 4) (v := .pointer (some ⟨g, 0, none⟩)) rfl (by kernel_rfl) (by kernel_rfl) (by kernel_rfl) (fun _ _ _ h => h) (Or.inl ⟨by rfl, fun W hW => by obtain ⟨y0, y1⟩ := hW; go_simp⟩) HS0.out ?_
  simp only [List.getElem_toArray, List.getElem_cons_succ, List.getElem_cons_zero, Act.put, List.setIfInBounds_toArray, List.set_cons_zero, List.set_cons_succ]
  refine wpAnyH_take (i := 5) (v := .pointer (some ⟨g, 0, none⟩)) rfl (by kernel_rfl) (by kernel_rfl) (by kernel_rfl) (fun _ _ _ h => h) (Or.inl ⟨by rfl, fun W hW => by obtain ⟨y0, y1⟩ := hW; go_simp⟩) HS0.out ?_
  simp only [List.getElem_toArray, List.getElem_cons_succ, List.getElem_cons_zero, Act.put, List.setIfInBounds_toArray, List.set_cons_zero, List.set_cons_succ]
  refine wpAnyH_take (i := 6) (v := .pointer (some ⟨g, 0, none⟩)) rfl (by kernel_rfl) (by kernel_rfl) (by kernel_rfl) (fun _ _ _ h => h) (Or.inl ⟨by rfl, fun W hW => by obtain ⟨y0, y1⟩ := hW; go_simp⟩) HS0.out ?_
  simp only [List.getElem_toArray, List.getElem_cons_succ, List.getElem_cons_zero, Act.put, List.setIfInBounds_toArray, List.set_cons_zero, List.set_cons_succ]
  refine wpAnyH_take (i := 7) (v := .pointer (some ⟨g, 32, none⟩)) rfl (by kernel_rfl) (by kernel_rfl) (by kernel_rfl) (fun _ _ _ h => h) (Or.inl ⟨by rfl, fun W hW => by obtain ⟨y0, y1⟩ := hW; go_simp⟩) HS0.out ?_
  simp only [List.getElem_toArray, List.getElem_cons_succ, List.getElem_cons_zero, Act.put, List.setIfInBounds_toArray, List.set_cons_zero, List.set_cons_succ]
  refine wpAnyH_take (i := 8) (v := .int .u32 pc) rfl (by kernel_rfl) (by kernel_rfl) (by kernel_rfl) (fun _ _ _ h => h) (Or.inl ⟨by rfl, fun W hW => by obtain ⟨y0, y1⟩ := hW; go_simp⟩) HS0.out ?_
  simp only [List.getElem_toArray, List.getElem_cons_succ, List.getElem_cons_zero, Act.put, List.setIfInBounds_toArray, List.set_cons_zero, List.set_cons_succ]
  refine wpAnyH_ready (rs := [9, 13]) (by kernel_rfl) (by simp) ?_
  refine AllReadyH.cons rfl (fun K hK => ?cf) (AllReadyH.cons rfl (fun K hK => ?af) AllReadyH.nil)
  case cf =>
    go_simp
    refine (F.out _ (Gr.refl _).drew).mono ?_
    rintro e wd ⟨rfl, Gd⟩
    have HGd : Hid (Gr w wd) := (Gr.refl _).drew.trans Gd
    clear Gd
    have HS1 : Hid _ := HS13.out _ HGd.out
    refine hK.out _ _ HS1.out (fun hx => ?_)
    clear hK K hx
    refine wpAnyH_take (i := 10) (v := .tuple #[.agg #[.int .i64 x0, .int .i64 x1, .int .i64 x2, .int .i64 x3, .int .i32 x4], .int .i64 c]) rfl (by kernel_rfl) (by kernel_rfl) (by kernel_rfl) (fun _ _ _ h => h) (Or.inl ⟨by rfl, fun W hW => by obtain ⟨y0, y1⟩ := hW; go_simp⟩) HS1.out ?_
    simp only [List.getElem_toArray, List.getElem_cons_succ, List.getElem_cons_zero, Act.put, List.setIfInBounds_toArray, List.set_cons_zero, List.set_cons_succ]
    refine wpAnyH_take (i := 11) (v := .agg #[.int .i64 x0, .int .i64 x1, .int .i64 x2, .int .i64 x3, .int .i32 x4]) rfl (by kernel_rfl) (by kernel_rfl) (by kernel_rfl) (fun _ _ _ h => h) (Or.inl ⟨by rfl, fun W hW => by obtain ⟨y0, y1⟩ := hW; go_simp⟩) HS1.out ?_
    simp only [List.getElem_toArray, List.getElem_cons_succ, List.getElem_cons_zero, Act.put, List.setIfInBounds_toArray, List.set_cons_zero, List.set_cons_succ]
    refine wpAnyH_take (i := 12) (v := .int .i64 c) rfl (by kernel_rfl) (by kernel_rfl) (by kernel_rfl) (fun _ _ _ h => h) (Or.inl ⟨by rfl, fun W hW => by obtain ⟨y0, y1⟩ := hW; go_simp⟩) HS1.out ?_
    simp only [List.getElem_toArray, List.getElem_cons_succ, List.getElem_cons_zero, Act.put, List.setIfInBounds_toArray, List.set_cons_zero, List.set_cons_succ]
    refine wpAnyH_ready (rs := [13]) (by kernel_rfl) (by simp) ?_
    refine AllReadyH.cons rfl (fun K hK => ?_) AllReadyH.nil
    go_simp
    refine hK.out _ _ (HS13.out _ (HGd.out.alloc _)) (fun hx => ?_)
    clear hK K hx
    refine held_store_row (i := 14) (by kernel_rfl) rfl rfl 23 (.tmp 2) (.tmp 15) rfl wd.heap.size #[.int .i64 x0, .int .i64 x1, .int .i64 x2, .int .i64 x3, .int .i32 x4] (by simp [Act.eval]) (by simp [Act.eval]) 23 _ (heap_alloc_new wd _) Hf.iI rfl (Hf.ins_one _ _ _ _ _) ?_ ?_
    · exact HS13.out _ (gr_setRow (HGd.out.alloc _) HGd.out.size _)
    refine wpAnyH_take (i := 15) (v := .int .i64 c) rfl (by kernel_rfl) (by kernel_rfl) (by kernel_rfl) (fun _ _ _ h => h) (Or.inl ⟨by rfl, fun W hW => by obtain ⟨y0, y1⟩ := hW; go_simp⟩) (HS13.out _ (gr_setRow (HGd.out.alloc _) HGd.out.size _)) ?_
    simp only [List.getElem_toArray, List.getElem_cons_succ, List.getElem_cons_zero, Act.put, List.setIfInBounds_toArray, List.set_cons_zero, List.set_cons_succ]
    refine wpAnyH_done (by kernel_rfl) ?_ _
    refine at_world (fun W => W.heap[wd.heap.size]? = some (.cells #[.int .i64 x0, .int .i64 x1, .int .i64 x2, .int .i64 x3, .int .i32 x4] 23 (0, 0)) ∧ Gr w W) ?_ ?_
    · exact ⟨setRow_heap _ _ _ _ _ (0, 0) (heap_alloc_new wd _), gr_setRow (HGd.out.alloc _) HGd.out.size _⟩
    clear HGd HS1
    generalize wd.heap.size = gi at *
    clear wd
    clear HS13 HS0 F
    rintro wD ⟨BD, GD⟩
    have q0 : wD.cell? ⟨gi, 0, none⟩ = some (.int .i64 x0) := cell_of_row _ _ _ _ _ _ BD
    have q1 : wD.cell? ⟨gi, 1, none⟩ = some (.int .i64 x1) := cell_of_row _ _ _ _ _ _ BD
    have q2 : wD.cell? ⟨gi, 2, none⟩ = some (.int .i64 x2) := cell_of_row _ _ _ _ _ _ BD
    have q3 : wD.cell? ⟨gi, 3, none⟩ = some (.int .i64 x3) := cell_of_row _ _ _ _ _ _ BD
    have q4 : wD.cell? ⟨gi, 4, none⟩ = some (.int .i32 x4) := cell_of_row _ _ _ _ _ _ BD
    have HID : Hid (In wD base g h l os ss) := HI.out.of GD
    have HFD : Hid (Fr base w wD) := Fr.ofGr GD hbl
    have HTD : Hid (TT wD base) := HT.out.of HFD.out
    clear BD GD HI HT k37 k32
    by_cases hc : c = 0
    · have Do : Hid (∀ W, In W base g h l os ss → Tb W base → Calls Tryd.prog 105 #[.pointer (some ⟨g, 0, none⟩), .agg #[.int .i64 x0, .int .i64 x1, .int .i64 x2, .int .i64 x3, .int .i32 x4]] W fun e w' => e = .returned (.tuple #[]) ∧ In w' base g Z.h Z.m (os ++ Z.out) (ss ++ Z.sto) ∧ Fr base W w') := HD.out hc
      subst hc
      clear HD HN Tr
      go_wp2_with fail
      refine (Do.out _ HID.out HTD.out.tb).mono ?_
      rintro e w2 ⟨rfl, I2, C2⟩
      have HI2 : Hid (In w2 base g Z.h Z.m (os ++ Z.out) (ss ++ Z.sto)) := I2
      have HF2 : Hid (Fr base w w2) := HFD.out.trans C2
      clear I2 C2 Do HID HFD HTD
      go_wp2_with fail
      go_end0
      exact ⟨rfl, HI2.out, HF2.out⟩
    · have hb : (c == 0) = false := by simpa using hc
      have HZ : Hid (Z = ⟨h.trap c, l, [], []⟩) := HN.out hc
      clear HD HN hc
      go_wp2_with fail
      refine (Tr.out _ HID.out c).mono ?_
      rintro e w2 ⟨rfl, I2, C2⟩
      have HI2 : Hid (In w2 base g Z.h Z.m (os ++ Z.out) (ss ++ Z.sto)) := by unfold Hid; rw [HZ.out, List.append_nil, List.append_nil]; exact I2
      have HF2 : Hid (Fr base w w2) := HFD.out.trans (HID.out.below C2)
      clear I2 C2 Tr HID HFD HTD HZ
      go_wp2_with fail
      refine bodyPost_ret (results_none Tryd.results74 _ _ _) rfl ?_
      exact ⟨rfl, HI2.out, HF2.out⟩
  case af =>
    go_simp
    refine hK.out _ _ (HS13.out _ ((Gr.refl _).alloc _).drew) (fun hx => ?_)
    clear hK K hx
    refine wpAnyH_ready (rs := [9]) (by kernel_rfl) (by simp) ?_
    refine AllReadyH.cons rfl (fun K hK => ?_) AllReadyH.nil
    go_simp
    refine (F.out _ ((Gr.refl _).alloc _).drew).mono ?_
    rintro e wd ⟨rfl, Gd⟩
    have HNw : Hid (wd.heap[w.heap.size]? = some (.cells _ 23 (0, 0))) := heap_gr Gd (heap_gr (Gr.refl _).drew (heap_alloc_new w _))
    have HGd : Hid (Gr w wd) := Gr.trans (Gr.drew ((Gr.refl w).alloc _)) Gd
    clear Gd
    have HS1 : Hid _ := HS13.out _ HGd.out
    refine hK.out _ _ HS1.out (fun hx => ?_)
    clear hK K hx
    refine wpAnyH_take (i := 10) (v := .tuple #[.agg #[.int .i64 x0, .int .i64 x1, .int .i64 x2, .int .i64 x3, .int .i32 x4], .int .i64 c]) rfl (by kernel_rfl) (by kernel_rfl) (by kernel_rfl) (fun _ _ _ h => h) (Or.inl ⟨by rfl, fun W hW => by obtain ⟨y0, y1⟩ := hW; go_simp⟩) HS1.out ?_
    simp only [List.getElem_toArray, List.getElem_cons_succ, List.getElem_cons_zero, Act.put, List.setIfInBounds_toArray, List.set_cons_zero, List.set_cons_succ]
    refine wpAnyH_take (i := 11) (v := .agg #[.int .i64 x0, .int .i64 x1, .int .i64 x2, .int .i64 x3, .int .i32 x4]) rfl (by kernel_rfl) (by kernel_rfl) (by kernel_rfl) (fun _ _ _ h => h) (Or.inl ⟨by rfl, fun W hW => by obtain ⟨y0, y1⟩ := hW; go_simp⟩) HS1.out ?_
    simp only [List.getElem_toArray, List.getElem_cons_succ, List.getElem_cons_zero, Act.put, List.setIfInBounds_toArray, List.set_cons_zero, List.set_cons_succ]
    refine wpAnyH_take (i := 12) (v := .int .i64 c) rfl (by kernel_rfl) (by kernel_rfl) (by kernel_rfl) (fun _ _ _ h => h) (Or.inl ⟨by rfl, fun W hW => by obtain ⟨y0, y1⟩ := hW; go_simp⟩) HS1.out ?_
    simp only [List.getElem_toArray, List.getElem_cons_succ, List.getElem_cons_zero, Act.put, List.setIfInBounds_toArray, List.set_cons_zero, List.set_cons_succ]
    refine held_store_row (i := 14) (by kernel_rfl) rfl rfl 23 (.tmp 2) (.tmp 15) rfl w.heap.size #[.int .i64 x0, .int .i64 x1, .int .i64 x2, .int .i64 x3, .int .i32 x4] (by simp [Act.eval]) (by simp [Act.eval]) 23 _ HNw.out Hf.iI rfl (Hf.ins_one _ _ _ _ _) ?_ ?_
    · exact HS13.out _ (gr_setRow HGd.out (Nat.le_refl _) _)
    refine wpAnyH_take (i := 15) (v := .int .i64 c) rfl (by kernel_rfl) (by kernel_rfl) (by kernel_rfl) (fun _ _ _ h => h) (Or.inl ⟨by rfl, fun W hW => by obtain ⟨y0, y1⟩ := hW; go_simp⟩) (HS13.out _ (gr_setRow HGd.out (Nat.le_refl _) _)) ?_
    simp only [List.getElem_toArray, List.getElem_cons_succ, List.getElem_cons_zero, Act.put, List.setIfInBounds_toArray, List.set_cons_zero, List.set_cons_succ]
    refine wpAnyH_done (by kernel_rfl) ?_ _
    refine at_world (fun W => W.heap[w.heap.size]? = some (.cells #[.int .i64 x0, .int .i64 x1, .int .i64 x2, .int .i64 x3, .int .i32 x4] 23 (0, 0)) ∧ Gr w W) ?_ ?_
    · exact ⟨setRow_heap _ _ _ _ _ (0, 0) HNw.out, gr_setRow HGd.out (Nat.le_refl _) _⟩
    clear HGd HNw HS1
    obtain ⟨gi, hgi⟩ : ∃ g : Nat, g = w.heap.size := ⟨_, rfl⟩
    rw [← hgi]
    clear hgi wd
    clear HS13 HS0 F
    rintro wD ⟨BD, GD⟩
    have q0 : wD.cell? ⟨gi, 0, none⟩ = some (.int .i64 x0) := cell_of_row _ _ _ _ _ _ BD
    have q1 : wD.cell? ⟨gi, 1, none⟩ = some (.int .i64 x1) := cell_of_row _ _ _ _ _ _ BD
    have q2 : wD.cell? ⟨gi, 2, none⟩ = some (.int .i64 x2) := cell_of_row _ _ _ _ _ _ BD
    have q3 : wD.cell? ⟨gi, 3, none⟩ = some (.int .i64 x3) := cell_of_row _ _ _ _ _ _ BD
    have q4 : wD.cell? ⟨gi, 4, none⟩ = some (.int .i32 x4) := cell_of_row _ _ _ _ _ _ BD
    have HID : Hid (In wD base g h l os ss) := HI.out.of GD
    have HFD : Hid (Fr base w wD) := Fr.ofGr GD hbl
    have HTD : Hid (TT wD base) := HT.out.of HFD.out
    clear BD GD HI HT k37 k32
    by_cases hc : c = 0
    · have Do : Hid (∀ W, In W base g h l os ss → Tb W base → Calls Tryd.prog 105 #[.pointer (some ⟨g, 0, none⟩), .agg #[.int .i64 x0, .int .i64 x1, .int .i64 x2, .int .i64 x3, .int .i32 x4]] W fun e w' => e = .returned (.tuple #[]) ∧ In w' base g Z.h Z.m (os ++ Z.out) (ss ++ Z.sto) ∧ Fr base W w') := HD.out hc
      subst hc
      clear HD HN Tr
      go_wp2_with fail
      refine (Do.out _ HID.out HTD.out.tb).mono ?_
      rintro e w2 ⟨rfl, I2, C2⟩
      have HI2 : Hid (In w2 base g Z.h Z.m (os ++ Z.out) (ss ++ Z.sto)) := I2
      have HF2 : Hid (Fr base w w2) := HFD.out.trans C2
      clear I2 C2 Do HID HFD HTD
      go_wp2_with fail
      go_end0
      exact ⟨rfl, HI2.out, HF2.out⟩
    · have hb : (c == 0) = false := by simpa using hc
      have HZ : Hid (Z = ⟨h.trap c, l, [], []⟩) := HN.out hc
      clear HD HN hc
      go_wp2_with fail
      refine (Tr.out _ HID.out c).mono ?_
      rintro e w2 ⟨rfl, I2, C2⟩
      have HI2 : Hid (In w2 base g Z.h Z.m (os ++ Z.out) (ss ++ Z.sto)) := by unfold Hid; rw [HZ.out, List.append_nil, List.append_nil]; exact I2
      have HF2 : Hid (Fr base w w2) := HFD.out.trans (HID.out.below C2)
      clear I2 C2 Tr HID HFD HTD HZ
      go_wp2_with fail
      refine bodyPost_ret (results_none Tryd.results74 _ _ _) rfl ?_
      exact ⟨rfl, HI2.out, HF2.out⟩
theorem Step_any (I : In w base g h l os ss) (T : TT w base) (hl : l.length ≤ 140737488351232) (hss : ss.length ≤ 1000000) (hos : os.length ≤ 1000000) :
    Calls Tryd.prog 74 #[.pointer (some ⟨g, 0, none⟩)] w fun e w' => e = .returned (.tuple #[]) ∧ In w' base g (stp h l).h (stp h l).m (os ++ (stp h l).out) (ss ++ (stp h l).sto) ∧ Fr base w w' :=
  Step_gen I T hl fun hc V I1 T1 => by
    have HW := W.ldV l 13 h.pc
    rw [stp_yes hc]
    have ib := imm_bd (Dc.frm (Dc.dop (ldV l 13 h.pc))) HW.1 HW.2
    exact do_any I1 T1 hl hss hos _ _ _ _ _ (rd_bd _ _).1 (rd_bd _ _).2 (r1_bd _ _).1 (r1_bd _ _).2 (r2_bd _ _).1 (r2_bd _ _).2 ib.1 (by omega)
/-- Where no instruction stands at the PC. -/
theorem Step_trap (I : In w base g h l os ss) (T : TT w base) (hl : l.length ≤ 140737488351232) (hf : ¬ Bk.ftC l h.pc = 0) :
    Calls Tryd.prog 74 #[.pointer (some ⟨g, 0, none⟩)] w fun e w' => e = .returned (.tuple #[]) ∧ In w' base g (stp h l).h (stp h l).m (os ++ (stp h l).out) (ss ++ (stp h l).sto) ∧ Fr base w w' :=
  Step_gen I T hl fun hc => absurd hc hf
end Go.Proofs.YtdiofidmlgliiaaDoor.Hc
