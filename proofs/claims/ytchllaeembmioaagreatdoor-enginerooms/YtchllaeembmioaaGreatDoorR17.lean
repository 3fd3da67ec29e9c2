/-
  Hm6, MemArgs, Hao, Ha, Mb4: texts of ours that lie in one file.
-/
import Derived.Test.YtchllaeembmioaaGreatDoorR16
import Derived.Test.YtchllaeembmioaaGreatDoorR13
import Derived.Deep.RegionHeld3
import Derived.Test.YtchllaeembmioaaGreatDoorR01
import Derived.ProofKit
import Derived.SizedLaws
import Derived.Test.YtchllaeembmioaaGreatDoorR03
import Derived.Test.YtchllaeembmioaaGreatDoorR10
import Derived.Test.YtchllaeembmioaaGreatDoorR15
set_option linter.unusedVariables false
set_option linter.unusedSimpArgs false
set_option maxHeartbeats 8000000
set_option maxRecDepth 100000
namespace Go.Proofs.YtchllaeembmioaaGreatDoor.Hc
open Go.ChangeShapes Go.WideShapes Go.ChangeAt Go.RowKit Mm Hh

structure TT (w : World) (base : Nat) : Prop where
  tab : Dw.Tab w
  tb : Tb w base
  b1 : 0 < base
  b2 : 5 < base
theorem TT.of {w w' : World} {base : Nat} (T : TT w base) (h : Fr base w w') : TT w' base :=
  ⟨⟨fun i n e => (Below.cell h.below (by exact T.b1)).trans (T.tab.shapes i n e), fun i n e => (Below.cell h.below (by exact T.b2)).trans (T.tab.uppers i n e)⟩, T.tb.of h, T.b1, T.b2⟩
theorem rd_bd (f x : Int) : 0 ≤ Dc.rdF f x ∧ Dc.rdF f x < 32 := by unfold Dc.rdF; split <;> omega
theorem r1_bd (f x : Int) : 0 ≤ Dc.rs1F f x ∧ Dc.rs1F f x < 32 := by unfold Dc.rs1F; split <;> omega
theorem r2_bd (f x : Int) : 0 ≤ Dc.rs2F f x ∧ Dc.rs2F f x < 32 := by unfold Dc.rs2F; split <;> omega
theorem imm_bd {v : Int} (f : Int) (h0 : 0 ≤ v) (h1 : v < 4294967296) : -2147483648 ≤ Dc.immF f v ∧ Dc.immF f v < 2147483648 := by
  unfold Dc.immF Wd.sg Dc.sgn
  repeat' split
  all_goals omega
theorem held_store_row {P : Program} {md : Region.Mode} {ops : Array Oper} {Q : Exit → Act → World → Prop} {S : World → Prop} {fuel i : Nat} {listed : Array Bool} {o : Oper} {a : Act} {w : World} (hr : Region.ready md ops listed = [i]) (hoi : ops[i]? = some o) (hg : o.guard = none) (ty : TypeId) (x y : Operand) (ho : o.op = .store ty x y)
    (g : Nat) (cells : Array Value) (hx : a.eval x = .pointer (some ⟨g, 0, none⟩)) (hy : a.eval y = .agg cells) (t : TypeId) (old : Array Value) (hb : w.heap[g]? = some (.cells old t (0, 0))) (hi : (P.info? ty).map (·.size) = some cells.size) (hold : old.size = cells.size) (h1 : cells.all (·.oneCell') = true)
    (hS : S (w.setRow g cells)) (h : wpAnyH P md ops Q S fuel (listed.setIfInBounds i true) (a.put o.dst undef) (w.setRow g cells)) : wpAnyH P md ops Q S (fuel + 1) listed a w :=
  wpAnyH_ready hr (by simp) (AllReadyH.cons hoi (fun K hK => step_store hg ty x y ho g cells hx hy t old hb hi hold h1 (hK.out _ _ hS fun _ => h)) AllReadyH.nil)
theorem at_world {p : World → Prop} {x : World} (F : World → Prop) (hF : F x) (h : ∀ y, F y → p y) : p x := h x hF
theorem heap_gr {w w' : World} (g : Gr w w') {k : Nat} {x : Obj} (h : w.heap[k]? = some x) : w'.heap[k]? = some x := by
  rw [Below.block g k (Array.getElem?_eq_some_iff.1 h).1]; exact h
theorem stp_no {h : Hv} {l : List UInt8} (hc : ¬ Bk.ftC l h.pc = 0) : stp h l = ⟨h.trap (Bk.ftC l h.pc), l, [], []⟩ := by
  unfold stp Bk.ftC at *
  by_cases ok : ldOk l 13 h.pc = true
  · rw [if_pos ok] at hc ⊢
    rw [if_pos ok]
    by_cases hd : Dc.dop (ldV l 13 h.pc) = 0
    · rw [if_pos hd]; unfold insW; rw [if_pos hd]
    · rw [if_neg hd] at hc; exact absurd rfl hc
  · rw [if_neg ok, if_neg ok]
theorem stp_yes {h : Hv} {l : List UInt8} (hc : Bk.ftC l h.pc = 0) : stp h l = ins h l (Dc.dop (ldV l 13 h.pc)) (Dc.rdF (Dc.frm (Dc.dop (ldV l 13 h.pc))) (ldV l 13 h.pc)) (Dc.rs1F (Dc.frm (Dc.dop (ldV l 13 h.pc))) (ldV l 13 h.pc)) (Dc.rs2F (Dc.frm (Dc.dop (ldV l 13 h.pc))) (ldV l 13 h.pc)) (Dc.immF (Dc.frm (Dc.dop (ldV l 13 h.pc))) (ldV l 13 h.pc)) := by
  unfold stp
  unfold Bk.ftC at hc
  by_cases ok : ldOk l 13 h.pc = true
  · rw [if_pos ok] at hc ⊢
    by_cases hd : Dc.dop (ldV l 13 h.pc) = 0
    · rw [if_pos hd] at hc; omega
    · unfold insW; rw [if_neg hd]
  · rw [if_neg ok] at hc; omega
theorem Step_any {w : World} {base g : Nat} {h : Hv} {l : List UInt8} {os : List Int} {ss : List (Int × Int)} (I : In w base g h l os ss) (T : TT w base) (hl : l.length ≤ 140737488351232) (hss : ss.length ≤ 1000000) (hos : os.length ≤ 1000000) :
    Calls Tryz.prog 50 #[.pointer (some ⟨g, 0, none⟩)] w fun e w' => e = .returned (.tuple #[]) ∧ In w' base g (stp h l).h (stp h l).m (os ++ (stp h l).out) (ss ++ (stp h l).sto) ∧ Fr base w w' := by
  have Tr : Hid (∀ W, In W base g h l os ss → ∀ c, Calls Tryz.prog 67 #[.pointer (some ⟨g, 0, none⟩), .int .i64 c] W fun e w' => e = .returned (.tuple #[]) ∧ In w' base g (h.trap c) l os ss ∧ Ch g W w') := fun W I c => trap_any I c
  have HI : Hid (In w base g h l os ss) := I
  have HT : Hid (TT w base) := T
  obtain ⟨c0, rfl, J⟩ := I
  obtain ⟨ao, cap, hm, M⟩ := J.mem.mem
  have k37 : w.cell? ⟨g, 37, none⟩ = some (.slice ao l.length cap) := (J.fcell 0).trans (by rw [hm]; rfl)
  have k32 : w.cell? ⟨g, 32, none⟩ = some (.int .u32 c0.h.pc) := (J.hcell (by omega)).trans (hL_fld J.ok 0)
  have hbl : base ≤ w.heap.size := J.base_le
  have hgl : g < w.heap.size := J.lt
  have F : Hid (∀ W : World, Gr w W → Calls Tryz.prog 66 #[.slice ao l.length cap, .int .u32 c0.h.pc] W fun e w' => e = .returned (.tuple #[Dw.decV (ldV l 13 c0.h.pc), .int .i64 (Bk.ftC l c0.h.pc)]) ∧ Gr W w') := fun W G => Hf.Fetch_any cap c0.h.pc (M.of G) (T.of (Fr.ofGr G hbl)).tab hl J.ok.pc0 J.ok.pc1
  have HS13 : Hid (∀ W : World, Gr w W → W.cell? ⟨g, 37, none⟩ = some (.slice ao l.length cap) ∧ W.cell? ⟨g, 32, none⟩ = some (.int .u32 c0.h.pc)) := fun W G => ⟨(G.cell _ (by exact hgl)).trans k37, (G.cell _ (by exact hgl)).trans k32⟩
  have HW : Hid (W (ldV l 13 c0.h.pc)) := W.ldV l 13 c0.h.pc
  have HN : Hid (¬ Bk.ftC l c0.h.pc = 0 → stp c0.h l = ⟨c0.h.trap (Bk.ftC l c0.h.pc), l, [], []⟩) := stp_no
  have HD : Hid (Bk.ftC l c0.h.pc = 0 → ∀ W, In W base g c0.h l os ss → Tb W base → Calls Tryz.prog 68 #[.pointer (some ⟨g, 0, none⟩), Dw.decV (ldV l 13 c0.h.pc)] W fun e w' => e = .returned (.tuple #[]) ∧ In w' base g (stp c0.h l).h (stp c0.h l).m (os ++ (stp c0.h l).out) (ss ++ (stp c0.h l).sto) ∧ Fr base W w') := fun hc W I1 T1 => by
    rw [stp_yes hc]
    have ib := imm_bd (Dc.frm (Dc.dop (ldV l 13 c0.h.pc))) HW.out.1 HW.out.2
    exact do_any I1 T1 hl hss hos _ _ _ _ _ (rd_bd _ _).1 (rd_bd _ _).2 (r1_bd _ _).1 (r1_bd _ _).2 (r2_bd _ _).1 (r2_bd _ _).2 ib.1 (by omega)
  unfold Dw.decV Dw.insV at F HD
  generalize ldV l 13 c0.h.pc = x at *
  generalize stp c0.h l = Z at *
  clear J M hm T HW
  generalize Dc.rdF (Dc.frm (Dc.dop x)) x = x1 at *
  generalize Dc.rs1F (Dc.frm (Dc.dop x)) x = x2 at *
  generalize Dc.rs2F (Dc.frm (Dc.dop x)) x = x3 at *
  generalize Dc.immF (Dc.frm (Dc.dop x)) x = x4 at *
  generalize Dc.dop x = x0 at *
  generalize Bk.ftC l c0.h.pc = c at *
  generalize c0.h.pc = pc at *
  generalize c0.h = h at *
  go_enter Tryz.func50, Tryz.ntmps50
  go_wp2_with fail
  refine wp_region_held_drew (S := fun W => W.cell? ⟨g, 37, none⟩ = some (.slice ao l.length cap) ∧ W.cell? ⟨g, 32, none⟩ = some (.int .u32 pc)) (by kernel_rfl) ?_ (fun hHeld => ?_)
  · exact HS13.out _ (Gr.refl _).drew
  have HS0 : Hid _ := hHeld
  clear hHeld
  refine wpAnyH_take (i := 0) (v := .pointer (some ⟨g, 0, none⟩)) rfl (by kernel_rfl) (by kernel_rfl) (by kernel_rfl) (fun _ _ _ h => h) (Or.inl ⟨by rfl, fun W hW => by obtain ⟨y0, y1⟩ := hW; go_simp⟩) HS0.out ?_
  simp only [List.getElem_toArray, List.getElem_cons_succ, List.getElem_cons_zero, Act.put, List.setIfInBounds_toArray, List.set_cons_zero, List.set_cons_succ]
  refine wpAnyH_take (i := 1) (v := .pointer (some ⟨g, 0, none⟩)) rfl (by kernel_rfl) (by kernel_rfl) (by kernel_rfl) (fun _ _ _ h => h) (Or.inl ⟨by rfl, fun W hW => by obtain ⟨y0, y1⟩ := hW; go_simp⟩) HS0.out ?_
  simp only [List.getElem_toArray, List.getElem_cons_succ, List.getElem_cons_zero, Act.put, List.setIfInBounds_toArray, List.set_cons_zero, List.set_cons_succ]
  refine wpAnyH_take (i := 2) (v := .pointer (some ⟨g, 37, none⟩)) rfl (by kernel_rfl) (by kernel_rfl) (by kernel_rfl) (fun _ _ _ h => h) (Or.inl ⟨by rfl, fun W hW => by obtain ⟨y0, y1⟩ := hW; go_simp⟩) HS0.out ?_
  simp only [List.getElem_toArray, List.getElem_cons_succ, List.getElem_cons_zero, Act.put, List.setIfInBounds_toArray, List.set_cons_zero, List.set_cons_succ]
  refine wpAnyH_take (i := 3) (v := .slice ao l.length cap) rfl (by kernel_rfl) (by kernel_rfl) (by kernel_rfl) (fun _ _ _ h => h) (Or.inl ⟨by rfl, fun W hW => by obtain ⟨y0, y1⟩ := hW; go_simp⟩) HS0.out ?_
  simp only [List.getElem_toArray, List.getElem_cons_succ, List.getElem_cons_zero, Act.put, List.setIfInBounds_toArray, List.set_cons_zero, List.set_cons_succ]
  refine wpAnyH_take (i := 4) (v := .pointer (some ⟨g, 0, none⟩)) rfl (by kernel_rfl) (by kernel_rfl) (by kernel_rfl) (fun _ _ _ h => h) (Or.inl ⟨by rfl, fun W hW => by obtain ⟨y0, y1⟩ := hW; go_simp⟩) HS0.out ?_
  simp only [List.getElem_toArray, List.getElem_cons_succ, List.getElem_cons_zero, Act.put, List.setIfInBounds_toArray, List.set_cons_zero, List.set_cons_succ]
  refine wpAnyH_take (i := 5) (v := .pointer (some ⟨g, 0, none⟩)) rfl (by kernel_rfl) (by kernel_rfl) (by kernel_rfl) (fun _ _ _ h => h) (Or.inl ⟨by rfl, fun W hW => by obtain ⟨y0, y1⟩ := hW; go_simp⟩) HS0.out ?_
  simp only [List.getElem_toArray, List.getElem_cons_succ, List.getElem_cons_zero, Act.put, List.setIfInBounds_toArray, List.set_cons_zero, List.set_cons_succ]
  refine wpAnyH_take (i := 6) (v := .pointer (some ⟨g, 0, none⟩)) rfl (by kernel_rfl) (by kernel_rfl) (by kernel_rfl) (fun _ _ _ h => h) (Or.inl ⟨by rfl, fun W hW => by obtain ⟨y0, y1⟩ := hW; go_simp⟩) HS0.out ?_
  simp only [List.getElem_toArray, List.getElem_cons_succ, List.getElem_cons_zero, Act.put, List.setIfInBounds_toArray, List.set_cons_zero, List.set_cons_succ]
  refine wpAnyH_take (i := 7) (v := .pointer (some ⟨g, 32, none⟩)) rfl (by kernel_rfl) (by kernel_rfl) (by kernel_rfl) (fun _ _ _ h => h) (Or.inl ⟨by rfl, fun W hW => by obtain ⟨y0, y1⟩ := hW; go_simp⟩) HS0.out ?_
  simp only [List.getElem_toArray, List.getElem_cons_succ, List.getElem_cons_zero, Act.put, List.setIfInBounds_toArray, List.set_cons_zero, List.set_cons_succ]
  refine wpAnyH_take (i := 8) (v := .int .u32 pc) rfl (by kernel_rfl) (by kernel_rfl) (by kernel_rfl) (fun _ _ _ h => h) (Or.inl ⟨by rfl, fun W hW => by obtain ⟨y0, y1⟩ := hW; go_simp⟩) HS0.out ?_
  simp only [List.getElem_toArray, List.getElem_cons_succ, List.getElem_cons_zero, Act.put, List.setIfInBounds_toArray, List.set_cons_zero, List.set_cons_succ]
  refine wpAnyH_ready (rs := [9, 13]) (by kernel_rfl) (by simp) ?_
  refine AllReadyH.cons rfl (fun K hK => ?cf) (AllReadyH.cons rfl (fun K hK => ?af) AllReadyH.nil)
  case cf =>
    go_simp
    refine (F.out _ (Gr.refl _).drew).mono ?_
    rintro e wd ⟨rfl, Gd⟩
    have HGd : Hid (Gr w wd) := (Gr.refl _).drew.trans Gd
    clear Gd
    have HS1 : Hid _ := HS13.out _ HGd.out
    refine hK.out _ _ HS1.out (fun hx => ?_)
    clear hK K hx
    refine wpAnyH_take (i := 10) (v := .tuple #[.agg #[.int .i64 x0, .int .i64 x1, .int .i64 x2, .int .i64 x3, .int .i32 x4], .int .i64 c]) rfl (by kernel_rfl) (by kernel_rfl) (by kernel_rfl) (fun _ _ _ h => h) (Or.inl ⟨by rfl, fun W hW => by obtain ⟨y0, y1⟩ := hW; go_simp⟩) HS1.out ?_
    simp only [List.getElem_toArray, List.getElem_cons_succ, List.getElem_cons_zero, Act.put, List.setIfInBounds_toArray, List.set_cons_zero, List.set_cons_succ]
    refine wpAnyH_take (i := 11) (v := .agg #[.int .i64 x0, .int .i64 x1, .int .i64 x2, .int .i64 x3, .int .i32 x4]) rfl (by kernel_rfl) (by kernel_rfl) (by kernel_rfl) (fun _ _ _ h => h) (Or.inl ⟨by rfl, fun W hW => by obtain ⟨y0, y1⟩ := hW; go_simp⟩) HS1.out ?_
    simp only [List.getElem_toArray, List.getElem_cons_succ, List.getElem_cons_zero, Act.put, List.setIfInBounds_toArray, List.set_cons_zero, List.set_cons_succ]
    refine wpAnyH_take (i := 12) (v := .int .i64 c) rfl (by kernel_rfl) (by kernel_rfl) (by kernel_rfl) (fun _ _ _ h => h) (Or.inl ⟨by rfl, fun W hW => by obtain ⟨y0, y1⟩ := hW; go_simp⟩) HS1.out ?_
    simp only [List.getElem_toArray, List.getElem_cons_succ, List.getElem_cons_zero, Act.put, List.setIfInBounds_toArray, List.set_cons_zero, List.set_cons_succ]
    refine wpAnyH_ready (rs := [13]) (by kernel_rfl) (by simp) ?_
    refine AllReadyH.cons rfl (fun K hK => ?_) AllReadyH.nil
    go_simp
    refine hK.out _ _ (HS13.out _ (HGd.out.alloc _)) (fun hx => ?_)
    clear hK K hx
    refine held_store_row (i := 14) (by kernel_rfl) rfl rfl 77 (.tmp 2) (.tmp 15) rfl wd.heap.size #[.int .i64 x0, .int .i64 x1, .int .i64 x2, .int .i64 x3, .int .i32 x4] (by simp [Act.eval]) (by simp [Act.eval]) 77 _ (heap_alloc_new wd _) Hf.iI rfl (Hf.ins_one _ _ _ _ _) ?_ ?_
    · exact HS13.out _ (gr_setRow (HGd.out.alloc _) HGd.out.size _)
    refine wpAnyH_take (i := 15) (v := .int .i64 c) rfl (by kernel_rfl) (by kernel_rfl) (by kernel_rfl) (fun _ _ _ h => h) (Or.inl ⟨by rfl, fun W hW => by obtain ⟨y0, y1⟩ := hW; go_simp⟩) (HS13.out _ (gr_setRow (HGd.out.alloc _) HGd.out.size _)) ?_
    simp only [List.getElem_toArray, List.getElem_cons_succ, List.getElem_cons_zero, Act.put, List.setIfInBounds_toArray, List.set_cons_zero, List.set_cons_succ]
    refine wpAnyH_done (by kernel_rfl) ?_ _
    refine at_world (fun W => W.heap[wd.heap.size]? = some (.cells #[.int .i64 x0, .int .i64 x1, .int .i64 x2, .int .i64 x3, .int .i32 x4] 77 (0, 0)) ∧ Gr w W) ?_ ?_
    · exact ⟨setRow_heap _ _ _ _ _ (0, 0) (heap_alloc_new wd _), gr_setRow (HGd.out.alloc _) HGd.out.size _⟩
    clear HGd HS1
    generalize wd.heap.size = gi at *
    clear wd
    clear HS13 HS0 F
    rintro wD ⟨BD, GD⟩
    have q0 : wD.cell? ⟨gi, 0, none⟩ = some (.int .i64 x0) := cell_of_row _ _ _ _ _ _ BD
    have q1 : wD.cell? ⟨gi, 1, none⟩ = some (.int .i64 x1) := cell_of_row _ _ _ _ _ _ BD
    have q2 : wD.cell? ⟨gi, 2, none⟩ = some (.int .i64 x2) := cell_of_row _ _ _ _ _ _ BD
    have q3 : wD.cell? ⟨gi, 3, none⟩ = some (.int .i64 x3) := cell_of_row _ _ _ _ _ _ BD
    have q4 : wD.cell? ⟨gi, 4, none⟩ = some (.int .i32 x4) := cell_of_row _ _ _ _ _ _ BD
    have HID : Hid (In wD base g h l os ss) := HI.out.of GD
    have HFD : Hid (Fr base w wD) := Fr.ofGr GD hbl
    have HTD : Hid (TT wD base) := HT.out.of HFD.out
    clear BD GD HI HT k37 k32
    by_cases hc : c = 0
    · have Do : Hid (∀ W, In W base g h l os ss → Tb W base → Calls Tryz.prog 68 #[.pointer (some ⟨g, 0, none⟩), .agg #[.int .i64 x0, .int .i64 x1, .int .i64 x2, .int .i64 x3, .int .i32 x4]] W fun e w' => e = .returned (.tuple #[]) ∧ In w' base g Z.h Z.m (os ++ Z.out) (ss ++ Z.sto) ∧ Fr base W w') := HD.out hc
      subst hc
      clear HD HN Tr
      go_wp2_with fail
      refine (Do.out _ HID.out HTD.out.tb).mono ?_
      rintro e w2 ⟨rfl, I2, C2⟩
      have HI2 : Hid (In w2 base g Z.h Z.m (os ++ Z.out) (ss ++ Z.sto)) := I2
      have HF2 : Hid (Fr base w w2) := HFD.out.trans C2
      clear I2 C2 Do HID HFD HTD
      go_wp2_with fail
      go_end0
      exact ⟨rfl, HI2.out, HF2.out⟩
    · have hb : (c == 0) = false := by simpa using hc
      have HZ : Hid (Z = ⟨h.trap c, l, [], []⟩) := HN.out hc
      clear HD HN hc
      go_wp2_with fail
      refine (Tr.out _ HID.out c).mono ?_
      rintro e w2 ⟨rfl, I2, C2⟩
      have HI2 : Hid (In w2 base g Z.h Z.m (os ++ Z.out) (ss ++ Z.sto)) := by unfold Hid; rw [HZ.out, List.append_nil, List.append_nil]; exact I2
      have HF2 : Hid (Fr base w w2) := HFD.out.trans (HID.out.below C2)
      clear I2 C2 Tr HID HFD HTD HZ
      go_wp2_with fail
      refine bodyPost_ret (results_none Tryz.results50 _ _ _) rfl ?_
      exact ⟨rfl, HI2.out, HF2.out⟩
  case af =>
    go_simp
    refine hK.out _ _ (HS13.out _ ((Gr.refl _).alloc _).drew) (fun hx => ?_)
    clear hK K hx
    refine wpAnyH_ready (rs := [9]) (by kernel_rfl) (by simp) ?_
    refine AllReadyH.cons rfl (fun K hK => ?_) AllReadyH.nil
    go_simp
    refine (F.out _ ((Gr.refl _).alloc _).drew).mono ?_
    rintro e wd ⟨rfl, Gd⟩
    have HNw : Hid (wd.heap[w.heap.size]? = some (.cells _ 77 (0, 0))) := heap_gr Gd (heap_gr (Gr.refl _).drew (heap_alloc_new w _))
    have HGd : Hid (Gr w wd) := Gr.trans (Gr.drew ((Gr.refl w).alloc _)) Gd
    clear Gd
    have HS1 : Hid _ := HS13.out _ HGd.out
    refine hK.out _ _ HS1.out (fun hx => ?_)
    clear hK K hx
    refine wpAnyH_take (i := 10) (v := .tuple #[.agg #[.int .i64 x0, .int .i64 x1, .int .i64 x2, .int .i64 x3, .int .i32 x4], .int .i64 c]) rfl (by kernel_rfl) (by kernel_rfl) (by kernel_rfl) (fun _ _ _ h => h) (Or.inl ⟨by rfl, fun W hW => by obtain ⟨y0, y1⟩ := hW; go_simp⟩) HS1.out ?_
    simp only [List.getElem_toArray, List.getElem_cons_succ, List.getElem_cons_zero, Act.put, List.setIfInBounds_toArray, List.set_cons_zero, List.set_cons_succ]
    refine wpAnyH_take (i := 11) (v := .agg #[.int .i64 x0, .int .i64 x1, .int .i64 x2, .int .i64 x3, .int .i32 x4]) rfl (by kernel_rfl) (by kernel_rfl) (by kernel_rfl) (fun _ _ _ h => h) (Or.inl ⟨by rfl, fun W hW => by obtain ⟨y0, y1⟩ := hW; go_simp⟩) HS1.out ?_
    simp only [List.getElem_toArray, List.getElem_cons_succ, List.getElem_cons_zero, Act.put, List.setIfInBounds_toArray, List.set_cons_zero, List.set_cons_succ]
    refine wpAnyH_take (i := 12) (v := .int .i64 c) rfl (by kernel_rfl) (by kernel_rfl) (by kernel_rfl) (fun _ _ _ h => h) (Or.inl ⟨by rfl, fun W hW => by obtain ⟨y0, y1⟩ := hW; go_simp⟩) HS1.out ?_
    simp only [List.getElem_toArray, List.getElem_cons_succ, List.getElem_cons_zero, Act.put, List.setIfInBounds_toArray, List.set_cons_zero, List.set_cons_succ]
    refine held_store_row (i := 14) (by kernel_rfl) rfl rfl 77 (.tmp 2) (.tmp 15) rfl w.heap.size #[.int .i64 x0, .int .i64 x1, .int .i64 x2, .int .i64 x3, .int .i32 x4] (by simp [Act.eval]) (by simp [Act.eval]) 77 _ HNw.out Hf.iI rfl (Hf.ins_one _ _ _ _ _) ?_ ?_
    · exact HS13.out _ (gr_setRow HGd.out (Nat.le_refl _) _)
    refine wpAnyH_take (i := 15) (v := .int .i64 c) rfl (by kernel_rfl) (by kernel_rfl) (by kernel_rfl) (fun _ _ _ h => h) (Or.inl ⟨by rfl, fun W hW => by obtain ⟨y0, y1⟩ := hW; go_simp⟩) (HS13.out _ (gr_setRow HGd.out (Nat.le_refl _) _)) ?_
    simp only [List.getElem_toArray, List.getElem_cons_succ, List.getElem_cons_zero, Act.put, List.setIfInBounds_toArray, List.set_cons_zero, List.set_cons_succ]
    refine wpAnyH_done (by kernel_rfl) ?_ _
    refine at_world (fun W => W.heap[w.heap.size]? = some (.cells #[.int .i64 x0, .int .i64 x1, .int .i64 x2, .int .i64 x3, .int .i32 x4] 77 (0, 0)) ∧ Gr w W) ?_ ?_
    · exact ⟨setRow_heap _ _ _ _ _ (0, 0) HNw.out, gr_setRow HGd.out (Nat.le_refl _) _⟩
    clear HGd HNw HS1
    obtain ⟨gi, hgi⟩ : ∃ g : Nat, g = w.heap.size := ⟨_, rfl⟩
    rw [← hgi]
    clear hgi wd
    clear HS13 HS0 F
    rintro wD ⟨BD, GD⟩
    have q0 : wD.cell? ⟨gi, 0, none⟩ = some (.int .i64 x0) := cell_of_row _ _ _ _ _ _ BD
    have q1 : wD.cell? ⟨gi, 1, none⟩ = some (.int .i64 x1) := cell_of_row _ _ _ _ _ _ BD
    have q2 : wD.cell? ⟨gi, 2, none⟩ = some (.int .i64 x2) := cell_of_row _ _ _ _ _ _ BD
    have q3 : wD.cell? ⟨gi, 3, none⟩ = some (.int .i64 x3) := cell_of_row _ _ _ _ _ _ BD
    have q4 : wD.cell? ⟨gi, 4, none⟩ = some (.int .i32 x4) := cell_of_row _ _ _ _ _ _ BD
    have HID : Hid (In wD base g h l os ss) := HI.out.of GD
    have HFD : Hid (Fr base w wD) := Fr.ofGr GD hbl
    have HTD : Hid (TT wD base) := HT.out.of HFD.out
    clear BD GD HI HT k37 k32
    by_cases hc : c = 0
    · have Do : Hid (∀ W, In W base g h l os ss → Tb W base → Calls Tryz.prog 68 #[.pointer (some ⟨g, 0, none⟩), .agg #[.int .i64 x0, .int .i64 x1, .int .i64 x2, .int .i64 x3, .int .i32 x4]] W fun e w' => e = .returned (.tuple #[]) ∧ In w' base g Z.h Z.m (os ++ Z.out) (ss ++ Z.sto) ∧ Fr base W w') := HD.out hc
      subst hc
      clear HD HN Tr
      go_wp2_with fail
      refine (Do.out _ HID.out HTD.out.tb).mono ?_
      rintro e w2 ⟨rfl, I2, C2⟩
      have HI2 : Hid (In w2 base g Z.h Z.m (os ++ Z.out) (ss ++ Z.sto)) := I2
      have HF2 : Hid (Fr base w w2) := HFD.out.trans C2
      clear I2 C2 Do HID HFD HTD
      go_wp2_with fail
      go_end0
      exact ⟨rfl, HI2.out, HF2.out⟩
    · have hb : (c == 0) = false := by simpa using hc
      have HZ : Hid (Z = ⟨h.trap c, l, [], []⟩) := HN.out hc
      clear HD HN hc
      go_wp2_with fail
      refine (Tr.out _ HID.out c).mono ?_
      rintro e w2 ⟨rfl, I2, C2⟩
      have HI2 : Hid (In w2 base g Z.h Z.m (os ++ Z.out) (ss ++ Z.sto)) := by unfold Hid; rw [HZ.out, List.append_nil, List.append_nil]; exact I2
      have HF2 : Hid (Fr base w w2) := HFD.out.trans (HID.out.below C2)
      clear I2 C2 Tr HID HFD HTD HZ
      go_wp2_with fail
      refine bodyPost_ret (results_none Tryz.results50 _ _ _) rfl ?_
      exact ⟨rfl, HI2.out, HF2.out⟩
end Go.Proofs.YtchllaeembmioaaGreatDoor.Hc
namespace Go.Proofs.YtchllaeembmioaaGreatDoor.Mm
open Go.ChangeShapes Go.WideShapes Go.ChangeAt Go.RowKit

theorem cells5 : Tryz.prog.cellsOf 5 = 1 := by kernel_rfl
theorem bytes5 : Tryz.prog.bytesOf 5 = 1 := by kernel_rfl
theorem laidOut : laidOutB Tryz.prog = true := by kernel_rfl
theorem own : ownKnob Tryz.prog.godebug = none := by kernel_rfl

theorem bv_map {Z : List Int} (hz : ∀ n ∈ Z, (Lit.int .u8 n).wf = true) (t : Nat) (ht : t < Z.length) : bv (Z.map fun z => UInt8.ofNat z.toNat) t = Z.getD t 0 := by
  have hm : Z[t] ∈ Z := List.getElem_mem ht
  have hw := hz _ hm
  have hb : 0 ≤ Z[t] ∧ Z[t] ≤ 255 := by simpa [Lit.wf, IntKind.min, IntKind.max, IntKind.signed, IntKind.bits] using hw
  unfold bv
  simp only [List.getD, List.getElem?_map, List.getElem?_eq_getElem ht, Option.map_some, Option.getD_some]
  rw [UInt8.toNat_ofNat']
  omega

theorem open_mem {H : Type} {enc : TypeId × Value → H} {W : World} {fuel : Nat} {ao : Option Addr} {len cap : Nat} {d : DataW H} {p : List MemPlace}
    (hf : DataW.trod enc Tryz.prog W 0 (fun _ => true) true fuel 22 (Value.slice ao len cap).cells.toList = some (d, p)) :
    ∃ l : List UInt8, Mem W ao len l ∧ (d = .nil ∧ len = 0 ∨ ∃ zs sp, d = .slice (lits .u8 zs) sp ∧ zs.length = len) := by
  rcases open_ints Tryz.underlying22 Tryz.underlying5 cells5 hf with ⟨hcs, hx⟩ | ⟨a, len', cap', zs, hcs, _, hl, hm, hz, hx, hcell, hwz⟩
  · simp [Value.cells] at hcs
    obtain ⟨rfl, rfl, rfl⟩ := hcs
    simp only [Prod.mk.injEq] at hx
    obtain ⟨rfl, rfl⟩ := hx
    exact ⟨[], Mem.none _, Or.inl ⟨rfl, rfl⟩⟩
  · simp [Value.cells] at hcs
    obtain ⟨rfl, rfl, rfl⟩ := hcs
    simp only [Prod.mk.injEq] at hx
    obtain ⟨rfl, rfl⟩ := hx
    simp only [if_true] at hz
    refine ⟨(zs.take len).map fun z => UInt8.ofNat z.toNat, ⟨by simp; omega, (fun h => by cases h), fun ad h t ht => ?_⟩, Or.inr ⟨_, _, rfl, by simp; omega⟩⟩
    obtain rfl := Option.some.inj h
    rw [hcell t (by omega), bv_map (fun n hn => hwz n (List.mem_of_mem_take hn)) t (by simp; omega)]
    simp [List.getD, ht]
end Go.Proofs.YtchllaeembmioaaGreatDoor.Mm
namespace Go.Proofs.YtchllaeembmioaaGreatDoor.Hc
open Go.ChangeShapes Go.WideShapes Go.ChangeAt Go.RowKit Mm Hh

end Go.Proofs.YtchllaeembmioaaGreatDoor.Hc
namespace Go.Proofs.YtchllaeembmioaaGreatDoor.Hc
open Go.ChangeShapes Go.WideShapes Go.ChangeAt Go.RowKit Mm Hh

def sizesL : List Int := [0, 0, 0, 0, 0, 0, 0, 0, 0, 0, 0, 0, 0, 0, 0, 0, 1, 2, 4]
def opersL : List Int := [0, 0, 0, 0, 0, 0, 0, 0, 0, 0, 0, 0, 0, 0, 0, 0, 0, 0, 0, 28, 31, 32, 33, 36, 37, 30, 34, 35]
theorem gSizes : Tryz.prog.globalNamed "ferrybridge/hart.sizes" = some 4 := by kernel_rfl
theorem gOpers : Tryz.prog.globalNamed "ferrybridge/hart.operations" = some 1 := by kernel_rfl
theorem tSizes : (Tryz.prog.globals[4]?).map (·.type) = some 208 := by kernel_rfl
theorem tOpers : (Tryz.prog.globals[1]?).map (·.type) = some 189 := by kernel_rfl
theorem lookSizes : (List.range 19).map (Dw.look Tryz.prog 3 208 (Rows.laid_ferrybridge_hart_sizes (H := Unit))) = sizesL.map fun n => some (.int .u32 n) := by kernel_rfl
theorem lookOpers : (List.range 28).map (Dw.look Tryz.prog 3 189 (Rows.laid_ferrybridge_hart_operations (H := Unit))) = opersL.map fun n => some (.int .i64 n) := by kernel_rfl
theorem TT.grow {w w' : World} (T : TT w w.heap.size) (G : Gr w w') : TT w' w'.heap.size := by
  have h := T.of (Fr.ofGr G (Nat.le_refl _))
  have s := G.size
  exact ⟨h.tab, ⟨h.tb.sizes, h.tb.opers, Nat.lt_of_lt_of_le h.tb.b1 s, Nat.lt_of_lt_of_le h.tb.b2 s⟩, Nat.lt_of_lt_of_le h.b1 s, Nat.lt_of_lt_of_le h.b2 s⟩
end Go.Proofs.YtchllaeembmioaaGreatDoor.Hc
namespace Go.Proofs.YtchllaeembmioaaGreatDoor.Mc
open Go.ChangeShapes Go.WideShapes Go.ChangeAt Go.RowKit Mm Hh Hc

structure Qv where
  h : Hv
  m : Value
  out : Value
  n : Int
  sto : Value
def qA (d : Qv) : Array Value := (hL d.h ++ [d.m, d.out, .int .i64 d.n, d.sto]).toArray
theorem qA_size {d : Qv} (o : d.h.Ok) : (qA d).size = 41 := by simp [qA, hL_len o]
theorem qA_get {d : Qv} (o : d.h.Ok) {i : Nat} (hi : i < 37) : (qA d)[i]? = (hL d.h)[i]? := by
  have := hL_len o
  unfold qA
  rw [List.getElem?_toArray, List.getElem?_append_left (by omega)]
theorem qA_fld {d : Qv} (o : d.h.Ok) (j : Nat) : (qA d)[37 + j]? = [d.m, d.out, .int .i64 d.n, d.sto][j]? := by
  unfold qA
  rw [List.getElem?_toArray, List.getElem?_append_right (by simp [hL_len o])]
  simp [hL_len o]
theorem one_qA {d : Qv} (h1 : d.m.oneCell' = true) (h2 : d.out.oneCell' = true) (h3 : d.sto.oneCell' = true) : (qA d).all (·.oneCell') = true := by
  refine all_oneCell_toArray ?_
  intro v hv
  simp only [hL, List.mem_append, List.mem_map, List.mem_cons, List.not_mem_nil, or_false] at hv
  rcases hv with (⟨n, _, rfl⟩ | rfl | rfl | rfl | rfl | rfl) | rfl | rfl | rfl | rfl <;> first | rfl | assumption
theorem iQ : (Tryz.prog.info? 84).map (·.size) = some 41 := by kernel_rfl
theorem zQ : (Tryz.prog.info? 84).bind (·.zero) = some (.agg (qA ⟨h0, nilS, nilS, 0, nilS⟩)) := by kernel_rfl
theorem fold_one (off : Nat) (v : Value) (cs : Array Value) : ((#[v] : Array Value).zipIdx.foldl (fun cs (x : Value × Nat) => cs.setIfInBounds (off + x.2) x.1) cs) = cs.setIfInBounds off v := rfl
theorem fold_hart {h : Hv} (o : h.Ok) (d : Qv) (od : d.h.Ok) : ((hA h).zipIdx.foldl (fun cs (x : Value × Nat) => cs.setIfInBounds (0 + x.2) x.1) (qA d)) = qA { d with h := h } := by
  have a1 := fold_set 0 (hA h) (qA d)
  have s1 := hA_size o
  have s2 := qA_size od
  apply Array.ext_getElem?
  intro k
  rw [a1.2 k]
  by_cases hk : k < 37
  · rw [if_pos (by omega), qA_get (d := { d with h := h }) o hk]
    simp [hA]
  · rw [if_neg (by omega)]
    obtain ⟨j, rfl⟩ : ∃ j, k = 37 + j := ⟨k - 37, by omega⟩
    rw [qA_fld od, qA_fld (d := { d with h := h }) o]
theorem built_five {P : Program} {t : TypeId} {it : TypeInfo} {z : Value} {fs : Array Field} {ps : List (Nat × Nat)} (hi : P.info? t = some it) (hu : P.underlying t = some (.struct fs)) (hz : it.zero = some z)
    (hp : fs.toList.mapM (fun f => (P.info? f.type).map fun i => (f.offset, i.size)) = some ps) {n : Nat} (p0 : ps.toArray[0]? = some (0, n)) (p1 : ps.toArray[1]? = some (n, 1)) (p2 : ps.toArray[2]? = some (n + 1, 1)) (p3 : ps.toArray[3]? = some (n + 2, 1)) (p4 : ps.toArray[4]? = some (n + 3, 1))
    (A : Array Value) (hA : A.size = n) (v1 v2 v3 v4 : Value) (h1 : v1.cells = #[v1]) (h2 : v2.cells = #[v2]) (h3 : v3.cells = #[v3]) (h4 : v4.cells = #[v4]) (hs : z.cells.size = n + 4) :
    P.built t [(0, .agg A), (1, v1), (2, v2), (3, v3), (4, v4)] = some ((((((A.zipIdx.foldl (fun cs (x : Value × Nat) => cs.setIfInBounds (0 + x.2) x.1) z.cells).setIfInBounds n v1).setIfInBounds (n + 1) v2).setIfInBounds (n + 2) v3).setIfInBounds (n + 3) v4)) := by
  unfold Program.built
  simp only [hi, hu, hz, hp]
  have a1 := (fold_set 0 A z.cells).1
  unfold Instr.fill
  simp only [p0]
  have e : (Value.agg A).cells = A := rfl
  rw [e, if_neg (by simp [hA]; omega)]
  unfold Instr.fill
  simp only [p1]
  rw [h1, if_neg (by rw [a1]; simp; omega), fold_one]
  unfold Instr.fill
  simp only [p2]
  rw [h2, if_neg (by rw [Array.size_setIfInBounds, a1]; simp; omega), fold_one]
  unfold Instr.fill
  simp only [p3]
  rw [h3, if_neg (by rw [Array.size_setIfInBounds, Array.size_setIfInBounds, a1]; simp; omega), fold_one]
  unfold Instr.fill
  simp only [p4]
  rw [h4, if_neg (by rw [Array.size_setIfInBounds, Array.size_setIfInBounds, Array.size_setIfInBounds, a1]; simp; omega), fold_one]
  unfold Instr.fill
  rfl
theorem built_did5 {h : Hv} (o : h.Ok) (m out : Value) (n : Int) (sto : Value) (h1 : m.cells = #[m]) (h2 : out.cells = #[out]) (h3 : sto.cells = #[sto]) :
    Tryz.prog.built 84 [(0, .agg (hA h)), (1, m), (2, out), (3, .int .i64 n), (4, sto)] = some (qA ⟨h, m, out, n, sto⟩) := by
  obtain ⟨it, hi, hz⟩ := info_zero zQ
  have z0 := h0_ok
  rw [built_five (n := 37) hi Tryz.underlying84 hz (ps := [(0, 37), (37, 1), (38, 1), (39, 1), (40, 1)]) (by kernel_rfl) rfl rfl rfl rfl rfl (hA h) (hA_size o) m out (.int .i64 n) sto h1 h2 rfl h3 (by show (qA _).size = 41; exact qA_size z0)]
  have c0 : (Value.agg (qA ⟨h0, nilS, nilS, 0, nilS⟩)).cells = qA ⟨h0, nilS, nilS, 0, nilS⟩ := rfl
  rw [c0, fold_hart o _ z0]
  have l := hL_len o
  unfold qA
  simp only [List.setIfInBounds_toArray, List.set_append_right _ _ (show (hL h).length ≤ 37 by omega), List.set_append_right _ _ (show (hL h).length ≤ 38 by omega), List.set_append_right _ _ (show (hL h).length ≤ 39 by omega), List.set_append_right _ _ (show (hL h).length ≤ 40 by omega), l]
  rfl
end Go.Proofs.YtchllaeembmioaaGreatDoor.Mc
