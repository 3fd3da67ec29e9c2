/-
  Ex, Te, Tj: texts of ours that lie in one file.
-/
import Derived.Test.YtchllaeembmioaaGreatDoorR21
import Derived.Test.YtchllaeembmioaaGreatDoorR22
import Derived.Test.YtchllaeembmioaaGreatDoorR17
import Derived.Test.YtchllaeembmioaaGreatDoorR19
import Derived.Test.YtchllaeembmioaaGreatDoorR12
import Derived.Deep.RegionWith
set_option linter.unusedVariables false
set_option linter.unusedSimpArgs false
set_option maxHeartbeats 8000000
set_option maxRecDepth 100000
namespace Go.Proofs.YtchllaeembmioaaGreatDoor.En
open Go.ChangeShapes Go.WideShapes Go.ChangeAt Go.RowKit Mm Hh Hc Mc

theorem one_ca (r p l : Int) (a : Option Addr) (n c : Nat) : (#[.int .i64 r, .slice a n c, .int .i64 p, .int .i64 l] : Array Value).all (·.oneCell') = true := by
  refine all_oneCell_toArray ?_
  intro v hv
  simp only [List.mem_cons, List.not_mem_nil, or_false] at hv
  rcases hv with rfl | rfl | rfl | rfl <;> rfl
theorem step_mapUpdate {P : Program} {ops : Array Oper} {o : Oper} {a : Act} {w : World} {K : Act → World → Prop} {Q : Exit → Act → World → Prop} {E : Prop} (hg : o.guard = none) (m x v : Operand) (t : TypeId) (hop : o.op = Op.mapUpdate t m x v)
    (k e : TypeId) (Kk : Maps.Keyed P k) (ht : P.underlying t = some (.map k e)) (R : Value → Option (DataW Value × List MemPlace)) (b n : Nat) (D : DataW Value)
    (hm : a.eval m = .map (some b)) (hown : w.ownsMap P k R b n D) (hn : n < maxLen) (key val : Value) (kl : Lit) (hx : a.eval x = key) (hv : a.eval v = val) (hkey : keyOf P k key = some kl)
    (d : DataW Value) (ps : List MemPlace) (hval : R val = some (d, ps))
    (hK : ∀ w', w'.ownsMap P k R b (n + 1) (D.put kl d) → w.grownBy w' (some b) → K (a.put o.dst undef) w') : if Region.wanted o (yielded ops a.tmps) = true then Oper.wp P o a w K Q else E := by
  rw [if_pos (by simp [Region.wanted, hg])]
  obtain ⟨w', hrun, r1, r2⟩ := hown.update Kk ht hn hkey hval
  unfold Oper.wp
  simp [execOp, hop, hm, hx, hv, hrun, Result.andThen]
  exact hK w' r1 r2
section
variable {lo : Nat} {w : World} {base g gh hc : Nat} {room : Int} {M O : Value} {a : Option Addr} {n cap mb mn : Nat} {D : DataW Value} {s : Sh} {L : List Kc.Bv} {pu sl : Int}
theorem keep_gen (E : Ew lo w base g room M gh hc O a n cap mb mn D s L pu sl) (hn : n ≤ 140737488351232) (hmn : mn ≤ 1000000) {bp : Int} (hb0 : 0 ≤ bp) (hb1 : bp < 4294967296) (va : Option Addr) (vn vc : Nat) (ca : Option Addr) (cn cc : Nat) (r0 p1 l1 er : Int) (L1 : List Kc.Bv) (hr : er = 0 → r0 = room)
    (P : ∀ W : World, Gr w W → Calls Tryz.prog 97 #[.agg #[.int .i64 room, .slice a n cap, .int .i64 pu, .int .i64 sl], .agg #[.int .u32 bp, .slice va vn vc]] W fun e w' => ∃ a1 n1 c1, e = .returned (.tuple #[.agg #[.int .i64 r0, .slice a1 n1 c1, .int .i64 p1, .int .i64 l1], .int .i64 er]) ∧ (Kc.Bt W.heap.size w' a1 n1 L1 ∧ n1 ≤ c1) ∧ Gr W w')
    (hcd : er = 0 → ∀ b ∈ L1, b ∈ L ∧ ¬ b.pc = bp ∨ b.pc = bp ∧ Ts.Ct w ca cn (Ts.codeV bp b.is 0)) (hl1 : L1.length ≤ 140737488351232) :
    Calls Tryz.prog 73 #[.pointer (some ⟨g, 0, none⟩), .agg #[.int .u32 bp, .slice va vn vc], .slice ca cn cc] w fun e w' => e = .returned (.tuple #[]) ∧ (¬ er = 0 → Gr w w') ∧ (er = 0 → Ev w.heap.size w' base g room s L1 p1 l1 (mn + 1)) ∧ Fm base w w' := by
  have HE : Hid (Ew lo w base g room M gh hc O a n cap mb mn D s L pu sl) := E
  have HP : Hid (∀ W : World, Gr w W → Calls Tryz.prog 97 #[.agg #[.int .i64 room, .slice a n cap, .int .i64 pu, .int .i64 sl], .agg #[.int .u32 bp, .slice va vn vc]] W fun e w' => ∃ a1 n1 c1, e = .returned (.tuple #[.agg #[.int .i64 r0, .slice a1 n1 c1, .int .i64 p1, .int .i64 l1], .int .i64 er]) ∧ (Kc.Bt W.heap.size w' a1 n1 L1 ∧ n1 ≤ c1) ∧ Gr W w') := P
  have HCD : Hid (er = 0 → ∀ b ∈ L1, b ∈ L ∧ ¬ b.pc = bp ∨ b.pc = bp ∧ Ts.Ct w ca cn (Ts.codeV bp b.is 0)) := hcd
  have HHR : Hid (er = 0 → r0 = room) := hr
  have HL1 : Hid (L1.length ≤ 140737488351232) := hl1
  have HKY : Hid (keyOf Tryz.prog 42 (.int .u32 bp) = some (.int .u32 bp)) := keyU hb0 hb1
  have hgl : g < w.heap.size := E.bw.lt
  have HS : Hid (∀ W : World, Gr (w.alloc (.cells #[.int .u32 bp, .slice va vn vc] 45)) W → (fun W => W.cell? ⟨g, 4, none⟩ = some (.int .i64 room) ∧ W.cell? ⟨g, 5, none⟩ = some (.slice a n cap) ∧ W.cell? ⟨g, 6, none⟩ = some (.int .i64 pu) ∧ W.cell? ⟨g, 7, none⟩ = some (.int .i64 sl) ∧ W.cell? ⟨w.heap.size, 0, none⟩ = some (.int .u32 bp) ∧ W.cell? ⟨w.heap.size, 1, none⟩ = some (.slice va vn vc)) W) := fun W G => by
    have EW := E.of (((Gr.refl w).alloc _).trans G)
    have e : W.heap[w.heap.size]? = some (.cells #[.int .u32 bp, .slice va vn vc] 45 (0, 0)) := Kc.up_h G (heap_alloc_new w _)
    exact ⟨EW.c4, EW.c5, EW.c6, EW.c7, cell_of_row _ _ _ _ _ _ e, cell_of_row _ _ _ _ _ _ e⟩
  clear E P hcd hr hb0 hb1 hl1
  go_enter Tryz.func73, Tryz.ntmps73
  go_wp2_with fail
  generalize hw0 : w.alloc (.cells #[.int .u32 bp, .slice va vn vc] 45) = w0 at *
  have HW0 : Hid (w.alloc (.cells #[.int .u32 bp, .slice va vn vc] 45) = w0) := hw0
  have HG0 : Hid (Gr w w0) := by rw [← hw0]; exact (Gr.refl w).alloc _
  clear hw0
  apply Kc.share
  · intro CONT
    refine wp_region_held_drew (S := fun W => W.cell? ⟨g, 4, none⟩ = some (.int .i64 room) ∧ W.cell? ⟨g, 5, none⟩ = some (.slice a n cap) ∧ W.cell? ⟨g, 6, none⟩ = some (.int .i64 pu) ∧ W.cell? ⟨g, 7, none⟩ = some (.int .i64 sl) ∧ W.cell? ⟨w.heap.size, 0, none⟩ = some (.int .u32 bp) ∧ W.cell? ⟨w.heap.size, 1, none⟩ = some (.slice va vn vc)) (by kernel_rfl) ?_ (fun hHeld => ?_)
    · exact HS.out _ (Gr.refl _).drew
    have HS0 : Hid _ := hHeld
    clear hHeld
    refine wpAnyH_take (i := 0) (v := .pointer (some ⟨g, 0, none⟩)) rfl (by kernel_rfl) (by kernel_rfl) (by kernel_rfl) (fun _ _ _ h => h) (Or.inl ⟨by rfl, fun W hW => by obtain ⟨y4, y5, y6, y7, z0, z1⟩ := hW; go_simp⟩) HS0.out ?_
    simp only [List.getElem_toArray, List.getElem_cons_succ, List.getElem_cons_zero, Act.put, List.setIfInBounds_toArray, List.set_cons_zero, List.set_cons_succ]
    refine wpAnyH_take (i := 1) (v := .pointer (some ⟨g, 0, none⟩)) rfl (by kernel_rfl) (by kernel_rfl) (by kernel_rfl) (fun _ _ _ h => h) (Or.inl ⟨by rfl, fun W hW => by obtain ⟨y4, y5, y6, y7, z0, z1⟩ := hW; go_simp⟩) HS0.out ?_
    simp only [List.getElem_toArray, List.getElem_cons_succ, List.getElem_cons_zero, Act.put, List.setIfInBounds_toArray, List.set_cons_zero, List.set_cons_succ]
    refine wpAnyH_take (i := 2) (v := .pointer (some ⟨g, 4, none⟩)) rfl (by kernel_rfl) (by kernel_rfl) (by kernel_rfl) (fun _ _ _ h => h) (Or.inl ⟨by rfl, fun W hW => by obtain ⟨y4, y5, y6, y7, z0, z1⟩ := hW; go_simp⟩) HS0.out ?_
    simp only [List.getElem_toArray, List.getElem_cons_succ, List.getElem_cons_zero, Act.put, List.setIfInBounds_toArray, List.set_cons_zero, List.set_cons_succ]
    refine wpAnyH_take (i := 3) (v := .agg #[.int .i64 room, .slice a n cap, .int .i64 pu, .int .i64 sl]) rfl (by kernel_rfl) (by kernel_rfl) (by kernel_rfl) (fun _ _ _ h => h) (Or.inl ⟨by rfl, fun W hW => by obtain ⟨y4, y5, y6, y7, z0, z1⟩ := hW; go_simp⟩) HS0.out ?_
    simp only [List.getElem_toArray, List.getElem_cons_succ, List.getElem_cons_zero, Act.put, List.setIfInBounds_toArray, List.set_cons_zero, List.set_cons_succ]
    refine wpAnyH_take (i := 4) (v := .agg #[.int .u32 bp, .slice va vn vc]) rfl (by kernel_rfl) (by kernel_rfl) (by kernel_rfl) (fun _ _ _ h => h) (Or.inl ⟨by rfl, fun W hW => by obtain ⟨y4, y5, y6, y7, z0, z1⟩ := hW; go_simp⟩) HS0.out ?_
    simp only [List.getElem_toArray, List.getElem_cons_succ, List.getElem_cons_zero, Act.put, List.setIfInBounds_toArray, List.set_cons_zero, List.set_cons_succ]
    refine wpAnyH_ready (rs := [5, 9]) (by kernel_rfl) (by simp) ?_
    refine AllReadyH.cons rfl (fun K hK => ?cf) (AllReadyH.cons rfl (fun K hK => ?af) AllReadyH.nil)
    case cf =>
      go_simp
      refine (HP.out _ (HG0.out.drew)).mono ?_
      rintro e wd ⟨a1, n1, c1, rfl, ⟨B1, hc1⟩, Gd⟩
      have HB1 : Hid (Kc.Bt w.heap.size wd a1 n1 L1) := B1.low (by first | exact HG0.out.size | exact (HG0.out.alloc _).size)
      have HGd : Hid (Gr w0 wd) := (Gr.refl _).drew.trans Gd
      clear Gd B1
      have HS1 : Hid _ := HS.out _ HGd.out
      refine hK.out _ _ HS1.out (fun hx => ?_)
      clear hK K hx
      refine wpAnyH_take (i := 6) (v := .tuple #[.agg #[.int .i64 r0, .slice a1 n1 c1, .int .i64 p1, .int .i64 l1], .int .i64 er]) rfl (by kernel_rfl) (by kernel_rfl) (by kernel_rfl) (fun _ _ _ h => h) (Or.inl ⟨by rfl, fun W hW => by obtain ⟨y4, y5, y6, y7, z0, z1⟩ := hW; go_simp⟩) HS1.out ?_
      simp only [List.getElem_toArray, List.getElem_cons_succ, List.getElem_cons_zero, Act.put, List.setIfInBounds_toArray, List.set_cons_zero, List.set_cons_succ]
      refine wpAnyH_take (i := 7) (v := .agg #[.int .i64 r0, .slice a1 n1 c1, .int .i64 p1, .int .i64 l1]) rfl (by kernel_rfl) (by kernel_rfl) (by kernel_rfl) (fun _ _ _ h => h) (Or.inl ⟨by rfl, fun W hW => by obtain ⟨y4, y5, y6, y7, z0, z1⟩ := hW; go_simp⟩) HS1.out ?_
      simp only [List.getElem_toArray, List.getElem_cons_succ, List.getElem_cons_zero, Act.put, List.setIfInBounds_toArray, List.set_cons_zero, List.set_cons_succ]
      refine wpAnyH_take (i := 8) (v := .int .i64 er) rfl (by kernel_rfl) (by kernel_rfl) (by kernel_rfl) (fun _ _ _ h => h) (Or.inl ⟨by rfl, fun W hW => by obtain ⟨y4, y5, y6, y7, z0, z1⟩ := hW; go_simp⟩) HS1.out ?_
      simp only [List.getElem_toArray, List.getElem_cons_succ, List.getElem_cons_zero, Act.put, List.setIfInBounds_toArray, List.set_cons_zero, List.set_cons_succ]
      refine wpAnyH_ready (rs := [9]) (by kernel_rfl) (by simp) ?_
      refine AllReadyH.cons rfl (fun K hK => ?_) AllReadyH.nil
      go_simp
      refine hK.out _ _ (HS.out _ (HGd.out.alloc _)) (fun hx => ?_)
      clear hK K hx
      refine held_store_row (i := 10) (by kernel_rfl) rfl rfl 35 (.tmp 6) (.tmp 15) rfl wd.heap.size #[.int .i64 r0, .slice a1 n1 c1, .int .i64 p1, .int .i64 l1] (by simp [Act.eval]) (by simp [Act.eval]) 35 _ (heap_alloc_new wd _) Kc.iCa rfl (one_ca _ _ _ _ _ _) ?_ ?_
      · exact HS.out _ (gr_setRow (HGd.out.alloc _) HGd.out.size _)
      refine wpAnyH_take (i := 11) (v := .int .i64 er) rfl (by kernel_rfl) (by kernel_rfl) (by kernel_rfl) (fun _ _ _ h => h) (Or.inl ⟨by rfl, fun W hW => by obtain ⟨y4, y5, y6, y7, z0, z1⟩ := hW; go_simp⟩) (HS.out _ (gr_setRow (HGd.out.alloc _) HGd.out.size _)) ?_
      simp only [List.getElem_toArray, List.getElem_cons_succ, List.getElem_cons_zero, Act.put, List.setIfInBounds_toArray, List.set_cons_zero, List.set_cons_succ]
      refine wpAnyH_done (by kernel_rfl) ?_ _
      refine at_world (fun W => W.heap[wd.heap.size]? = some (.cells #[.int .i64 r0, .slice a1 n1 c1, .int .i64 p1, .int .i64 l1] 35 (0, 0)) ∧ Kc.Bt w.heap.size W a1 n1 L1 ∧ Gr w0 W) ⟨setRow_heap _ _ _ _ _ (0, 0) (heap_alloc_new wd _), HB1.out.of (gr_setRow ((Gr.refl _).alloc _) (Nat.le_refl _) _), gr_setRow (HGd.out.alloc _) HGd.out.size _⟩ ?_
      obtain ⟨o, ho⟩ : ∃ o : Nat, o = wd.heap.size := ⟨_, rfl⟩
      rw [← ho]
      clear ho HB1 HS1 HGd HS0
      clear wd
      revert o hc1
      revert a1 n1 c1
      exact CONT.out
    case af =>
      go_simp
      refine hK.out _ _ (HS.out _ ((Gr.refl _).alloc _).drew) (fun hx => ?_)
      clear hK K hx
      refine wpAnyH_ready (rs := [5]) (by kernel_rfl) (by simp) ?_
      refine AllReadyH.cons rfl (fun K hK => ?_) AllReadyH.nil
      go_simp
      refine (HP.out _ ((HG0.out.alloc _).drew)).mono ?_
      rintro e wd ⟨a1, n1, c1, rfl, ⟨B1, hc1⟩, Gd⟩
      have HB1 : Hid (Kc.Bt w.heap.size wd a1 n1 L1) := B1.low (by first | exact HG0.out.size | exact (HG0.out.alloc _).size)
      have HNw : Hid (wd.heap[w0.heap.size]? = some (.cells _ 35 (0, 0))) := Kc.up_h Gd (Kc.up_h (Gr.refl _).drew (heap_alloc_new w0 _))
      have HGd : Hid (Gr w0 wd) := Gr.trans (Gr.drew ((Gr.refl w0).alloc _)) Gd
      clear Gd B1
      have HS1 : Hid _ := HS.out _ HGd.out
      refine hK.out _ _ HS1.out (fun hx => ?_)
      clear hK K hx
      refine wpAnyH_take (i := 6) (v := .tuple #[.agg #[.int .i64 r0, .slice a1 n1 c1, .int .i64 p1, .int .i64 l1], .int .i64 er]) rfl (by kernel_rfl) (by kernel_rfl) (by kernel_rfl) (fun _ _ _ h => h) (Or.inl ⟨by rfl, fun W hW => by obtain ⟨y4, y5, y6, y7, z0, z1⟩ := hW; go_simp⟩) HS1.out ?_
      simp only [List.getElem_toArray, List.getElem_cons_succ, List.getElem_cons_zero, Act.put, List.setIfInBounds_toArray, List.set_cons_zero, List.set_cons_succ]
      refine wpAnyH_take (i := 7) (v := .agg #[.int .i64 r0, .slice a1 n1 c1, .int .i64 p1, .int .i64 l1]) rfl (by kernel_rfl) (by kernel_rfl) (by kernel_rfl) (fun _ _ _ h => h) (Or.inl ⟨by rfl, fun W hW => by obtain ⟨y4, y5, y6, y7, z0, z1⟩ := hW; go_simp⟩) HS1.out ?_
      simp only [List.getElem_toArray, List.getElem_cons_succ, List.getElem_cons_zero, Act.put, List.setIfInBounds_toArray, List.set_cons_zero, List.set_cons_succ]
      refine wpAnyH_take (i := 8) (v := .int .i64 er) rfl (by kernel_rfl) (by kernel_rfl) (by kernel_rfl) (fun _ _ _ h => h) (Or.inl ⟨by rfl, fun W hW => by obtain ⟨y4, y5, y6, y7, z0, z1⟩ := hW; go_simp⟩) HS1.out ?_
      simp only [List.getElem_toArray, List.getElem_cons_succ, List.getElem_cons_zero, Act.put, List.setIfInBounds_toArray, List.set_cons_zero, List.set_cons_succ]
      refine held_store_row (i := 10) (by kernel_rfl) rfl rfl 35 (.tmp 6) (.tmp 15) rfl w0.heap.size #[.int .i64 r0, .slice a1 n1 c1, .int .i64 p1, .int .i64 l1] (by simp [Act.eval]) (by simp [Act.eval]) 35 _ HNw.out Kc.iCa rfl (one_ca _ _ _ _ _ _) ?_ ?_
      · exact HS.out _ (gr_setRow HGd.out (Nat.le_refl _) _)
      refine wpAnyH_take (i := 11) (v := .int .i64 er) rfl (by kernel_rfl) (by kernel_rfl) (by kernel_rfl) (fun _ _ _ h => h) (Or.inl ⟨by rfl, fun W hW => by obtain ⟨y4, y5, y6, y7, z0, z1⟩ := hW; go_simp⟩) (HS.out _ (gr_setRow HGd.out (Nat.le_refl _) _)) ?_
      simp only [List.getElem_toArray, List.getElem_cons_succ, List.getElem_cons_zero, Act.put, List.setIfInBounds_toArray, List.set_cons_zero, List.set_cons_succ]
      refine wpAnyH_done (by kernel_rfl) ?_ _
      refine at_world (fun W => W.heap[w0.heap.size]? = some (.cells #[.int .i64 r0, .slice a1 n1 c1, .int .i64 p1, .int .i64 l1] 35 (0, 0)) ∧ Kc.Bt w.heap.size W a1 n1 L1 ∧ Gr w0 W) ⟨setRow_heap _ _ _ _ _ (0, 0) HNw.out, HB1.out.to fun k q t f _ ht hk => setRow_other _ _ _ _ (ne_of_types hk HNw.out (by rcases ht with rfl | rfl <;> decide)), gr_setRow HGd.out (Nat.le_refl _) _⟩ ?_
      obtain ⟨o, ho⟩ : ∃ o : Nat, o = w0.heap.size := ⟨_, rfl⟩
      rw [← ho]
      clear ho HB1 HS1 HGd HS0 HNw
      clear wd
      revert o hc1
      revert a1 n1 c1
      exact CONT.out
  · intro a1 n1 c1 hc1 o W ⟨K0, B1, GW⟩
    have HBt : Hid (Kc.Bt w.heap.size W a1 n1 L1) := B1
    have HGW : Hid (Gr w W) := HG0.out.trans GW
    have HBl : Hid (W.heap[w.heap.size]? = some (.cells #[.int .u32 bp, .slice va vn vc] 45 (0, 0))) := Kc.up_h GW (by rw [← HW0.out]; exact heap_alloc_new w _)
    have k0 : W.cell? ⟨o, 0, none⟩ = some (.int .i64 r0) := cell_of_row _ _ _ _ _ _ K0
    have k1 : W.cell? ⟨o, 1, none⟩ = some (.slice a1 n1 c1) := cell_of_row _ _ _ _ _ _ K0
    have k2 : W.cell? ⟨o, 2, none⟩ = some (.int .i64 p1) := cell_of_row _ _ _ _ _ _ K0
    have k3 : W.cell? ⟨o, 3, none⟩ = some (.int .i64 l1) := cell_of_row _ _ _ _ _ _ K0
    clear B1 GW HS HP HW0 HG0 K0
    clear w0
    by_cases her : er = 0
    · have hrr := HHR.out her
      subst her
      subst hrr
      have EW : Ew lo W base g r0 M gh hc O a n cap mb mn D s L pu sl := HE.out.of HGW.out
      have HEW : Hid (Ew lo W base g r0 M gh hc O a n cap mb mn D s L pu sl) := EW
      obtain ⟨m1, m2, m3⟩ := EW.mid r0 a1 n1 c1 p1 l1
      have HM1 : Hid (Bw 66 (rsE r0 a1 n1 c1 p1 l1 mb) (set4 W g r0 a1 n1 c1 p1 l1) base g M gh hc O s) := m1
      have HM2 : Hid (Fm base W (set4 W g r0 a1 n1 c1 p1 l1)) := m2
      have HM3 : Hid ((set4 W g r0 a1 n1 c1 p1 l1).ownsMap Tryz.prog 42 Rh mb mn D) := m3
      have g4 := EW.c4
      have g5 := EW.c5
      have g6 := EW.c6
      have g7 := EW.c7
      have f4 : W.frozen? ⟨g, 4, none⟩ = false := EW.bw.fz 4
      have f5 : W.frozen? ⟨g, 5, none⟩ = false := EW.bw.fz 5
      have f6 : W.frozen? ⟨g, 6, none⟩ = false := EW.bw.fz 6
      have f7 : W.frozen? ⟨g, 7, none⟩ = false := EW.bw.fz 7
      clear EW m1 m2 m3 HE HHR
      go_wp2_with fail
      refine at_world (fun V => V = set4 W g r0 a1 n1 c1 p1 l1) rfl ?_
      intro V hV
      rw [← hV] at HM1 HM2 HM3
      have HV : Hid (V = set4 W g r0 a1 n1 c1 p1 l1) := hV
      have HS4 : Hid (V.cell? ⟨g, 8, none⟩ = some (.map (some mb)) ∧ V.cell? ⟨w.heap.size, 0, none⟩ = some (.int .u32 bp)) := ⟨HM1.out.rest 4, cell_of_row _ _ _ _ _ _ (HM2.out.row HBl.out (by decide))⟩
      clear hV g4 g5 g6 g7 f4 f5 f6 f7 k0 k1 k2 k3
      refine wp_region_held_drew (S := fun W => W.cell? ⟨g, 8, none⟩ = some (.map (some mb)) ∧ W.cell? ⟨w.heap.size, 0, none⟩ = some (.int .u32 bp)) (by kernel_rfl) ?_ (fun hHeld => ?_)
      · exact HS4.out
      have HS0 : Hid _ := hHeld
      clear hHeld
      refine wpAnyH_take (i := 0) (v := .pointer (some ⟨g, 0, none⟩)) rfl (by kernel_rfl) (by kernel_rfl) (by kernel_rfl) (fun _ _ _ h => h) (Or.inl ⟨by rfl, fun W hW => by obtain ⟨y0, y1⟩ := hW; go_simp⟩) HS0.out ?_
      simp only [List.getElem_toArray, List.getElem_cons_succ, List.getElem_cons_zero, Act.put, List.setIfInBounds_toArray, List.set_cons_zero, List.set_cons_succ]
      refine wpAnyH_take (i := 1) (v := .pointer (some ⟨g, 0, none⟩)) rfl (by kernel_rfl) (by kernel_rfl) (by kernel_rfl) (fun _ _ _ h => h) (Or.inl ⟨by rfl, fun W hW => by obtain ⟨y0, y1⟩ := hW; go_simp⟩) HS0.out ?_
      simp only [List.getElem_toArray, List.getElem_cons_succ, List.getElem_cons_zero, Act.put, List.setIfInBounds_toArray, List.set_cons_zero, List.set_cons_succ]
      refine wpAnyH_take (i := 2) (v := .pointer (some ⟨g, 8, none⟩)) rfl (by kernel_rfl) (by kernel_rfl) (by kernel_rfl) (fun _ _ _ h => h) (Or.inl ⟨by rfl, fun W hW => by obtain ⟨y0, y1⟩ := hW; go_simp⟩) HS0.out ?_
      simp only [List.getElem_toArray, List.getElem_cons_succ, List.getElem_cons_zero, Act.put, List.setIfInBounds_toArray, List.set_cons_zero, List.set_cons_succ]
      refine wpAnyH_take (i := 3) (v := .map (some mb)) rfl (by kernel_rfl) (by kernel_rfl) (by kernel_rfl) (fun _ _ _ h => h) (Or.inl ⟨by rfl, fun W hW => by obtain ⟨y0, y1⟩ := hW; go_simp⟩) HS0.out ?_
      simp only [List.getElem_toArray, List.getElem_cons_succ, List.getElem_cons_zero, Act.put, List.setIfInBounds_toArray, List.set_cons_zero, List.set_cons_succ]
      refine wpAnyH_take (i := 4) (v := .pointer (some ⟨w.heap.size, 0, none⟩)) rfl (by kernel_rfl) (by kernel_rfl) (by kernel_rfl) (fun _ _ _ h => h) (Or.inl ⟨by rfl, fun W hW => by obtain ⟨y0, y1⟩ := hW; go_simp⟩) HS0.out ?_
      simp only [List.getElem_toArray, List.getElem_cons_succ, List.getElem_cons_zero, Act.put, List.setIfInBounds_toArray, List.set_cons_zero, List.set_cons_succ]
      refine wpAnyH_take (i := 5) (v := .int .u32 bp) rfl (by kernel_rfl) (by kernel_rfl) (by kernel_rfl) (fun _ _ _ h => h) (Or.inl ⟨by rfl, fun W hW => by obtain ⟨y0, y1⟩ := hW; go_simp⟩) HS0.out ?_
      simp only [List.getElem_toArray, List.getElem_cons_succ, List.getElem_cons_zero, Act.put, List.setIfInBounds_toArray, List.set_cons_zero, List.set_cons_succ]
      refine wpAnyH_take (i := 6) (v := .slice ca cn cc) rfl (by kernel_rfl) (by kernel_rfl) (by kernel_rfl) (fun _ _ _ h => h) (Or.inl ⟨by rfl, fun W hW => by obtain ⟨y0, y1⟩ := hW; go_simp⟩) HS0.out ?_
      simp only [List.getElem_toArray, List.getElem_cons_succ, List.getElem_cons_zero, Act.put, List.setIfInBounds_toArray, List.set_cons_zero, List.set_cons_succ]
      refine wpAnyH_ready (rs := [7]) (by kernel_rfl) (by simp) ?_
      refine AllReadyH.cons rfl (fun K hK => step_mapUpdate rfl (.tmp 26) (.tmp 28) (.tmp 29) 64 rfl 42 117 kU Tryz.underlying64 Rh mb mn D (by simp [Act.eval]) HM3.out.drew (by unfold maxLen; omega) (.int .u32 bp) (.slice ca cn cc) (.int .u32 bp) (by simp [Act.eval]) (by simp [Act.eval]) HKY.out (.held (.slice ca cn cc)) [] rfl (fun w5 h5 q5 => hK.out _ _ ?_ (fun hx => ?_))) AllReadyH.nil
      · have st := map_st HM3.out.drew q5
        exact ⟨(World.cell?_of_block (st _ _ _ _ HM1.out.blk)).trans HS4.out.1, (World.cell?_of_block (st _ _ _ _ (HM2.out.row HBl.out (by decide)))).trans HS4.out.2⟩
      clear hK K hx
      refine wpAnyH_done (by kernel_rfl) ?_ _
      have HQ := HEW.out.put HBt.out hc1 (W := w5) (pu' := p1) (sl' := l1) (by rw [← HV.out]; exact ⟨q5.os, q5.tape, q5.output, q5.size, q5.block⟩) h5 (fun b hb => by
        rcases HCD.out (by trivial) b hb with ⟨hb1, hb2⟩ | ⟨hb1, hb2⟩
        · obtain ⟨xa, xn, xc, h1, h2⟩ := HEW.out.code b hb1
          exact ⟨xa, xn, xc, fun z => (Maps.atKey_put_other (fun e => hb2 (by injection e)) _ z).trans (h1 z), h2⟩
        · refine ⟨ca, cn, cc, fun z => ?_, ?_⟩
          · rw [hb1]
            exact Maps.atKey_put_same HM3.out.isMap (kU.key HKY.out) _ z
          · rw [hb1]
            exact hb2.of HGW.out)
      have HF5 : Hid (Fm base w w5) := (Fm.ofGr HGW.out (Nat.le_trans HEW.out.bw.bg (by have := hgl; omega))).trans HQ.2
      have hn1 : n1 ≤ 140737488351232 := by rw [← HBt.out.bs.len]; exact HL1.out
      have HFg : Hid (Calls Tryz.prog 56 #[.pointer (some ⟨g, 0, none⟩)] w5 fun e w' => e = .returned (.tuple #[]) ∧ (∃ D', Ew w.heap.size w' base g r0 M gh hc O a1 n1 c1 mb (mn + 1) D' s L1 p1 l1) ∧ Fm base w5 w') := forget_any HQ.1 hn1
      clear HQ h5 q5 HM1 HM2 HM3 HS4 HS0 HV HEW HBt HBl HGW HCD hn1 HL1
      clear V W
      go_wp2_with fail
      refine Calls.mono HFg.out ?_
      rintro e w6 ⟨rfl, ⟨D6, E6⟩, F6⟩
      have HE6 : Hid (Ev w.heap.size w6 base g r0 s L1 p1 l1 (mn + 1)) := ⟨M, gh, hc, O, a1, n1, c1, mb, D6, E6⟩
      have HF6 : Hid (Fm base w w6) := HF5.out.trans F6
      clear HFg E6 F6 HF5
      go_wp2_with fail
      go_end0
      exact ⟨rfl, HE6.out, HF6.out⟩
    · have her2 : (er != 0) = true := by simpa using her
      have HER : Hid (¬ er = 0) := her
      clear her k0 k1 k2 k3 HBt HBl HCD HHR
      go_wp2_with fail
      refine bodyPost_ret (results_none Tryz.results73 _ _ _) rfl ?_
      exact ⟨rfl, fun _ => HGW.out, fun h => absurd h HER.out, Fm.ofGr HGW.out HE.out.base_le⟩
end
end Go.Proofs.YtchllaeembmioaaGreatDoor.En
namespace Go.Proofs.YtchllaeembmioaaGreatDoor.Ts
open Go.ChangeShapes Go.WideShapes Go.ChangeAt Go.RowKit Mm Hc Mi Bk
open Hh hiding Rn

theorem Sr.at_ {w : World} {g : Nat} (hg : g = w.heap.size) (cs : Array Value) (t n c : Nat) (h : cs.size = n * 5) : Sr (w.alloc (.cells cs t)) (.slice (some ⟨g, 0, none⟩) n c) n 5 cs.toList := by
  subst hg
  exact Sr.new w cs t n c h
theorem Sr.drew {w : World} {vx : Value} {m sz : Nat} {news : List Value} (h : Sr w vx m sz news) : Sr w.drew vx m sz news := h.gr ((Gr.refl _).drewN 1)
theorem iMic : (Tryz.prog.info? 166).map (·.size) = some 5 := by kernel_rfl
theorem qwithin_any (n a b : Int) (w : World) : Calls Tryz.prog 120 #[.int .i64 n, .int .i64 a, .int .i64 b] w fun e w' => e = .returned (.bool (decide (a ≤ n ∧ n ≤ b))) ∧ w' = w := by
  go_enter Tryz.func120, Tryz.ntmps120
  go_wp2
  all_goals
    go_ret
    refine ⟨Dw.ret_bool ?_, rfl⟩
    first
      | (rename_i h; have h2 : ¬ a ≤ n := by omega
         simp [h2]; done)
      | (rename_i h; simp [h]; done)
theorem qwithin_yes {n a b : Int} (h : a ≤ n ∧ n ≤ b) (w : World) : Calls Tryz.prog 120 #[.int .i64 n, .int .i64 a, .int .i64 b] w fun e w' => e = .returned (.bool true) ∧ w' = w := by
  have := qwithin_any n a b w
  rwa [decide_eq_true h] at this
theorem qwithin_no {n a b : Int} (h : ¬ (a ≤ n ∧ n ≤ b)) (w : World) : Calls Tryz.prog 120 #[.int .i64 n, .int .i64 a, .int .i64 b] w fun e w' => e = .returned (.bool false) ∧ w' = w := by
  have := qwithin_any n a b w
  rwa [decide_eq_false h] at this
theorem qrow_any (v : Value) (w : World) : Calls Tryz.prog 117 #[v] w fun e w' => e = .returned v ∧ w' = w := by
  go_enter Tryz.func117, Tryz.ntmps117
  go_wp2
  go_ret
  exact ⟨rfl, rfl⟩
theorem qset_at (r x : Int) (w : World) : Calls Tryz.prog 118 #[.int .i64 r, .int .u32 x] w fun e w' => e = .returned (.agg #[.int .i64 2, .int .i64 r, .int .i64 0, .int .i64 0, .int .u32 x]) ∧ w' = w.alloc (.cells #[.int .i64 2, .int .i64 r, .int .i64 0, .int .i64 0, .int .u32 x] 166) := by
  go_enter Tryz.func118, Tryz.ntmps118
  go_wp2
  exact bodyPost_ret (v := .agg #[.int .i64 2, .int .i64 r, .int .i64 0, .int .i64 0, .int .u32 x]) (results_cell_row Tryz.results118 _ _ _ _ _ (0, 0) _ rfl (heap_alloc_new w _) Tryz.underlying166 rfl iMic) rfl ⟨rfl, rfl⟩
theorem qset_any (r x : Int) (w : World) : Calls Tryz.prog 118 #[.int .i64 r, .int .u32 x] w fun e w' => e = .returned (.agg #[.int .i64 2, .int .i64 r, .int .i64 0, .int .i64 0, .int .u32 x]) ∧ Gr w w' :=
  (qset_at r x w).mono fun e w' ⟨h1, h2⟩ => ⟨h1, by rw [h2]; exact (Gr.refl _).alloc _⟩
end Go.Proofs.YtchllaeembmioaaGreatDoor.Ts
namespace Go.Proofs.YtchllaeembmioaaGreatDoor.Ts
open Go.ChangeShapes Go.WideShapes Go.ChangeAt Go.RowKit Mm Hc Mi Bk
open Hh hiding Rn
theorem jump_any (op rd r1 r2 im a : Int) (w : World) : Calls Tryz.prog 119 #[.agg #[.int .i64 op, .int .i64 rd, .int .i64 r1, .int .i64 r2, .int .i32 im], .int .u32 a] w fun e w' => ∃ v, e = .returned v ∧ Sr w' v 3 5 [.int .i64 528, .int .i64 32, .int .i64 r1, .int .i64 0, .int .u32 (Wd.lo im), .int .i64 2, .int .i64 rd, .int .i64 0, .int .i64 0, .int .u32 (Wd.lo (a + 4)), .int .i64 4, .int .i64 0, .int .i64 32, .int .i64 0, .int .u32 0] ∧ Gr w w' := by
  go_enter Tryz.func119, Tryz.ntmps119
  go_wp2_with fail
  go_region_with (first
    | (go_at_call 118; refine (qset_at _ _ _).mono ?_; rintro e w1 ⟨rfl, rfl⟩)
    | (go_at_call 117; refine (qrow_any _ _).mono ?_; rintro e w1 ⟨rfl, rfl⟩))
  all_goals
    go_wp2_with fail
    go_ret
    refine ⟨_, rfl, ?_, ?_⟩
    · repeat (refine Sr.drew ?_)
      exact Sr.at_ (by simp) #[.int .i64 528, .int .i64 32, .int .i64 r1, .int .i64 0, .int .u32 (IntKind.u32.wrap im), .int .i64 2, .int .i64 rd, .int .i64 0, .int .i64 0, .int .u32 (IntKind.u32.wrap (a + 4)), .int .i64 4, .int .i64 0, .int .i64 32, .int .i64 0, .int .u32 0] 166 3 3 rfl
    · repeat (first | exact Gr.refl _ | refine Gr.drewN ?_ _ | refine Gr.drew ?_ | refine Gr.alloc ?_ _)
end Go.Proofs.YtchllaeembmioaaGreatDoor.Ts
