/-
  The walk of the law CacheKeeps, given what package cache answers, of room 0: it answers true.
-/
import Derived.Test.YteipplmmchaboabKo
import Derived.Test.YteipplmmchaboabKr1
import Derived.Test.YteipplmmchaboabKr2
import Derived.Test.YteipplmmchaboabKr4
import Derived.Deep.RegionHeld3
import Derived.Deep.RegionWith
namespace Go.Proofs.Yteipplmmchaboab.Kc
open Go.ChangeShapes Go.WideShapes Go.ChangeAt Go.RowKit Mm Ts Hc
set_option linter.unusedVariables false
set_option linter.unusedSimpArgs false

/-- What package cache answers, of caches of this room. -/
structure Ck (room : Int) : Prop where
  new : ∀ W : World, Calls Try.prog 6 #[.int .i64 room] W fun e w' => ∃ a c, e = .returned (.tuple #[.agg #[.int .i64 (if 0 ≤ room ∧ room ≤ 64 then room else 0), .slice a 0 c, .int .i64 0, .int .i64 0], .int .i64 (if 0 ≤ room ∧ room ≤ 64 then 0 else 3)]) ∧ Gr W w'
  put : ∀ (W : World) (L : List Bv) (a : Option Addr) (n cp : Nat) (pu sl : Int) (b : Bv) (va : Option Addr) (vn vc : Nat), Bs W a n L → L.length ≤ 64 → Bc W b (.int .u32 b.pc) (.slice va vn vc) → 1 ≤ vn → vn ≤ 16 → Calls Try.prog 13 #[.agg #[.int .i64 room, .slice a n cp, .int .i64 pu, .int .i64 sl], .agg #[.int .u32 b.pc, .slice va vn vc]] W fun e w' => ∃ a' m' c' pu', e = .returned (.tuple #[.agg #[.int .i64 room, .slice a' m' c', .int .i64 pu', .int .i64 sl], .int .i64 0]) ∧ (Bs w' a' m' (putL room L b) ∧ m' ≤ c') ∧ Gr W w'
  bad : ∀ (W : World) (L : List Bv) (a : Option Addr) (n cp : Nat) (pu sl : Int) (b : Bv) (va : Option Addr) (vn vc : Nat), Bs W a n L → L.length ≤ 64 → Bc W b (.int .u32 b.pc) (.slice va vn vc) → (vn < 1 ∨ 16 < vn) → Calls Try.prog 13 #[.agg #[.int .i64 room, .slice a n cp, .int .i64 pu, .int .i64 sl], .agg #[.int .u32 b.pc, .slice va vn vc]] W fun e w' => ∃ a' c', e = .returned (.tuple #[.agg #[.int .i64 0, .slice a' 0 c', .int .i64 0, .int .i64 0], .int .i64 2]) ∧ Gr W w'
  sta : ∀ (W : World) (L : List Bv) (a : Option Addr) (n cp : Nat) (pu sl f t : Int), Bs W a n L → L.length ≤ 64 → (0 ≤ f ∧ f < 4294967296) → (0 ≤ t ∧ t < 4294967296) → Calls Try.prog 11 #[.agg #[.int .i64 room, .slice a n cp, .int .i64 pu, .int .i64 sl], .agg #[.int .u32 f, .int .u32 t]] W fun e w' => ∃ a' m' c' sl', e = .returned (.agg #[.int .i64 room, .slice a' m' c', .int .i64 pu, .int .i64 sl']) ∧ (Bs w' a' m' (keepL f t L) ∧ m' ≤ c') ∧ Gr W w'
  fnd : ∀ (W : World) (L : List Bv) (a : Option Addr) (n cp : Nat) (pu sl pc : Int), Bs W a n L → L.length ≤ 64 → Calls Try.prog 8 #[.agg #[.int .i64 room, .slice a n cp, .int .i64 pu, .int .i64 sl], .int .u32 pc] W fun e w' => ∃ x y, e = .returned (.tuple #[.agg #[x, y], .bool (decide (0 ≤ place pc L 0))]) ∧ Bc w' (fnd pc L) x y ∧ Gr W w'
theorem has_ck (W : World) {b : Bv} {x y : Value} {f t : Int} (B : Bc W b x y) (hf : 0 ≤ f ∧ f < 4294967296) (ht : 0 ≤ t ∧ t < 4294967296) (h : hasB b f t = false) : Calls Try.prog 15 #[.agg #[x, y], .agg #[.int .u32 f, .int .u32 t]] W fun e w' => e = .returned (.bool false) ∧ Gr W w' := by
  have := Has_any B hf ht
  rwa [h] at this
theorem call_bc {W : World} {g t : Nat} (h : W.heap[g]? = some (.cells #[.int .i64 58, .int .i64 0, .int .i64 0, .int .i64 0, .int .i32 0] t (0, 0))) : Bc W ⟨0, [⟨58, 0, 0, 0, 0⟩]⟩ (.int .u32 0) (.slice (some ⟨g, 0, none⟩) 1 1) := by
  have c := fun j => cell_of_row W g j _ _ _ h
  have z : I64 0 := by unfold I64; omega
  refine ⟨rfl, ⟨by decide, by decide⟩, _, _, _, rfl, ⟨rfl, fun i hi => ?_, fun _ => ⟨g, 0, rfl, (Array.getElem?_eq_some_iff.1 h).1, fun j i hj => ?_⟩⟩, by decide⟩
  · rw [List.mem_singleton] at hi
    subst hi
    exact ⟨(by unfold I64; omega : I64 58), z, z, z, by decide, by decide⟩
  · match j, hj with
    | 0, hj =>
      simp at hj
      subst hj
      exact ⟨c 0, c 1, c 2, c 3, c 4⟩
theorem put_one {room : Int} (h : 0 < room) (b : Bv) : putL room [] b = [b] := by
  unfold putL
  have : rmK (place b.pc [] 0) [] 0 = [] := rfl
  rw [this, if_neg (by simp; omega)]
  rfl
theorem cok_nil {room : Int} (h : 0 ≤ room) : Cok room [] := ⟨by simpa using h, List.Pairwise.nil⟩
set_option maxHeartbeats 8000000 in
set_option maxRecDepth 100000 in
theorem ckeeps_zero {w : World} {room : Int} {la : Option Addr} {ln lc : Nat} {ls : List Bv} {sa : Option Addr} {sn sc : Nat} {rs : List (Int × Int)} (BL : Bs w la ln ls) (hln : ln * 32 ≤ 140737488351232) (RL : Rs w sa sn rs) (hsn : sn ≤ 140737488351232) (C : Ck room) (hz : room = 0) :
    Calls Try.prog 4 #[.int .i64 room, .slice la ln lc, .slice sa sn sc] w fun e w' => e = .returned (.bool true) ∧ Gr w w' := by
  have HC : Hid (Ck room) := C
  have HBL : Hid (Bs w la ln ls) := BL
  have HRL : Hid (Rs w sa sn rs) := RL
  clear BL RL C
  have hr0 : 0 ≤ room := by omega
  have hr1 : room ≤ 64 := by omega
  have NEW2 : Hid (∀ W : World, Calls Try.prog 6 #[.int .i64 room] W fun e w' => ∃ a c, e = .returned (.tuple #[.agg #[.int .i64 room, .slice a 0 c, .int .i64 0, .int .i64 0], .int .i64 0]) ∧ Gr W w') := fun W => by have := HC.out.new W; rwa [if_pos ⟨hr0, hr1⟩, if_pos ⟨hr0, hr1⟩] at this
  have hzb : decide (0 < room) = false := decide_eq_false (by omega)
  have HZ : Hid (room = 0) := hz
  clear hz
  go_enter Try.func4, Try.ntmps4
  go_wp2_with fail
  refine (NEW2.out _).mono ?_
  rintro e w1 ⟨a1, c1, rfl, G1⟩
  have HG1 : Hid (Gr w w1) := G1
  clear G1 NEW2
  go_wp2_with fail
  go_loopw [11] (fun i wr => ∃ (k : Nat) (L : List Bv) (a : Option Addr) (n cp : Nat) (pu sl : Int), k ≤ ln ∧ i = .int .i64 k ∧ wr.heap[w1.heap.size]? = some (.cells #[.int .i64 room, .slice a n cp, .int .i64 pu, .int .i64 sl] 24 (0, 0)) ∧ (Bs wr a n L ∧ n ≤ cp) ∧ Cok room L ∧ Gr w wr) (fun i _ => ln - (intOf i).toNat)
  case atStart => exact ⟨0, [], a1, 0, c1, 0, 0, Nat.zero_le _, rfl, heap_alloc_new w1 _, ⟨bs_nil _ _, Nat.zero_le _⟩, cok_nil hr0, HG1.out.alloc _⟩
  case round =>
    obtain ⟨k, L, a, n, cp, pu, sl, hk, rfl, B, ⟨X, hcap⟩, O, G⟩ := hrel
    have HB : Hid (wr.heap[w1.heap.size]? = some (.cells #[.int .i64 room, .slice a n cp, .int .i64 pu, .int .i64 sl] 24 (0, 0))) := B
    have HX : Hid (Bs wr a n L) := X
    have HO : Hid (Cok room L) := O
    have HG : Hid (Gr w wr) := G
    have hnn : n ≤ 64 := by have := O.len; have := X.len; omega
    have hgl : w1.heap.size < wr.heap.size := (Array.getElem?_eq_some_iff.1 B).1
    have HK : Hid (k ≤ ln) := hk
    clear B X O G hk
    by_cases hlt : k < ln
    · by_cases h200 : k < 200
      · obtain ⟨b, hb⟩ : ∃ b, ls[k]? = some b := ⟨_, List.getElem?_eq_getElem (by rw [HBL.out.len]; exact hlt)⟩
        obtain ⟨bb, oo, rfl, hbb, hcl⟩ := (HBL.out.of HG.out).spot (by omega)
        obtain ⟨u, v, p0, p1, BC⟩ := hcl k b hb
        have HBC : Hid (∀ W : World, Gr wr W → Bc W b u v) := fun W G => BC.of G
        obtain ⟨rfl, -, va, vn, vc, rfl, -, hvb⟩ := BC
        have hk0 : (0 : Int) ≤ (k : Int) := by omega
        have hk1 : (k : Int) < (ln : Int) := by omega
        have x0 : wr.cell? ⟨w1.heap.size, 0, none⟩ = some (.int .i64 room) := cell_of_row _ _ _ _ _ _ HB.out
        have x1 : wr.cell? ⟨w1.heap.size, 1, none⟩ = some (.slice a n cp) := cell_of_row _ _ _ _ _ _ HB.out
        have x2 : wr.cell? ⟨w1.heap.size, 2, none⟩ = some (.int .i64 pu) := cell_of_row _ _ _ _ _ _ HB.out
        have x3 : wr.cell? ⟨w1.heap.size, 3, none⟩ = some (.int .i64 sl) := cell_of_row _ _ _ _ _ _ HB.out
        clear hcl hb
        by_cases hks : k < sn
        · obtain ⟨rp, hrp⟩ : ∃ p, rs[k]? = some p := ⟨_, List.getElem?_eq_getElem (by rw [HRL.out.len]; exact hks)⟩
          obtain ⟨hf, htt⟩ := HRL.out.wd rp (List.mem_of_getElem? hrp)
          obtain ⟨rb, ro, rfl, hrb, hrc⟩ := (HRL.out.of HG.out).spot (by omega)
          obtain ⟨s0, s1⟩ := hrc k rp hrp
          obtain ⟨f, tt⟩ := rp
          simp only at hf htt s0 s1
          have hk2 : (k : Int) < (sn : Int) := by omega
          clear hrc
          go_wp2_with fail
          apply share
          · intro CONT
            refine wp_region_any (by kernel_rfl) ?_
            change wpAny _ _ _ _ _ _ _ (World.drew _)
            refine wpAny_take (i := 1) (v := .slice (some ⟨rb, ro, none⟩) sn sc) rfl (by kernel_rfl) (by kernel_rfl) (by kernel_rfl) (fun _ _ _ h => h) (Or.inl ⟨by rfl, fun w => by go_simp⟩) ?_
            simp only [List.getElem_toArray, List.getElem_cons_succ, List.getElem_cons_zero, Act.put, List.setIfInBounds_toArray, List.set_cons_zero, List.set_cons_succ]
            refine wpAny_take (i := 2) (v := .int .i64 k) rfl (by kernel_rfl) (by kernel_rfl) (by kernel_rfl) (fun _ _ _ h => h) (Or.inl ⟨by rfl, fun w => by go_simp⟩) ?_
            simp only [List.getElem_toArray, List.getElem_cons_succ, List.getElem_cons_zero, Act.put, List.setIfInBounds_toArray, List.set_cons_zero, List.set_cons_succ]
            refine wpAny_take (i := 3) (v := .pointer (some ⟨rb, ro + k * 2, none⟩)) rfl (by kernel_rfl) (by kernel_rfl) (by kernel_rfl) (fun _ _ _ h => h) (Or.inl ⟨by rfl, fun w => by go_simp⟩) ?_
            simp only [List.getElem_toArray, List.getElem_cons_succ, List.getElem_cons_zero, Act.put, List.setIfInBounds_toArray, List.set_cons_zero, List.set_cons_succ]
            refine wpAny_ready (rs := [0, 4]) (by kernel_rfl) (by simp) ?_
            refine AllReady.cons rfl (fun K hK => ?_) (AllReady.cons rfl (fun K hK => ?_) AllReady.nil)
            · go_simp
              refine hK _ _ ?_
              clear hK K
              refine wpAny_ready (rs := [4]) (by kernel_rfl) (by simp) ?_
              refine AllReady.cons rfl (fun K hK => ?_) AllReady.nil
              go_simp
              refine hK _ _ ?_
              clear hK K
              refine wpAny_ready (rs := [5]) (by kernel_rfl) (by simp) ?_
              refine AllReady.cons rfl (fun K hK => ?_) AllReady.nil
              go_simp
              refine (HC.out.sta _ L a n cp pu sl f tt (HX.out.of (Gr.refl _).drew) (by have := HX.out.len; omega) hf htt).mono ?_
              rintro e w2 ⟨a2, m2, c2, sl2, rfl, ⟨B2, hcap2⟩, G2⟩
              have HGW : Hid (Gr wr w2) := (Gr.refl wr).drew.trans G2
              have HB2 : Hid (w2.heap[w1.heap.size]? = some (.cells #[.int .i64 room, .slice a n cp, .int .i64 pu, .int .i64 sl] 24 (0, 0))) := up_h HGW.out HB.out
              refine hK _ _ ?_
              clear hK K
              refine wpAny_ready (rs := [6]) (by kernel_rfl) (by simp) ?_
              refine AllReady.cons rfl (fun K hK => ?_) AllReady.nil
              refine Hc.step_store rfl 24 (.tmp 7) (.tmp 68) rfl w1.heap.size #[.int .i64 room, .slice a2 m2 c2, .int .i64 pu, .int .i64 sl2] (by simp [Act.eval]) (by simp [Act.eval]) 24 _ HB2.out iCa rfl (one_ca _ _ _ _ _ _) ?_
              refine hK _ _ ?_
              clear hK K
              refine wpAny_done (by kernel_rfl) ?_ _
              refine atWd (fun W => W.heap[w1.heap.size]? = some (.cells #[.int .i64 room, .slice a2 m2 c2, .int .i64 pu, .int .i64 sl2] 24 (0, 0)) ∧ Bs W a2 m2 (keepL f tt L) ∧ Gr w W ∧ W.cell? ⟨bb, oo + k * 2, none⟩ = some (.int .u32 b.pc) ∧ W.cell? ⟨bb, oo + k * 2 + 1, none⟩ = some (.slice va vn vc) ∧ Bc W b (.int .u32 b.pc) (.slice va vn vc) ∧ W.cell? ⟨rb, ro + k * 2, none⟩ = some (.int .u32 f) ∧ W.cell? ⟨rb, ro + k * 2 + 1, none⟩ = some (.int .u32 tt)) ?_ ?_
              · have ne3 : ∀ (b o : Nat) (v : Value), w2.cell? ⟨b, o, none⟩ = some v → (∀ x, ¬ v = .int .i64 x) ∧ (∀ a n c, ¬ v = .slice a n c) → b ≠ w1.heap.size := fun b o v h hv => ne_cache (room := room) (a := a) (n := n) (c := cp) (pu := pu) (sl := sl) HB2.out h hv
                have p0' := (HGW.out.cell _ (by exact lt_cell p0)).trans p0
                have p1' := (HGW.out.cell _ (by exact lt_cell p1)).trans p1
                have nb : bb ≠ w1.heap.size := ne3 _ _ _ p0' ⟨fun y => by simp, fun a n c => by simp⟩
                have s0' := (HGW.out.cell _ (by exact lt_cell s0)).trans s0
                have s1' := (HGW.out.cell _ (by exact lt_cell s1)).trans s1
                have nr : rb ≠ w1.heap.size := ne3 _ _ _ s0' ⟨fun y => by simp, fun a n c => by simp⟩
                exact ⟨setRow_heap _ _ _ _ _ (0, 0) HB2.out, Bs.keep B2 ne3 (fun b o h => cell_setRow_ne _ _ _ _ h) (by simp), gr_sr (HG.out.trans HGW.out) HG1.out.size _, (cell_setRow_ne _ _ _ _ nb).trans p0', (cell_setRow_ne _ _ _ _ nb).trans p1', Bc.keep (HBC.out _ HGW.out) ne3 (fun b o h => cell_setRow_ne _ _ _ _ h) (by simp), (cell_setRow_ne _ _ _ _ nr).trans s0', (cell_setRow_ne _ _ _ _ nr).trans s1'⟩
              clear HGW HB2 B2 G2
              clear w2
              revert hcap2
              revert sl2
              revert c2
              revert m2
              revert a2
              exact CONT.out
            · go_simp
              refine hK _ _ ?_
              clear hK K
              refine wpAny_ready (rs := [0]) (by kernel_rfl) (by simp) ?_
              refine AllReady.cons rfl (fun K hK => ?_) AllReady.nil
              go_simp
              refine hK _ _ ?_
              clear hK K
              refine wpAny_ready (rs := [5]) (by kernel_rfl) (by simp) ?_
              refine AllReady.cons rfl (fun K hK => ?_) AllReady.nil
              go_simp
              refine (HC.out.sta _ L a n cp pu sl f tt (HX.out.of (Gr.refl _).drew) (by have := HX.out.len; omega) hf htt).mono ?_
              rintro e w2 ⟨a2, m2, c2, sl2, rfl, ⟨B2, hcap2⟩, G2⟩
              have HGW : Hid (Gr wr w2) := (Gr.refl wr).drew.trans G2
              have HB2 : Hid (w2.heap[w1.heap.size]? = some (.cells #[.int .i64 room, .slice a n cp, .int .i64 pu, .int .i64 sl] 24 (0, 0))) := up_h HGW.out HB.out
              refine hK _ _ ?_
              clear hK K
              refine wpAny_ready (rs := [6]) (by kernel_rfl) (by simp) ?_
              refine AllReady.cons rfl (fun K hK => ?_) AllReady.nil
              refine Hc.step_store rfl 24 (.tmp 7) (.tmp 68) rfl w1.heap.size #[.int .i64 room, .slice a2 m2 c2, .int .i64 pu, .int .i64 sl2] (by simp [Act.eval]) (by simp [Act.eval]) 24 _ HB2.out iCa rfl (one_ca _ _ _ _ _ _) ?_
              refine hK _ _ ?_
              clear hK K
              refine wpAny_done (by kernel_rfl) ?_ _
              refine atWd (fun W => W.heap[w1.heap.size]? = some (.cells #[.int .i64 room, .slice a2 m2 c2, .int .i64 pu, .int .i64 sl2] 24 (0, 0)) ∧ Bs W a2 m2 (keepL f tt L) ∧ Gr w W ∧ W.cell? ⟨bb, oo + k * 2, none⟩ = some (.int .u32 b.pc) ∧ W.cell? ⟨bb, oo + k * 2 + 1, none⟩ = some (.slice va vn vc) ∧ Bc W b (.int .u32 b.pc) (.slice va vn vc) ∧ W.cell? ⟨rb, ro + k * 2, none⟩ = some (.int .u32 f) ∧ W.cell? ⟨rb, ro + k * 2 + 1, none⟩ = some (.int .u32 tt)) ?_ ?_
              · have ne3 : ∀ (b o : Nat) (v : Value), w2.cell? ⟨b, o, none⟩ = some v → (∀ x, ¬ v = .int .i64 x) ∧ (∀ a n c, ¬ v = .slice a n c) → b ≠ w1.heap.size := fun b o v h hv => ne_cache (room := room) (a := a) (n := n) (c := cp) (pu := pu) (sl := sl) HB2.out h hv
                have p0' := (HGW.out.cell _ (by exact lt_cell p0)).trans p0
                have p1' := (HGW.out.cell _ (by exact lt_cell p1)).trans p1
                have nb : bb ≠ w1.heap.size := ne3 _ _ _ p0' ⟨fun y => by simp, fun a n c => by simp⟩
                have s0' := (HGW.out.cell _ (by exact lt_cell s0)).trans s0
                have s1' := (HGW.out.cell _ (by exact lt_cell s1)).trans s1
                have nr : rb ≠ w1.heap.size := ne3 _ _ _ s0' ⟨fun y => by simp, fun a n c => by simp⟩
                exact ⟨setRow_heap _ _ _ _ _ (0, 0) HB2.out, Bs.keep B2 ne3 (fun b o h => cell_setRow_ne _ _ _ _ h) (by simp), gr_sr (HG.out.trans HGW.out) HG1.out.size _, (cell_setRow_ne _ _ _ _ nb).trans p0', (cell_setRow_ne _ _ _ _ nb).trans p1', Bc.keep (HBC.out _ HGW.out) ne3 (fun b o h => cell_setRow_ne _ _ _ _ h) (by simp), (cell_setRow_ne _ _ _ _ nr).trans s0', (cell_setRow_ne _ _ _ _ nr).trans s1'⟩
              clear HGW HB2 B2 G2
              clear w2
              revert hcap2
              revert sl2
              revert c2
              revert m2
              revert a2
              exact CONT.out
          intro a2 m2 c2 sl2 hcap2
          rintro w3 ⟨B3, X3, G3, p0', p1', C3, s0', s1'⟩
          have PK : Hid ((w3.heap[w1.heap.size]? = some (.cells #[.int .i64 room, .slice a2 m2 c2, .int .i64 pu, .int .i64 sl2] 24 (0, 0)) ∧ Bs w3 a2 m2 (keepL f tt L)) ∧ (Cok room (keepL f tt L) ∧ ∀ c ∈ keepL f tt L, hasB c f tt = false) ∧ m2 ≤ c2) := ⟨⟨B3, X3⟩, ⟨HO.out.keep f tt, keep_no⟩, hcap2⟩
          have HG3 : Hid (Gr w w3) := G3
          have HBC3 : Hid (Bc w3 b (.int .u32 b.pc) (.slice va vn vc)) := C3
          clear HX HB HO HBC p0 p1 hbb hnn hgl hcap HG x0 x1 x2 x3 s0 s1 hrb B3 X3 G3 C3 hcap2
          generalize keepL f tt L = L3 at *
          revert PK
          revert a2 m2 c2 sl2 L3
          intro a n cp sl L PK
          have HB3 : Hid (w3.heap[w1.heap.size]? = some (.cells #[.int .i64 room, .slice a n cp, .int .i64 pu, .int .i64 sl] 24 (0, 0))) := PK.out.1.1
          have HX3 : Hid (Bs w3 a n L) := PK.out.1.2
          have HO : Hid (Cok room L) := PK.out.2.1.1
          have HN3 : Hid (∀ c ∈ L, hasB c f tt = false) := PK.out.2.1.2
          have hcap : n ≤ cp := PK.out.2.2
          have hnn : n ≤ 64 := by have := HO.out.len; have := HX3.out.len; omega
          have y1 : w3.cell? ⟨w1.heap.size, 1, none⟩ = some (.slice a n cp) := cell_of_row _ _ _ _ _ _ HB3.out
          clear PK
          go_wp2_with fail
          go_loopw [12] (fun i wq => ∃ t : Nat, t ≤ n ∧ i = .int .i64 t ∧ Gr w3 wq) (fun i _ => n - (intOf i).toNat)
          case atStart => exact ⟨0, Nat.zero_le _, rfl, Gr.refl _⟩
          case round =>
            obtain ⟨t, ht, rfl, Gq⟩ := hrel
            rename World => wq
            have HGq : Hid (Gr w3 wq) := Gq
            have z1 : wq.cell? ⟨w1.heap.size, 1, none⟩ = some (.slice a n cp) := (Gq.cell _ (by exact lt_cell y1)).trans y1
            clear Gq
            by_cases htm : t < n
            · obtain ⟨c, hc⟩ : ∃ c, L[t]? = some c := ⟨_, List.getElem?_eq_getElem (by rw [HX3.out.len]; exact htm)⟩
              have hh := HN3.out c (List.mem_of_getElem? hc)
              obtain ⟨b3, o3, rfl, hb3, hcl3⟩ := (HX3.out.of HGq.out).spot (by omega)
              obtain ⟨u, v, g0, g1, CB⟩ := hcl3 t c hc
              have HCB : Hid (∀ W : World, Gr wq W → Bc W c u v) := fun W G => CB.of G
              obtain ⟨rfl, -, ga, gn, gc, rfl, -, -⟩ := CB
              have r0 := (HGq.out.cell _ (by exact lt_cell s0')).trans s0'
              have r1 := (HGq.out.cell _ (by exact lt_cell s1')).trans s1'
              have ht0 : (0 : Int) ≤ (t : Int) := by omega
              have ht1 : (t : Int) < (n : Int) := by omega
              have HSc : Hid (∀ W : World, Gr wq W → Calls Try.prog 15 #[.agg #[.int .u32 c.pc, .slice ga gn gc], .agg #[.int .u32 f, .int .u32 tt]] W fun e w' => e = .returned (.bool false) ∧ Gr W w') := fun W G => has_ck W (HCB.out W G) hf htt hh
              clear hcl3 hc hh
              go_wp2_with fail
              refine wp_region_held_drew (S := fun W => Gr wq W) (by kernel_rfl) (Gr.refl wq).drew (fun hHeld => ?_)
              have HS0 : Hid _ := hHeld
              clear hHeld
              refine wpAnyH_take (i := 0) (v := .pointer (some ⟨w1.heap.size, 1, none⟩)) rfl (by kernel_rfl) (by kernel_rfl) (by kernel_rfl) (fun _ _ _ h => h) (Or.inl ⟨by rfl, fun W hW => by go_simp⟩) HS0.out ?_
              simp only [List.getElem_toArray, List.getElem_cons_succ, List.getElem_cons_zero, Act.put, List.setIfInBounds_toArray, List.set_cons_zero, List.set_cons_succ]
              refine wpAnyH_take (i := 1) (v := .slice (some ⟨b3, o3, none⟩) n cp) rfl (by kernel_rfl) (by kernel_rfl) (by kernel_rfl) (fun _ _ _ h => h) (Or.inl ⟨by rfl, fun W hW => by have z1' := (hW.cell _ (by exact lt_cell z1)).trans z1; go_simp⟩) HS0.out ?_
              simp only [List.getElem_toArray, List.getElem_cons_succ, List.getElem_cons_zero, Act.put, List.setIfInBounds_toArray, List.set_cons_zero, List.set_cons_succ]
              refine wpAnyH_take (i := 2) (v := .int .i64 t) rfl (by kernel_rfl) (by kernel_rfl) (by kernel_rfl) (fun _ _ _ h => h) (Or.inl ⟨by rfl, fun W hW => by go_simp⟩) HS0.out ?_
              simp only [List.getElem_toArray, List.getElem_cons_succ, List.getElem_cons_zero, Act.put, List.setIfInBounds_toArray, List.set_cons_zero, List.set_cons_succ]
              refine wpAnyH_take (i := 3) (v := .pointer (some ⟨b3, o3 + t * 2, none⟩)) rfl (by kernel_rfl) (by kernel_rfl) (by kernel_rfl) (fun _ _ _ h => h) (Or.inl ⟨by rfl, fun W hW => by go_simp⟩) HS0.out ?_
              simp only [List.getElem_toArray, List.getElem_cons_succ, List.getElem_cons_zero, Act.put, List.setIfInBounds_toArray, List.set_cons_zero, List.set_cons_succ]
              refine wpAnyH_take (i := 4) (v := .agg #[.int .u32 c.pc, .slice ga gn gc]) rfl (by kernel_rfl) (by kernel_rfl) (by kernel_rfl) (fun _ _ _ h => h) (Or.inl ⟨by rfl, fun W hW => by have g0' := (hW.cell _ (by exact lt_cell g0)).trans g0; have g1' := (hW.cell _ (by exact lt_cell g1)).trans g1; go_simp⟩) HS0.out ?_
              simp only [List.getElem_toArray, List.getElem_cons_succ, List.getElem_cons_zero, Act.put, List.setIfInBounds_toArray, List.set_cons_zero, List.set_cons_succ]
              refine wpAnyH_take (i := 5) (v := .slice (some ⟨rb, ro, none⟩) sn sc) rfl (by kernel_rfl) (by kernel_rfl) (by kernel_rfl) (fun _ _ _ h => h) (Or.inl ⟨by rfl, fun W hW => by go_simp⟩) HS0.out ?_
              simp only [List.getElem_toArray, List.getElem_cons_succ, List.getElem_cons_zero, Act.put, List.setIfInBounds_toArray, List.set_cons_zero, List.set_cons_succ]
              refine wpAnyH_take (i := 6) (v := .int .i64 k) rfl (by kernel_rfl) (by kernel_rfl) (by kernel_rfl) (fun _ _ _ h => h) (Or.inl ⟨by rfl, fun W hW => by go_simp⟩) HS0.out ?_
              simp only [List.getElem_toArray, List.getElem_cons_succ, List.getElem_cons_zero, Act.put, List.setIfInBounds_toArray, List.set_cons_zero, List.set_cons_succ]
              refine wpAnyH_take (i := 7) (v := .pointer (some ⟨rb, ro + k * 2, none⟩)) rfl (by kernel_rfl) (by kernel_rfl) (by kernel_rfl) (fun _ _ _ h => h) (Or.inl ⟨by rfl, fun W hW => by go_simp⟩) HS0.out ?_
              simp only [List.getElem_toArray, List.getElem_cons_succ, List.getElem_cons_zero, Act.put, List.setIfInBounds_toArray, List.set_cons_zero, List.set_cons_succ]
              refine wpAnyH_take (i := 8) (v := .agg #[.int .u32 f, .int .u32 tt]) rfl (by kernel_rfl) (by kernel_rfl) (by kernel_rfl) (fun _ _ _ h => h) (Or.inl ⟨by rfl, fun W hW => by have r0' := (hW.cell _ (by exact lt_cell r0)).trans r0; have r1' := (hW.cell _ (by exact lt_cell r1)).trans r1; go_simp⟩) HS0.out ?_
              simp only [List.getElem_toArray, List.getElem_cons_succ, List.getElem_cons_zero, Act.put, List.setIfInBounds_toArray, List.set_cons_zero, List.set_cons_succ]
              refine wpAnyH_ready (rs := [9]) (by kernel_rfl) (by simp) ?_
              refine AllReadyH.cons rfl (fun K hK => ?_) AllReadyH.nil
              go_simp
              refine (HSc.out _ (Gr.refl _).drew).mono ?_
              rintro e w7 ⟨rfl, G7⟩
              have HG7 : Hid (Gr wq w7) := (Gr.refl wq).drew.trans G7
              refine hK.out _ _ HG7.out (fun hx => ?_)
              clear hK K hx G7 HS0
              refine wpAnyH_done (by kernel_rfl) ?_ _
              clear HSc HCB g0 g1 r0 r1 z1
              go_wp2_with fail
              go_roundw
              case rel => exact ⟨t + 1, by omega, by go_num, HGq.out.trans HG7.out⟩
              case measure => simp [intOf]; omega

            · have HB : Hid (wq.heap[w1.heap.size]? = some (.cells #[.int .i64 room, .slice a n cp, .int .i64 pu, .int .i64 sl] 24 (0, 0))) := up_h HGq.out HB3.out
              have HX : Hid (Bs wq a n L) := HX3.out.of HGq.out
              have HG : Hid (Gr w wq) := HG3.out.trans HGq.out
              have HBC : Hid (∀ W : World, Gr wq W → Bc W b (.int .u32 b.pc) (.slice va vn vc)) := fun W G => HBC3.out.of (HGq.out.trans G)
              have p0 := (HGq.out.cell _ (by exact lt_cell p0')).trans p0'
              have p1 := (HGq.out.cell _ (by exact lt_cell p1')).trans p1'
              have x0 : wq.cell? ⟨w1.heap.size, 0, none⟩ = some (.int .i64 room) := cell_of_row _ _ _ _ _ _ HB.out
              have x1 : wq.cell? ⟨w1.heap.size, 1, none⟩ = some (.slice a n cp) := cell_of_row _ _ _ _ _ _ HB.out
              have x2 : wq.cell? ⟨w1.heap.size, 2, none⟩ = some (.int .i64 pu) := cell_of_row _ _ _ _ _ _ HB.out
              have x3 : wq.cell? ⟨w1.heap.size, 3, none⟩ = some (.int .i64 sl) := cell_of_row _ _ _ _ _ _ HB.out
              have hgl : w1.heap.size < wq.heap.size := (Array.getElem?_eq_some_iff.1 HB.out).1
              have hbb : bb < wq.heap.size := lt_cell p0
              clear HB3 HX3 HG3 HBC3 HN3 p0' p1' s0' s1' y1 z1 HGq
              by_cases hv : 1 ≤ vn ∧ vn ≤ 16
              · obtain ⟨hv0, hv1⟩ := hv
                go_wp2_with fail
                apply share
                · intro CONT
                  refine wp_region_held_drew (S := fun W => Gr wq W) (by kernel_rfl) (Gr.refl wq).drew (fun hHeld => ?_)
                  have HS0 : Hid _ := hHeld
                  clear hHeld
                  refine wpAnyH_take (i := 0) (v := .agg #[.int .i64 room, .slice a n cp, .int .i64 pu, .int .i64 sl]) rfl (by kernel_rfl) (by kernel_rfl) (by kernel_rfl) (fun _ _ _ h => h) (Or.inl ⟨by rfl, fun W hW => by have x0' := (hW.cell _ (by exact lt_cell x0)).trans x0; have x1' := (hW.cell _ (by exact lt_cell x1)).trans x1; have x2' := (hW.cell _ (by exact lt_cell x2)).trans x2; have x3' := (hW.cell _ (by exact lt_cell x3)).trans x3; go_simp⟩) HS0.out ?_
                  simp only [List.getElem_toArray, List.getElem_cons_succ, List.getElem_cons_zero, Act.put, List.setIfInBounds_toArray, List.set_cons_zero, List.set_cons_succ]
                  refine wpAnyH_take (i := 1) (v := .slice (some ⟨bb, oo, none⟩) ln lc) rfl (by kernel_rfl) (by kernel_rfl) (by kernel_rfl) (fun _ _ _ h => h) (Or.inl ⟨by rfl, fun W hW => by go_simp⟩) HS0.out ?_
                  simp only [List.getElem_toArray, List.getElem_cons_succ, List.getElem_cons_zero, Act.put, List.setIfInBounds_toArray, List.set_cons_zero, List.set_cons_succ]
                  refine wpAnyH_take (i := 2) (v := .int .i64 k) rfl (by kernel_rfl) (by kernel_rfl) (by kernel_rfl) (fun _ _ _ h => h) (Or.inl ⟨by rfl, fun W hW => by go_simp⟩) HS0.out ?_
                  simp only [List.getElem_toArray, List.getElem_cons_succ, List.getElem_cons_zero, Act.put, List.setIfInBounds_toArray, List.set_cons_zero, List.set_cons_succ]
                  refine wpAnyH_take (i := 3) (v := .pointer (some ⟨bb, oo + k * 2, none⟩)) rfl (by kernel_rfl) (by kernel_rfl) (by kernel_rfl) (fun _ _ _ h => h) (Or.inl ⟨by rfl, fun W hW => by go_simp⟩) HS0.out ?_
                  simp only [List.getElem_toArray, List.getElem_cons_succ, List.getElem_cons_zero, Act.put, List.setIfInBounds_toArray, List.set_cons_zero, List.set_cons_succ]
                  refine wpAnyH_take (i := 4) (v := .agg #[.int .u32 b.pc, .slice va vn vc]) rfl (by kernel_rfl) (by kernel_rfl) (by kernel_rfl) (fun _ _ _ h => h) (Or.inl ⟨by rfl, fun W hW => by have p0' := (hW.cell _ (by exact lt_cell p0)).trans p0; have p1' := (hW.cell _ (by exact lt_cell p1)).trans p1; go_simp⟩) HS0.out ?_
                  simp only [List.getElem_toArray, List.getElem_cons_succ, List.getElem_cons_zero, Act.put, List.setIfInBounds_toArray, List.set_cons_zero, List.set_cons_succ]
                  refine wpAnyH_ready (rs := [5, 9]) (by kernel_rfl) (by simp) ?_
                  refine AllReadyH.cons rfl (fun K hK => ?_) (AllReadyH.cons rfl (fun K hK => ?_) AllReadyH.nil)
                  · go_simp
                    refine (HC.out.put _ L a n cp pu sl b va vn vc (HX.out.of ((Gr.refl wq).drew)) (by have := HX.out.len; omega) (HBC.out _ ((Gr.refl wq).drew)) hv0 hv1).mono ?_
                    rintro e w2 ⟨a2, m2, c2, pu2, rfl, ⟨B2, hcap2⟩, G2⟩
                    have HGW : Hid (Gr wq w2) := Gr.trans ((Gr.refl wq).drew) G2
                    refine hK.out _ _ HGW.out (fun hx => ?_)
                    clear hK K hx HS0
                    have HS0 : Hid (Gr wq w2) := HGW.out
                    refine wpAnyH_take (i := 6) (v := .tuple #[.agg #[.int .i64 room, .slice a2 m2 c2, .int .i64 pu2, .int .i64 sl], .int .i64 0]) rfl (by kernel_rfl) (by kernel_rfl) (by kernel_rfl) (fun _ _ _ h => h) (Or.inl ⟨by rfl, fun W hW => by go_simp⟩) HS0.out ?_
                    simp only [List.getElem_toArray, List.getElem_cons_succ, List.getElem_cons_zero, Act.put, List.setIfInBounds_toArray, List.set_cons_zero, List.set_cons_succ]
                    refine wpAnyH_take (i := 7) (v := .agg #[.int .i64 room, .slice a2 m2 c2, .int .i64 pu2, .int .i64 sl]) rfl (by kernel_rfl) (by kernel_rfl) (by kernel_rfl) (fun _ _ _ h => h) (Or.inl ⟨by rfl, fun W hW => by go_simp⟩) HS0.out ?_
                    simp only [List.getElem_toArray, List.getElem_cons_succ, List.getElem_cons_zero, Act.put, List.setIfInBounds_toArray, List.set_cons_zero, List.set_cons_succ]
                    refine wpAnyH_take (i := 8) (v := .int .i64 0) rfl (by kernel_rfl) (by kernel_rfl) (by kernel_rfl) (fun _ _ _ h => h) (Or.inl ⟨by rfl, fun W hW => by go_simp⟩) HS0.out ?_
                    simp only [List.getElem_toArray, List.getElem_cons_succ, List.getElem_cons_zero, Act.put, List.setIfInBounds_toArray, List.set_cons_zero, List.set_cons_succ]
                    refine wpAnyH_ready (rs := [9]) (by kernel_rfl) (by simp) ?_
                    refine AllReadyH.cons rfl (fun K hK => ?_) AllReadyH.nil
                    go_simp
                    refine hK.out _ _ (HGW.out.alloc _) (fun hx => ?_)
                    clear hK K hx
                    refine held_sr (i := 10) (by kernel_rfl) rfl rfl 24 (.tmp 13) (.tmp 93) rfl w2.heap.size #[.int .i64 room, .slice a2 m2 c2, .int .i64 pu2, .int .i64 sl] (by simp [Act.eval]) (by simp [Act.eval]) 24 _ (heap_alloc_new w2 _) iCa rfl (one_ca _ _ _ _ _ _) ?_ ?_
                    · exact gr_sr (HGW.out.alloc _) HGW.out.size _
                    clear HS0
                    have HS0 : Hid _ := gr_sr (HGW.out.alloc (.cells #[.int .i64 0, .slice none 0 0, .int .i64 0, .int .i64 0] 24)) HGW.out.size #[.int .i64 room, .slice a2 m2 c2, .int .i64 pu2, .int .i64 sl]
                    refine wpAnyH_take (i := 11) (v := .int .i64 0) rfl (by kernel_rfl) (by kernel_rfl) (by kernel_rfl) (fun _ _ _ h => h) (Or.inl ⟨by rfl, fun W hW => by go_simp⟩) HS0.out ?_
                    simp only [List.getElem_toArray, List.getElem_cons_succ, List.getElem_cons_zero, Act.put, List.setIfInBounds_toArray, List.set_cons_zero, List.set_cons_succ]
                    refine wpAnyH_done (by kernel_rfl) ?_ _
                    refine atWd (fun W => W.heap[w2.heap.size]? = some (.cells #[.int .i64 room, .slice a2 m2 c2, .int .i64 pu2, .int .i64 sl] 24 (0, 0)) ∧ Gr wq W ∧ Bs W a2 m2 (putL room L b)) ⟨setRow_heap _ _ _ _ _ (0, 0) (heap_alloc_new w2 _), HS0.out, B2.of (gr_sr ((Gr.refl _).alloc _) (Nat.le_refl _) _)⟩ ?_
                    have hgd : w1.heap.size < w2.heap.size := by have := HGW.out.size; omega
                    clear HS0 B2 G2 HGW
                    generalize w2.heap.size = gd at hgd ⊢
                    clear w2
                    revert gd
                    revert hcap2
                    revert pu2
                    revert c2
                    revert m2
                    revert a2
                    exact CONT.out
                  · go_simp
                    refine hK.out _ _ ((Gr.refl wq).alloc _).drew (fun hx => ?_)
                    clear hK K hx
                    refine wpAnyH_ready (rs := [5]) (by kernel_rfl) (by simp) ?_
                    refine AllReadyH.cons rfl (fun K hK => ?_) AllReadyH.nil
                    go_simp
                    refine (HC.out.put _ L a n cp pu sl b va vn vc (HX.out.of (((Gr.refl wq).alloc _).drew)) (by have := HX.out.len; omega) (HBC.out _ (((Gr.refl wq).alloc _).drew)) hv0 hv1).mono ?_
                    rintro e w2 ⟨a2, m2, c2, pu2, rfl, ⟨B2, hcap2⟩, G2⟩
                    have HGW : Hid (Gr wq w2) := Gr.trans (((Gr.refl wq).alloc _).drew) G2
                    have HNW : Hid (w2.heap[wq.heap.size]? = some (.cells #[.int .i64 0, .slice none 0 0, .int .i64 0, .int .i64 0] 24 (0, 0))) := up_h G2 (up_h (Gr.refl _).drew (heap_alloc_new wq _))
                    refine hK.out _ _ HGW.out (fun hx => ?_)
                    clear hK K hx HS0
                    have HS0 : Hid (Gr wq w2) := HGW.out
                    refine wpAnyH_take (i := 6) (v := .tuple #[.agg #[.int .i64 room, .slice a2 m2 c2, .int .i64 pu2, .int .i64 sl], .int .i64 0]) rfl (by kernel_rfl) (by kernel_rfl) (by kernel_rfl) (fun _ _ _ h => h) (Or.inl ⟨by rfl, fun W hW => by go_simp⟩) HS0.out ?_
                    simp only [List.getElem_toArray, List.getElem_cons_succ, List.getElem_cons_zero, Act.put, List.setIfInBounds_toArray, List.set_cons_zero, List.set_cons_succ]
                    refine wpAnyH_take (i := 7) (v := .agg #[.int .i64 room, .slice a2 m2 c2, .int .i64 pu2, .int .i64 sl]) rfl (by kernel_rfl) (by kernel_rfl) (by kernel_rfl) (fun _ _ _ h => h) (Or.inl ⟨by rfl, fun W hW => by go_simp⟩) HS0.out ?_
                    simp only [List.getElem_toArray, List.getElem_cons_succ, List.getElem_cons_zero, Act.put, List.setIfInBounds_toArray, List.set_cons_zero, List.set_cons_succ]
                    refine wpAnyH_take (i := 8) (v := .int .i64 0) rfl (by kernel_rfl) (by kernel_rfl) (by kernel_rfl) (fun _ _ _ h => h) (Or.inl ⟨by rfl, fun W hW => by go_simp⟩) HS0.out ?_
                    simp only [List.getElem_toArray, List.getElem_cons_succ, List.getElem_cons_zero, Act.put, List.setIfInBounds_toArray, List.set_cons_zero, List.set_cons_succ]
                    refine held_sr (i := 10) (by kernel_rfl) rfl rfl 24 (.tmp 13) (.tmp 93) rfl wq.heap.size #[.int .i64 room, .slice a2 m2 c2, .int .i64 pu2, .int .i64 sl] (by simp [Act.eval]) (by simp [Act.eval]) 24 _ HNW.out iCa rfl (one_ca _ _ _ _ _ _) ?_ ?_
                    · exact gr_sr HGW.out (Nat.le_refl _) _
                    clear HS0
                    have HS0 : Hid (Gr wq (w2.setRow wq.heap.size #[.int .i64 room, .slice a2 m2 c2, .int .i64 pu2, .int .i64 sl])) := gr_sr HGW.out (Nat.le_refl _) _
                    refine wpAnyH_take (i := 11) (v := .int .i64 0) rfl (by kernel_rfl) (by kernel_rfl) (by kernel_rfl) (fun _ _ _ h => h) (Or.inl ⟨by rfl, fun W hW => by go_simp⟩) HS0.out ?_
                    simp only [List.getElem_toArray, List.getElem_cons_succ, List.getElem_cons_zero, Act.put, List.setIfInBounds_toArray, List.set_cons_zero, List.set_cons_succ]
                    refine wpAnyH_done (by kernel_rfl) ?_ _
                    refine atWd (fun W => W.heap[wq.heap.size]? = some (.cells #[.int .i64 room, .slice a2 m2 c2, .int .i64 pu2, .int .i64 sl] 24 (0, 0)) ∧ Gr wq W ∧ Bs W a2 m2 (putL room L b)) ⟨setRow_heap _ _ _ _ _ (0, 0) HNW.out, HS0.out, Bs.keep (g := wq.heap.size) B2 (fun b o v h hv => ne_cache (room := 0) (a := none) (n := 0) (c := 0) (pu := 0) (sl := 0) HNW.out h hv) (fun b o hb => cell_setRow_ne _ _ _ _ hb) (by simp)⟩ ?_
                    have hgd : w1.heap.size < wq.heap.size := hgl
                    clear HS0 B2 G2 HNW HGW
                    generalize wq.heap.size = gd at hgd ⊢
                    clear w2
                    revert gd
                    revert hcap2
                    revert pu2
                    revert c2
                    revert m2
                    revert a2
                    exact CONT.out
                intro a2 m2 c2 pu2 hcap2 gd hgd
                rintro w3 ⟨D3, G3, B3⟩
                obtain ⟨CO, CP, CZ⟩ := HO.out.put hr0 b
                have hm2 := B3.len
                have HB3 : Hid (w3.heap[w1.heap.size]? = some (.cells #[.int .i64 room, .slice a n cp, .int .i64 pu, .int .i64 sl] 24 (0, 0))) := up_h G3 HB.out
                have HG3 : Hid (Gr wq w3) := G3
                have HX3 : Hid (Bs w3 a2 m2 (putL room L b)) := B3
                have HC3 : Hid (Cok room (putL room L b)) := CO
                have HP3 : Hid (0 < room → place b.pc (putL room L b) 0 = ((putL room L b).length : Int) - 1 ∧ (putL room L b)[(putL room L b).length - 1]? = some b) := CP
                have HZ3 : Hid (room = 0 → putL room L b = []) := CZ
                have hm3 : (m2 : Int) ≤ room := by have := CO.len; rw [hm2] at this; exact this
                clear hm2 B3 G3 CO CP CZ
                generalize putL room L b = L2 at *
                have d0 : w3.cell? ⟨gd, 0, none⟩ = some (.int .i64 room) := cell_of_row _ _ _ _ _ _ D3
                have d1 : w3.cell? ⟨gd, 1, none⟩ = some (.slice a2 m2 c2) := cell_of_row _ _ _ _ _ _ D3
                have d2 : w3.cell? ⟨gd, 2, none⟩ = some (.int .i64 pu2) := cell_of_row _ _ _ _ _ _ D3
                have d3 : w3.cell? ⟨gd, 3, none⟩ = some (.int .i64 sl) := cell_of_row _ _ _ _ _ _ D3
                have e0 : w3.cell? ⟨w1.heap.size, 0, none⟩ = some (.int .i64 room) := cell_of_row _ _ _ _ _ _ HB3.out
                have e1 : w3.cell? ⟨w1.heap.size, 1, none⟩ = some (.slice a n cp) := cell_of_row _ _ _ _ _ _ HB3.out
                have e2 : w3.cell? ⟨w1.heap.size, 2, none⟩ = some (.int .i64 pu) := cell_of_row _ _ _ _ _ _ HB3.out
                have e3 : w3.cell? ⟨w1.heap.size, 3, none⟩ = some (.int .i64 sl) := cell_of_row _ _ _ _ _ _ HB3.out
                have ez : ∀ j, w3.frozen? ⟨w1.heap.size, j, none⟩ = false := fun j => frozen_of_row _ _ _ _ _ HB3.out
                have hne : ¬ w1.heap.size = gd := by omega
                clear D3 x0 x1 x2 x3
                go_wp2_with fail
                refine atWd (fun W => W.heap[w1.heap.size]? = some (.cells #[.int .i64 room, .slice a2 m2 c2, .int .i64 pu2, .int .i64 sl] 24 (0, 0)) ∧ Bs W a2 m2 L2 ∧ Gr w W ∧ W.cell? ⟨bb, oo + k * 2, none⟩ = some (.int .u32 b.pc) ∧ W.cell? ⟨bb, oo + k * 2 + 1, none⟩ = some (.slice va vn vc) ∧ Bc W b (.int .u32 b.pc) (.slice va vn vc)) ?_ ?_
                · have ne3 : ∀ (b o : Nat) (v : Value), w3.cell? ⟨b, o, none⟩ = some v → (∀ x, ¬ v = .int .i64 x) ∧ (∀ a n c, ¬ v = .slice a n c) → b ≠ w1.heap.size := fun b o v h hv => ne_cache (room := room) (a := a) (n := n) (c := cp) (pu := pu) (sl := sl) HB3.out h hv
                  have p0' := (HG3.out.cell _ (by exact lt_cell p0)).trans p0
                  have p1' := (HG3.out.cell _ (by exact lt_cell p1)).trans p1
                  have nb : bb ≠ w1.heap.size := ne3 _ _ _ p0' ⟨fun y => by simp, fun a n c => by simp⟩
                  refine ⟨four_set HB3.out _ _ _ _, Bs.keep HX3.out ne3 (fun b o h => four_ne _ _ _ _ _ _ o h) (by simp), ?_, (four_ne _ _ _ _ _ _ _ nb).trans p0', (four_ne _ _ _ _ _ _ _ nb).trans p1', Bc.keep (HBC.out _ HG3.out) ne3 (fun b o h => four_ne _ _ _ _ _ _ o h) (by simp)⟩
                  have g1 := HG1.out.size
                  exact ((((HG.out.trans HG3.out).setCell (by exact g1) _).setCell (by exact g1) _).setCell (by exact g1) _).setCell (by exact g1) _
                rintro w4 ⟨B4, X4, G4, q0, q1, C4⟩
                clear HB3 HX3 HG3 HBC d0 d1 d2 d3 e0 e1 e2 e3 ez hne p0 p1 hbb HX HB HO hnn hgl hgd
                have HB4 : Hid (w4.heap[w1.heap.size]? = some (.cells #[.int .i64 room, .slice a2 m2 c2, .int .i64 pu2, .int .i64 sl] 24 (0, 0))) := B4
                have HX4 : Hid (Bs w4 a2 m2 L2) := X4
                have HG4 : Hid (Gr w w4) := G4
                have HC4 : Hid (Bc w4 b (.int .u32 b.pc) (.slice va vn vc)) := C4
                have x0 : w4.cell? ⟨w1.heap.size, 0, none⟩ = some (.int .i64 room) := cell_of_row _ _ _ _ _ _ B4
                have x1 : w4.cell? ⟨w1.heap.size, 1, none⟩ = some (.slice a2 m2 c2) := cell_of_row _ _ _ _ _ _ B4
                have x2 : w4.cell? ⟨w1.heap.size, 2, none⟩ = some (.int .i64 pu2) := cell_of_row _ _ _ _ _ _ B4
                have x3 : w4.cell? ⟨w1.heap.size, 3, none⟩ = some (.int .i64 sl) := cell_of_row _ _ _ _ _ _ B4
                have h64 : m2 ≤ 64 := by omega
                clear B4 X4 G4 C4
                have eL := HZ3.out HZ.out
                subst eL
                have FN : Hid (∀ W : World, Gr w4 W → Calls Try.prog 8 #[.agg #[.int .i64 room, .slice a2 m2 c2, .int .i64 pu2, .int .i64 sl], .int .u32 b.pc] W fun e w' => ∃ x y, e = .returned (.tuple #[.agg #[x, y], .bool false]) ∧ Bc w' ⟨0, []⟩ x y ∧ Gr W w') := fun W G => HC.out.fnd W [] a2 m2 c2 pu2 sl b.pc (HX4.out.of G) (by simp)
                apply share
                · intro CONT
                  refine wp_region_held_drew (S := fun W => Gr w4 W) (by kernel_rfl) (Gr.refl w4).drew (fun hHeld => ?_)
                  have HS0 : Hid _ := hHeld
                  clear hHeld
                  refine wpAnyH_take (i := 0) (v := .agg #[.int .i64 room, .slice a2 m2 c2, .int .i64 pu2, .int .i64 sl]) rfl (by kernel_rfl) (by kernel_rfl) (by kernel_rfl) (fun _ _ _ h => h) (Or.inl ⟨by rfl, fun W hW => by have x0' := (hW.cell _ (by exact lt_cell x0)).trans x0; have x1' := (hW.cell _ (by exact lt_cell x1)).trans x1; have x2' := (hW.cell _ (by exact lt_cell x2)).trans x2; have x3' := (hW.cell _ (by exact lt_cell x3)).trans x3; go_simp⟩) HS0.out ?_
                  simp only [List.getElem_toArray, List.getElem_cons_succ, List.getElem_cons_zero, Act.put, List.setIfInBounds_toArray, List.set_cons_zero, List.set_cons_succ]
                  refine wpAnyH_take (i := 1) (v := .slice (some ⟨bb, oo, none⟩) ln lc) rfl (by kernel_rfl) (by kernel_rfl) (by kernel_rfl) (fun _ _ _ h => h) (Or.inl ⟨by rfl, fun W hW => by go_simp⟩) HS0.out ?_
                  simp only [List.getElem_toArray, List.getElem_cons_succ, List.getElem_cons_zero, Act.put, List.setIfInBounds_toArray, List.set_cons_zero, List.set_cons_succ]
                  refine wpAnyH_take (i := 2) (v := .int .i64 k) rfl (by kernel_rfl) (by kernel_rfl) (by kernel_rfl) (fun _ _ _ h => h) (Or.inl ⟨by rfl, fun W hW => by go_simp⟩) HS0.out ?_
                  simp only [List.getElem_toArray, List.getElem_cons_succ, List.getElem_cons_zero, Act.put, List.setIfInBounds_toArray, List.set_cons_zero, List.set_cons_succ]
                  refine wpAnyH_take (i := 3) (v := .pointer (some ⟨bb, oo + k * 2, none⟩)) rfl (by kernel_rfl) (by kernel_rfl) (by kernel_rfl) (fun _ _ _ h => h) (Or.inl ⟨by rfl, fun W hW => by go_simp⟩) HS0.out ?_
                  simp only [List.getElem_toArray, List.getElem_cons_succ, List.getElem_cons_zero, Act.put, List.setIfInBounds_toArray, List.set_cons_zero, List.set_cons_succ]
                  refine wpAnyH_take (i := 4) (v := .pointer (some ⟨bb, oo + k * 2, none⟩)) rfl (by kernel_rfl) (by kernel_rfl) (by kernel_rfl) (fun _ _ _ h => h) (Or.inl ⟨by rfl, fun W hW => by go_simp⟩) HS0.out ?_
                  simp only [List.getElem_toArray, List.getElem_cons_succ, List.getElem_cons_zero, Act.put, List.setIfInBounds_toArray, List.set_cons_zero, List.set_cons_succ]
                  refine wpAnyH_take (i := 5) (v := .int .u32 b.pc) rfl (by kernel_rfl) (by kernel_rfl) (by kernel_rfl) (fun _ _ _ h => h) (Or.inl ⟨by rfl, fun W hW => by have q0' := (hW.cell _ (by exact lt_cell q0)).trans q0; go_simp⟩) HS0.out ?_
                  simp only [List.getElem_toArray, List.getElem_cons_succ, List.getElem_cons_zero, Act.put, List.setIfInBounds_toArray, List.set_cons_zero, List.set_cons_succ]
                  refine wpAnyH_ready (rs := [6, 10]) (by kernel_rfl) (by simp) ?_
                  refine AllReadyH.cons rfl (fun K hK => ?_) (AllReadyH.cons rfl (fun K hK => ?_) AllReadyH.nil)
                  · go_simp
                    refine (FN.out _ ((Gr.refl w4).drew)).mono ?_
                    rintro e w5 ⟨x, y, rfl, BC5, G5⟩
                    have HGW : Hid (Gr w4 w5) := Gr.trans ((Gr.refl w4).drew) G5
                    have HBF : Hid (∀ W : World, Gr w5 W → Bc W ⟨0, []⟩ x y) := fun W G => BC5.of G
                    obtain ⟨rfl, -, fa, fn, fc, rfl, -, -⟩ := BC5
                    refine hK.out _ _ HGW.out (fun hx => ?_)
                    clear hK K hx HS0
                    have HS0 : Hid (Gr w4 w5) := HGW.out
                    refine wpAnyH_take (i := 7) (v := .tuple #[.agg #[.int .u32 0, .slice fa fn fc], .bool false]) rfl (by kernel_rfl) (by kernel_rfl) (by kernel_rfl) (fun _ _ _ h => h) (Or.inl ⟨by rfl, fun W hW => by go_simp⟩) HS0.out ?_
                    simp only [List.getElem_toArray, List.getElem_cons_succ, List.getElem_cons_zero, Act.put, List.setIfInBounds_toArray, List.set_cons_zero, List.set_cons_succ]
                    refine wpAnyH_take (i := 8) (v := .agg #[.int .u32 0, .slice fa fn fc]) rfl (by kernel_rfl) (by kernel_rfl) (by kernel_rfl) (fun _ _ _ h => h) (Or.inl ⟨by rfl, fun W hW => by go_simp⟩) HS0.out ?_
                    simp only [List.getElem_toArray, List.getElem_cons_succ, List.getElem_cons_zero, Act.put, List.setIfInBounds_toArray, List.set_cons_zero, List.set_cons_succ]
                    refine wpAnyH_take (i := 9) (v := .bool false) rfl (by kernel_rfl) (by kernel_rfl) (by kernel_rfl) (fun _ _ _ h => h) (Or.inl ⟨by rfl, fun W hW => by go_simp⟩) HS0.out ?_
                    simp only [List.getElem_toArray, List.getElem_cons_succ, List.getElem_cons_zero, Act.put, List.setIfInBounds_toArray, List.set_cons_zero, List.set_cons_succ]
                    refine wpAnyH_ready (rs := [10]) (by kernel_rfl) (by simp) ?_
                    refine AllReadyH.cons rfl (fun K hK => ?_) AllReadyH.nil
                    go_simp
                    refine hK.out _ _ (HGW.out.alloc _) (fun hx => ?_)
                    clear hK K hx
                    refine held_sr (i := 11) (by kernel_rfl) rfl rfl 28 (.tmp 15) (.tmp 127) rfl w5.heap.size #[.int .u32 0, .slice fa fn fc] (by simp [Act.eval]) (by simp [Act.eval]) 28 _ (heap_alloc_new w5 _) iBk2 rfl (one_bk _ _ _ _) ?_ ?_
                    · exact gr_sr (HGW.out.alloc _) HGW.out.size _
                    clear HS0
                    have HS0 : Hid _ := gr_sr (HGW.out.alloc (.cells #[.int .u32 0, .slice none 0 0] 28)) HGW.out.size #[.int .u32 0, .slice fa fn fc]
                    refine wpAnyH_take (i := 12) (v := .bool false) rfl (by kernel_rfl) (by kernel_rfl) (by kernel_rfl) (fun _ _ _ h => h) (Or.inl ⟨by rfl, fun W hW => by go_simp⟩) HS0.out ?_
                    simp only [List.getElem_toArray, List.getElem_cons_succ, List.getElem_cons_zero, Act.put, List.setIfInBounds_toArray, List.set_cons_zero, List.set_cons_succ]
                    refine wpAnyH_done (by kernel_rfl) ?_ _
                    refine atWd (fun W => W.heap[w5.heap.size]? = some (.cells #[.int .u32 0, .slice fa fn fc] 28 (0, 0)) ∧ Gr w4 W ∧ Bc W ⟨0, []⟩ (.int .u32 0) (.slice fa fn fc)) ⟨setRow_heap _ _ _ _ _ (0, 0) (heap_alloc_new w5 _), HS0.out, HBF.out _ (gr_sr ((Gr.refl _).alloc _) (Nat.le_refl _) _)⟩ ?_
                    clear HS0 HBF G5 HGW
                    generalize w5.heap.size = gf at ⊢
                    clear w5
                    revert gf
                    revert fc
                    revert fn
                    revert fa
                    exact CONT.out
                  · go_simp
                    refine hK.out _ _ ((Gr.refl w4).alloc _).drew (fun hx => ?_)
                    clear hK K hx
                    refine wpAnyH_ready (rs := [6]) (by kernel_rfl) (by simp) ?_
                    refine AllReadyH.cons rfl (fun K hK => ?_) AllReadyH.nil
                    go_simp
                    refine (FN.out _ (((Gr.refl w4).alloc _).drew)).mono ?_
                    rintro e w5 ⟨x, y, rfl, BC5, G5⟩
                    have HGW : Hid (Gr w4 w5) := Gr.trans (((Gr.refl w4).alloc _).drew) G5
                    have HBF : Hid (∀ W : World, Gr w5 W → Bc W ⟨0, []⟩ x y) := fun W G => BC5.of G
                    obtain ⟨rfl, -, fa, fn, fc, rfl, -, -⟩ := BC5
                    have HNW : Hid (w5.heap[w4.heap.size]? = some (.cells #[.int .u32 0, .slice none 0 0] 28 (0, 0))) := up_h G5 (up_h (Gr.refl _).drew (heap_alloc_new w4 _))
                    refine hK.out _ _ HGW.out (fun hx => ?_)
                    clear hK K hx HS0
                    have HS0 : Hid (Gr w4 w5) := HGW.out
                    refine wpAnyH_take (i := 7) (v := .tuple #[.agg #[.int .u32 0, .slice fa fn fc], .bool false]) rfl (by kernel_rfl) (by kernel_rfl) (by kernel_rfl) (fun _ _ _ h => h) (Or.inl ⟨by rfl, fun W hW => by go_simp⟩) HS0.out ?_
                    simp only [List.getElem_toArray, List.getElem_cons_succ, List.getElem_cons_zero, Act.put, List.setIfInBounds_toArray, List.set_cons_zero, List.set_cons_succ]
                    refine wpAnyH_take (i := 8) (v := .agg #[.int .u32 0, .slice fa fn fc]) rfl (by kernel_rfl) (by kernel_rfl) (by kernel_rfl) (fun _ _ _ h => h) (Or.inl ⟨by rfl, fun W hW => by go_simp⟩) HS0.out ?_
                    simp only [List.getElem_toArray, List.getElem_cons_succ, List.getElem_cons_zero, Act.put, List.setIfInBounds_toArray, List.set_cons_zero, List.set_cons_succ]
                    refine wpAnyH_take (i := 9) (v := .bool false) rfl (by kernel_rfl) (by kernel_rfl) (by kernel_rfl) (fun _ _ _ h => h) (Or.inl ⟨by rfl, fun W hW => by go_simp⟩) HS0.out ?_
                    simp only [List.getElem_toArray, List.getElem_cons_succ, List.getElem_cons_zero, Act.put, List.setIfInBounds_toArray, List.set_cons_zero, List.set_cons_succ]
                    refine held_sr (i := 11) (by kernel_rfl) rfl rfl 28 (.tmp 15) (.tmp 127) rfl w4.heap.size #[.int .u32 0, .slice fa fn fc] (by simp [Act.eval]) (by simp [Act.eval]) 28 _ HNW.out iBk2 rfl (one_bk _ _ _ _) ?_ ?_
                    · exact gr_sr HGW.out (Nat.le_refl _) _
                    clear HS0
                    have HS0 : Hid (Gr w4 (w5.setRow w4.heap.size #[.int .u32 0, .slice fa fn fc])) := gr_sr HGW.out (Nat.le_refl _) _
                    refine wpAnyH_take (i := 12) (v := .bool false) rfl (by kernel_rfl) (by kernel_rfl) (by kernel_rfl) (fun _ _ _ h => h) (Or.inl ⟨by rfl, fun W hW => by go_simp⟩) HS0.out ?_
                    simp only [List.getElem_toArray, List.getElem_cons_succ, List.getElem_cons_zero, Act.put, List.setIfInBounds_toArray, List.set_cons_zero, List.set_cons_succ]
                    refine wpAnyH_done (by kernel_rfl) ?_ _
                    refine atWd (fun W => W.heap[w4.heap.size]? = some (.cells #[.int .u32 0, .slice fa fn fc] 28 (0, 0)) ∧ Gr w4 W ∧ Bc W ⟨0, []⟩ (.int .u32 0) (.slice fa fn fc)) ⟨setRow_heap _ _ _ _ _ (0, 0) HNW.out, HS0.out, Bc.five (HBF.out _ (Gr.refl _)) HNW.out _⟩ ?_
                    clear HS0 HBF G5 HNW HGW
                    generalize w4.heap.size = gf at ⊢
                    clear w5
                    revert gf
                    revert fc
                    revert fn
                    revert fa
                    exact CONT.out
                intro fa fn fc gf
                rintro w5 ⟨D5, G5, C5⟩
                have HB5 : Hid (w5.heap[w1.heap.size]? = some (.cells #[.int .i64 room, .slice a2 m2 c2, .int .i64 pu2, .int .i64 sl] 24 (0, 0))) := up_h G5 HB4.out
                have HX5 : Hid (Bs w5 a2 m2 []) := HX4.out.of G5
                have HG5 : Hid (Gr w w5) := HG4.out.trans G5
                have HC5 : Hid (Bc w5 b (.int .u32 b.pc) (.slice va vn vc)) := HC4.out.of G5
                have HF5 : Hid (Bc w5 ⟨0, []⟩ (.int .u32 0) (.slice fa fn fc)) := C5
                have f0 : w5.cell? ⟨gf, 0, none⟩ = some (.int .u32 0) := cell_of_row _ _ _ _ _ _ D5
                have f1 : w5.cell? ⟨gf, 1, none⟩ = some (.slice fa fn fc) := cell_of_row _ _ _ _ _ _ D5
                have q0' := (G5.cell _ (by exact lt_cell q0)).trans q0
                have q1' := (G5.cell _ (by exact lt_cell q1)).trans q1
                clear q0 q1 x0 x1 x2 x3 HB4 HX4 HG4 HC4 D5 G5 C5 FN
                go_wp2_with fail
                refine wp_region_held_drew (S := fun W => Gr w5 W) (by kernel_rfl) (Gr.refl w5).drew (fun hHeld => ?_)
                have HS0 : Hid _ := hHeld
                clear hHeld
                refine wpAnyH_take (i := 0) (v := .bool false) rfl (by kernel_rfl) (by kernel_rfl) (by kernel_rfl) (fun _ _ _ h => h) (Or.inl ⟨by rfl, fun W hW => by go_simp⟩) HS0.out ?_
                simp only [List.getElem_toArray, List.getElem_cons_succ, List.getElem_cons_zero, Act.put, List.setIfInBounds_toArray, List.set_cons_zero, List.set_cons_succ]
                refine wpAnyH_take (i := 1) (v := .int .i64 room) rfl (by kernel_rfl) (by kernel_rfl) (by kernel_rfl) (fun _ _ _ h => h) (Or.inl ⟨by rfl, fun W hW => by go_simp⟩) HS0.out ?_
                simp only [List.getElem_toArray, List.getElem_cons_succ, List.getElem_cons_zero, Act.put, List.setIfInBounds_toArray, List.set_cons_zero, List.set_cons_succ]
                refine wpAnyH_take (i := 2) (v := .bool false) rfl (by kernel_rfl) (by kernel_rfl) (by kernel_rfl) (fun _ _ _ h => h) (Or.inl ⟨by rfl, fun W hW => by go_simp⟩) HS0.out ?_
                simp only [List.getElem_toArray, List.getElem_cons_succ, List.getElem_cons_zero, Act.put, List.setIfInBounds_toArray, List.set_cons_zero, List.set_cons_succ]
                refine wpAnyH_take (i := 3) (v := .bool false) rfl (by kernel_rfl) (by kernel_rfl) (by kernel_rfl) (fun _ _ _ h => h) (Or.inl ⟨by rfl, fun W hW => by go_simp⟩) HS0.out ?_
                simp only [List.getElem_toArray, List.getElem_cons_succ, List.getElem_cons_zero, Act.put, List.setIfInBounds_toArray, List.set_cons_zero, List.set_cons_succ]
                refine wpAnyH_take (i := 4) (v := .bool false) rfl (by kernel_rfl) (by kernel_rfl) (by kernel_rfl) (fun _ _ _ h => h) (Or.inl ⟨by rfl, fun W hW => by go_simp⟩) HS0.out ?_
                simp only [List.getElem_toArray, List.getElem_cons_succ, List.getElem_cons_zero, Act.put, List.setIfInBounds_toArray, List.set_cons_zero, List.set_cons_succ]
                refine wpAnyH_take (i := 5) (v := .bool false) rfl (by kernel_rfl) (by kernel_rfl) (by kernel_rfl) (fun _ _ _ h => h) (Or.inl ⟨by rfl, fun W hW => by go_simp⟩) HS0.out ?_
                simp only [List.getElem_toArray, List.getElem_cons_succ, List.getElem_cons_zero, Act.put, List.setIfInBounds_toArray, List.set_cons_zero, List.set_cons_succ]
                refine wpAnyH_take (i := 6) (v := .bool false) rfl (by kernel_rfl) (by kernel_rfl) (by kernel_rfl) (fun _ _ _ h => h) (Or.inl ⟨by rfl, fun W hW => by go_simp⟩) HS0.out ?_
                simp only [List.getElem_toArray, List.getElem_cons_succ, List.getElem_cons_zero, Act.put, List.setIfInBounds_toArray, List.set_cons_zero, List.set_cons_succ]
                refine wpAnyH_take (i := 7) (v := undef) rfl (by kernel_rfl) (by kernel_rfl) (by kernel_rfl) (fun _ _ _ h => h) (Or.inr ⟨by rfl, rfl⟩) HS0.out ?_
                simp only [List.getElem_toArray, List.getElem_cons_succ, List.getElem_cons_zero, Act.put, List.setIfInBounds_toArray, List.set_cons_zero, List.set_cons_succ]
                refine wpAnyH_take (i := 8) (v := undef) rfl (by kernel_rfl) (by kernel_rfl) (by kernel_rfl) (fun _ _ _ h => h) (Or.inr ⟨by rfl, rfl⟩) HS0.out ?_
                simp only [List.getElem_toArray, List.getElem_cons_succ, List.getElem_cons_zero, Act.put, List.setIfInBounds_toArray, List.set_cons_zero, List.set_cons_succ]
                refine wpAnyH_take (i := 9) (v := undef) rfl (by kernel_rfl) (by kernel_rfl) (by kernel_rfl) (fun _ _ _ h => h) (Or.inr ⟨by rfl, rfl⟩) HS0.out ?_
                simp only [List.getElem_toArray, List.getElem_cons_succ, List.getElem_cons_zero, Act.put, List.setIfInBounds_toArray, List.set_cons_zero, List.set_cons_succ]
                refine wpAnyH_take (i := 10) (v := undef) rfl (by kernel_rfl) (by kernel_rfl) (by kernel_rfl) (fun _ _ _ h => h) (Or.inr ⟨by rfl, rfl⟩) HS0.out ?_
                simp only [List.getElem_toArray, List.getElem_cons_succ, List.getElem_cons_zero, Act.put, List.setIfInBounds_toArray, List.set_cons_zero, List.set_cons_succ]
                refine wpAnyH_take (i := 11) (v := undef) rfl (by kernel_rfl) (by kernel_rfl) (by kernel_rfl) (fun _ _ _ h => h) (Or.inr ⟨by rfl, rfl⟩) HS0.out ?_
                simp only [List.getElem_toArray, List.getElem_cons_succ, List.getElem_cons_zero, Act.put, List.setIfInBounds_toArray, List.set_cons_zero, List.set_cons_succ]
                refine wpAnyH_take (i := 12) (v := undef) rfl (by kernel_rfl) (by kernel_rfl) (by kernel_rfl) (fun _ _ _ h => h) (Or.inr ⟨by rfl, rfl⟩) HS0.out ?_
                simp only [List.getElem_toArray, List.getElem_cons_succ, List.getElem_cons_zero, Act.put, List.setIfInBounds_toArray, List.set_cons_zero, List.set_cons_succ]
                refine wpAnyH_take (i := 13) (v := undef) rfl (by kernel_rfl) (by kernel_rfl) (by kernel_rfl) (fun _ _ _ h => h) (Or.inr ⟨by rfl, rfl⟩) HS0.out ?_
                simp only [List.getElem_toArray, List.getElem_cons_succ, List.getElem_cons_zero, Act.put, List.setIfInBounds_toArray, List.set_cons_zero, List.set_cons_succ]
                refine wpAnyH_take (i := 14) (v := .bool false) rfl (by kernel_rfl) (by kernel_rfl) (by kernel_rfl) (fun _ _ _ h => h) (Or.inl ⟨by rfl, fun W hW => by go_simp⟩) HS0.out ?_
                simp only [List.getElem_toArray, List.getElem_cons_succ, List.getElem_cons_zero, Act.put, List.setIfInBounds_toArray, List.set_cons_zero, List.set_cons_succ]
                refine wpAnyH_take (i := 15) (v := .bool false) rfl (by kernel_rfl) (by kernel_rfl) (by kernel_rfl) (fun _ _ _ h => h) (Or.inl ⟨by rfl, fun W hW => by go_simp⟩) HS0.out ?_
                simp only [List.getElem_toArray, List.getElem_cons_succ, List.getElem_cons_zero, Act.put, List.setIfInBounds_toArray, List.set_cons_zero, List.set_cons_succ]
                refine wpAnyH_done (by kernel_rfl) ?_ _
                refine atWd (fun W => Gr w5 W) HS0.out ?_
                rintro w6 G6
                have HB6 : Hid (∀ W : World, Gr w6 W → W.heap[w1.heap.size]? = some (.cells #[.int .i64 room, .slice a2 m2 c2, .int .i64 pu2, .int .i64 sl] 24 (0, 0))) := fun W G => up_h (G6.trans G) HB5.out
                have HX6 : Hid (∀ W : World, Gr w6 W → Bs W a2 m2 []) := fun W G => HX5.out.of (G6.trans G)
                have HG6 : Hid (Gr w w6) := HG5.out.trans G6
                have x1 : w6.cell? ⟨w1.heap.size, 1, none⟩ = some (.slice a2 m2 c2) := cell_of_row _ _ _ _ _ _ (HB6.out _ (Gr.refl _))
                clear HS0 G6 HB5 HX5 HG5 HC5 HF5 f0 f1 q0' q1' 
                go_wp2_with fail
                go_loopw [17] (fun i wq => ∃ t : Nat, t ≤ m2 ∧ i = .int .i64 t ∧ Gr w6 wq) (fun i _ => m2 - (intOf i).toNat)
                case atStart => exact ⟨0, Nat.zero_le _, rfl, Gr.refl _⟩
                case round =>
                  obtain ⟨t, ht, rfl, Gq⟩ := hrel
                  rename World => wq
                  have HGq : Hid (Gr w6 wq) := Gq
                  have z1 : wq.cell? ⟨w1.heap.size, 1, none⟩ = some (.slice a2 m2 c2) := cell_of_row _ _ _ _ _ _ (HB6.out _ Gq)
                  clear Gq x1
                  by_cases htm : t < m2
                  · obtain ⟨c, hc⟩ : ∃ c, [][t]? = some c := ⟨_, List.getElem?_eq_getElem (by rw [(HX6.out _ HGq.out).len]; exact htm)⟩
                    obtain ⟨b2, o2, rfl, hb2, hcl2⟩ := (HX6.out _ HGq.out).spot (by omega)
                    obtain ⟨u, v, g0, g1, CB⟩ := hcl2 t c hc
                    obtain ⟨rfl, -⟩ := CB
                    have PL : Hid (∀ W : World, Gr wq W → Calls Try.prog 9 #[.slice (some ⟨b2, o2, none⟩) t c2, .int .u32 c.pc] W fun e w' => e = .returned (.int .i64 (-1)) ∧ Gr W w') := fun W G => by have := Place_any c2 ((HX6.out _ (HGq.out.trans G)).take ht) (by omega) c.pc; rwa [HC3.out.sole.ahead hc] at this
                    have ht0 : (0 : Int) ≤ (t : Int) := by omega
                    have ht1 : (t : Int) < (m2 : Int) := by omega
                    have ht2 : (t : Int) ≤ (c2 : Int) := by omega
                    clear hcl2 hc g1
                    go_wp2_with fail
                    refine wp_region_held_drew (S := fun W => Gr wq W) (by kernel_rfl) (Gr.refl wq).drew (fun hHeld => ?_)
                    have HS0 : Hid _ := hHeld
                    clear hHeld
                    refine wpAnyH_take (i := 0) (v := .pointer (some ⟨w1.heap.size, 1, none⟩)) rfl (by kernel_rfl) (by kernel_rfl) (by kernel_rfl) (fun _ _ _ h => h) (Or.inl ⟨by rfl, fun W hW => by go_simp⟩) HS0.out ?_
                    simp only [List.getElem_toArray, List.getElem_cons_succ, List.getElem_cons_zero, Act.put, List.setIfInBounds_toArray, List.set_cons_zero, List.set_cons_succ]
                    refine wpAnyH_take (i := 1) (v := .slice (some ⟨b2, o2, none⟩) m2 c2) rfl (by kernel_rfl) (by kernel_rfl) (by kernel_rfl) (fun _ _ _ h => h) (Or.inl ⟨by rfl, fun W hW => by have z1' := (hW.cell _ (by exact lt_cell z1)).trans z1; go_simp⟩) HS0.out ?_
                    simp only [List.getElem_toArray, List.getElem_cons_succ, List.getElem_cons_zero, Act.put, List.setIfInBounds_toArray, List.set_cons_zero, List.set_cons_succ]
                    refine wpAnyH_take (i := 2) (v := .int .i64 t) rfl (by kernel_rfl) (by kernel_rfl) (by kernel_rfl) (fun _ _ _ h => h) (Or.inl ⟨by rfl, fun W hW => by go_simp⟩) HS0.out ?_
                    simp only [List.getElem_toArray, List.getElem_cons_succ, List.getElem_cons_zero, Act.put, List.setIfInBounds_toArray, List.set_cons_zero, List.set_cons_succ]
                    refine wpAnyH_take (i := 3) (v := .slice (some ⟨b2, o2, none⟩) t c2) rfl (by kernel_rfl) (by kernel_rfl) (by kernel_rfl) (fun _ _ _ h => h) (Or.inl ⟨by rfl, fun W hW => by go_simp⟩) HS0.out ?_
                    simp only [List.getElem_toArray, List.getElem_cons_succ, List.getElem_cons_zero, Act.put, List.setIfInBounds_toArray, List.set_cons_zero, List.set_cons_succ]
                    refine wpAnyH_take (i := 4) (v := .pointer (some ⟨w1.heap.size, 1, none⟩)) rfl (by kernel_rfl) (by kernel_rfl) (by kernel_rfl) (fun _ _ _ h => h) (Or.inl ⟨by rfl, fun W hW => by go_simp⟩) HS0.out ?_
                    simp only [List.getElem_toArray, List.getElem_cons_succ, List.getElem_cons_zero, Act.put, List.setIfInBounds_toArray, List.set_cons_zero, List.set_cons_succ]
                    refine wpAnyH_take (i := 5) (v := .slice (some ⟨b2, o2, none⟩) m2 c2) rfl (by kernel_rfl) (by kernel_rfl) (by kernel_rfl) (fun _ _ _ h => h) (Or.inl ⟨by rfl, fun W hW => by have z1' := (hW.cell _ (by exact lt_cell z1)).trans z1; go_simp⟩) HS0.out ?_
                    simp only [List.getElem_toArray, List.getElem_cons_succ, List.getElem_cons_zero, Act.put, List.setIfInBounds_toArray, List.set_cons_zero, List.set_cons_succ]
                    refine wpAnyH_take (i := 6) (v := .int .i64 t) rfl (by kernel_rfl) (by kernel_rfl) (by kernel_rfl) (fun _ _ _ h => h) (Or.inl ⟨by rfl, fun W hW => by go_simp⟩) HS0.out ?_
                    simp only [List.getElem_toArray, List.getElem_cons_succ, List.getElem_cons_zero, Act.put, List.setIfInBounds_toArray, List.set_cons_zero, List.set_cons_succ]
                    refine wpAnyH_take (i := 7) (v := .pointer (some ⟨b2, o2 + t * 2, none⟩)) rfl (by kernel_rfl) (by kernel_rfl) (by kernel_rfl) (fun _ _ _ h => h) (Or.inl ⟨by rfl, fun W hW => by go_simp⟩) HS0.out ?_
                    simp only [List.getElem_toArray, List.getElem_cons_succ, List.getElem_cons_zero, Act.put, List.setIfInBounds_toArray, List.set_cons_zero, List.set_cons_succ]
                    refine wpAnyH_take (i := 8) (v := .pointer (some ⟨b2, o2 + t * 2, none⟩)) rfl (by kernel_rfl) (by kernel_rfl) (by kernel_rfl) (fun _ _ _ h => h) (Or.inl ⟨by rfl, fun W hW => by go_simp⟩) HS0.out ?_
                    simp only [List.getElem_toArray, List.getElem_cons_succ, List.getElem_cons_zero, Act.put, List.setIfInBounds_toArray, List.set_cons_zero, List.set_cons_succ]
                    refine wpAnyH_take (i := 9) (v := .int .u32 c.pc) rfl (by kernel_rfl) (by kernel_rfl) (by kernel_rfl) (fun _ _ _ h => h) (Or.inl ⟨by rfl, fun W hW => by have g0' := (hW.cell _ (by exact lt_cell g0)).trans g0; go_simp⟩) HS0.out ?_
                    simp only [List.getElem_toArray, List.getElem_cons_succ, List.getElem_cons_zero, Act.put, List.setIfInBounds_toArray, List.set_cons_zero, List.set_cons_succ]
                    refine wpAnyH_ready (rs := [10]) (by kernel_rfl) (by simp) ?_
                    refine AllReadyH.cons rfl (fun K hK => ?_) AllReadyH.nil
                    go_simp
                    refine (PL.out _ (Gr.refl _).drew).mono ?_
                    rintro e w7 ⟨rfl, G7⟩
                    have HG7 : Hid (Gr wq w7) := (Gr.refl wq).drew.trans G7
                    refine hK.out _ _ HG7.out (fun hx => ?_)
                    clear hK K hx G7 HS0
                    have HS0 : Hid (Gr wq w7) := HG7.out
                    refine wpAnyH_take (i := 11) (v := .bool false) rfl (by kernel_rfl) (by kernel_rfl) (by kernel_rfl) (fun _ _ _ h => h) (Or.inl ⟨by rfl, fun W hW => by go_simp⟩) HS0.out ?_
                    simp only [List.getElem_toArray, List.getElem_cons_succ, List.getElem_cons_zero, Act.put, List.setIfInBounds_toArray, List.set_cons_zero, List.set_cons_succ]
                    refine wpAnyH_done (by kernel_rfl) ?_ _
                    clear HS0 PL g0 z1
                    go_wp2_with fail
                    go_roundw
                    case rel => exact ⟨t + 1, by omega, by go_num, HGq.out.trans HG7.out⟩
                    case measure => simp [intOf]; omega
                  · go_wp2_with fail
                    go_roundw
                    case rel => exact ⟨k + 1, [], a2, m2, c2, pu2, sl, by omega, by go_num, HB6.out _ HGq.out, ⟨HX6.out _ HGq.out, hcap2⟩, HC3.out, HG6.out.trans HGq.out⟩
                    case measure => simp [intOf]; omega

              · have hv : vn < 1 ∨ 16 < vn := by omega
                go_wp2_with fail
                apply share
                · intro CONT
                  refine wp_region_held_drew (S := fun W => Gr wq W) (by kernel_rfl) (Gr.refl wq).drew (fun hHeld => ?_)
                  have HS0 : Hid _ := hHeld
                  clear hHeld
                  refine wpAnyH_take (i := 0) (v := .agg #[.int .i64 room, .slice a n cp, .int .i64 pu, .int .i64 sl]) rfl (by kernel_rfl) (by kernel_rfl) (by kernel_rfl) (fun _ _ _ h => h) (Or.inl ⟨by rfl, fun W hW => by have x0' := (hW.cell _ (by exact lt_cell x0)).trans x0; have x1' := (hW.cell _ (by exact lt_cell x1)).trans x1; have x2' := (hW.cell _ (by exact lt_cell x2)).trans x2; have x3' := (hW.cell _ (by exact lt_cell x3)).trans x3; go_simp⟩) HS0.out ?_
                  simp only [List.getElem_toArray, List.getElem_cons_succ, List.getElem_cons_zero, Act.put, List.setIfInBounds_toArray, List.set_cons_zero, List.set_cons_succ]
                  refine wpAnyH_take (i := 1) (v := .slice (some ⟨bb, oo, none⟩) ln lc) rfl (by kernel_rfl) (by kernel_rfl) (by kernel_rfl) (fun _ _ _ h => h) (Or.inl ⟨by rfl, fun W hW => by go_simp⟩) HS0.out ?_
                  simp only [List.getElem_toArray, List.getElem_cons_succ, List.getElem_cons_zero, Act.put, List.setIfInBounds_toArray, List.set_cons_zero, List.set_cons_succ]
                  refine wpAnyH_take (i := 2) (v := .int .i64 k) rfl (by kernel_rfl) (by kernel_rfl) (by kernel_rfl) (fun _ _ _ h => h) (Or.inl ⟨by rfl, fun W hW => by go_simp⟩) HS0.out ?_
                  simp only [List.getElem_toArray, List.getElem_cons_succ, List.getElem_cons_zero, Act.put, List.setIfInBounds_toArray, List.set_cons_zero, List.set_cons_succ]
                  refine wpAnyH_take (i := 3) (v := .pointer (some ⟨bb, oo + k * 2, none⟩)) rfl (by kernel_rfl) (by kernel_rfl) (by kernel_rfl) (fun _ _ _ h => h) (Or.inl ⟨by rfl, fun W hW => by go_simp⟩) HS0.out ?_
                  simp only [List.getElem_toArray, List.getElem_cons_succ, List.getElem_cons_zero, Act.put, List.setIfInBounds_toArray, List.set_cons_zero, List.set_cons_succ]
                  refine wpAnyH_take (i := 4) (v := .agg #[.int .u32 b.pc, .slice va vn vc]) rfl (by kernel_rfl) (by kernel_rfl) (by kernel_rfl) (fun _ _ _ h => h) (Or.inl ⟨by rfl, fun W hW => by have p0' := (hW.cell _ (by exact lt_cell p0)).trans p0; have p1' := (hW.cell _ (by exact lt_cell p1)).trans p1; go_simp⟩) HS0.out ?_
                  simp only [List.getElem_toArray, List.getElem_cons_succ, List.getElem_cons_zero, Act.put, List.setIfInBounds_toArray, List.set_cons_zero, List.set_cons_succ]
                  refine wpAnyH_ready (rs := [5, 9]) (by kernel_rfl) (by simp) ?_
                  refine AllReadyH.cons rfl (fun K hK => ?_) (AllReadyH.cons rfl (fun K hK => ?_) AllReadyH.nil)
                  · go_simp
                    refine (HC.out.bad _ L a n cp pu sl b va vn vc (HX.out.of ((Gr.refl wq).drew)) (by have := HX.out.len; omega) (HBC.out _ ((Gr.refl wq).drew)) hv).mono ?_
                    rintro e w2 ⟨a2, c2, rfl, G2⟩
                    have HGW : Hid (Gr wq w2) := Gr.trans ((Gr.refl wq).drew) G2
                    refine hK.out _ _ HGW.out (fun hx => ?_)
                    clear hK K hx HS0
                    have HS0 : Hid (Gr wq w2) := HGW.out
                    refine wpAnyH_take (i := 6) (v := .tuple #[.agg #[.int .i64 0, .slice a2 0 c2, .int .i64 0, .int .i64 0], .int .i64 2]) rfl (by kernel_rfl) (by kernel_rfl) (by kernel_rfl) (fun _ _ _ h => h) (Or.inl ⟨by rfl, fun W hW => by go_simp⟩) HS0.out ?_
                    simp only [List.getElem_toArray, List.getElem_cons_succ, List.getElem_cons_zero, Act.put, List.setIfInBounds_toArray, List.set_cons_zero, List.set_cons_succ]
                    refine wpAnyH_take (i := 7) (v := .agg #[.int .i64 0, .slice a2 0 c2, .int .i64 0, .int .i64 0]) rfl (by kernel_rfl) (by kernel_rfl) (by kernel_rfl) (fun _ _ _ h => h) (Or.inl ⟨by rfl, fun W hW => by go_simp⟩) HS0.out ?_
                    simp only [List.getElem_toArray, List.getElem_cons_succ, List.getElem_cons_zero, Act.put, List.setIfInBounds_toArray, List.set_cons_zero, List.set_cons_succ]
                    refine wpAnyH_take (i := 8) (v := .int .i64 2) rfl (by kernel_rfl) (by kernel_rfl) (by kernel_rfl) (fun _ _ _ h => h) (Or.inl ⟨by rfl, fun W hW => by go_simp⟩) HS0.out ?_
                    simp only [List.getElem_toArray, List.getElem_cons_succ, List.getElem_cons_zero, Act.put, List.setIfInBounds_toArray, List.set_cons_zero, List.set_cons_succ]
                    refine wpAnyH_ready (rs := [9]) (by kernel_rfl) (by simp) ?_
                    refine AllReadyH.cons rfl (fun K hK => ?_) AllReadyH.nil
                    go_simp
                    refine hK.out _ _ (HGW.out.alloc _) (fun hx => ?_)
                    clear hK K hx
                    refine held_sr (i := 10) (by kernel_rfl) rfl rfl 24 (.tmp 13) (.tmp 93) rfl w2.heap.size #[.int .i64 0, .slice a2 0 c2, .int .i64 0, .int .i64 0] (by simp [Act.eval]) (by simp [Act.eval]) 24 _ (heap_alloc_new w2 _) iCa rfl (one_ca _ _ _ _ _ _) ?_ ?_
                    · exact gr_sr (HGW.out.alloc _) HGW.out.size _
                    clear HS0
                    have HS0 : Hid _ := gr_sr (HGW.out.alloc (.cells #[.int .i64 0, .slice none 0 0, .int .i64 0, .int .i64 0] 24)) HGW.out.size #[.int .i64 0, .slice a2 0 c2, .int .i64 0, .int .i64 0]
                    refine wpAnyH_take (i := 11) (v := .int .i64 2) rfl (by kernel_rfl) (by kernel_rfl) (by kernel_rfl) (fun _ _ _ h => h) (Or.inl ⟨by rfl, fun W hW => by go_simp⟩) HS0.out ?_
                    simp only [List.getElem_toArray, List.getElem_cons_succ, List.getElem_cons_zero, Act.put, List.setIfInBounds_toArray, List.set_cons_zero, List.set_cons_succ]
                    refine wpAnyH_done (by kernel_rfl) ?_ _
                    refine atWd (fun W => W.heap[w2.heap.size]? = some (.cells #[.int .i64 0, .slice a2 0 c2, .int .i64 0, .int .i64 0] 24 (0, 0)) ∧ Gr wq W) ⟨setRow_heap _ _ _ _ _ (0, 0) (heap_alloc_new w2 _), HS0.out⟩ ?_
                    have hgd : w1.heap.size < w2.heap.size := by have := HGW.out.size; omega
                    clear HS0 G2 HGW
                    generalize w2.heap.size = gd at hgd ⊢
                    clear w2
                    revert gd
                    revert c2
                    revert a2
                    exact CONT.out
                  · go_simp
                    refine hK.out _ _ ((Gr.refl wq).alloc _).drew (fun hx => ?_)
                    clear hK K hx
                    refine wpAnyH_ready (rs := [5]) (by kernel_rfl) (by simp) ?_
                    refine AllReadyH.cons rfl (fun K hK => ?_) AllReadyH.nil
                    go_simp
                    refine (HC.out.bad _ L a n cp pu sl b va vn vc (HX.out.of (((Gr.refl wq).alloc _).drew)) (by have := HX.out.len; omega) (HBC.out _ (((Gr.refl wq).alloc _).drew)) hv).mono ?_
                    rintro e w2 ⟨a2, c2, rfl, G2⟩
                    have HGW : Hid (Gr wq w2) := Gr.trans (((Gr.refl wq).alloc _).drew) G2
                    have HNW : Hid (w2.heap[wq.heap.size]? = some (.cells #[.int .i64 0, .slice none 0 0, .int .i64 0, .int .i64 0] 24 (0, 0))) := up_h G2 (up_h (Gr.refl _).drew (heap_alloc_new wq _))
                    refine hK.out _ _ HGW.out (fun hx => ?_)
                    clear hK K hx HS0
                    have HS0 : Hid (Gr wq w2) := HGW.out
                    refine wpAnyH_take (i := 6) (v := .tuple #[.agg #[.int .i64 0, .slice a2 0 c2, .int .i64 0, .int .i64 0], .int .i64 2]) rfl (by kernel_rfl) (by kernel_rfl) (by kernel_rfl) (fun _ _ _ h => h) (Or.inl ⟨by rfl, fun W hW => by go_simp⟩) HS0.out ?_
                    simp only [List.getElem_toArray, List.getElem_cons_succ, List.getElem_cons_zero, Act.put, List.setIfInBounds_toArray, List.set_cons_zero, List.set_cons_succ]
                    refine wpAnyH_take (i := 7) (v := .agg #[.int .i64 0, .slice a2 0 c2, .int .i64 0, .int .i64 0]) rfl (by kernel_rfl) (by kernel_rfl) (by kernel_rfl) (fun _ _ _ h => h) (Or.inl ⟨by rfl, fun W hW => by go_simp⟩) HS0.out ?_
                    simp only [List.getElem_toArray, List.getElem_cons_succ, List.getElem_cons_zero, Act.put, List.setIfInBounds_toArray, List.set_cons_zero, List.set_cons_succ]
                    refine wpAnyH_take (i := 8) (v := .int .i64 2) rfl (by kernel_rfl) (by kernel_rfl) (by kernel_rfl) (fun _ _ _ h => h) (Or.inl ⟨by rfl, fun W hW => by go_simp⟩) HS0.out ?_
                    simp only [List.getElem_toArray, List.getElem_cons_succ, List.getElem_cons_zero, Act.put, List.setIfInBounds_toArray, List.set_cons_zero, List.set_cons_succ]
                    refine held_sr (i := 10) (by kernel_rfl) rfl rfl 24 (.tmp 13) (.tmp 93) rfl wq.heap.size #[.int .i64 0, .slice a2 0 c2, .int .i64 0, .int .i64 0] (by simp [Act.eval]) (by simp [Act.eval]) 24 _ HNW.out iCa rfl (one_ca _ _ _ _ _ _) ?_ ?_
                    · exact gr_sr HGW.out (Nat.le_refl _) _
                    clear HS0
                    have HS0 : Hid (Gr wq (w2.setRow wq.heap.size #[.int .i64 0, .slice a2 0 c2, .int .i64 0, .int .i64 0])) := gr_sr HGW.out (Nat.le_refl _) _
                    refine wpAnyH_take (i := 11) (v := .int .i64 2) rfl (by kernel_rfl) (by kernel_rfl) (by kernel_rfl) (fun _ _ _ h => h) (Or.inl ⟨by rfl, fun W hW => by go_simp⟩) HS0.out ?_
                    simp only [List.getElem_toArray, List.getElem_cons_succ, List.getElem_cons_zero, Act.put, List.setIfInBounds_toArray, List.set_cons_zero, List.set_cons_succ]
                    refine wpAnyH_done (by kernel_rfl) ?_ _
                    refine atWd (fun W => W.heap[wq.heap.size]? = some (.cells #[.int .i64 0, .slice a2 0 c2, .int .i64 0, .int .i64 0] 24 (0, 0)) ∧ Gr wq W) ⟨setRow_heap _ _ _ _ _ (0, 0) HNW.out, HS0.out⟩ ?_
                    have hgd : w1.heap.size < wq.heap.size := hgl
                    clear HS0 G2 HNW HGW
                    generalize wq.heap.size = gd at hgd ⊢
                    clear w2
                    revert gd
                    revert c2
                    revert a2
                    exact CONT.out
                intro a2 c2 gd hgd
                rintro w3 ⟨D3, G3⟩
                have HG3 : Hid (Gr wq w3) := G3
                have p1' := (G3.cell _ (by exact lt_cell p1)).trans p1
                clear D3 G3 p0 p1 x0 x1 x2 x3
                rcases hv with hv | hv
                all_goals
                  go_wp2_with fail
                  go_roundw
                  case rel => exact ⟨k + 1, L, a, n, cp, pu, sl, by omega, by go_num, up_h HG3.out HB.out, ⟨HX.out.of HG3.out, hcap⟩, HO.out, HG.out.trans HG3.out⟩
                  case measure => simp [intOf]; omega

        · by_cases hv : 1 ≤ vn ∧ vn ≤ 16
          · obtain ⟨hv0, hv1⟩ := hv
            go_wp2_with fail
            apply share
            · intro CONT
              refine wp_region_held_drew (S := fun W => Gr wr W) (by kernel_rfl) (Gr.refl wr).drew (fun hHeld => ?_)
              have HS0 : Hid _ := hHeld
              clear hHeld
              refine wpAnyH_take (i := 0) (v := .agg #[.int .i64 room, .slice a n cp, .int .i64 pu, .int .i64 sl]) rfl (by kernel_rfl) (by kernel_rfl) (by kernel_rfl) (fun _ _ _ h => h) (Or.inl ⟨by rfl, fun W hW => by have x0' := (hW.cell _ (by exact lt_cell x0)).trans x0; have x1' := (hW.cell _ (by exact lt_cell x1)).trans x1; have x2' := (hW.cell _ (by exact lt_cell x2)).trans x2; have x3' := (hW.cell _ (by exact lt_cell x3)).trans x3; go_simp⟩) HS0.out ?_
              simp only [List.getElem_toArray, List.getElem_cons_succ, List.getElem_cons_zero, Act.put, List.setIfInBounds_toArray, List.set_cons_zero, List.set_cons_succ]
              refine wpAnyH_take (i := 1) (v := .slice (some ⟨bb, oo, none⟩) ln lc) rfl (by kernel_rfl) (by kernel_rfl) (by kernel_rfl) (fun _ _ _ h => h) (Or.inl ⟨by rfl, fun W hW => by go_simp⟩) HS0.out ?_
              simp only [List.getElem_toArray, List.getElem_cons_succ, List.getElem_cons_zero, Act.put, List.setIfInBounds_toArray, List.set_cons_zero, List.set_cons_succ]
              refine wpAnyH_take (i := 2) (v := .int .i64 k) rfl (by kernel_rfl) (by kernel_rfl) (by kernel_rfl) (fun _ _ _ h => h) (Or.inl ⟨by rfl, fun W hW => by go_simp⟩) HS0.out ?_
              simp only [List.getElem_toArray, List.getElem_cons_succ, List.getElem_cons_zero, Act.put, List.setIfInBounds_toArray, List.set_cons_zero, List.set_cons_succ]
              refine wpAnyH_take (i := 3) (v := .pointer (some ⟨bb, oo + k * 2, none⟩)) rfl (by kernel_rfl) (by kernel_rfl) (by kernel_rfl) (fun _ _ _ h => h) (Or.inl ⟨by rfl, fun W hW => by go_simp⟩) HS0.out ?_
              simp only [List.getElem_toArray, List.getElem_cons_succ, List.getElem_cons_zero, Act.put, List.setIfInBounds_toArray, List.set_cons_zero, List.set_cons_succ]
              refine wpAnyH_take (i := 4) (v := .agg #[.int .u32 b.pc, .slice va vn vc]) rfl (by kernel_rfl) (by kernel_rfl) (by kernel_rfl) (fun _ _ _ h => h) (Or.inl ⟨by rfl, fun W hW => by have p0' := (hW.cell _ (by exact lt_cell p0)).trans p0; have p1' := (hW.cell _ (by exact lt_cell p1)).trans p1; go_simp⟩) HS0.out ?_
              simp only [List.getElem_toArray, List.getElem_cons_succ, List.getElem_cons_zero, Act.put, List.setIfInBounds_toArray, List.set_cons_zero, List.set_cons_succ]
              refine wpAnyH_ready (rs := [5, 9]) (by kernel_rfl) (by simp) ?_
              refine AllReadyH.cons rfl (fun K hK => ?_) (AllReadyH.cons rfl (fun K hK => ?_) AllReadyH.nil)
              · go_simp
                refine (HC.out.put _ L a n cp pu sl b va vn vc (HX.out.of ((Gr.refl wr).drew)) (by have := HX.out.len; omega) (HBC.out _ ((Gr.refl wr).drew)) hv0 hv1).mono ?_
                rintro e w2 ⟨a2, m2, c2, pu2, rfl, ⟨B2, hcap2⟩, G2⟩
                have HGW : Hid (Gr wr w2) := Gr.trans ((Gr.refl wr).drew) G2
                refine hK.out _ _ HGW.out (fun hx => ?_)
                clear hK K hx HS0
                have HS0 : Hid (Gr wr w2) := HGW.out
                refine wpAnyH_take (i := 6) (v := .tuple #[.agg #[.int .i64 room, .slice a2 m2 c2, .int .i64 pu2, .int .i64 sl], .int .i64 0]) rfl (by kernel_rfl) (by kernel_rfl) (by kernel_rfl) (fun _ _ _ h => h) (Or.inl ⟨by rfl, fun W hW => by go_simp⟩) HS0.out ?_
                simp only [List.getElem_toArray, List.getElem_cons_succ, List.getElem_cons_zero, Act.put, List.setIfInBounds_toArray, List.set_cons_zero, List.set_cons_succ]
                refine wpAnyH_take (i := 7) (v := .agg #[.int .i64 room, .slice a2 m2 c2, .int .i64 pu2, .int .i64 sl]) rfl (by kernel_rfl) (by kernel_rfl) (by kernel_rfl) (fun _ _ _ h => h) (Or.inl ⟨by rfl, fun W hW => by go_simp⟩) HS0.out ?_
                simp only [List.getElem_toArray, List.getElem_cons_succ, List.getElem_cons_zero, Act.put, List.setIfInBounds_toArray, List.set_cons_zero, List.set_cons_succ]
                refine wpAnyH_take (i := 8) (v := .int .i64 0) rfl (by kernel_rfl) (by kernel_rfl) (by kernel_rfl) (fun _ _ _ h => h) (Or.inl ⟨by rfl, fun W hW => by go_simp⟩) HS0.out ?_
                simp only [List.getElem_toArray, List.getElem_cons_succ, List.getElem_cons_zero, Act.put, List.setIfInBounds_toArray, List.set_cons_zero, List.set_cons_succ]
                refine wpAnyH_ready (rs := [9]) (by kernel_rfl) (by simp) ?_
                refine AllReadyH.cons rfl (fun K hK => ?_) AllReadyH.nil
                go_simp
                refine hK.out _ _ (HGW.out.alloc _) (fun hx => ?_)
                clear hK K hx
                refine held_sr (i := 10) (by kernel_rfl) rfl rfl 24 (.tmp 13) (.tmp 93) rfl w2.heap.size #[.int .i64 room, .slice a2 m2 c2, .int .i64 pu2, .int .i64 sl] (by simp [Act.eval]) (by simp [Act.eval]) 24 _ (heap_alloc_new w2 _) iCa rfl (one_ca _ _ _ _ _ _) ?_ ?_
                · exact gr_sr (HGW.out.alloc _) HGW.out.size _
                clear HS0
                have HS0 : Hid _ := gr_sr (HGW.out.alloc (.cells #[.int .i64 0, .slice none 0 0, .int .i64 0, .int .i64 0] 24)) HGW.out.size #[.int .i64 room, .slice a2 m2 c2, .int .i64 pu2, .int .i64 sl]
                refine wpAnyH_take (i := 11) (v := .int .i64 0) rfl (by kernel_rfl) (by kernel_rfl) (by kernel_rfl) (fun _ _ _ h => h) (Or.inl ⟨by rfl, fun W hW => by go_simp⟩) HS0.out ?_
                simp only [List.getElem_toArray, List.getElem_cons_succ, List.getElem_cons_zero, Act.put, List.setIfInBounds_toArray, List.set_cons_zero, List.set_cons_succ]
                refine wpAnyH_done (by kernel_rfl) ?_ _
                refine atWd (fun W => W.heap[w2.heap.size]? = some (.cells #[.int .i64 room, .slice a2 m2 c2, .int .i64 pu2, .int .i64 sl] 24 (0, 0)) ∧ Gr wr W ∧ Bs W a2 m2 (putL room L b)) ⟨setRow_heap _ _ _ _ _ (0, 0) (heap_alloc_new w2 _), HS0.out, B2.of (gr_sr ((Gr.refl _).alloc _) (Nat.le_refl _) _)⟩ ?_
                have hgd : w1.heap.size < w2.heap.size := by have := HGW.out.size; omega
                clear HS0 B2 G2 HGW
                generalize w2.heap.size = gd at hgd ⊢
                clear w2
                revert gd
                revert hcap2
                revert pu2
                revert c2
                revert m2
                revert a2
                exact CONT.out
              · go_simp
                refine hK.out _ _ ((Gr.refl wr).alloc _).drew (fun hx => ?_)
                clear hK K hx
                refine wpAnyH_ready (rs := [5]) (by kernel_rfl) (by simp) ?_
                refine AllReadyH.cons rfl (fun K hK => ?_) AllReadyH.nil
                go_simp
                refine (HC.out.put _ L a n cp pu sl b va vn vc (HX.out.of (((Gr.refl wr).alloc _).drew)) (by have := HX.out.len; omega) (HBC.out _ (((Gr.refl wr).alloc _).drew)) hv0 hv1).mono ?_
                rintro e w2 ⟨a2, m2, c2, pu2, rfl, ⟨B2, hcap2⟩, G2⟩
                have HGW : Hid (Gr wr w2) := Gr.trans (((Gr.refl wr).alloc _).drew) G2
                have HNW : Hid (w2.heap[wr.heap.size]? = some (.cells #[.int .i64 0, .slice none 0 0, .int .i64 0, .int .i64 0] 24 (0, 0))) := up_h G2 (up_h (Gr.refl _).drew (heap_alloc_new wr _))
                refine hK.out _ _ HGW.out (fun hx => ?_)
                clear hK K hx HS0
                have HS0 : Hid (Gr wr w2) := HGW.out
                refine wpAnyH_take (i := 6) (v := .tuple #[.agg #[.int .i64 room, .slice a2 m2 c2, .int .i64 pu2, .int .i64 sl], .int .i64 0]) rfl (by kernel_rfl) (by kernel_rfl) (by kernel_rfl) (fun _ _ _ h => h) (Or.inl ⟨by rfl, fun W hW => by go_simp⟩) HS0.out ?_
                simp only [List.getElem_toArray, List.getElem_cons_succ, List.getElem_cons_zero, Act.put, List.setIfInBounds_toArray, List.set_cons_zero, List.set_cons_succ]
                refine wpAnyH_take (i := 7) (v := .agg #[.int .i64 room, .slice a2 m2 c2, .int .i64 pu2, .int .i64 sl]) rfl (by kernel_rfl) (by kernel_rfl) (by kernel_rfl) (fun _ _ _ h => h) (Or.inl ⟨by rfl, fun W hW => by go_simp⟩) HS0.out ?_
                simp only [List.getElem_toArray, List.getElem_cons_succ, List.getElem_cons_zero, Act.put, List.setIfInBounds_toArray, List.set_cons_zero, List.set_cons_succ]
                refine wpAnyH_take (i := 8) (v := .int .i64 0) rfl (by kernel_rfl) (by kernel_rfl) (by kernel_rfl) (fun _ _ _ h => h) (Or.inl ⟨by rfl, fun W hW => by go_simp⟩) HS0.out ?_
                simp only [List.getElem_toArray, List.getElem_cons_succ, List.getElem_cons_zero, Act.put, List.setIfInBounds_toArray, List.set_cons_zero, List.set_cons_succ]
                refine held_sr (i := 10) (by kernel_rfl) rfl rfl 24 (.tmp 13) (.tmp 93) rfl wr.heap.size #[.int .i64 room, .slice a2 m2 c2, .int .i64 pu2, .int .i64 sl] (by simp [Act.eval]) (by simp [Act.eval]) 24 _ HNW.out iCa rfl (one_ca _ _ _ _ _ _) ?_ ?_
                · exact gr_sr HGW.out (Nat.le_refl _) _
                clear HS0
                have HS0 : Hid (Gr wr (w2.setRow wr.heap.size #[.int .i64 room, .slice a2 m2 c2, .int .i64 pu2, .int .i64 sl])) := gr_sr HGW.out (Nat.le_refl _) _
                refine wpAnyH_take (i := 11) (v := .int .i64 0) rfl (by kernel_rfl) (by kernel_rfl) (by kernel_rfl) (fun _ _ _ h => h) (Or.inl ⟨by rfl, fun W hW => by go_simp⟩) HS0.out ?_
                simp only [List.getElem_toArray, List.getElem_cons_succ, List.getElem_cons_zero, Act.put, List.setIfInBounds_toArray, List.set_cons_zero, List.set_cons_succ]
                refine wpAnyH_done (by kernel_rfl) ?_ _
                refine atWd (fun W => W.heap[wr.heap.size]? = some (.cells #[.int .i64 room, .slice a2 m2 c2, .int .i64 pu2, .int .i64 sl] 24 (0, 0)) ∧ Gr wr W ∧ Bs W a2 m2 (putL room L b)) ⟨setRow_heap _ _ _ _ _ (0, 0) HNW.out, HS0.out, Bs.keep (g := wr.heap.size) B2 (fun b o v h hv => ne_cache (room := 0) (a := none) (n := 0) (c := 0) (pu := 0) (sl := 0) HNW.out h hv) (fun b o hb => cell_setRow_ne _ _ _ _ hb) (by simp)⟩ ?_
                have hgd : w1.heap.size < wr.heap.size := hgl
                clear HS0 B2 G2 HNW HGW
                generalize wr.heap.size = gd at hgd ⊢
                clear w2
                revert gd
                revert hcap2
                revert pu2
                revert c2
                revert m2
                revert a2
                exact CONT.out
            intro a2 m2 c2 pu2 hcap2 gd hgd
            rintro w3 ⟨D3, G3, B3⟩
            obtain ⟨CO, CP, CZ⟩ := HO.out.put hr0 b
            have hm2 := B3.len
            have HB3 : Hid (w3.heap[w1.heap.size]? = some (.cells #[.int .i64 room, .slice a n cp, .int .i64 pu, .int .i64 sl] 24 (0, 0))) := up_h G3 HB.out
            have HG3 : Hid (Gr wr w3) := G3
            have HX3 : Hid (Bs w3 a2 m2 (putL room L b)) := B3
            have HC3 : Hid (Cok room (putL room L b)) := CO
            have HP3 : Hid (0 < room → place b.pc (putL room L b) 0 = ((putL room L b).length : Int) - 1 ∧ (putL room L b)[(putL room L b).length - 1]? = some b) := CP
            have HZ3 : Hid (room = 0 → putL room L b = []) := CZ
            have hm3 : (m2 : Int) ≤ room := by have := CO.len; rw [hm2] at this; exact this
            clear hm2 B3 G3 CO CP CZ
            generalize putL room L b = L2 at *
            have d0 : w3.cell? ⟨gd, 0, none⟩ = some (.int .i64 room) := cell_of_row _ _ _ _ _ _ D3
            have d1 : w3.cell? ⟨gd, 1, none⟩ = some (.slice a2 m2 c2) := cell_of_row _ _ _ _ _ _ D3
            have d2 : w3.cell? ⟨gd, 2, none⟩ = some (.int .i64 pu2) := cell_of_row _ _ _ _ _ _ D3
            have d3 : w3.cell? ⟨gd, 3, none⟩ = some (.int .i64 sl) := cell_of_row _ _ _ _ _ _ D3
            have e0 : w3.cell? ⟨w1.heap.size, 0, none⟩ = some (.int .i64 room) := cell_of_row _ _ _ _ _ _ HB3.out
            have e1 : w3.cell? ⟨w1.heap.size, 1, none⟩ = some (.slice a n cp) := cell_of_row _ _ _ _ _ _ HB3.out
            have e2 : w3.cell? ⟨w1.heap.size, 2, none⟩ = some (.int .i64 pu) := cell_of_row _ _ _ _ _ _ HB3.out
            have e3 : w3.cell? ⟨w1.heap.size, 3, none⟩ = some (.int .i64 sl) := cell_of_row _ _ _ _ _ _ HB3.out
            have ez : ∀ j, w3.frozen? ⟨w1.heap.size, j, none⟩ = false := fun j => frozen_of_row _ _ _ _ _ HB3.out
            have hne : ¬ w1.heap.size = gd := by omega
            clear D3 x0 x1 x2 x3
            go_wp2_with fail
            refine atWd (fun W => W.heap[w1.heap.size]? = some (.cells #[.int .i64 room, .slice a2 m2 c2, .int .i64 pu2, .int .i64 sl] 24 (0, 0)) ∧ Bs W a2 m2 L2 ∧ Gr w W ∧ W.cell? ⟨bb, oo + k * 2, none⟩ = some (.int .u32 b.pc) ∧ W.cell? ⟨bb, oo + k * 2 + 1, none⟩ = some (.slice va vn vc) ∧ Bc W b (.int .u32 b.pc) (.slice va vn vc)) ?_ ?_
            · have ne3 : ∀ (b o : Nat) (v : Value), w3.cell? ⟨b, o, none⟩ = some v → (∀ x, ¬ v = .int .i64 x) ∧ (∀ a n c, ¬ v = .slice a n c) → b ≠ w1.heap.size := fun b o v h hv => ne_cache (room := room) (a := a) (n := n) (c := cp) (pu := pu) (sl := sl) HB3.out h hv
              have p0' := (HG3.out.cell _ (by exact lt_cell p0)).trans p0
              have p1' := (HG3.out.cell _ (by exact lt_cell p1)).trans p1
              have nb : bb ≠ w1.heap.size := ne3 _ _ _ p0' ⟨fun y => by simp, fun a n c => by simp⟩
              refine ⟨four_set HB3.out _ _ _ _, Bs.keep HX3.out ne3 (fun b o h => four_ne _ _ _ _ _ _ o h) (by simp), ?_, (four_ne _ _ _ _ _ _ _ nb).trans p0', (four_ne _ _ _ _ _ _ _ nb).trans p1', Bc.keep (HBC.out _ HG3.out) ne3 (fun b o h => four_ne _ _ _ _ _ _ o h) (by simp)⟩
              have g1 := HG1.out.size
              exact ((((HG.out.trans HG3.out).setCell (by exact g1) _).setCell (by exact g1) _).setCell (by exact g1) _).setCell (by exact g1) _
            rintro w4 ⟨B4, X4, G4, q0, q1, C4⟩
            clear HB3 HX3 HG3 HBC d0 d1 d2 d3 e0 e1 e2 e3 ez hne p0 p1 hbb HX HB HO hnn hgl hgd
            have HB4 : Hid (w4.heap[w1.heap.size]? = some (.cells #[.int .i64 room, .slice a2 m2 c2, .int .i64 pu2, .int .i64 sl] 24 (0, 0))) := B4
            have HX4 : Hid (Bs w4 a2 m2 L2) := X4
            have HG4 : Hid (Gr w w4) := G4
            have HC4 : Hid (Bc w4 b (.int .u32 b.pc) (.slice va vn vc)) := C4
            have x0 : w4.cell? ⟨w1.heap.size, 0, none⟩ = some (.int .i64 room) := cell_of_row _ _ _ _ _ _ B4
            have x1 : w4.cell? ⟨w1.heap.size, 1, none⟩ = some (.slice a2 m2 c2) := cell_of_row _ _ _ _ _ _ B4
            have x2 : w4.cell? ⟨w1.heap.size, 2, none⟩ = some (.int .i64 pu2) := cell_of_row _ _ _ _ _ _ B4
            have x3 : w4.cell? ⟨w1.heap.size, 3, none⟩ = some (.int .i64 sl) := cell_of_row _ _ _ _ _ _ B4
            have h64 : m2 ≤ 64 := by omega
            clear B4 X4 G4 C4
            have eL := HZ3.out HZ.out
            subst eL
            have FN : Hid (∀ W : World, Gr w4 W → Calls Try.prog 8 #[.agg #[.int .i64 room, .slice a2 m2 c2, .int .i64 pu2, .int .i64 sl], .int .u32 b.pc] W fun e w' => ∃ x y, e = .returned (.tuple #[.agg #[x, y], .bool false]) ∧ Bc w' ⟨0, []⟩ x y ∧ Gr W w') := fun W G => HC.out.fnd W [] a2 m2 c2 pu2 sl b.pc (HX4.out.of G) (by simp)
            apply share
            · intro CONT
              refine wp_region_held_drew (S := fun W => Gr w4 W) (by kernel_rfl) (Gr.refl w4).drew (fun hHeld => ?_)
              have HS0 : Hid _ := hHeld
              clear hHeld
              refine wpAnyH_take (i := 0) (v := .agg #[.int .i64 room, .slice a2 m2 c2, .int .i64 pu2, .int .i64 sl]) rfl (by kernel_rfl) (by kernel_rfl) (by kernel_rfl) (fun _ _ _ h => h) (Or.inl ⟨by rfl, fun W hW => by have x0' := (hW.cell _ (by exact lt_cell x0)).trans x0; have x1' := (hW.cell _ (by exact lt_cell x1)).trans x1; have x2' := (hW.cell _ (by exact lt_cell x2)).trans x2; have x3' := (hW.cell _ (by exact lt_cell x3)).trans x3; go_simp⟩) HS0.out ?_
              simp only [List.getElem_toArray, List.getElem_cons_succ, List.getElem_cons_zero, Act.put, List.setIfInBounds_toArray, List.set_cons_zero, List.set_cons_succ]
              refine wpAnyH_take (i := 1) (v := .slice (some ⟨bb, oo, none⟩) ln lc) rfl (by kernel_rfl) (by kernel_rfl) (by kernel_rfl) (fun _ _ _ h => h) (Or.inl ⟨by rfl, fun W hW => by go_simp⟩) HS0.out ?_
              simp only [List.getElem_toArray, List.getElem_cons_succ, List.getElem_cons_zero, Act.put, List.setIfInBounds_toArray, List.set_cons_zero, List.set_cons_succ]
              refine wpAnyH_take (i := 2) (v := .int .i64 k) rfl (by kernel_rfl) (by kernel_rfl) (by kernel_rfl) (fun _ _ _ h => h) (Or.inl ⟨by rfl, fun W hW => by go_simp⟩) HS0.out ?_
              simp only [List.getElem_toArray, List.getElem_cons_succ, List.getElem_cons_zero, Act.put, List.setIfInBounds_toArray, List.set_cons_zero, List.set_cons_succ]
              refine wpAnyH_take (i := 3) (v := .pointer (some ⟨bb, oo + k * 2, none⟩)) rfl (by kernel_rfl) (by kernel_rfl) (by kernel_rfl) (fun _ _ _ h => h) (Or.inl ⟨by rfl, fun W hW => by go_simp⟩) HS0.out ?_
              simp only [List.getElem_toArray, List.getElem_cons_succ, List.getElem_cons_zero, Act.put, List.setIfInBounds_toArray, List.set_cons_zero, List.set_cons_succ]
              refine wpAnyH_take (i := 4) (v := .pointer (some ⟨bb, oo + k * 2, none⟩)) rfl (by kernel_rfl) (by kernel_rfl) (by kernel_rfl) (fun _ _ _ h => h) (Or.inl ⟨by rfl, fun W hW => by go_simp⟩) HS0.out ?_
              simp only [List.getElem_toArray, List.getElem_cons_succ, List.getElem_cons_zero, Act.put, List.setIfInBounds_toArray, List.set_cons_zero, List.set_cons_succ]
              refine wpAnyH_take (i := 5) (v := .int .u32 b.pc) rfl (by kernel_rfl) (by kernel_rfl) (by kernel_rfl) (fun _ _ _ h => h) (Or.inl ⟨by rfl, fun W hW => by have q0' := (hW.cell _ (by exact lt_cell q0)).trans q0; go_simp⟩) HS0.out ?_
              simp only [List.getElem_toArray, List.getElem_cons_succ, List.getElem_cons_zero, Act.put, List.setIfInBounds_toArray, List.set_cons_zero, List.set_cons_succ]
              refine wpAnyH_ready (rs := [6, 10]) (by kernel_rfl) (by simp) ?_
              refine AllReadyH.cons rfl (fun K hK => ?_) (AllReadyH.cons rfl (fun K hK => ?_) AllReadyH.nil)
              · go_simp
                refine (FN.out _ ((Gr.refl w4).drew)).mono ?_
                rintro e w5 ⟨x, y, rfl, BC5, G5⟩
                have HGW : Hid (Gr w4 w5) := Gr.trans ((Gr.refl w4).drew) G5
                have HBF : Hid (∀ W : World, Gr w5 W → Bc W ⟨0, []⟩ x y) := fun W G => BC5.of G
                obtain ⟨rfl, -, fa, fn, fc, rfl, -, -⟩ := BC5
                refine hK.out _ _ HGW.out (fun hx => ?_)
                clear hK K hx HS0
                have HS0 : Hid (Gr w4 w5) := HGW.out
                refine wpAnyH_take (i := 7) (v := .tuple #[.agg #[.int .u32 0, .slice fa fn fc], .bool false]) rfl (by kernel_rfl) (by kernel_rfl) (by kernel_rfl) (fun _ _ _ h => h) (Or.inl ⟨by rfl, fun W hW => by go_simp⟩) HS0.out ?_
                simp only [List.getElem_toArray, List.getElem_cons_succ, List.getElem_cons_zero, Act.put, List.setIfInBounds_toArray, List.set_cons_zero, List.set_cons_succ]
                refine wpAnyH_take (i := 8) (v := .agg #[.int .u32 0, .slice fa fn fc]) rfl (by kernel_rfl) (by kernel_rfl) (by kernel_rfl) (fun _ _ _ h => h) (Or.inl ⟨by rfl, fun W hW => by go_simp⟩) HS0.out ?_
                simp only [List.getElem_toArray, List.getElem_cons_succ, List.getElem_cons_zero, Act.put, List.setIfInBounds_toArray, List.set_cons_zero, List.set_cons_succ]
                refine wpAnyH_take (i := 9) (v := .bool false) rfl (by kernel_rfl) (by kernel_rfl) (by kernel_rfl) (fun _ _ _ h => h) (Or.inl ⟨by rfl, fun W hW => by go_simp⟩) HS0.out ?_
                simp only [List.getElem_toArray, List.getElem_cons_succ, List.getElem_cons_zero, Act.put, List.setIfInBounds_toArray, List.set_cons_zero, List.set_cons_succ]
                refine wpAnyH_ready (rs := [10]) (by kernel_rfl) (by simp) ?_
                refine AllReadyH.cons rfl (fun K hK => ?_) AllReadyH.nil
                go_simp
                refine hK.out _ _ (HGW.out.alloc _) (fun hx => ?_)
                clear hK K hx
                refine held_sr (i := 11) (by kernel_rfl) rfl rfl 28 (.tmp 15) (.tmp 127) rfl w5.heap.size #[.int .u32 0, .slice fa fn fc] (by simp [Act.eval]) (by simp [Act.eval]) 28 _ (heap_alloc_new w5 _) iBk2 rfl (one_bk _ _ _ _) ?_ ?_
                · exact gr_sr (HGW.out.alloc _) HGW.out.size _
                clear HS0
                have HS0 : Hid _ := gr_sr (HGW.out.alloc (.cells #[.int .u32 0, .slice none 0 0] 28)) HGW.out.size #[.int .u32 0, .slice fa fn fc]
                refine wpAnyH_take (i := 12) (v := .bool false) rfl (by kernel_rfl) (by kernel_rfl) (by kernel_rfl) (fun _ _ _ h => h) (Or.inl ⟨by rfl, fun W hW => by go_simp⟩) HS0.out ?_
                simp only [List.getElem_toArray, List.getElem_cons_succ, List.getElem_cons_zero, Act.put, List.setIfInBounds_toArray, List.set_cons_zero, List.set_cons_succ]
                refine wpAnyH_done (by kernel_rfl) ?_ _
                refine atWd (fun W => W.heap[w5.heap.size]? = some (.cells #[.int .u32 0, .slice fa fn fc] 28 (0, 0)) ∧ Gr w4 W ∧ Bc W ⟨0, []⟩ (.int .u32 0) (.slice fa fn fc)) ⟨setRow_heap _ _ _ _ _ (0, 0) (heap_alloc_new w5 _), HS0.out, HBF.out _ (gr_sr ((Gr.refl _).alloc _) (Nat.le_refl _) _)⟩ ?_
                clear HS0 HBF G5 HGW
                generalize w5.heap.size = gf at ⊢
                clear w5
                revert gf
                revert fc
                revert fn
                revert fa
                exact CONT.out
              · go_simp
                refine hK.out _ _ ((Gr.refl w4).alloc _).drew (fun hx => ?_)
                clear hK K hx
                refine wpAnyH_ready (rs := [6]) (by kernel_rfl) (by simp) ?_
                refine AllReadyH.cons rfl (fun K hK => ?_) AllReadyH.nil
                go_simp
                refine (FN.out _ (((Gr.refl w4).alloc _).drew)).mono ?_
                rintro e w5 ⟨x, y, rfl, BC5, G5⟩
                have HGW : Hid (Gr w4 w5) := Gr.trans (((Gr.refl w4).alloc _).drew) G5
                have HBF : Hid (∀ W : World, Gr w5 W → Bc W ⟨0, []⟩ x y) := fun W G => BC5.of G
                obtain ⟨rfl, -, fa, fn, fc, rfl, -, -⟩ := BC5
                have HNW : Hid (w5.heap[w4.heap.size]? = some (.cells #[.int .u32 0, .slice none 0 0] 28 (0, 0))) := up_h G5 (up_h (Gr.refl _).drew (heap_alloc_new w4 _))
                refine hK.out _ _ HGW.out (fun hx => ?_)
                clear hK K hx HS0
                have HS0 : Hid (Gr w4 w5) := HGW.out
                refine wpAnyH_take (i := 7) (v := .tuple #[.agg #[.int .u32 0, .slice fa fn fc], .bool false]) rfl (by kernel_rfl) (by kernel_rfl) (by kernel_rfl) (fun _ _ _ h => h) (Or.inl ⟨by rfl, fun W hW => by go_simp⟩) HS0.out ?_
                simp only [List.getElem_toArray, List.getElem_cons_succ, List.getElem_cons_zero, Act.put, List.setIfInBounds_toArray, List.set_cons_zero, List.set_cons_succ]
                refine wpAnyH_take (i := 8) (v := .agg #[.int .u32 0, .slice fa fn fc]) rfl (by kernel_rfl) (by kernel_rfl) (by kernel_rfl) (fun _ _ _ h => h) (Or.inl ⟨by rfl, fun W hW => by go_simp⟩) HS0.out ?_
                simp only [List.getElem_toArray, List.getElem_cons_succ, List.getElem_cons_zero, Act.put, List.setIfInBounds_toArray, List.set_cons_zero, List.set_cons_succ]
                refine wpAnyH_take (i := 9) (v := .bool false) rfl (by kernel_rfl) (by kernel_rfl) (by kernel_rfl) (fun _ _ _ h => h) (Or.inl ⟨by rfl, fun W hW => by go_simp⟩) HS0.out ?_
                simp only [List.getElem_toArray, List.getElem_cons_succ, List.getElem_cons_zero, Act.put, List.setIfInBounds_toArray, List.set_cons_zero, List.set_cons_succ]
                refine held_sr (i := 11) (by kernel_rfl) rfl rfl 28 (.tmp 15) (.tmp 127) rfl w4.heap.size #[.int .u32 0, .slice fa fn fc] (by simp [Act.eval]) (by simp [Act.eval]) 28 _ HNW.out iBk2 rfl (one_bk _ _ _ _) ?_ ?_
                · exact gr_sr HGW.out (Nat.le_refl _) _
                clear HS0
                have HS0 : Hid (Gr w4 (w5.setRow w4.heap.size #[.int .u32 0, .slice fa fn fc])) := gr_sr HGW.out (Nat.le_refl _) _
                refine wpAnyH_take (i := 12) (v := .bool false) rfl (by kernel_rfl) (by kernel_rfl) (by kernel_rfl) (fun _ _ _ h => h) (Or.inl ⟨by rfl, fun W hW => by go_simp⟩) HS0.out ?_
                simp only [List.getElem_toArray, List.getElem_cons_succ, List.getElem_cons_zero, Act.put, List.setIfInBounds_toArray, List.set_cons_zero, List.set_cons_succ]
                refine wpAnyH_done (by kernel_rfl) ?_ _
                refine atWd (fun W => W.heap[w4.heap.size]? = some (.cells #[.int .u32 0, .slice fa fn fc] 28 (0, 0)) ∧ Gr w4 W ∧ Bc W ⟨0, []⟩ (.int .u32 0) (.slice fa fn fc)) ⟨setRow_heap _ _ _ _ _ (0, 0) HNW.out, HS0.out, Bc.five (HBF.out _ (Gr.refl _)) HNW.out _⟩ ?_
                clear HS0 HBF G5 HNW HGW
                generalize w4.heap.size = gf at ⊢
                clear w5
                revert gf
                revert fc
                revert fn
                revert fa
                exact CONT.out
            intro fa fn fc gf
            rintro w5 ⟨D5, G5, C5⟩
            have HB5 : Hid (w5.heap[w1.heap.size]? = some (.cells #[.int .i64 room, .slice a2 m2 c2, .int .i64 pu2, .int .i64 sl] 24 (0, 0))) := up_h G5 HB4.out
            have HX5 : Hid (Bs w5 a2 m2 []) := HX4.out.of G5
            have HG5 : Hid (Gr w w5) := HG4.out.trans G5
            have HC5 : Hid (Bc w5 b (.int .u32 b.pc) (.slice va vn vc)) := HC4.out.of G5
            have HF5 : Hid (Bc w5 ⟨0, []⟩ (.int .u32 0) (.slice fa fn fc)) := C5
            have f0 : w5.cell? ⟨gf, 0, none⟩ = some (.int .u32 0) := cell_of_row _ _ _ _ _ _ D5
            have f1 : w5.cell? ⟨gf, 1, none⟩ = some (.slice fa fn fc) := cell_of_row _ _ _ _ _ _ D5
            have q0' := (G5.cell _ (by exact lt_cell q0)).trans q0
            have q1' := (G5.cell _ (by exact lt_cell q1)).trans q1
            clear q0 q1 x0 x1 x2 x3 HB4 HX4 HG4 HC4 D5 G5 C5 FN
            go_wp2_with fail
            refine wp_region_held_drew (S := fun W => Gr w5 W) (by kernel_rfl) (Gr.refl w5).drew (fun hHeld => ?_)
            have HS0 : Hid _ := hHeld
            clear hHeld
            refine wpAnyH_take (i := 0) (v := .bool false) rfl (by kernel_rfl) (by kernel_rfl) (by kernel_rfl) (fun _ _ _ h => h) (Or.inl ⟨by rfl, fun W hW => by go_simp⟩) HS0.out ?_
            simp only [List.getElem_toArray, List.getElem_cons_succ, List.getElem_cons_zero, Act.put, List.setIfInBounds_toArray, List.set_cons_zero, List.set_cons_succ]
            refine wpAnyH_take (i := 1) (v := .int .i64 room) rfl (by kernel_rfl) (by kernel_rfl) (by kernel_rfl) (fun _ _ _ h => h) (Or.inl ⟨by rfl, fun W hW => by go_simp⟩) HS0.out ?_
            simp only [List.getElem_toArray, List.getElem_cons_succ, List.getElem_cons_zero, Act.put, List.setIfInBounds_toArray, List.set_cons_zero, List.set_cons_succ]
            refine wpAnyH_take (i := 2) (v := .bool false) rfl (by kernel_rfl) (by kernel_rfl) (by kernel_rfl) (fun _ _ _ h => h) (Or.inl ⟨by rfl, fun W hW => by go_simp⟩) HS0.out ?_
            simp only [List.getElem_toArray, List.getElem_cons_succ, List.getElem_cons_zero, Act.put, List.setIfInBounds_toArray, List.set_cons_zero, List.set_cons_succ]
            refine wpAnyH_take (i := 3) (v := .bool false) rfl (by kernel_rfl) (by kernel_rfl) (by kernel_rfl) (fun _ _ _ h => h) (Or.inl ⟨by rfl, fun W hW => by go_simp⟩) HS0.out ?_
            simp only [List.getElem_toArray, List.getElem_cons_succ, List.getElem_cons_zero, Act.put, List.setIfInBounds_toArray, List.set_cons_zero, List.set_cons_succ]
            refine wpAnyH_take (i := 4) (v := .bool false) rfl (by kernel_rfl) (by kernel_rfl) (by kernel_rfl) (fun _ _ _ h => h) (Or.inl ⟨by rfl, fun W hW => by go_simp⟩) HS0.out ?_
            simp only [List.getElem_toArray, List.getElem_cons_succ, List.getElem_cons_zero, Act.put, List.setIfInBounds_toArray, List.set_cons_zero, List.set_cons_succ]
            refine wpAnyH_take (i := 5) (v := .bool false) rfl (by kernel_rfl) (by kernel_rfl) (by kernel_rfl) (fun _ _ _ h => h) (Or.inl ⟨by rfl, fun W hW => by go_simp⟩) HS0.out ?_
            simp only [List.getElem_toArray, List.getElem_cons_succ, List.getElem_cons_zero, Act.put, List.setIfInBounds_toArray, List.set_cons_zero, List.set_cons_succ]
            refine wpAnyH_take (i := 6) (v := .bool false) rfl (by kernel_rfl) (by kernel_rfl) (by kernel_rfl) (fun _ _ _ h => h) (Or.inl ⟨by rfl, fun W hW => by go_simp⟩) HS0.out ?_
            simp only [List.getElem_toArray, List.getElem_cons_succ, List.getElem_cons_zero, Act.put, List.setIfInBounds_toArray, List.set_cons_zero, List.set_cons_succ]
            refine wpAnyH_take (i := 7) (v := undef) rfl (by kernel_rfl) (by kernel_rfl) (by kernel_rfl) (fun _ _ _ h => h) (Or.inr ⟨by rfl, rfl⟩) HS0.out ?_
            simp only [List.getElem_toArray, List.getElem_cons_succ, List.getElem_cons_zero, Act.put, List.setIfInBounds_toArray, List.set_cons_zero, List.set_cons_succ]
            refine wpAnyH_take (i := 8) (v := undef) rfl (by kernel_rfl) (by kernel_rfl) (by kernel_rfl) (fun _ _ _ h => h) (Or.inr ⟨by rfl, rfl⟩) HS0.out ?_
            simp only [List.getElem_toArray, List.getElem_cons_succ, List.getElem_cons_zero, Act.put, List.setIfInBounds_toArray, List.set_cons_zero, List.set_cons_succ]
            refine wpAnyH_take (i := 9) (v := undef) rfl (by kernel_rfl) (by kernel_rfl) (by kernel_rfl) (fun _ _ _ h => h) (Or.inr ⟨by rfl, rfl⟩) HS0.out ?_
            simp only [List.getElem_toArray, List.getElem_cons_succ, List.getElem_cons_zero, Act.put, List.setIfInBounds_toArray, List.set_cons_zero, List.set_cons_succ]
            refine wpAnyH_take (i := 10) (v := undef) rfl (by kernel_rfl) (by kernel_rfl) (by kernel_rfl) (fun _ _ _ h => h) (Or.inr ⟨by rfl, rfl⟩) HS0.out ?_
            simp only [List.getElem_toArray, List.getElem_cons_succ, List.getElem_cons_zero, Act.put, List.setIfInBounds_toArray, List.set_cons_zero, List.set_cons_succ]
            refine wpAnyH_take (i := 11) (v := undef) rfl (by kernel_rfl) (by kernel_rfl) (by kernel_rfl) (fun _ _ _ h => h) (Or.inr ⟨by rfl, rfl⟩) HS0.out ?_
            simp only [List.getElem_toArray, List.getElem_cons_succ, List.getElem_cons_zero, Act.put, List.setIfInBounds_toArray, List.set_cons_zero, List.set_cons_succ]
            refine wpAnyH_take (i := 12) (v := undef) rfl (by kernel_rfl) (by kernel_rfl) (by kernel_rfl) (fun _ _ _ h => h) (Or.inr ⟨by rfl, rfl⟩) HS0.out ?_
            simp only [List.getElem_toArray, List.getElem_cons_succ, List.getElem_cons_zero, Act.put, List.setIfInBounds_toArray, List.set_cons_zero, List.set_cons_succ]
            refine wpAnyH_take (i := 13) (v := undef) rfl (by kernel_rfl) (by kernel_rfl) (by kernel_rfl) (fun _ _ _ h => h) (Or.inr ⟨by rfl, rfl⟩) HS0.out ?_
            simp only [List.getElem_toArray, List.getElem_cons_succ, List.getElem_cons_zero, Act.put, List.setIfInBounds_toArray, List.set_cons_zero, List.set_cons_succ]
            refine wpAnyH_take (i := 14) (v := .bool false) rfl (by kernel_rfl) (by kernel_rfl) (by kernel_rfl) (fun _ _ _ h => h) (Or.inl ⟨by rfl, fun W hW => by go_simp⟩) HS0.out ?_
            simp only [List.getElem_toArray, List.getElem_cons_succ, List.getElem_cons_zero, Act.put, List.setIfInBounds_toArray, List.set_cons_zero, List.set_cons_succ]
            refine wpAnyH_take (i := 15) (v := .bool false) rfl (by kernel_rfl) (by kernel_rfl) (by kernel_rfl) (fun _ _ _ h => h) (Or.inl ⟨by rfl, fun W hW => by go_simp⟩) HS0.out ?_
            simp only [List.getElem_toArray, List.getElem_cons_succ, List.getElem_cons_zero, Act.put, List.setIfInBounds_toArray, List.set_cons_zero, List.set_cons_succ]
            refine wpAnyH_done (by kernel_rfl) ?_ _
            refine atWd (fun W => Gr w5 W) HS0.out ?_
            rintro w6 G6
            have HB6 : Hid (∀ W : World, Gr w6 W → W.heap[w1.heap.size]? = some (.cells #[.int .i64 room, .slice a2 m2 c2, .int .i64 pu2, .int .i64 sl] 24 (0, 0))) := fun W G => up_h (G6.trans G) HB5.out
            have HX6 : Hid (∀ W : World, Gr w6 W → Bs W a2 m2 []) := fun W G => HX5.out.of (G6.trans G)
            have HG6 : Hid (Gr w w6) := HG5.out.trans G6
            have x1 : w6.cell? ⟨w1.heap.size, 1, none⟩ = some (.slice a2 m2 c2) := cell_of_row _ _ _ _ _ _ (HB6.out _ (Gr.refl _))
            clear HS0 G6 HB5 HX5 HG5 HC5 HF5 f0 f1 q0' q1' 
            go_wp2_with fail
            go_loopw [17] (fun i wq => ∃ t : Nat, t ≤ m2 ∧ i = .int .i64 t ∧ Gr w6 wq) (fun i _ => m2 - (intOf i).toNat)
            case atStart => exact ⟨0, Nat.zero_le _, rfl, Gr.refl _⟩
            case round =>
              obtain ⟨t, ht, rfl, Gq⟩ := hrel
              rename World => wq
              have HGq : Hid (Gr w6 wq) := Gq
              have z1 : wq.cell? ⟨w1.heap.size, 1, none⟩ = some (.slice a2 m2 c2) := cell_of_row _ _ _ _ _ _ (HB6.out _ Gq)
              clear Gq x1
              by_cases htm : t < m2
              · obtain ⟨c, hc⟩ : ∃ c, [][t]? = some c := ⟨_, List.getElem?_eq_getElem (by rw [(HX6.out _ HGq.out).len]; exact htm)⟩
                obtain ⟨b2, o2, rfl, hb2, hcl2⟩ := (HX6.out _ HGq.out).spot (by omega)
                obtain ⟨u, v, g0, g1, CB⟩ := hcl2 t c hc
                obtain ⟨rfl, -⟩ := CB
                have PL : Hid (∀ W : World, Gr wq W → Calls Try.prog 9 #[.slice (some ⟨b2, o2, none⟩) t c2, .int .u32 c.pc] W fun e w' => e = .returned (.int .i64 (-1)) ∧ Gr W w') := fun W G => by have := Place_any c2 ((HX6.out _ (HGq.out.trans G)).take ht) (by omega) c.pc; rwa [HC3.out.sole.ahead hc] at this
                have ht0 : (0 : Int) ≤ (t : Int) := by omega
                have ht1 : (t : Int) < (m2 : Int) := by omega
                have ht2 : (t : Int) ≤ (c2 : Int) := by omega
                clear hcl2 hc g1
                go_wp2_with fail
                refine wp_region_held_drew (S := fun W => Gr wq W) (by kernel_rfl) (Gr.refl wq).drew (fun hHeld => ?_)
                have HS0 : Hid _ := hHeld
                clear hHeld
                refine wpAnyH_take (i := 0) (v := .pointer (some ⟨w1.heap.size, 1, none⟩)) rfl (by kernel_rfl) (by kernel_rfl) (by kernel_rfl) (fun _ _ _ h => h) (Or.inl ⟨by rfl, fun W hW => by go_simp⟩) HS0.out ?_
                simp only [List.getElem_toArray, List.getElem_cons_succ, List.getElem_cons_zero, Act.put, List.setIfInBounds_toArray, List.set_cons_zero, List.set_cons_succ]
                refine wpAnyH_take (i := 1) (v := .slice (some ⟨b2, o2, none⟩) m2 c2) rfl (by kernel_rfl) (by kernel_rfl) (by kernel_rfl) (fun _ _ _ h => h) (Or.inl ⟨by rfl, fun W hW => by have z1' := (hW.cell _ (by exact lt_cell z1)).trans z1; go_simp⟩) HS0.out ?_
                simp only [List.getElem_toArray, List.getElem_cons_succ, List.getElem_cons_zero, Act.put, List.setIfInBounds_toArray, List.set_cons_zero, List.set_cons_succ]
                refine wpAnyH_take (i := 2) (v := .int .i64 t) rfl (by kernel_rfl) (by kernel_rfl) (by kernel_rfl) (fun _ _ _ h => h) (Or.inl ⟨by rfl, fun W hW => by go_simp⟩) HS0.out ?_
                simp only [List.getElem_toArray, List.getElem_cons_succ, List.getElem_cons_zero, Act.put, List.setIfInBounds_toArray, List.set_cons_zero, List.set_cons_succ]
                refine wpAnyH_take (i := 3) (v := .slice (some ⟨b2, o2, none⟩) t c2) rfl (by kernel_rfl) (by kernel_rfl) (by kernel_rfl) (fun _ _ _ h => h) (Or.inl ⟨by rfl, fun W hW => by go_simp⟩) HS0.out ?_
                simp only [List.getElem_toArray, List.getElem_cons_succ, List.getElem_cons_zero, Act.put, List.setIfInBounds_toArray, List.set_cons_zero, List.set_cons_succ]
                refine wpAnyH_take (i := 4) (v := .pointer (some ⟨w1.heap.size, 1, none⟩)) rfl (by kernel_rfl) (by kernel_rfl) (by kernel_rfl) (fun _ _ _ h => h) (Or.inl ⟨by rfl, fun W hW => by go_simp⟩) HS0.out ?_
                simp only [List.getElem_toArray, List.getElem_cons_succ, List.getElem_cons_zero, Act.put, List.setIfInBounds_toArray, List.set_cons_zero, List.set_cons_succ]
                refine wpAnyH_take (i := 5) (v := .slice (some ⟨b2, o2, none⟩) m2 c2) rfl (by kernel_rfl) (by kernel_rfl) (by kernel_rfl) (fun _ _ _ h => h) (Or.inl ⟨by rfl, fun W hW => by have z1' := (hW.cell _ (by exact lt_cell z1)).trans z1; go_simp⟩) HS0.out ?_
                simp only [List.getElem_toArray, List.getElem_cons_succ, List.getElem_cons_zero, Act.put, List.setIfInBounds_toArray, List.set_cons_zero, List.set_cons_succ]
                refine wpAnyH_take (i := 6) (v := .int .i64 t) rfl (by kernel_rfl) (by kernel_rfl) (by kernel_rfl) (fun _ _ _ h => h) (Or.inl ⟨by rfl, fun W hW => by go_simp⟩) HS0.out ?_
                simp only [List.getElem_toArray, List.getElem_cons_succ, List.getElem_cons_zero, Act.put, List.setIfInBounds_toArray, List.set_cons_zero, List.set_cons_succ]
                refine wpAnyH_take (i := 7) (v := .pointer (some ⟨b2, o2 + t * 2, none⟩)) rfl (by kernel_rfl) (by kernel_rfl) (by kernel_rfl) (fun _ _ _ h => h) (Or.inl ⟨by rfl, fun W hW => by go_simp⟩) HS0.out ?_
                simp only [List.getElem_toArray, List.getElem_cons_succ, List.getElem_cons_zero, Act.put, List.setIfInBounds_toArray, List.set_cons_zero, List.set_cons_succ]
                refine wpAnyH_take (i := 8) (v := .pointer (some ⟨b2, o2 + t * 2, none⟩)) rfl (by kernel_rfl) (by kernel_rfl) (by kernel_rfl) (fun _ _ _ h => h) (Or.inl ⟨by rfl, fun W hW => by go_simp⟩) HS0.out ?_
                simp only [List.getElem_toArray, List.getElem_cons_succ, List.getElem_cons_zero, Act.put, List.setIfInBounds_toArray, List.set_cons_zero, List.set_cons_succ]
                refine wpAnyH_take (i := 9) (v := .int .u32 c.pc) rfl (by kernel_rfl) (by kernel_rfl) (by kernel_rfl) (fun _ _ _ h => h) (Or.inl ⟨by rfl, fun W hW => by have g0' := (hW.cell _ (by exact lt_cell g0)).trans g0; go_simp⟩) HS0.out ?_
                simp only [List.getElem_toArray, List.getElem_cons_succ, List.getElem_cons_zero, Act.put, List.setIfInBounds_toArray, List.set_cons_zero, List.set_cons_succ]
                refine wpAnyH_ready (rs := [10]) (by kernel_rfl) (by simp) ?_
                refine AllReadyH.cons rfl (fun K hK => ?_) AllReadyH.nil
                go_simp
                refine (PL.out _ (Gr.refl _).drew).mono ?_
                rintro e w7 ⟨rfl, G7⟩
                have HG7 : Hid (Gr wq w7) := (Gr.refl wq).drew.trans G7
                refine hK.out _ _ HG7.out (fun hx => ?_)
                clear hK K hx G7 HS0
                have HS0 : Hid (Gr wq w7) := HG7.out
                refine wpAnyH_take (i := 11) (v := .bool false) rfl (by kernel_rfl) (by kernel_rfl) (by kernel_rfl) (fun _ _ _ h => h) (Or.inl ⟨by rfl, fun W hW => by go_simp⟩) HS0.out ?_
                simp only [List.getElem_toArray, List.getElem_cons_succ, List.getElem_cons_zero, Act.put, List.setIfInBounds_toArray, List.set_cons_zero, List.set_cons_succ]
                refine wpAnyH_done (by kernel_rfl) ?_ _
                clear HS0 PL g0 z1
                go_wp2_with fail
                go_roundw
                case rel => exact ⟨t + 1, by omega, by go_num, HGq.out.trans HG7.out⟩
                case measure => simp [intOf]; omega
              · go_wp2_with fail
                go_roundw
                case rel => exact ⟨k + 1, [], a2, m2, c2, pu2, sl, by omega, by go_num, HB6.out _ HGq.out, ⟨HX6.out _ HGq.out, hcap2⟩, HC3.out, HG6.out.trans HGq.out⟩
                case measure => simp [intOf]; omega

          · have hv : vn < 1 ∨ 16 < vn := by omega
            go_wp2_with fail
            apply share
            · intro CONT
              refine wp_region_held_drew (S := fun W => Gr wr W) (by kernel_rfl) (Gr.refl wr).drew (fun hHeld => ?_)
              have HS0 : Hid _ := hHeld
              clear hHeld
              refine wpAnyH_take (i := 0) (v := .agg #[.int .i64 room, .slice a n cp, .int .i64 pu, .int .i64 sl]) rfl (by kernel_rfl) (by kernel_rfl) (by kernel_rfl) (fun _ _ _ h => h) (Or.inl ⟨by rfl, fun W hW => by have x0' := (hW.cell _ (by exact lt_cell x0)).trans x0; have x1' := (hW.cell _ (by exact lt_cell x1)).trans x1; have x2' := (hW.cell _ (by exact lt_cell x2)).trans x2; have x3' := (hW.cell _ (by exact lt_cell x3)).trans x3; go_simp⟩) HS0.out ?_
              simp only [List.getElem_toArray, List.getElem_cons_succ, List.getElem_cons_zero, Act.put, List.setIfInBounds_toArray, List.set_cons_zero, List.set_cons_succ]
              refine wpAnyH_take (i := 1) (v := .slice (some ⟨bb, oo, none⟩) ln lc) rfl (by kernel_rfl) (by kernel_rfl) (by kernel_rfl) (fun _ _ _ h => h) (Or.inl ⟨by rfl, fun W hW => by go_simp⟩) HS0.out ?_
              simp only [List.getElem_toArray, List.getElem_cons_succ, List.getElem_cons_zero, Act.put, List.setIfInBounds_toArray, List.set_cons_zero, List.set_cons_succ]
              refine wpAnyH_take (i := 2) (v := .int .i64 k) rfl (by kernel_rfl) (by kernel_rfl) (by kernel_rfl) (fun _ _ _ h => h) (Or.inl ⟨by rfl, fun W hW => by go_simp⟩) HS0.out ?_
              simp only [List.getElem_toArray, List.getElem_cons_succ, List.getElem_cons_zero, Act.put, List.setIfInBounds_toArray, List.set_cons_zero, List.set_cons_succ]
              refine wpAnyH_take (i := 3) (v := .pointer (some ⟨bb, oo + k * 2, none⟩)) rfl (by kernel_rfl) (by kernel_rfl) (by kernel_rfl) (fun _ _ _ h => h) (Or.inl ⟨by rfl, fun W hW => by go_simp⟩) HS0.out ?_
              simp only [List.getElem_toArray, List.getElem_cons_succ, List.getElem_cons_zero, Act.put, List.setIfInBounds_toArray, List.set_cons_zero, List.set_cons_succ]
              refine wpAnyH_take (i := 4) (v := .agg #[.int .u32 b.pc, .slice va vn vc]) rfl (by kernel_rfl) (by kernel_rfl) (by kernel_rfl) (fun _ _ _ h => h) (Or.inl ⟨by rfl, fun W hW => by have p0' := (hW.cell _ (by exact lt_cell p0)).trans p0; have p1' := (hW.cell _ (by exact lt_cell p1)).trans p1; go_simp⟩) HS0.out ?_
              simp only [List.getElem_toArray, List.getElem_cons_succ, List.getElem_cons_zero, Act.put, List.setIfInBounds_toArray, List.set_cons_zero, List.set_cons_succ]
              refine wpAnyH_ready (rs := [5, 9]) (by kernel_rfl) (by simp) ?_
              refine AllReadyH.cons rfl (fun K hK => ?_) (AllReadyH.cons rfl (fun K hK => ?_) AllReadyH.nil)
              · go_simp
                refine (HC.out.bad _ L a n cp pu sl b va vn vc (HX.out.of ((Gr.refl wr).drew)) (by have := HX.out.len; omega) (HBC.out _ ((Gr.refl wr).drew)) hv).mono ?_
                rintro e w2 ⟨a2, c2, rfl, G2⟩
                have HGW : Hid (Gr wr w2) := Gr.trans ((Gr.refl wr).drew) G2
                refine hK.out _ _ HGW.out (fun hx => ?_)
                clear hK K hx HS0
                have HS0 : Hid (Gr wr w2) := HGW.out
                refine wpAnyH_take (i := 6) (v := .tuple #[.agg #[.int .i64 0, .slice a2 0 c2, .int .i64 0, .int .i64 0], .int .i64 2]) rfl (by kernel_rfl) (by kernel_rfl) (by kernel_rfl) (fun _ _ _ h => h) (Or.inl ⟨by rfl, fun W hW => by go_simp⟩) HS0.out ?_
                simp only [List.getElem_toArray, List.getElem_cons_succ, List.getElem_cons_zero, Act.put, List.setIfInBounds_toArray, List.set_cons_zero, List.set_cons_succ]
                refine wpAnyH_take (i := 7) (v := .agg #[.int .i64 0, .slice a2 0 c2, .int .i64 0, .int .i64 0]) rfl (by kernel_rfl) (by kernel_rfl) (by kernel_rfl) (fun _ _ _ h => h) (Or.inl ⟨by rfl, fun W hW => by go_simp⟩) HS0.out ?_
                simp only [List.getElem_toArray, List.getElem_cons_succ, List.getElem_cons_zero, Act.put, List.setIfInBounds_toArray, List.set_cons_zero, List.set_cons_succ]
                refine wpAnyH_take (i := 8) (v := .int .i64 2) rfl (by kernel_rfl) (by kernel_rfl) (by kernel_rfl) (fun _ _ _ h => h) (Or.inl ⟨by rfl, fun W hW => by go_simp⟩) HS0.out ?_
                simp only [List.getElem_toArray, List.getElem_cons_succ, List.getElem_cons_zero, Act.put, List.setIfInBounds_toArray, List.set_cons_zero, List.set_cons_succ]
                refine wpAnyH_ready (rs := [9]) (by kernel_rfl) (by simp) ?_
                refine AllReadyH.cons rfl (fun K hK => ?_) AllReadyH.nil
                go_simp
                refine hK.out _ _ (HGW.out.alloc _) (fun hx => ?_)
                clear hK K hx
                refine held_sr (i := 10) (by kernel_rfl) rfl rfl 24 (.tmp 13) (.tmp 93) rfl w2.heap.size #[.int .i64 0, .slice a2 0 c2, .int .i64 0, .int .i64 0] (by simp [Act.eval]) (by simp [Act.eval]) 24 _ (heap_alloc_new w2 _) iCa rfl (one_ca _ _ _ _ _ _) ?_ ?_
                · exact gr_sr (HGW.out.alloc _) HGW.out.size _
                clear HS0
                have HS0 : Hid _ := gr_sr (HGW.out.alloc (.cells #[.int .i64 0, .slice none 0 0, .int .i64 0, .int .i64 0] 24)) HGW.out.size #[.int .i64 0, .slice a2 0 c2, .int .i64 0, .int .i64 0]
                refine wpAnyH_take (i := 11) (v := .int .i64 2) rfl (by kernel_rfl) (by kernel_rfl) (by kernel_rfl) (fun _ _ _ h => h) (Or.inl ⟨by rfl, fun W hW => by go_simp⟩) HS0.out ?_
                simp only [List.getElem_toArray, List.getElem_cons_succ, List.getElem_cons_zero, Act.put, List.setIfInBounds_toArray, List.set_cons_zero, List.set_cons_succ]
                refine wpAnyH_done (by kernel_rfl) ?_ _
                refine atWd (fun W => W.heap[w2.heap.size]? = some (.cells #[.int .i64 0, .slice a2 0 c2, .int .i64 0, .int .i64 0] 24 (0, 0)) ∧ Gr wr W) ⟨setRow_heap _ _ _ _ _ (0, 0) (heap_alloc_new w2 _), HS0.out⟩ ?_
                have hgd : w1.heap.size < w2.heap.size := by have := HGW.out.size; omega
                clear HS0 G2 HGW
                generalize w2.heap.size = gd at hgd ⊢
                clear w2
                revert gd
                revert c2
                revert a2
                exact CONT.out
              · go_simp
                refine hK.out _ _ ((Gr.refl wr).alloc _).drew (fun hx => ?_)
                clear hK K hx
                refine wpAnyH_ready (rs := [5]) (by kernel_rfl) (by simp) ?_
                refine AllReadyH.cons rfl (fun K hK => ?_) AllReadyH.nil
                go_simp
                refine (HC.out.bad _ L a n cp pu sl b va vn vc (HX.out.of (((Gr.refl wr).alloc _).drew)) (by have := HX.out.len; omega) (HBC.out _ (((Gr.refl wr).alloc _).drew)) hv).mono ?_
                rintro e w2 ⟨a2, c2, rfl, G2⟩
                have HGW : Hid (Gr wr w2) := Gr.trans (((Gr.refl wr).alloc _).drew) G2
                have HNW : Hid (w2.heap[wr.heap.size]? = some (.cells #[.int .i64 0, .slice none 0 0, .int .i64 0, .int .i64 0] 24 (0, 0))) := up_h G2 (up_h (Gr.refl _).drew (heap_alloc_new wr _))
                refine hK.out _ _ HGW.out (fun hx => ?_)
                clear hK K hx HS0
                have HS0 : Hid (Gr wr w2) := HGW.out
                refine wpAnyH_take (i := 6) (v := .tuple #[.agg #[.int .i64 0, .slice a2 0 c2, .int .i64 0, .int .i64 0], .int .i64 2]) rfl (by kernel_rfl) (by kernel_rfl) (by kernel_rfl) (fun _ _ _ h => h) (Or.inl ⟨by rfl, fun W hW => by go_simp⟩) HS0.out ?_
                simp only [List.getElem_toArray, List.getElem_cons_succ, List.getElem_cons_zero, Act.put, List.setIfInBounds_toArray, List.set_cons_zero, List.set_cons_succ]
                refine wpAnyH_take (i := 7) (v := .agg #[.int .i64 0, .slice a2 0 c2, .int .i64 0, .int .i64 0]) rfl (by kernel_rfl) (by kernel_rfl) (by kernel_rfl) (fun _ _ _ h => h) (Or.inl ⟨by rfl, fun W hW => by go_simp⟩) HS0.out ?_
                simp only [List.getElem_toArray, List.getElem_cons_succ, List.getElem_cons_zero, Act.put, List.setIfInBounds_toArray, List.set_cons_zero, List.set_cons_succ]
                refine wpAnyH_take (i := 8) (v := .int .i64 2) rfl (by kernel_rfl) (by kernel_rfl) (by kernel_rfl) (fun _ _ _ h => h) (Or.inl ⟨by rfl, fun W hW => by go_simp⟩) HS0.out ?_
                simp only [List.getElem_toArray, List.getElem_cons_succ, List.getElem_cons_zero, Act.put, List.setIfInBounds_toArray, List.set_cons_zero, List.set_cons_succ]
                refine held_sr (i := 10) (by kernel_rfl) rfl rfl 24 (.tmp 13) (.tmp 93) rfl wr.heap.size #[.int .i64 0, .slice a2 0 c2, .int .i64 0, .int .i64 0] (by simp [Act.eval]) (by simp [Act.eval]) 24 _ HNW.out iCa rfl (one_ca _ _ _ _ _ _) ?_ ?_
                · exact gr_sr HGW.out (Nat.le_refl _) _
                clear HS0
                have HS0 : Hid (Gr wr (w2.setRow wr.heap.size #[.int .i64 0, .slice a2 0 c2, .int .i64 0, .int .i64 0])) := gr_sr HGW.out (Nat.le_refl _) _
                refine wpAnyH_take (i := 11) (v := .int .i64 2) rfl (by kernel_rfl) (by kernel_rfl) (by kernel_rfl) (fun _ _ _ h => h) (Or.inl ⟨by rfl, fun W hW => by go_simp⟩) HS0.out ?_
                simp only [List.getElem_toArray, List.getElem_cons_succ, List.getElem_cons_zero, Act.put, List.setIfInBounds_toArray, List.set_cons_zero, List.set_cons_succ]
                refine wpAnyH_done (by kernel_rfl) ?_ _
                refine atWd (fun W => W.heap[wr.heap.size]? = some (.cells #[.int .i64 0, .slice a2 0 c2, .int .i64 0, .int .i64 0] 24 (0, 0)) ∧ Gr wr W) ⟨setRow_heap _ _ _ _ _ (0, 0) HNW.out, HS0.out⟩ ?_
                have hgd : w1.heap.size < wr.heap.size := hgl
                clear HS0 G2 HNW HGW
                generalize wr.heap.size = gd at hgd ⊢
                clear w2
                revert gd
                revert c2
                revert a2
                exact CONT.out
            intro a2 c2 gd hgd
            rintro w3 ⟨D3, G3⟩
            have HG3 : Hid (Gr wr w3) := G3
            have p1' := (G3.cell _ (by exact lt_cell p1)).trans p1
            clear D3 G3 p0 p1 x0 x1 x2 x3
            rcases hv with hv | hv
            all_goals
              go_wp2_with fail
              go_roundw
              case rel => exact ⟨k + 1, L, a, n, cp, pu, sl, by omega, by go_num, up_h HG3.out HB.out, ⟨HX.out.of HG3.out, hcap⟩, HO.out, HG.out.trans HG3.out⟩
              case measure => simp [intOf]; omega

      · go_wp2_with fail
        go_ret
        exact ⟨rfl, HG.out⟩
    · go_wp2_with fail
      go_ret
      exact ⟨rfl, HG.out⟩
set_option maxHeartbeats 8000000 in
set_option maxRecDepth 100000 in
theorem ckeeps_bad {w : World} {room : Int} {la : Option Addr} {ln lc : Nat} {ls : List Bv} {sa : Option Addr} {sn sc : Nat} {rs : List (Int × Int)} (BL : Bs w la ln ls) (hln : ln * 32 ≤ 140737488351232) (RL : Rs w sa sn rs) (hsn : sn ≤ 140737488351232) (C : Ck room) (hr : ¬ (0 ≤ room ∧ room ≤ 64)) :
    Calls Try.prog 4 #[.int .i64 room, .slice la ln lc, .slice sa sn sc] w fun e w' => e = .returned (.bool true) ∧ Gr w w' := by
  have HC : Hid (Ck room) := C
  have HBL : Hid (Bs w la ln ls) := BL
  have HRL : Hid (Rs w sa sn rs) := RL
  clear BL RL C
  have NEW2 : Hid (∀ W : World, Calls Try.prog 6 #[.int .i64 room] W fun e w' => ∃ a c, e = .returned (.tuple #[.agg #[.int .i64 0, .slice a 0 c, .int .i64 0, .int .i64 0], .int .i64 3]) ∧ Gr W w') := fun W => by have := HC.out.new W; rwa [if_neg hr, if_neg hr] at this
  have hr2 : room < 0 ∨ (¬ room < 0 ∧ 64 < room) := by omega
  clear hr
  rcases hr2 with hr | ⟨hr, hr'⟩
  all_goals
    go_enter Try.func4, Try.ntmps4
    go_wp2_with fail
    refine (NEW2.out _).mono ?_
    rintro e w1 ⟨a1, c1, rfl, G1⟩
    have HG1 : Hid (Gr w w1) := G1
    clear G1 NEW2
    go_wp2_with fail
    go_ret
    exact ⟨rfl, HG1.out.alloc _⟩
end Go.Proofs.Yteipplmmchaboab.Kc
