/-
  Iby, IpW: texts of ours that lie in one file.
-/
import Derived.Test.YthgnfmbnbndeeacG10
import Derived.Test.YthgnfmbnbndeeacG02
/-
  What ferrybridgeref13.Bytes answers: a machine's bytes, as a string.
-/
namespace Go.Proofs.Ythgnfmbnbndeeac.Im
open Go.ChangeShapes Go.WideShapes Go.ChangeAt Go.RowKit Mm Hh Hc Mc
set_option linter.unusedVariables false
set_option linter.unusedSimpArgs false

theorem sof_size (l : List UInt8) : (Mr.sof l).size = l.length := rfl
theorem i64w {x : Int} (h0 : 0 ≤ x) (h1 : x ≤ 9223372036854775807) : IntKind.i64.wrap x = x := by
  unfold IntKind.wrap
  simp [IntKind.signed, IntKind.bits, IntKind.min, IntKind.max]
  omega
variable {w : World} {ma ha : Option Addr} {mn mc hn hc : Nat} {m : List UInt8} {hs : List Hv}
set_option maxHeartbeats 4000000 in
set_option maxRecDepth 100000 in
theorem Bytes_any (A : Ma w ma mn mc ha hn hc m hs) (hm : mayM m.length hs = true) :
    Calls Try.prog 13 #[.agg #[.slice ma mn mc, .slice ha hn hc]] w fun e w' => e = .returned (.string (Mr.sof (mB m hs))) ∧ Gr w w' := by
  obtain ⟨k1, k2, k3, k4⟩ := mayM_of hm
  have hml := A.mem.len
  have hhl := A.harts.len
  have HN1 : Hid (∀ W : World, Calls Try.prog 28 #[.int .i64 (mn : Int)] W fun e w' => e = .returned (.string (Mr.sof (n4 (mn : Int)))) ∧ Gr W w') := fun W => rnumber_any (by omega) (by omega) W
  have HN2 : Hid (∀ W : World, Calls Try.prog 28 #[.int .i64 (hn : Int)] W fun e w' => e = .returned (.string (Mr.sof (n4 (hn : Int)))) ∧ Gr W w') := fun W => rnumber_any (by omega) (by omega) W
  have HNa : Hid (∀ (n : Int) (W : World), fit4 n → Calls Try.prog 28 #[.int .i64 n] W fun e w' => e = .returned (.string (Mr.sof (n4 n))) ∧ Gr W w') := fun n W h => rnumber_any h.1 h.2 W
  have HMB : Hid (mB m hs = (n4 (mn : Int) ++ m ++ n4 (hn : Int)) ++ hsB hs) := by unfold Hid mB; rw [hml, hhl]; simp only [List.append_assoc]
  have HMS : Hid (∀ h ∈ hs, may h = true) := k4
  have HA : Hid (Ma w ma mn mc ha hn hc m hs) := A
  have HQ1 : Hid ((n4 (mn : Int)).length = 4 ∧ (n4 (hn : Int)).length = 4) := ⟨rfl, rfl⟩
  have HML : Hid (m.length = mn ∧ hs.length = hn) := ⟨hml, hhl⟩
  have hmn : mn ≤ 4096 := by omega
  have hhn : hn ≤ 4 := by omega
  have hh1 : 1 ≤ hn := by omega
  clear hm k1 k2 k3 k4 A hml hhl
  obtain ⟨l0, hl0⟩ : ∃ l, l = n4 (mn : Int) ++ m ++ n4 (hn : Int) := ⟨_, rfl⟩
  rw [HMB.out, ← hl0]
  have HL0 : Hid (l0 = n4 (mn : Int) ++ m ++ n4 (hn : Int)) := hl0
  clear hl0 HMB
  generalize n4 (mn : Int) = l1 at *
  generalize n4 (hn : Int) = l2 at *
  have hz1 : ¬ 9223372036854775807 < (Mr.sof l1).size + (Mr.sof m).size := by rw [sof_size, sof_size, HQ1.out.1, HML.out.1]; omega
  have hz2 : ¬ 9223372036854775807 < (Mr.sof l1).size + (Mr.sof m).size + (Mr.sof l2).size := by rw [sof_size, sof_size, sof_size, HQ1.out.1, HQ1.out.2, HML.out.1]; omega
  go_enter Try.func13, Try.ntmps13
  go_wp2_with fail
  refine wp_region_held_drew (S := fun W => W.heap[w.heap.size]? = some (.cells #[.slice ma mn mc, .slice ha hn hc] 25 (0, 0)) ∧ Gr w W) (by kernel_rfl) ?_ (fun hHeld => ?_)
  · exact ⟨heap_alloc_new w _, ((Gr.refl _).alloc _).drew⟩
  have HS0 : Hid _ := hHeld
  clear hHeld
  refine wpAnyH_take (i := 0) (v := .pointer (some ⟨w.heap.size, 0, none⟩)) rfl (by kernel_rfl) (by kernel_rfl) (by kernel_rfl) (fun _ _ _ h => h) (Or.inl ⟨by rfl, fun W hW => by go_simp⟩) HS0.out ?_
  simp only [List.getElem_toArray, List.getElem_cons_succ, List.getElem_cons_zero, Act.put, List.setIfInBounds_toArray, List.set_cons_zero, List.set_cons_succ]
  refine wpAnyH_take (i := 1) (v := .slice ma mn mc) rfl (by kernel_rfl) (by kernel_rfl) (by kernel_rfl) (fun _ _ _ h => h) (Or.inl ⟨by rfl, fun W hW => by have a := cr0 hW.1; go_simp⟩) HS0.out ?_
  simp only [List.getElem_toArray, List.getElem_cons_succ, List.getElem_cons_zero, Act.put, List.setIfInBounds_toArray, List.set_cons_zero, List.set_cons_succ]
  refine wpAnyH_take (i := 2) (v := .int .i64 mn) rfl (by kernel_rfl) (by kernel_rfl) (by kernel_rfl) (fun _ _ _ h => h) (Or.inl ⟨by rfl, fun W hW => by go_simp⟩) HS0.out ?_
  simp only [List.getElem_toArray, List.getElem_cons_succ, List.getElem_cons_zero, Act.put, List.setIfInBounds_toArray, List.set_cons_zero, List.set_cons_succ]
  refine wpAnyH_take (i := 4) (v := .pointer (some ⟨w.heap.size, 0, none⟩)) rfl (by kernel_rfl) (by kernel_rfl) (by kernel_rfl) (fun _ _ _ h => h) (Or.inl ⟨by rfl, fun W hW => by go_simp⟩) HS0.out ?_
  simp only [List.getElem_toArray, List.getElem_cons_succ, List.getElem_cons_zero, Act.put, List.setIfInBounds_toArray, List.set_cons_zero, List.set_cons_succ]
  refine wpAnyH_take (i := 5) (v := .slice ma mn mc) rfl (by kernel_rfl) (by kernel_rfl) (by kernel_rfl) (fun _ _ _ h => h) (Or.inl ⟨by rfl, fun W hW => by have a := cr0 hW.1; go_simp⟩) HS0.out ?_
  simp only [List.getElem_toArray, List.getElem_cons_succ, List.getElem_cons_zero, Act.put, List.setIfInBounds_toArray, List.set_cons_zero, List.set_cons_succ]
  refine wpAnyH_take (i := 6) (v := .string (Mr.sof m)) rfl (by kernel_rfl) (by kernel_rfl) (by kernel_rfl) (fun _ _ _ h => h) (Or.inl ⟨by rfl, fun W hW => by have a := Mr.conv_any mc (HA.out.mem.of hW.2); go_simp⟩) HS0.out ?_
  simp only [List.getElem_toArray, List.getElem_cons_succ, List.getElem_cons_zero, Act.put, List.setIfInBounds_toArray, List.set_cons_zero, List.set_cons_succ]
  refine wpAnyH_take (i := 8) (v := .pointer (some ⟨w.heap.size, 1, none⟩)) rfl (by kernel_rfl) (by kernel_rfl) (by kernel_rfl) (fun _ _ _ h => h) (Or.inl ⟨by rfl, fun W hW => by go_simp⟩) HS0.out ?_
  simp only [List.getElem_toArray, List.getElem_cons_succ, List.getElem_cons_zero, Act.put, List.setIfInBounds_toArray, List.set_cons_zero, List.set_cons_succ]
  refine wpAnyH_take (i := 9) (v := .slice ha hn hc) rfl (by kernel_rfl) (by kernel_rfl) (by kernel_rfl) (fun _ _ _ h => h) (Or.inl ⟨by rfl, fun W hW => by have a := cr1 hW.1; go_simp⟩) HS0.out ?_
  simp only [List.getElem_toArray, List.getElem_cons_succ, List.getElem_cons_zero, Act.put, List.setIfInBounds_toArray, List.set_cons_zero, List.set_cons_succ]
  refine wpAnyH_take (i := 10) (v := .int .i64 hn) rfl (by kernel_rfl) (by kernel_rfl) (by kernel_rfl) (fun _ _ _ h => h) (Or.inl ⟨by rfl, fun W hW => by go_simp⟩) HS0.out ?_
  simp only [List.getElem_toArray, List.getElem_cons_succ, List.getElem_cons_zero, Act.put, List.setIfInBounds_toArray, List.set_cons_zero, List.set_cons_succ]
  refine wpAnyH_ready (rs := [3]) (by kernel_rfl) (by simp) ?_
  refine AllReadyH.cons rfl (fun K hK => ?_) AllReadyH.nil
  go_simp
  refine (HN1.out _).mono ?_
  rintro e w1 ⟨rfl, G1⟩
  simp only []
  have hS1 : w1.heap[w.heap.size]? = some (.cells #[.slice ma mn mc, .slice ha hn hc] 25 (0, 0)) ∧ Gr w w1 := ⟨Hr.heap_of_gr G1 HS0.out.1, HS0.out.2.trans G1⟩
  refine hK.out _ _ hS1 (fun hx => ?_)
  clear hK K hx G1 HS0
  have HS0 : Hid (w1.heap[w.heap.size]? = some (.cells #[.slice ma mn mc, .slice ha hn hc] 25 (0, 0)) ∧ Gr w w1) := hS1
  clear hS1
  refine wpAnyH_take (i := 7) (v := .string (Mr.sof l1 ++ Mr.sof m)) rfl (by kernel_rfl) (by kernel_rfl) (by kernel_rfl) (fun _ _ _ h => h) (Or.inl ⟨by rfl, fun W hW => by go_simp⟩) HS0.out ?_
  simp only [List.getElem_toArray, List.getElem_cons_succ, List.getElem_cons_zero, Act.put, List.setIfInBounds_toArray, List.set_cons_zero, List.set_cons_succ]
  refine wpAnyH_ready (rs := [11]) (by kernel_rfl) (by simp) ?_
  refine AllReadyH.cons rfl (fun K hK => ?_) AllReadyH.nil
  go_simp
  refine (HN2.out _).mono ?_
  rintro e w2 ⟨rfl, G2⟩
  simp only []
  have hS2 : w2.heap[w.heap.size]? = some (.cells #[.slice ma mn mc, .slice ha hn hc] 25 (0, 0)) ∧ Gr w w2 := ⟨Hr.heap_of_gr G2 HS0.out.1, HS0.out.2.trans G2⟩
  refine hK.out _ _ hS2 (fun hx => ?_)
  clear hK K hx G2 HS0
  have HS0 : Hid (w2.heap[w.heap.size]? = some (.cells #[.slice ma mn mc, .slice ha hn hc] 25 (0, 0)) ∧ Gr w w2) := hS2
  clear hS2
  refine wpAnyH_take (i := 12) (v := .string (Mr.sof l1 ++ Mr.sof m ++ Mr.sof l2)) rfl (by kernel_rfl) (by kernel_rfl) (by kernel_rfl) (fun _ _ _ h => h) (Or.inl ⟨by rfl, fun W hW => by go_simp⟩) HS0.out ?_
  simp only [List.getElem_toArray, List.getElem_cons_succ, List.getElem_cons_zero, Act.put, List.setIfInBounds_toArray, List.set_cons_zero, List.set_cons_succ]
  refine wpAnyH_take (i := 13) (v := .string (Mr.sof l1 ++ Mr.sof m ++ Mr.sof l2)) rfl (by kernel_rfl) (by kernel_rfl) (by kernel_rfl) (fun _ _ _ h => h) (Or.inl ⟨by rfl, fun W hW => by go_simp⟩) HS0.out ?_
  simp only [List.getElem_toArray, List.getElem_cons_succ, List.getElem_cons_zero, Act.put, List.setIfInBounds_toArray, List.set_cons_zero, List.set_cons_succ]
  refine wpAnyH_done (by kernel_rfl) ?_ _
  have HLL : Hid (Mr.sof l1 ++ Mr.sof m ++ Mr.sof l2 = Mr.sof l0) := by unfold Hid; rw [sof_app, sof_app, HL0.out]
  rw [HLL.out]
  have HLen : Hid (l0.length ≤ 5000) := by unfold Hid; rw [HL0.out, List.length_append, List.length_append, HQ1.out.1, HQ1.out.2, HML.out.1]; omega
  clear hz1 hz2 HLL HQ1
  have HB2 : Hid (w2.heap[w.heap.size]? = some (.cells #[.slice ma mn mc, .slice ha hn hc] 25 (0, 0))) := HS0.out.1
  have HG2 : Hid (Gr w w2) := HS0.out.2
  obtain ⟨hb, ho, eha, _, hrng⟩ := (HA.out.harts.of HG2.out).spot (by omega)
  subst eha
  have HRg : Hid (∀ i h, hs[i]? = some h → w2.rangeAt hb (ho + i * 37) (hL h)) := hrng
  have HOK : Hid (∀ h ∈ hs, h.Ok) := HA.out.harts.ok
  have HL : Hid (hs.length = hn) := HML.out.2
  clear HS0 HN1 HN2 HA hrng HML
  clear w1
  generalize l1 = x1 at *
  go_wp2_with fail
  go_loopw [3, 4] (fun s i wr => ∃ k : Nat, k ≤ hn ∧ i = .int .i64 k ∧ s = .string (Mr.sof (l0 ++ hsB (hs.take k))) ∧ Gr w2 wr) (fun _ i _ => hn - (intOf i).toNat)
  case atStart => exact ⟨0, Nat.zero_le _, rfl, by simp [hsB], Gr.refl _⟩
  case round =>
    obtain ⟨k, hk, rfl, rfl, G⟩ := hrel
    have HG : Hid (Gr w2 wr) := G
    have hbx := Hr.heap_of_gr G HB2.out
    have y0 := cr0 hbx
    have y1 := cr1 hbx
    have hl2 := (gs hbx).1
    clear G hbx
    by_cases hlt : k < hn
    · have hlt' : (k : Int) < (hn : Int) := by omega
      obtain ⟨h, hh⟩ : ∃ h, hs[k]? = some h := ⟨_, List.getElem?_eq_getElem (by rw [HL.out]; exact hlt)⟩
      have okh := HOK.out h (List.mem_of_getElem? hh)
      have mayh := HMS.out h (List.mem_of_getElem? hh)
      have RG : Hid (wr.rangeAt hb (ho + k * 37) (hL h)) := fun j v hv => by
        have e := HRg.out k h hh j v hv
        exact (HG.out.cell _ (World.block_lt_of_cell? w2 _ e)).trans e
      have HLL : Hid ((hL h).length = 37) := Hh.hL_len okh
      have HSZ : Hid ((hL h).toArray.size = 37) := by unfold Hid; simp [HLL.out]
      have HONE : Hid ((hL h).toArray.all (·.oneCell') = true) := one_hA h
      have HT : Hid (l0 ++ hsB (hs.take (k + 1)) = (l0 ++ hsB (hs.take k)) ++ hB h) := by
        unfold Hid
        rw [List.take_add_one, hh, List.append_assoc]
        exact congrArg _ (hsB_snoc _ _)
      have HLk : Hid ((l0 ++ hsB (hs.take k)).length + 148 ≤ 10000) := by
        have := HLen.out
        unfold Hid
        rw [List.length_append, hsB_len (fun q hq => HOK.out q (List.mem_of_mem_take hq)), List.length_take, HL.out]
        omega
      have HW4 : Hid (∀ Y : Array Value, Gr wr ((wr.alloc (.cells Y 48)).setRow wr.heap.size (hL h).toArray)) := fun Y => gr_setRow ((Gr.refl _).alloc _) (Nat.le_refl _) _
      have HX5 : Hid (∀ Y : Array Value, ((wr.alloc (.cells Y 48)).setRow wr.heap.size (hL h).toArray).heap[wr.heap.size]? = some (.cells (hL h).toArray 48 (0, 0))) := fun Y => setRow_heap _ _ _ _ _ (0, 0) (heap_alloc_new wr _)
      have HOh : Hid h.Ok := okh
      have HMh : Hid (may h = true) := mayh
      clear hh okh mayh
      generalize l0 ++ hsB (hs.take k) = lk at *
      go_wp2_with (first
        | (refine wpList_load_mid rfl 48 _ rfl hb (ho + k * 37) rfl (hL h) _ ?r1 Try.underlying48 rfl (by rw [HLL.out]; exact iH) ?_; (case r1 => exact RG.out))
        | (refine wpList_store_row rfl 48 _ _ rfl wr.heap.size (hL h).toArray rfl rfl 48 _ (heap_alloc_new wr _) (by rw [HSZ.out]; exact iH) (by rw [HSZ.out]; rfl) HONE.out ?_))
      refine atW (fun W => Gr wr W ∧ W.heap[wr.heap.size]? = some (.cells (hL h).toArray 48 (0, 0))) ⟨HW4.out _, HX5.out _⟩ ?_
      rintro w5 ⟨G5, X5⟩
      clear HX5
      have HG5 : Hid (Gr w2 w5) := HG.out.trans G5
      have HX5 : Hid (w5.heap[wr.heap.size]? = some (.cells (hL h).toArray 48 (0, 0))) := X5
      clear G5 X5 HW4 RG HG y0 y1 hl2
      generalize wr.heap.size = z at *
      clear wr
      have HRl : Hid (h.regs.length = 32) := HOh.out.len
      have Hfld : Hid ((hL h).toArray[32]? = some (.int .u32 h.pc) ∧ (hL h).toArray[33]? = some (.bool h.held) ∧ (hL h).toArray[34]? = some (.int .u32 h.heldAt) ∧ (hL h).toArray[35]? = some (.int .i64 h.state) ∧ (hL h).toArray[36]? = some (.int .i64 h.cause)) := by
        refine ⟨?_, ?_, ?_, ?_, ?_⟩ <;> rw [List.getElem?_toArray]
        · exact hL_fld HOh.out 0
        · exact hL_fld HOh.out 1
        · exact hL_fld HOh.out 2
        · exact hL_fld HOh.out 3
        · exact hL_fld HOh.out 4
      go_loopw [3, 6] (fun s i wr => ∃ j : Nat, j ≤ 32 ∧ i = .int .i64 j ∧ s = .string (Mr.sof (lk ++ nB (h.regs.take j))) ∧ Gr w5 wr) (fun _ i _ => 32 - (intOf i).toNat)
      case atStart => exact ⟨0, Nat.zero_le _, rfl, by simp [nB], Gr.refl _⟩
      case round =>
        obtain ⟨j, hj, rfl, rfl, G⟩ := hrel
        have HGj : Hid (Gr w5 wr) := G
        have HXj : Hid (wr.heap[z]? = some (.cells (hL h).toArray 48 (0, 0))) := Hr.heap_of_gr G HX5.out
        clear G
        by_cases hlt2 : j < 32
        · have hlt3 : (j : Int) < 32 := by omega
          have x0 : wr.cell? ⟨z, j, none⟩ = some (.int .u32 (rg h j)) := by rw [cr HXj.out, List.getElem?_toArray]; exact hL_reg HOh.out hlt2
          have HJ : Hid (lk ++ nB (h.regs.take (j + 1)) = (lk ++ nB (h.regs.take j)) ++ n4 (rg h j)) := by
            unfold Hid
            rw [List.take_add_one, List.append_assoc]
            have e : h.regs[j]? = some (rg h j) := by
              unfold rg
              rw [List.getD_eq_getElem?_getD, List.getElem?_eq_getElem (by rw [HRl.out]; exact hlt2)]
              rfl
            rw [e]
            exact congrArg _ (nB_snoc _ _)
          have HLj : Hid ((lk ++ nB (h.regs.take j)).length ≤ 10000) := by
            have := HLk.out
            unfold Hid
            rw [List.length_append, nB_len, List.length_take, HRl.out]
            omega
          have HU := HOh.out.reg j
          have u0 : 0 ≤ rg h j := HU.1
          have u1 : rg h j < 4294967296 := HU.2
          have HNj : Hid (∀ W : World, Calls Try.prog 28 #[.int .i64 (rg h j)] W fun e w' => e = .returned (.string (Mr.sof (n4 (rg h j)))) ∧ Gr W w') := fun W => HNa.out _ _ HU
          have HQ : Hid ((n4 (rg h j)).length = 4) := rfl
          clear HU
          generalize n4 (rg h j) = q4 at *
          generalize rg h j = rv at *
          generalize lk ++ nB (h.regs.take j) = lj at *
          have hz : ¬ 9223372036854775807 < (Mr.sof lj).size + (Mr.sof q4).size := by have := HLj.out; rw [sof_size, sof_size, HQ.out]; omega
          go_wp2_with fail
          refine (HNj.out _).mono ?_
          rintro e w6 ⟨rfl, G6⟩
          have HG6 : Hid (Gr w5 w6) := HGj.out.trans G6
          clear G6
          go_wp2_with fail
          go_roundw
          case rel => exact ⟨j + 1, by omega, by go_num, by rw [HJ.out, sof_app], HG6.out⟩
          case measure => simp [intOf]; omega
        · have hlt3 : ¬ (j : Int) < 32 := by omega
          have ej : h.regs.take j = h.regs := by rw [List.take_of_length_le (by rw [HRl.out]; omega)]
          rw [ej]
          clear ej
          obtain ⟨l5, hl5⟩ : ∃ l, l = lk ++ nB h.regs := ⟨_, rfl⟩
          rw [← hl5]
          have HL5 : Hid (l5 = lk ++ nB h.regs) := hl5
          have HT2 : Hid (l0 ++ hsB (hs.take (k + 1)) = l5 ++ n4 h.pc ++ n4 (bi h.held) ++ n4 h.heldAt ++ n4 h.state ++ n4 h.cause) := by
            unfold Hid
            rw [HT.out, HL5.out]
            unfold hB hN
            rw [nB_app]
            simp [nB]
          have HL6 : Hid (l5.length ≤ 10000) := by
            have := HLk.out
            unfold Hid
            rw [HL5.out, List.length_append, nB_len, HRl.out]
            omega
          obtain ⟨⟨s0, s1⟩, t0, t1⟩ := may_nums HOh.out HMh.out
          have pc0 := HOh.out.pc0
          have pc1 := HOh.out.pc1
          have at0 := HOh.out.at0
          have at1 := HOh.out.at1
          have HC1 : Hid (∀ W : World, Calls Try.prog 28 #[.int .i64 h.pc] W fun e w' => e = .returned (.string (Mr.sof (n4 h.pc))) ∧ Gr W w') := fun W => HNa.out _ _ ⟨pc0, pc1⟩
          have HC2 : Hid (∀ W : World, Calls Try.prog 28 #[.int .i64 (bi h.held)] W fun e w' => e = .returned (.string (Mr.sof (n4 (bi h.held)))) ∧ Gr W w') := fun W => HNa.out _ _ ⟨(bi_bd _).1, by have := (bi_bd h.held).2; omega⟩
          have HC3 : Hid (∀ W : World, Calls Try.prog 28 #[.int .i64 h.heldAt] W fun e w' => e = .returned (.string (Mr.sof (n4 h.heldAt))) ∧ Gr W w') := fun W => HNa.out _ _ ⟨at0, at1⟩
          have HC4 : Hid (∀ W : World, Calls Try.prog 28 #[.int .i64 h.state] W fun e w' => e = .returned (.string (Mr.sof (n4 h.state))) ∧ Gr W w') := fun W => HNa.out _ _ ⟨s0, by omega⟩
          have HC5 : Hid (∀ W : World, Calls Try.prog 28 #[.int .i64 h.cause] W fun e w' => e = .returned (.string (Mr.sof (n4 h.cause))) ∧ Gr W w') := fun W => HNa.out _ _ ⟨t0, by omega⟩
          have HPl : Hid ((n4 h.pc).length = 4 ∧ (n4 (bi h.held)).length = 4 ∧ (n4 h.heldAt).length = 4 ∧ (n4 h.state).length = 4 ∧ (n4 h.cause).length = 4) := ⟨rfl, rfl, rfl, rfl, rfl⟩
          have g32 := Hfld.out.1
          have g33 := Hfld.out.2.1
          have g34 := Hfld.out.2.2.1
          have g35 := Hfld.out.2.2.2.1
          have g36 := Hfld.out.2.2.2.2
          clear Hfld HT hl5 HLk HL5 HNa HLL HSZ HONE hlt hlt2
          generalize (hL h).toArray = H at *
          generalize n4 h.pc = p1 at *
          generalize hbi : bi h.held = bh at *
          generalize n4 bh = p2 at *
          generalize n4 h.heldAt = p3 at *
          generalize n4 h.state = p4 at *
          generalize n4 h.cause = p5 at *
          have HBI : Hid (bi h.held = bh) := hbi
          generalize h.held = hd at *
          clear hbi
          have HJX : Hid (wr.heap[z]? = some (.cells H 48 (0, 0)) ∧ Gr w5 wr) := ⟨HXj.out, HGj.out⟩
          have c33 : wr.cell? ⟨z, 33, none⟩ = some (.bool hd) := (cr HXj.out).trans g33
          have z1 : ¬ 9223372036854775807 < (Mr.sof l5).size + (Mr.sof p1).size := by have := HL6.out; rw [sof_size, sof_size, HPl.out.1]; omega
          have z2 : ¬ 9223372036854775807 < (Mr.sof l5).size + (Mr.sof p1).size + (Mr.sof p2).size := by have := HL6.out; rw [sof_size, sof_size, sof_size, HPl.out.1, HPl.out.2.1]; omega
          have z3 : ¬ 9223372036854775807 < (Mr.sof l5).size + (Mr.sof p1).size + (Mr.sof p2).size + (Mr.sof p3).size := by have := HL6.out; rw [sof_size, sof_size, sof_size, sof_size, HPl.out.1, HPl.out.2.1, HPl.out.2.2.1]; omega
          have z4 : ¬ 9223372036854775807 < (Mr.sof l5).size + (Mr.sof p1).size + (Mr.sof p2).size + (Mr.sof p3).size + (Mr.sof p4).size := by have := HL6.out; rw [sof_size, sof_size, sof_size, sof_size, sof_size, HPl.out.1, HPl.out.2.1, HPl.out.2.2.1, HPl.out.2.2.2.1]; omega
          have z5 : ¬ 9223372036854775807 < (Mr.sof l5).size + (Mr.sof p1).size + (Mr.sof p2).size + (Mr.sof p3).size + (Mr.sof p4).size + (Mr.sof p5).size := by have := HL6.out; rw [sof_size, sof_size, sof_size, sof_size, sof_size, sof_size, HPl.out.1, HPl.out.2.1, HPl.out.2.2.1, HPl.out.2.2.2.1, HPl.out.2.2.2.2]; omega
          have HFin : Hid (Mr.sof l5 ++ Mr.sof p1 ++ Mr.sof p2 ++ Mr.sof p3 ++ Mr.sof p4 ++ Mr.sof p5 = Mr.sof (l0 ++ hsB (hs.take (k + 1)))) := by unfold Hid; rw [HT2.out, sof_app, sof_app, sof_app, sof_app, sof_app]
          generalize h.pc = pc at *
          generalize h.heldAt = ha at *
          generalize h.state = st at *
          generalize h.cause = ca at *
          obtain ⟨lN, hlN⟩ : ∃ l, l = l0 ++ hsB (hs.take (k + 1)) := ⟨_, rfl⟩
          rw [← hlN] at HFin
          have HLN : Hid (lN = l0 ++ hsB (hs.take (k + 1))) := hlN
          clear hlN
          have wp : IntKind.i64.wrap pc = pc := i64w (by omega) (by omega)
          have wa : IntKind.i64.wrap ha = ha := i64w (by omega) (by omega)
          clear HXj HGj HX5 HOh HMh HRl HT2
          cases hd with
          | true =>
            obtain rfl : bh = 1 := by rw [← HBI.out]; rfl
            go_wp2_with fail
            refine wp_region_held_drew (S := fun W => W.heap[z]? = some (.cells H 48 (0, 0)) ∧ Gr w5 W) (by kernel_rfl) ?_ (fun hHeld => ?_)
            · exact ⟨HJX.out.1, HJX.out.2.drew⟩
            have HS0 : Hid _ := hHeld
            clear hHeld
            refine wpAnyH_take (i := 0) (v := .string (Mr.sof l5)) rfl (by kernel_rfl) (by kernel_rfl) (by kernel_rfl) (fun _ _ _ h => h) (Or.inl ⟨by rfl, fun W hW => by go_simp⟩) HS0.out ?_
            simp only [List.getElem_toArray, List.getElem_cons_succ, List.getElem_cons_zero, Act.put, List.setIfInBounds_toArray, List.set_cons_zero, List.set_cons_succ]
            refine wpAnyH_take (i := 1) (v := .pointer (some ⟨z, 32, none⟩)) rfl (by kernel_rfl) (by kernel_rfl) (by kernel_rfl) (fun _ _ _ h => h) (Or.inl ⟨by rfl, fun W hW => by go_simp⟩) HS0.out ?_
            simp only [List.getElem_toArray, List.getElem_cons_succ, List.getElem_cons_zero, Act.put, List.setIfInBounds_toArray, List.set_cons_zero, List.set_cons_succ]
            refine wpAnyH_take (i := 2) (v := .int .u32 pc) rfl (by kernel_rfl) (by kernel_rfl) (by kernel_rfl) (fun _ _ _ h => h) (Or.inl ⟨by rfl, fun W hW => by have a := (cr hW.1).trans g32; go_simp⟩) HS0.out ?_
            simp only [List.getElem_toArray, List.getElem_cons_succ, List.getElem_cons_zero, Act.put, List.setIfInBounds_toArray, List.set_cons_zero, List.set_cons_succ]
            refine wpAnyH_take (i := 3) (v := .int .i64 pc) rfl (by kernel_rfl) (by kernel_rfl) (by kernel_rfl) (fun _ _ _ h => h) (Or.inl ⟨by rfl, fun W hW => by go_simp⟩) HS0.out ?_
            simp only [List.getElem_toArray, List.getElem_cons_succ, List.getElem_cons_zero, Act.put, List.setIfInBounds_toArray, List.set_cons_zero, List.set_cons_succ]
            refine wpAnyH_take (i := 6) (v := .int .i64 1) rfl (by kernel_rfl) (by kernel_rfl) (by kernel_rfl) (fun _ _ _ h => h) (Or.inl ⟨by rfl, fun W hW => by go_simp⟩) HS0.out ?_
            simp only [List.getElem_toArray, List.getElem_cons_succ, List.getElem_cons_zero, Act.put, List.setIfInBounds_toArray, List.set_cons_zero, List.set_cons_succ]
            refine wpAnyH_take (i := 9) (v := .pointer (some ⟨z, 34, none⟩)) rfl (by kernel_rfl) (by kernel_rfl) (by kernel_rfl) (fun _ _ _ h => h) (Or.inl ⟨by rfl, fun W hW => by go_simp⟩) HS0.out ?_
            simp only [List.getElem_toArray, List.getElem_cons_succ, List.getElem_cons_zero, Act.put, List.setIfInBounds_toArray, List.set_cons_zero, List.set_cons_succ]
            refine wpAnyH_take (i := 10) (v := .int .u32 ha) rfl (by kernel_rfl) (by kernel_rfl) (by kernel_rfl) (fun _ _ _ h => h) (Or.inl ⟨by rfl, fun W hW => by have a := (cr hW.1).trans g34; go_simp⟩) HS0.out ?_
            simp only [List.getElem_toArray, List.getElem_cons_succ, List.getElem_cons_zero, Act.put, List.setIfInBounds_toArray, List.set_cons_zero, List.set_cons_succ]
            refine wpAnyH_take (i := 11) (v := .int .i64 ha) rfl (by kernel_rfl) (by kernel_rfl) (by kernel_rfl) (fun _ _ _ h => h) (Or.inl ⟨by rfl, fun W hW => by go_simp⟩) HS0.out ?_
            simp only [List.getElem_toArray, List.getElem_cons_succ, List.getElem_cons_zero, Act.put, List.setIfInBounds_toArray, List.set_cons_zero, List.set_cons_succ]
            refine wpAnyH_take (i := 14) (v := .pointer (some ⟨z, 35, none⟩)) rfl (by kernel_rfl) (by kernel_rfl) (by kernel_rfl) (fun _ _ _ h => h) (Or.inl ⟨by rfl, fun W hW => by go_simp⟩) HS0.out ?_
            simp only [List.getElem_toArray, List.getElem_cons_succ, List.getElem_cons_zero, Act.put, List.setIfInBounds_toArray, List.set_cons_zero, List.set_cons_succ]
            refine wpAnyH_take (i := 15) (v := .int .i64 st) rfl (by kernel_rfl) (by kernel_rfl) (by kernel_rfl) (fun _ _ _ h => h) (Or.inl ⟨by rfl, fun W hW => by have a := (cr hW.1).trans g35; go_simp⟩) HS0.out ?_
            simp only [List.getElem_toArray, List.getElem_cons_succ, List.getElem_cons_zero, Act.put, List.setIfInBounds_toArray, List.set_cons_zero, List.set_cons_succ]
            refine wpAnyH_take (i := 18) (v := .pointer (some ⟨z, 36, none⟩)) rfl (by kernel_rfl) (by kernel_rfl) (by kernel_rfl) (fun _ _ _ h => h) (Or.inl ⟨by rfl, fun W hW => by go_simp⟩) HS0.out ?_
            simp only [List.getElem_toArray, List.getElem_cons_succ, List.getElem_cons_zero, Act.put, List.setIfInBounds_toArray, List.set_cons_zero, List.set_cons_succ]
            refine wpAnyH_take (i := 19) (v := .int .i64 ca) rfl (by kernel_rfl) (by kernel_rfl) (by kernel_rfl) (fun _ _ _ h => h) (Or.inl ⟨by rfl, fun W hW => by have a := (cr hW.1).trans g36; go_simp⟩) HS0.out ?_
            simp only [List.getElem_toArray, List.getElem_cons_succ, List.getElem_cons_zero, Act.put, List.setIfInBounds_toArray, List.set_cons_zero, List.set_cons_succ]
            refine wpAnyH_ready (rs := [4]) (by kernel_rfl) (by simp) ?_
            refine AllReadyH.cons rfl (fun K hK => ?_) AllReadyH.nil
            go_simp
            refine (HC1.out _).mono ?_
            rintro e v1 ⟨rfl, G1⟩
            simp only []
            have hS1 : v1.heap[z]? = some (.cells H 48 (0, 0)) ∧ Gr w5 v1 := ⟨Hr.heap_of_gr G1 HS0.out.1, HS0.out.2.trans G1⟩
            refine hK.out _ _ hS1 (fun hx => ?_)
            clear hK K hx G1 HS0
            have HS0 : Hid (v1.heap[z]? = some (.cells H 48 (0, 0)) ∧ Gr w5 v1) := hS1
            clear hS1
            refine wpAnyH_take (i := 5) (v := .string (Mr.sof l5 ++ Mr.sof p1)) rfl (by kernel_rfl) (by kernel_rfl) (by kernel_rfl) (fun _ _ _ h => h) (Or.inl ⟨by rfl, fun W hW => by go_simp⟩) HS0.out ?_
            simp only [List.getElem_toArray, List.getElem_cons_succ, List.getElem_cons_zero, Act.put, List.setIfInBounds_toArray, List.set_cons_zero, List.set_cons_succ]
            refine wpAnyH_ready (rs := [7]) (by kernel_rfl) (by simp) ?_
            refine AllReadyH.cons rfl (fun K hK => ?_) AllReadyH.nil
            go_simp
            refine (HC2.out _).mono ?_
            rintro e v2 ⟨rfl, G1⟩
            simp only []
            have hS1 : v2.heap[z]? = some (.cells H 48 (0, 0)) ∧ Gr w5 v2 := ⟨Hr.heap_of_gr G1 HS0.out.1, HS0.out.2.trans G1⟩
            refine hK.out _ _ hS1 (fun hx => ?_)
            clear hK K hx G1 HS0
            have HS0 : Hid (v2.heap[z]? = some (.cells H 48 (0, 0)) ∧ Gr w5 v2) := hS1
            clear hS1
            refine wpAnyH_take (i := 8) (v := .string ((Mr.sof l5 ++ Mr.sof p1) ++ Mr.sof p2)) rfl (by kernel_rfl) (by kernel_rfl) (by kernel_rfl) (fun _ _ _ h => h) (Or.inl ⟨by rfl, fun W hW => by go_simp⟩) HS0.out ?_
            simp only [List.getElem_toArray, List.getElem_cons_succ, List.getElem_cons_zero, Act.put, List.setIfInBounds_toArray, List.set_cons_zero, List.set_cons_succ]
            refine wpAnyH_ready (rs := [12]) (by kernel_rfl) (by simp) ?_
            refine AllReadyH.cons rfl (fun K hK => ?_) AllReadyH.nil
            go_simp
            refine (HC3.out _).mono ?_
            rintro e v3 ⟨rfl, G1⟩
            simp only []
            have hS1 : v3.heap[z]? = some (.cells H 48 (0, 0)) ∧ Gr w5 v3 := ⟨Hr.heap_of_gr G1 HS0.out.1, HS0.out.2.trans G1⟩
            refine hK.out _ _ hS1 (fun hx => ?_)
            clear hK K hx G1 HS0
            have HS0 : Hid (v3.heap[z]? = some (.cells H 48 (0, 0)) ∧ Gr w5 v3) := hS1
            clear hS1
            refine wpAnyH_take (i := 13) (v := .string (((Mr.sof l5 ++ Mr.sof p1) ++ Mr.sof p2) ++ Mr.sof p3)) rfl (by kernel_rfl) (by kernel_rfl) (by kernel_rfl) (fun _ _ _ h => h) (Or.inl ⟨by rfl, fun W hW => by go_simp⟩) HS0.out ?_
            simp only [List.getElem_toArray, List.getElem_cons_succ, List.getElem_cons_zero, Act.put, List.setIfInBounds_toArray, List.set_cons_zero, List.set_cons_succ]
            refine wpAnyH_ready (rs := [16]) (by kernel_rfl) (by simp) ?_
            refine AllReadyH.cons rfl (fun K hK => ?_) AllReadyH.nil
            go_simp
            refine (HC4.out _).mono ?_
            rintro e v4 ⟨rfl, G1⟩
            simp only []
            have hS1 : v4.heap[z]? = some (.cells H 48 (0, 0)) ∧ Gr w5 v4 := ⟨Hr.heap_of_gr G1 HS0.out.1, HS0.out.2.trans G1⟩
            refine hK.out _ _ hS1 (fun hx => ?_)
            clear hK K hx G1 HS0
            have HS0 : Hid (v4.heap[z]? = some (.cells H 48 (0, 0)) ∧ Gr w5 v4) := hS1
            clear hS1
            refine wpAnyH_take (i := 17) (v := .string ((((Mr.sof l5 ++ Mr.sof p1) ++ Mr.sof p2) ++ Mr.sof p3) ++ Mr.sof p4)) rfl (by kernel_rfl) (by kernel_rfl) (by kernel_rfl) (fun _ _ _ h => h) (Or.inl ⟨by rfl, fun W hW => by go_simp⟩) HS0.out ?_
            simp only [List.getElem_toArray, List.getElem_cons_succ, List.getElem_cons_zero, Act.put, List.setIfInBounds_toArray, List.set_cons_zero, List.set_cons_succ]
            refine wpAnyH_ready (rs := [20]) (by kernel_rfl) (by simp) ?_
            refine AllReadyH.cons rfl (fun K hK => ?_) AllReadyH.nil
            go_simp
            refine (HC5.out _).mono ?_
            rintro e v5 ⟨rfl, G1⟩
            simp only []
            have hS1 : v5.heap[z]? = some (.cells H 48 (0, 0)) ∧ Gr w5 v5 := ⟨Hr.heap_of_gr G1 HS0.out.1, HS0.out.2.trans G1⟩
            refine hK.out _ _ hS1 (fun hx => ?_)
            clear hK K hx G1 HS0
            have HS0 : Hid (v5.heap[z]? = some (.cells H 48 (0, 0)) ∧ Gr w5 v5) := hS1
            clear hS1
            refine wpAnyH_take (i := 21) (v := .string (((((Mr.sof l5 ++ Mr.sof p1) ++ Mr.sof p2) ++ Mr.sof p3) ++ Mr.sof p4) ++ Mr.sof p5)) rfl (by kernel_rfl) (by kernel_rfl) (by kernel_rfl) (fun _ _ _ h => h) (Or.inl ⟨by rfl, fun W hW => by go_simp⟩) HS0.out ?_
            simp only [List.getElem_toArray, List.getElem_cons_succ, List.getElem_cons_zero, Act.put, List.setIfInBounds_toArray, List.set_cons_zero, List.set_cons_succ]
            refine wpAnyH_take (i := 22) (v := .string (((((Mr.sof l5 ++ Mr.sof p1) ++ Mr.sof p2) ++ Mr.sof p3) ++ Mr.sof p4) ++ Mr.sof p5)) rfl (by kernel_rfl) (by kernel_rfl) (by kernel_rfl) (fun _ _ _ h => h) (Or.inl ⟨by rfl, fun W hW => by go_simp⟩) HS0.out ?_
            simp only [List.getElem_toArray, List.getElem_cons_succ, List.getElem_cons_zero, Act.put, List.setIfInBounds_toArray, List.set_cons_zero, List.set_cons_succ]
            refine wpAnyH_done (by kernel_rfl) ?_ _
            rw [HFin.out]
            have HG9 : Hid (Gr w2 v5) := HG5.out.trans HS0.out.2
            clear HS0 z1 z2 z3 z4 z5 HFin g32 g33 g34 g35 g36 c33 HJX
            go_wp2_with fail
            go_roundw
            case rel => exact ⟨k + 1, by omega, by go_num, by rw [HLN.out], HG9.out⟩
            case measure => simp [intOf]; omega
          | false =>
            obtain rfl : bh = 0 := by rw [← HBI.out]; rfl
            go_wp2_with fail
            refine wp_region_held_drew (S := fun W => W.heap[z]? = some (.cells H 48 (0, 0)) ∧ Gr w5 W) (by kernel_rfl) ?_ (fun hHeld => ?_)
            · exact ⟨HJX.out.1, HJX.out.2.drew⟩
            have HS0 : Hid _ := hHeld
            clear hHeld
            refine wpAnyH_take (i := 0) (v := .string (Mr.sof l5)) rfl (by kernel_rfl) (by kernel_rfl) (by kernel_rfl) (fun _ _ _ h => h) (Or.inl ⟨by rfl, fun W hW => by go_simp⟩) HS0.out ?_
            simp only [List.getElem_toArray, List.getElem_cons_succ, List.getElem_cons_zero, Act.put, List.setIfInBounds_toArray, List.set_cons_zero, List.set_cons_succ]
            refine wpAnyH_take (i := 1) (v := .pointer (some ⟨z, 32, none⟩)) rfl (by kernel_rfl) (by kernel_rfl) (by kernel_rfl) (fun _ _ _ h => h) (Or.inl ⟨by rfl, fun W hW => by go_simp⟩) HS0.out ?_
            simp only [List.getElem_toArray, List.getElem_cons_succ, List.getElem_cons_zero, Act.put, List.setIfInBounds_toArray, List.set_cons_zero, List.set_cons_succ]
            refine wpAnyH_take (i := 2) (v := .int .u32 pc) rfl (by kernel_rfl) (by kernel_rfl) (by kernel_rfl) (fun _ _ _ h => h) (Or.inl ⟨by rfl, fun W hW => by have a := (cr hW.1).trans g32; go_simp⟩) HS0.out ?_
            simp only [List.getElem_toArray, List.getElem_cons_succ, List.getElem_cons_zero, Act.put, List.setIfInBounds_toArray, List.set_cons_zero, List.set_cons_succ]
            refine wpAnyH_take (i := 3) (v := .int .i64 pc) rfl (by kernel_rfl) (by kernel_rfl) (by kernel_rfl) (fun _ _ _ h => h) (Or.inl ⟨by rfl, fun W hW => by go_simp⟩) HS0.out ?_
            simp only [List.getElem_toArray, List.getElem_cons_succ, List.getElem_cons_zero, Act.put, List.setIfInBounds_toArray, List.set_cons_zero, List.set_cons_succ]
            refine wpAnyH_take (i := 6) (v := .int .i64 0) rfl (by kernel_rfl) (by kernel_rfl) (by kernel_rfl) (fun _ _ _ h => h) (Or.inl ⟨by rfl, fun W hW => by go_simp⟩) HS0.out ?_
            simp only [List.getElem_toArray, List.getElem_cons_succ, List.getElem_cons_zero, Act.put, List.setIfInBounds_toArray, List.set_cons_zero, List.set_cons_succ]
            refine wpAnyH_take (i := 9) (v := .pointer (some ⟨z, 34, none⟩)) rfl (by kernel_rfl) (by kernel_rfl) (by kernel_rfl) (fun _ _ _ h => h) (Or.inl ⟨by rfl, fun W hW => by go_simp⟩) HS0.out ?_
            simp only [List.getElem_toArray, List.getElem_cons_succ, List.getElem_cons_zero, Act.put, List.setIfInBounds_toArray, List.set_cons_zero, List.set_cons_succ]
            refine wpAnyH_take (i := 10) (v := .int .u32 ha) rfl (by kernel_rfl) (by kernel_rfl) (by kernel_rfl) (fun _ _ _ h => h) (Or.inl ⟨by rfl, fun W hW => by have a := (cr hW.1).trans g34; go_simp⟩) HS0.out ?_
            simp only [List.getElem_toArray, List.getElem_cons_succ, List.getElem_cons_zero, Act.put, List.setIfInBounds_toArray, List.set_cons_zero, List.set_cons_succ]
            refine wpAnyH_take (i := 11) (v := .int .i64 ha) rfl (by kernel_rfl) (by kernel_rfl) (by kernel_rfl) (fun _ _ _ h => h) (Or.inl ⟨by rfl, fun W hW => by go_simp⟩) HS0.out ?_
            simp only [List.getElem_toArray, List.getElem_cons_succ, List.getElem_cons_zero, Act.put, List.setIfInBounds_toArray, List.set_cons_zero, List.set_cons_succ]
            refine wpAnyH_take (i := 14) (v := .pointer (some ⟨z, 35, none⟩)) rfl (by kernel_rfl) (by kernel_rfl) (by kernel_rfl) (fun _ _ _ h => h) (Or.inl ⟨by rfl, fun W hW => by go_simp⟩) HS0.out ?_
            simp only [List.getElem_toArray, List.getElem_cons_succ, List.getElem_cons_zero, Act.put, List.setIfInBounds_toArray, List.set_cons_zero, List.set_cons_succ]
            refine wpAnyH_take (i := 15) (v := .int .i64 st) rfl (by kernel_rfl) (by kernel_rfl) (by kernel_rfl) (fun _ _ _ h => h) (Or.inl ⟨by rfl, fun W hW => by have a := (cr hW.1).trans g35; go_simp⟩) HS0.out ?_
            simp only [List.getElem_toArray, List.getElem_cons_succ, List.getElem_cons_zero, Act.put, List.setIfInBounds_toArray, List.set_cons_zero, List.set_cons_succ]
            refine wpAnyH_take (i := 18) (v := .pointer (some ⟨z, 36, none⟩)) rfl (by kernel_rfl) (by kernel_rfl) (by kernel_rfl) (fun _ _ _ h => h) (Or.inl ⟨by rfl, fun W hW => by go_simp⟩) HS0.out ?_
            simp only [List.getElem_toArray, List.getElem_cons_succ, List.getElem_cons_zero, Act.put, List.setIfInBounds_toArray, List.set_cons_zero, List.set_cons_succ]
            refine wpAnyH_take (i := 19) (v := .int .i64 ca) rfl (by kernel_rfl) (by kernel_rfl) (by kernel_rfl) (fun _ _ _ h => h) (Or.inl ⟨by rfl, fun W hW => by have a := (cr hW.1).trans g36; go_simp⟩) HS0.out ?_
            simp only [List.getElem_toArray, List.getElem_cons_succ, List.getElem_cons_zero, Act.put, List.setIfInBounds_toArray, List.set_cons_zero, List.set_cons_succ]
            refine wpAnyH_ready (rs := [4]) (by kernel_rfl) (by simp) ?_
            refine AllReadyH.cons rfl (fun K hK => ?_) AllReadyH.nil
            go_simp
            refine (HC1.out _).mono ?_
            rintro e v1 ⟨rfl, G1⟩
            simp only []
            have hS1 : v1.heap[z]? = some (.cells H 48 (0, 0)) ∧ Gr w5 v1 := ⟨Hr.heap_of_gr G1 HS0.out.1, HS0.out.2.trans G1⟩
            refine hK.out _ _ hS1 (fun hx => ?_)
            clear hK K hx G1 HS0
            have HS0 : Hid (v1.heap[z]? = some (.cells H 48 (0, 0)) ∧ Gr w5 v1) := hS1
            clear hS1
            refine wpAnyH_take (i := 5) (v := .string (Mr.sof l5 ++ Mr.sof p1)) rfl (by kernel_rfl) (by kernel_rfl) (by kernel_rfl) (fun _ _ _ h => h) (Or.inl ⟨by rfl, fun W hW => by go_simp⟩) HS0.out ?_
            simp only [List.getElem_toArray, List.getElem_cons_succ, List.getElem_cons_zero, Act.put, List.setIfInBounds_toArray, List.set_cons_zero, List.set_cons_succ]
            refine wpAnyH_ready (rs := [7]) (by kernel_rfl) (by simp) ?_
            refine AllReadyH.cons rfl (fun K hK => ?_) AllReadyH.nil
            go_simp
            refine (HC2.out _).mono ?_
            rintro e v2 ⟨rfl, G1⟩
            simp only []
            have hS1 : v2.heap[z]? = some (.cells H 48 (0, 0)) ∧ Gr w5 v2 := ⟨Hr.heap_of_gr G1 HS0.out.1, HS0.out.2.trans G1⟩
            refine hK.out _ _ hS1 (fun hx => ?_)
            clear hK K hx G1 HS0
            have HS0 : Hid (v2.heap[z]? = some (.cells H 48 (0, 0)) ∧ Gr w5 v2) := hS1
            clear hS1
            refine wpAnyH_take (i := 8) (v := .string ((Mr.sof l5 ++ Mr.sof p1) ++ Mr.sof p2)) rfl (by kernel_rfl) (by kernel_rfl) (by kernel_rfl) (fun _ _ _ h => h) (Or.inl ⟨by rfl, fun W hW => by go_simp⟩) HS0.out ?_
            simp only [List.getElem_toArray, List.getElem_cons_succ, List.getElem_cons_zero, Act.put, List.setIfInBounds_toArray, List.set_cons_zero, List.set_cons_succ]
            refine wpAnyH_ready (rs := [12]) (by kernel_rfl) (by simp) ?_
            refine AllReadyH.cons rfl (fun K hK => ?_) AllReadyH.nil
            go_simp
            refine (HC3.out _).mono ?_
            rintro e v3 ⟨rfl, G1⟩
            simp only []
            have hS1 : v3.heap[z]? = some (.cells H 48 (0, 0)) ∧ Gr w5 v3 := ⟨Hr.heap_of_gr G1 HS0.out.1, HS0.out.2.trans G1⟩
            refine hK.out _ _ hS1 (fun hx => ?_)
            clear hK K hx G1 HS0
            have HS0 : Hid (v3.heap[z]? = some (.cells H 48 (0, 0)) ∧ Gr w5 v3) := hS1
            clear hS1
            refine wpAnyH_take (i := 13) (v := .string (((Mr.sof l5 ++ Mr.sof p1) ++ Mr.sof p2) ++ Mr.sof p3)) rfl (by kernel_rfl) (by kernel_rfl) (by kernel_rfl) (fun _ _ _ h => h) (Or.inl ⟨by rfl, fun W hW => by go_simp⟩) HS0.out ?_
            simp only [List.getElem_toArray, List.getElem_cons_succ, List.getElem_cons_zero, Act.put, List.setIfInBounds_toArray, List.set_cons_zero, List.set_cons_succ]
            refine wpAnyH_ready (rs := [16]) (by kernel_rfl) (by simp) ?_
            refine AllReadyH.cons rfl (fun K hK => ?_) AllReadyH.nil
            go_simp
            refine (HC4.out _).mono ?_
            rintro e v4 ⟨rfl, G1⟩
            simp only []
            have hS1 : v4.heap[z]? = some (.cells H 48 (0, 0)) ∧ Gr w5 v4 := ⟨Hr.heap_of_gr G1 HS0.out.1, HS0.out.2.trans G1⟩
            refine hK.out _ _ hS1 (fun hx => ?_)
            clear hK K hx G1 HS0
            have HS0 : Hid (v4.heap[z]? = some (.cells H 48 (0, 0)) ∧ Gr w5 v4) := hS1
            clear hS1
            refine wpAnyH_take (i := 17) (v := .string ((((Mr.sof l5 ++ Mr.sof p1) ++ Mr.sof p2) ++ Mr.sof p3) ++ Mr.sof p4)) rfl (by kernel_rfl) (by kernel_rfl) (by kernel_rfl) (fun _ _ _ h => h) (Or.inl ⟨by rfl, fun W hW => by go_simp⟩) HS0.out ?_
            simp only [List.getElem_toArray, List.getElem_cons_succ, List.getElem_cons_zero, Act.put, List.setIfInBounds_toArray, List.set_cons_zero, List.set_cons_succ]
            refine wpAnyH_ready (rs := [20]) (by kernel_rfl) (by simp) ?_
            refine AllReadyH.cons rfl (fun K hK => ?_) AllReadyH.nil
            go_simp
            refine (HC5.out _).mono ?_
            rintro e v5 ⟨rfl, G1⟩
            simp only []
            have hS1 : v5.heap[z]? = some (.cells H 48 (0, 0)) ∧ Gr w5 v5 := ⟨Hr.heap_of_gr G1 HS0.out.1, HS0.out.2.trans G1⟩
            refine hK.out _ _ hS1 (fun hx => ?_)
            clear hK K hx G1 HS0
            have HS0 : Hid (v5.heap[z]? = some (.cells H 48 (0, 0)) ∧ Gr w5 v5) := hS1
            clear hS1
            refine wpAnyH_take (i := 21) (v := .string (((((Mr.sof l5 ++ Mr.sof p1) ++ Mr.sof p2) ++ Mr.sof p3) ++ Mr.sof p4) ++ Mr.sof p5)) rfl (by kernel_rfl) (by kernel_rfl) (by kernel_rfl) (fun _ _ _ h => h) (Or.inl ⟨by rfl, fun W hW => by go_simp⟩) HS0.out ?_
            simp only [List.getElem_toArray, List.getElem_cons_succ, List.getElem_cons_zero, Act.put, List.setIfInBounds_toArray, List.set_cons_zero, List.set_cons_succ]
            refine wpAnyH_take (i := 22) (v := .string (((((Mr.sof l5 ++ Mr.sof p1) ++ Mr.sof p2) ++ Mr.sof p3) ++ Mr.sof p4) ++ Mr.sof p5)) rfl (by kernel_rfl) (by kernel_rfl) (by kernel_rfl) (fun _ _ _ h => h) (Or.inl ⟨by rfl, fun W hW => by go_simp⟩) HS0.out ?_
            simp only [List.getElem_toArray, List.getElem_cons_succ, List.getElem_cons_zero, Act.put, List.setIfInBounds_toArray, List.set_cons_zero, List.set_cons_succ]
            refine wpAnyH_done (by kernel_rfl) ?_ _
            rw [HFin.out]
            have HG9 : Hid (Gr w2 v5) := HG5.out.trans HS0.out.2
            clear HS0 z1 z2 z3 z4 z5 HFin g32 g33 g34 g35 g36 c33 HJX
            go_wp2_with fail
            go_roundw
            case rel => exact ⟨k + 1, by omega, by go_num, by rw [HLN.out], HG9.out⟩
            case measure => simp [intOf]; omega
    · have ek : hs.take k = hs := by rw [List.take_of_length_le (by rw [HL.out]; omega)]
      have hlt' : ¬ (k : Int) < (hn : Int) := by omega
      rw [ek]
      clear ek
      go_wp2_with fail
      go_ret
      exact ⟨rfl, HG2.out.trans HG.out⟩
end Go.Proofs.Ythgnfmbnbndeeac.Im
/-
  The walk of ImagePuts.
-/
namespace Go.Proofs.Ythgnfmbnbndeeac.Im
open Go.ChangeShapes Go.WideShapes Go.ChangeAt Go.RowKit Mm Hh Hc Mc
set_option linter.unusedVariables false
set_option linter.unusedSimpArgs false

theorem wrong_nil (m : List UInt8) (hs : List Hv) : wrong m hs [] = pE m hs := by
  rw [wrong_may]
  rcases pE_or m hs with ⟨h0, hm⟩ | ⟨h0, hm⟩
  · rw [h0, hm]; rfl
  · rw [h0, hm]; rfl
theorem Wrong_nil {w : World} {ma ha : Option Addr} {mn mc hn hc : Nat} {m : List UInt8} {hs : List Hv} (A : Ma w ma mn mc ha hn hc m hs) :
    Calls Try.prog 12 #[.agg #[.slice ma mn mc, .slice ha hn hc], .slice none 0 0] w fun e w' => e = .returned (.int .i64 (pE m hs)) ∧ Gr w w' := by
  have := Wrong_any (ma := ma) (pa := none) (pn := 0) (ps := []) (fun h o W => rmay_any o W) mc hc 0 mn A.mem.len A.harts ⟨rfl, fun h => absurd h (by omega)⟩ A.b1 A.b2 (Nat.zero_le _)
  rwa [wrong_nil] at this
variable {w : World} {ma ha : Option Addr} {mn mc hn hc : Nat} {m : List UInt8} {hs : List Hv}
set_option maxHeartbeats 2000000 in
set_option maxRecDepth 100000 in
theorem puts_any (A : Ma w ma mn mc ha hn hc m hs) :
    Calls Try.prog 4 #[.agg #[.slice ma mn mc, .slice ha hn hc]] w fun e w' => e = .returned (.bool true) ∧ Gr w w' := by
  have HP1 : Hid (∀ W : World, Gr w W → Calls Try.prog 11 #[.agg #[.slice ma mn mc, .slice ha hn hc]] W fun e w' => ∃ sa sc, e = .returned (.tuple #[.slice sa (pB m hs).length sc, .int .i64 (pE m hs)]) ∧ Sb w' sa (pB m hs).length sc (pB m hs) ∧ Gr W w') := fun W G => Put_u (A.mem.of G) A.cap (A.harts.of G) A.b1 A.b2
  have HW1 : Hid (∀ W : World, Gr w W → Calls Try.prog 12 #[.agg #[.slice ma mn mc, .slice ha hn hc], .slice none 0 0] W fun e w' => e = .returned (.int .i64 (pE m hs)) ∧ Gr W w') := fun W G => Wrong_nil (A.of G)
  rcases pE_or m hs with ⟨h0, hm⟩ | ⟨h0, hm⟩
  · rw [h0, (pB_yes hm).1] at HP1
    rw [h0] at HW1
    have HBy : Hid (∀ W : World, Gr w W → Calls Try.prog 13 #[.agg #[.slice ma mn mc, .slice ha hn hc]] W fun e w' => e = .returned (.string (Mr.sof (mB m hs))) ∧ Gr W w') := fun W G => Bytes_any (A.of G) hm
    clear A h0 hm
    generalize mB m hs = B at *
    obtain ⟨n, hn'⟩ : ∃ n, n = B.length := ⟨_, rfl⟩
    rw [← hn'] at HP1
    clear hn'
    have dd : ((Mr.sof B).toList == (Mr.sof B).toList) = true := by simp
    go_enter Try.func4, Try.ntmps4
    go_wp2_with fail
    refine (HP1.out _ ((Gr.refl _).alloc _)).mono ?_
    rintro e w1 ⟨sa, sc, rfl, S1, G1⟩
    have HG1 : Hid (Gr w w1) := ((Gr.refl _).alloc _).trans G1
    have HX1 : Hid (w1.heap[w.heap.size]? = some (.cells #[.slice ma mn mc, .slice ha hn hc] 25 (0, 0))) := Hr.heap_of_gr G1 (heap_alloc_new w _)
    have HS1 : Hid (Sb w1 sa n sc B) := S1
    have x0 := cr0 HX1.out
    have x1 := cr1 HX1.out
    clear S1 G1 HP1
    go_wp2_with fail
    refine (HW1.out _ HG1.out).mono ?_
    rintro e w2 ⟨rfl, G2⟩
    have HG2 : Hid (Gr w w2) := HG1.out.trans G2
    have HX2 : Hid (w2.heap[w.heap.size]? = some (.cells #[.slice ma mn mc, .slice ha hn hc] 25 (0, 0))) := Hr.heap_of_gr G2 HX1.out
    have HS2 : Hid (Sb w2 sa n sc B) := HS1.out.of G2
    clear x0 x1 G2 HG1 HX1 HS1 HW1
    go_wp2_with fail
    refine wp_region_held_drew (S := fun W => Gr w2 W) (by kernel_rfl) ?_ (fun hHeld => ?_)
    · exact (Gr.refl _).drew
    have HS0 : Hid _ := hHeld
    clear hHeld
    refine wpAnyH_take (i := 0) (v := .int .i64 0) rfl (by kernel_rfl) (by kernel_rfl) (by kernel_rfl) (fun _ _ _ h => h) (Or.inl ⟨by rfl, fun W hW => by go_simp⟩) HS0.out ?_
    simp only [List.getElem_toArray, List.getElem_cons_succ, List.getElem_cons_zero, Act.put, List.setIfInBounds_toArray, List.set_cons_zero, List.set_cons_succ]
    refine wpAnyH_take (i := 1) (v := .bool true) rfl (by kernel_rfl) (by kernel_rfl) (by kernel_rfl) (fun _ _ _ h => h) (Or.inl ⟨by rfl, fun W hW => by go_simp⟩) HS0.out ?_
    simp only [List.getElem_toArray, List.getElem_cons_succ, List.getElem_cons_zero, Act.put, List.setIfInBounds_toArray, List.set_cons_zero, List.set_cons_succ]
    refine wpAnyH_take (i := 2) (v := .bool true) rfl (by kernel_rfl) (by kernel_rfl) (by kernel_rfl) (fun _ _ _ h => h) (Or.inl ⟨by rfl, fun W hW => by go_simp⟩) HS0.out ?_
    simp only [List.getElem_toArray, List.getElem_cons_succ, List.getElem_cons_zero, Act.put, List.setIfInBounds_toArray, List.set_cons_zero, List.set_cons_succ]
    refine wpAnyH_take (i := 3) (v := .slice sa n sc) rfl (by kernel_rfl) (by kernel_rfl) (by kernel_rfl) (fun _ _ _ h => h) (Or.inl ⟨by rfl, fun W hW => by go_simp⟩) HS0.out ?_
    simp only [List.getElem_toArray, List.getElem_cons_succ, List.getElem_cons_zero, Act.put, List.setIfInBounds_toArray, List.set_cons_zero, List.set_cons_succ]
    refine wpAnyH_take (i := 4) (v := .string (Mr.sof B)) rfl (by kernel_rfl) (by kernel_rfl) (by kernel_rfl) (fun _ _ _ h => h) (Or.inl ⟨by rfl, fun W hW => by have a := Mr.conv_any sc (HS2.out.of hW).mem; go_simp⟩) HS0.out ?_
    simp only [List.getElem_toArray, List.getElem_cons_succ, List.getElem_cons_zero, Act.put, List.setIfInBounds_toArray, List.set_cons_zero, List.set_cons_succ]
    refine wpAnyH_take (i := 5) (v := .agg #[.slice ma mn mc, .slice ha hn hc]) rfl (by kernel_rfl) (by kernel_rfl) (by kernel_rfl) (fun _ _ _ h => h) (Or.inl ⟨by rfl, fun W hW => by have a0 := cr0 (Hr.heap_of_gr hW HX2.out); have a1 := cr1 (Hr.heap_of_gr hW HX2.out); go_simp⟩) HS0.out ?_
    simp only [List.getElem_toArray, List.getElem_cons_succ, List.getElem_cons_zero, Act.put, List.setIfInBounds_toArray, List.set_cons_zero, List.set_cons_succ]
    refine wpAnyH_ready (rs := [6]) (by kernel_rfl) (by simp) ?_
    refine AllReadyH.cons rfl (fun K hK => ?_) AllReadyH.nil
    go_simp
    refine (HBy.out _ (HG2.out.trans HS0.out)).mono ?_
    rintro e w3 ⟨rfl, G3⟩
    simp only []
    have hS1 : Gr w2 w3 := HS0.out.trans G3
    refine hK.out _ _ hS1 (fun hx => ?_)
    clear hK K hx G3 HS0
    have HS0 : Hid (Gr w2 w3) := hS1
    clear hS1
    refine wpAnyH_take (i := 7) (v := .bool true) rfl (by kernel_rfl) (by kernel_rfl) (by kernel_rfl) (fun _ _ _ h => h) (Or.inl ⟨by rfl, fun W hW => by go_simp⟩) HS0.out ?_
    simp only [List.getElem_toArray, List.getElem_cons_succ, List.getElem_cons_zero, Act.put, List.setIfInBounds_toArray, List.set_cons_zero, List.set_cons_succ]
    refine wpAnyH_take (i := 8) (v := .bool true) rfl (by kernel_rfl) (by kernel_rfl) (by kernel_rfl) (fun _ _ _ h => h) (Or.inl ⟨by rfl, fun W hW => by go_simp⟩) HS0.out ?_
    simp only [List.getElem_toArray, List.getElem_cons_succ, List.getElem_cons_zero, Act.put, List.setIfInBounds_toArray, List.set_cons_zero, List.set_cons_succ]
    refine wpAnyH_take (i := 9) (v := .bool true) rfl (by kernel_rfl) (by kernel_rfl) (by kernel_rfl) (fun _ _ _ h => h) (Or.inl ⟨by rfl, fun W hW => by go_simp⟩) HS0.out ?_
    simp only [List.getElem_toArray, List.getElem_cons_succ, List.getElem_cons_zero, Act.put, List.setIfInBounds_toArray, List.set_cons_zero, List.set_cons_succ]
    refine wpAnyH_done (by kernel_rfl) ?_ _
    go_wp2_with fail
    go_ret
    exact ⟨rfl, HG2.out.trans HS0.out⟩
  · rw [h0, (pB_no hm).1] at HP1
    rw [h0] at HW1
    clear A h0 hm
    go_enter Try.func4, Try.ntmps4
    go_wp2_with fail
    refine (HP1.out _ ((Gr.refl _).alloc _)).mono ?_
    rintro e w1 ⟨sa, sc, rfl, S1, G1⟩
    have HG1 : Hid (Gr w w1) := ((Gr.refl _).alloc _).trans G1
    have HX1 : Hid (w1.heap[w.heap.size]? = some (.cells #[.slice ma mn mc, .slice ha hn hc] 25 (0, 0))) := Hr.heap_of_gr G1 (heap_alloc_new w _)
    have x0 := cr0 HX1.out
    have x1 := cr1 HX1.out
    clear S1 G1 HP1
    go_wp2_with fail
    refine (HW1.out _ HG1.out).mono ?_
    rintro e w2 ⟨rfl, G2⟩
    have HG2 : Hid (Gr w w2) := HG1.out.trans G2
    clear G2 x0 x1 HX1
    go_wp2_with fail
    go_ret
    exact ⟨rfl, HG2.out⟩
end Go.Proofs.Ythgnfmbnbndeeac.Im
