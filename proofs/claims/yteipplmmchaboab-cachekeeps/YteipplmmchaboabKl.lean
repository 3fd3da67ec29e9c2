/-
  slices.DeleteFunc by package cache's touchedBy, in a row of the program's own: the blocks that have no byte of some are left.
-/
import Derived.Test.YteipplmmchaboabKj
namespace Go.Proofs.Yteipplmmchaboab.Kc
open Go.ChangeShapes Go.WideShapes Go.ChangeAt Go.RowKit Mm Ts Hc
set_option linter.unusedVariables false
set_option linter.unusedSimpArgs false

theorem keep_all {f t : Int} {bs : List Bv} (h : ∀ (i : Nat) (x : Bv), bs[i]? = some x → hasB x f t = false) : keepL f t bs = bs := by
  unfold keepL
  rw [List.filter_eq_self]
  intro b hb
  obtain ⟨i, hi⟩ := List.mem_iff_getElem?.1 hb
  rw [h i b hi]
  rfl
theorem keep_upto {f t : Int} {bs : List Bv} {k : Nat} (h : ∀ (i : Nat) (x : Bv), i < k → bs[i]? = some x → hasB x f t = false) : keepL f t (bs.take k) = bs.take k :=
  keep_all fun i x hx => by
    rw [List.getElem?_take] at hx
    split at hx
    · rename_i hi
      exact h i x hi hx
    · cases hx
theorem drop_cell {cs : List Value} {n j r : Nat} {u : Value} (h : ((cs.take (n * 2)).drop (j * 2))[r]? = some u) : cs[j * 2 + r]? = some u := by
  rw [List.getElem?_drop, List.getElem?_take] at h
  split at h
  · exact h
  · cases h
set_option maxHeartbeats 4000000 in
set_option maxRecDepth 100000 in
theorem DelF_any {w : World} {base b1 g n cap : Nat} {xs : List Value} {bs : List Bv} (O : w.ownsRow base 28 2 (.slice (some ⟨g, 0, none⟩) n cap) n xs) (B : Bx w b1 bs xs) (hl : bs.length = n) (hn : n ≤ 140737488351232) (ok : ∀ b ∈ bs, b.Ok) {K : Nat} {f t : Int} (hK : w.heap[K]? = some (.cells #[.int .u32 f, .int .u32 t] 30 (0, 0))) (ht : t < 4294967296) :
    Calls Try.prog 24 #[.slice (some ⟨g, 0, none⟩) n cap, .func (.func 32) #[] #[.pointer (some ⟨K, 0, none⟩)]] w fun e w' => ∃ m xs', e = .returned (.slice (some ⟨g, 0, none⟩) m cap) ∧ (keepL f t bs).length = m ∧ w'.ownsRow base 28 2 (.slice (some ⟨g, 0, none⟩) m cap) m xs' ∧ Bx w' b1 (keepL f t bs) xs' ∧ Ch g w w' := by
  obtain ⟨hnc, cs, R, rfl⟩ := Rw.open O
  have hm := R.cap
  unfold maxLen at hm
  have IX : Hid (Calls Try.prog 20 #[.slice (some ⟨g, 0, none⟩) n cap, .func (.func 32) #[] #[.pointer (some ⟨K, 0, none⟩)]] w fun e w' => e = .returned (.int .i64 (fidx (fun b => hasB b f t) bs 0)) ∧ Gr w w') :=
    idx_touched cap (R.bq B hl) hn K (fun b => hasB b f t) fun W b sa sc G hb => touched1_any (cell_of_row _ _ _ _ _ _ (up_h G hK)) (cell_of_row _ _ _ _ _ _ (up_h G hK)) ht (ok b hb) sa sc
  have HR : Hid (Rw w base g cap cs) := R
  have HB : Hid (Bx w b1 bs (cs.take (n * 2))) := B
  have HO : Hid (w.ownsRow base 28 2 (.slice (some ⟨g, 0, none⟩) n cap) n (cs.take (n * 2))) := O
  have HL : Hid (bs.length = n) := hl
  have HK : Hid (w.heap[K]? = some (.cells #[.int .u32 f, .int .u32 t] 30 (0, 0))) := hK
  have Cl : Hid (∀ (W : World) (b : Bv) (sa : Option Addr) (sc : Nat), W.heap[K]? = some (.cells #[.int .u32 f, .int .u32 t] 30 (0, 0)) → b ∈ bs → Calls Try.prog 32 #[.agg #[.int .u32 b.pc, .slice sa b.is.length sc], .pointer (some ⟨K, 0, none⟩)] W fun e w' => e = .returned (.bool (hasB b f t)) ∧ Gr W w') := fun W b sa sc h hb => touched1_any (cell_of_row _ _ _ _ _ _ h) (cell_of_row _ _ _ _ _ _ h) ht (ok b hb) sa sc
  clear R B O hl hK ok
  rcases fidx_bd (fun b => hasB b f t) bs with ⟨e1, hall⟩ | ⟨k0, x0, e1, hx0, hp0, hall⟩
  · rw [e1] at IX
    have HA : Hid (keepL f t bs = bs) := keep_all hall
    clear hall Cl e1 HR
    go_enter Try.func24, Try.ntmps24
    go_wp2_with fail
    refine IX.out.mono ?_
    rintro e w1 ⟨rfl, G1⟩
    have HG1 : Hid (Gr w w1) := G1
    clear IX G1
    go_wp2_with fail
    go_ret
    refine ⟨n, _, rfl, by rw [HA.out]; exact HL.out, owns_gr HO.out HG1.out, by rw [HA.out]; exact HB.out.of HG1.out, (Ch.refl g w).gr HG1.out⟩
  · rw [e1] at IX
    have hk0 : k0 < n := by rw [← HL.out]; exact (List.getElem?_eq_some_iff.1 hx0).1
    have hne : ((k0 : Int) == -1) = false := beq_eq_false_iff_ne.2 (by omega)
    have HKu : Hid (keepL f t (bs.take (k0 + 1)) = bs.take k0) := by
      unfold Hid
      rw [keep_take hx0, if_pos hp0]
      exact keep_upto hall
    clear hall e1 hp0 hx0 HO
    go_enter Try.func24, Try.ntmps24
    go_wp2_with fail
    refine IX.out.mono ?_
    rintro e w1 ⟨rfl, G1⟩
    have HG1 : Hid (Gr w w1) := G1
    clear IX G1
    go_wp2_with fail
    go_loopw [5, 6] (fun vi vj wr => ∃ (i j : Nat) (cs : List Value), vi = .int .i64 i ∧ vj = .int .i64 j ∧ i < j ∧ j ≤ n ∧ Rw wr base g cap cs ∧ (keepL f t (bs.take j)).length = i ∧ Bx wr b1 (keepL f t (bs.take j)) (cs.take (i * 2)) ∧ Bx wr b1 (bs.drop j) ((cs.take (n * 2)).drop (j * 2)) ∧ wr.heap[K]? = some (.cells #[.int .u32 f, .int .u32 t] 30 (0, 0)) ∧ Ch g w wr) (fun _ j _ => n - (intOf j).toNat)
    case atStart =>
      have B1 := HB.out.of HG1.out
      refine ⟨k0, k0 + 1, cs, rfl, by go_num, by omega, by omega, HR.out.of HG1.out, ?_, ?_, B1.drop (k0 + 1), up_h HG1.out HK.out, (Ch.refl g w).gr HG1.out⟩
      · rw [HKu.out, List.length_take, HL.out]; omega
      · rw [HKu.out]
        have := B1.take k0
        rwa [List.take_take, show min (k0 * 2) (n * 2) = k0 * 2 by omega] at this
    case round =>
      obtain ⟨i, j, ds, rfl, rfl, hij, hjn, R, hli, B1, B2, hK, q⟩ := hrel
      have HRr : Hid (Rw wr base g cap ds) := R
      have HB1 : Hid (Bx wr b1 (keepL f t (bs.take j)) (ds.take (i * 2))) := B1
      have HB2 : Hid (Bx wr b1 (bs.drop j) ((ds.take (n * 2)).drop (j * 2))) := B2
      have HLi : Hid ((keepL f t (bs.take j)).length = i) := hli
      have HKr : Hid (wr.heap[K]? = some (.cells #[.int .u32 f, .int .u32 t] 30 (0, 0))) := hK
      have HQ : Hid (Ch g w wr) := q
      clear R B1 B2 hli hK q HR HB HG1 HK HKu
      by_cases hlt : j < n
      · obtain ⟨b, hb⟩ : ∃ b, bs[j]? = some b := ⟨_, List.getElem?_eq_getElem (by rw [HL.out]; exact hlt)⟩
        obtain ⟨v, h1, h2, h3⟩ := HB2.out.at_ 0 b (by rw [List.getElem?_drop]; exact hb)
        obtain ⟨sa, sc, rfl⟩ := h3.shape
        have c0 : wr.cell? ⟨g, j * 2, none⟩ = some (.int .u32 b.pc) := HRr.out.cell (drop_cell h1)
        have c1 : wr.cell? ⟨g, j * 2 + 1, none⟩ = some (.slice sa b.is.length sc) := HRr.out.cell (drop_cell h2)
        have HI3 : Hid (Io wr b1 (.slice sa b.is.length sc) b.is) := h3
        have Cl2 : Hid (∀ W : World, W.heap[K]? = some (.cells #[.int .u32 f, .int .u32 t] 30 (0, 0)) → Calls Try.prog 32 #[.agg #[.int .u32 b.pc, .slice sa b.is.length sc], .pointer (some ⟨K, 0, none⟩)] W fun e w' => e = .returned (.bool (hasB b f t)) ∧ Gr W w') := fun W h => Cl.out W b sa sc h (List.mem_of_getElem? hb)
        have HKt := keep_take (f := f) (t := t) hb
        have HBd : Hid (bs.drop (j + 1) = (bs.drop j).drop 1) := by unfold Hid; rw [List.drop_drop]
        clear h1 h2 h3 Cl hb
        cases hh : hasB b f t with
        | true =>
          rw [hh] at Cl2
          rw [if_pos hh] at HKt
          have HK2 : Hid (keepL f t (bs.take (j + 1)) = keepL f t (bs.take j)) := HKt
          clear HKt hh
          generalize b.pc = bp at *
          generalize b.is.length = bn at *
          go_wp2_with fail
          refine (Cl2.out _ (up_h ((Gr.refl wr).alloc _) HKr.out)).mono ?_
          rintro e w2 ⟨rfl, G2⟩
          have HG2 : Hid (Gr wr w2) := ((Gr.refl wr).alloc _).trans G2
          clear G2 c0 c1 Cl2
          go_wp2_with fail
          go_roundw
          case rel =>
            refine ⟨i, j + 1, ds, rfl, by go_num, by omega, by omega, HRr.out.of HG2.out, by rw [HK2.out]; exact HLi.out, by rw [HK2.out]; exact HB1.out.of HG2.out, ?_, up_h HG2.out HKr.out, HQ.out.gr HG2.out⟩
            have := (HB2.out.of HG2.out).drop 1
            rwa [List.drop_drop, List.drop_drop, show j * 2 + 1 * 2 = (j + 1) * 2 by omega] at this
          case measure => simp [intOf]; omega
        | false =>
          rw [hh] at Cl2
          rw [if_neg (by simp [hh])] at HKt
          have HK2 : Hid (keepL f t (bs.take (j + 1)) = keepL f t (bs.take j) ++ [b]) := HKt
          have HBs : Hid (∀ W : World, Bx W b1 (keepL f t (bs.take j)) (ds.take (i * 2)) → Io W b1 (.slice sa b.is.length sc) b.is → Bx W b1 (keepL f t (bs.take j) ++ [b]) (ds.take (i * 2) ++ [.int .u32 b.pc, .slice sa b.is.length sc])) := fun W h k => h.snoc k
          clear HKt hh
          generalize b.pc = bp at *
          generalize b.is.length = bn at *
          go_wp2_with fail
          refine (Cl2.out _ (up_h ((Gr.refl wr).alloc _) HKr.out)).mono ?_
          rintro e w2 ⟨rfl, G2⟩
          have HG2 : Hid (Gr wr w2) := ((Gr.refl wr).alloc _).trans G2
          have HR2 : Hid (Rw w2 base g cap ds) := HRr.out.of HG2.out
          have e0 : w2.cell? ⟨wr.heap.size, 0, none⟩ = some (.int .u32 bp) := cell_of_row _ _ _ _ _ _ (up_h G2 (heap_alloc_new wr _))
          have e1 : w2.cell? ⟨wr.heap.size, 1, none⟩ = some (.slice sa bn sc) := cell_of_row _ _ _ _ _ _ (up_h G2 (heap_alloc_new wr _))
          have hcl := HR2.out.len
          obtain ⟨y0, hy0⟩ : ∃ y, w2.cell? ⟨g, i * 2, none⟩ = some y := ⟨_, HR2.out.cell (List.getElem?_eq_getElem (by omega))⟩
          obtain ⟨y1, hy1⟩ : ∃ y, w2.cell? ⟨g, i * 2 + 1, none⟩ = some y := ⟨_, HR2.out.cell (List.getElem?_eq_getElem (by omega))⟩
          have hfz : ∀ o, w2.frozen? ⟨g, o, none⟩ = false := fun o => HR2.out.fz o
          have hi0 : (0 : Int) ≤ (i : Int) := by omega
          have hi1 : (i : Int) < (n : Int) := by omega
          clear G2 c0 c1 Cl2 hcl
          go_wp2_with fail
          go_roundw
          case rel =>
            have q2 : Ch g w2 (w2.setCells g (i * 2) [.int .u32 bp, .slice sa bn sc]) := chC (Ch.refl g w2) _ _
            have hcl := HR2.out.len
            have R3 := HR2.out.set (o := i * 2) (vs := [.int .u32 bp, .slice sa bn sc]) (by simp; omega)
            have lt : (ds.take (i * 2)).length = i * 2 := by rw [List.length_take, hcl]; omega
            refine ⟨i + 1, j + 1, _, by go_num, by go_num, by omega, by omega, R3, by rw [HK2.out, List.length_append, HLi.out]; rfl, ?_, ?_, ?_, (HQ.out.gr HG2.out).trans q2⟩
            · have e6 : (ds.take (i * 2) ++ [Value.int .u32 bp, Value.slice sa bn sc] ++ ds.drop (i * 2 + [Value.int .u32 bp, Value.slice sa bn sc].length)).take ((i + 1) * 2) = ds.take (i * 2) ++ [Value.int .u32 bp, Value.slice sa bn sc] := by
                have l2 : (ds.take (i * 2) ++ [Value.int .u32 bp, Value.slice sa bn sc]).length = (i + 1) * 2 := by rw [List.length_append, lt]; simp; omega
                rw [← l2]
                exact List.take_left
              rw [HK2.out, e6]
              exact HBs.out _ ((HB1.out.of HG2.out).ch HR2.out q2) ((HI3.out.of HG2.out).to fun k o r hk => HR2.out.keep q2 k o _ r (by decide) hk)
            · have h4 := ((HB2.out.of HG2.out).ch HR2.out q2).drop 1
              rw [List.drop_drop, List.drop_drop, show j * 2 + 1 * 2 = (j + 1) * 2 by omega] at h4
              have e5 : ((ds.take (i * 2) ++ [Value.int .u32 bp, Value.slice sa bn sc] ++ ds.drop (i * 2 + [Value.int .u32 bp, .slice sa bn sc].length)).take (n * 2)).drop ((j + 1) * 2) = (ds.take (n * 2)).drop ((j + 1) * 2) := by
                apply List.ext_getElem?
                intro z
                rw [List.getElem?_drop, List.getElem?_drop, List.getElem?_take, List.getElem?_take]
                split
                · have l2 : (ds.take (i * 2) ++ [Value.int .u32 bp, Value.slice sa bn sc]).length = (i + 1) * 2 := by rw [List.length_append, lt]; simp; omega
                  rw [List.getElem?_append_right (by omega), List.getElem?_drop, l2]
                  congr 1
                  simp
                  omega
                · rfl
              rw [e5]
              exact h4
            · exact (HR2.out.keep q2 K _ _ _ (by decide) (up_h HG2.out HKr.out)).trans (up_h HG2.out HKr.out)
          case measure => simp [intOf]; omega
      · have ej : j = n := by omega
        subst ej
        have HT : Hid (bs.take j = bs) := by unfold Hid; rw [← HL.out, List.take_length]
        have HB1e : Hid (Bx wr b1 (keepL f t bs) (ds.take (i * 2))) := by have := HB1.out; rwa [HT.out] at this
        have HLe : Hid ((keepL f t bs).length = i) := by have := HLi.out; rwa [HT.out] at this
        have hcr : ∀ ty, (Builtin.clear_ #[22] ty #[.slice (some ⟨g, i * 2, none⟩) (j - i) (cap - i)]).run Try.prog wr = .ok (.tuple #[]) (wr.setCells g (i * 2) (zrs (j - i))) := fun ty =>
          run_clear2 wr _ _ ty Try.underlying22 Try.zeroValue28 g (i * 2) (j - i) (cap - i) (by omega) (fun z hz => HRr.out.isS (by omega)) (fun z hz => HRr.out.fz _)
        have hi0 : (0 : Int) ≤ (i : Int) := by omega
        have hi1 : (i : Int) < (j : Int) := by omega
        clear HB1 HLi HT HB2 Cl
        go_wp2_with fail
        go_ret
        have R3 := HRr.out.set (o := i * 2) (vs := zrs (j - i)) (by rw [zrs_len]; omega)
        have lt : (ds.take (i * 2)).length = i * 2 := by rw [List.length_take, HRr.out.len]; omega
        have e5 : (ds.take (i * 2) ++ zrs (j - i) ++ ds.drop (i * 2 + (zrs (j - i)).length)).take (i * 2) = ds.take (i * 2) := by
          rw [List.append_assoc, List.take_append_of_le_length (by omega), List.take_of_length_le (by omega)]
        have q2 : Ch g wr (wr.setCells g (i * 2) (zrs (j - i))) := chC (Ch.refl g wr) _ _
        refine ⟨i, _, rfl, HLe.out, R3.own (by omega), ?_, HQ.out.trans q2⟩
        rw [e5]
        exact HB1e.out.ch HRr.out q2
end Go.Proofs.Yteipplmmchaboab.Kc
