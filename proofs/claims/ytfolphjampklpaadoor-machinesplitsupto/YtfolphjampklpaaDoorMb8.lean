/-
  What Board's Take does: what a hart did is made true ('tk').
-/
import Derived.Test.YtfolphjampklpaaDoorMb7
namespace Go.Proofs.YtfolphjampklpaaDoor.Mc
open Go.ChangeShapes Go.WideShapes Go.ChangeAt Go.RowKit Mm Hh Hc
set_option linter.unusedVariables false
set_option linter.unusedSimpArgs false

theorem rgs_get : ∀ (ss : List (Int × Int)) (i : Nat) (p : Int × Int), ss[i]? = some p → (rgs ss)[i * 2]? = some (.int .u32 p.1) ∧ (rgs ss)[i * 2 + 1]? = some (.int .u32 (Wd.lo (p.1 + p.2)))
  | [], i, q, h => by simp at h
  | p :: r, 0, q, h => by simp at h; subst h; exact ⟨rfl, rfl⟩
  | p :: r, i + 1, q, h => by
    have ih := rgs_get r i q (by simpa using h)
    have e : rgs (p :: r) = [.int .u32 p.1, .int .u32 (Wd.lo (p.1 + p.2))] ++ rgs r := rfl
    rw [e, List.getElem?_append_right (by simp; omega), List.getElem?_append_right (by simp; omega)]
    simp only [List.length_cons, List.length_nil]
    rw [show (i + 1) * 2 - (0 + 1 + 1) = i * 2 by omega, show (i + 1) * 2 + 1 - (0 + 1 + 1) = i * 2 + 1 by omega]
    exact ih
theorem take_snoc {α : Type} {l : List α} {i : Nat} {x : α} (h : l[i]? = some x) : l.take (i + 1) = l.take i ++ [x] := by
  rw [List.take_add_one, h]
  rfl
theorem drops_snoc (hs : List Hv) {U : List (Nat × Int)} {m : Nat} {q : Nat × Int} (h : U[m]? = some q) : drops hs (U.take (m + 1)) = (drops hs (U.take m)).set q.1 (((drops hs (U.take m)).getD q.1 hN).hold false 0) := by
  rw [take_snoc h, drops_app]
  rfl
theorem lose_snoc (k : Nat) {ss : List (Int × Int)} {i : Nat} {p : Int × Int} (h : ss[i]? = some p) (hs : List Hv) : lose k (ss.take (i + 1)) hs = lose k [p] (lose k (ss.take i) hs) := by
  rw [take_snoc h, lose_app]
theorem cell_sa (w : World) (p : Addr) (v a b : Value) (t : Nat) : ((w.setCell p v).alloc (.cells #[a, b] t)).drew.cell? ⟨w.heap.size, 0, none⟩ = some a := by
  have := heap_alloc_new (w.setCell p v) (.cells #[a, b] t)
  have e : (w.setCell p v).heap.size = w.heap.size := by simp
  rw [e] at this
  exact cell_of_row _ _ _ _ _ (0, 0) this
theorem cell_saa (w : World) (p p' : Addr) (v v' a b : Value) (t : Nat) : (((w.setCell p v).setCell p' v').alloc (.cells #[a, b] t)).drew.drew.cell? ⟨w.heap.size, 0, none⟩ = some a := by
  have := heap_alloc_new ((w.setCell p v).setCell p' v') (.cells #[a, b] t)
  have e : ((w.setCell p v).setCell p' v').heap.size = w.heap.size := by simp
  rw [e] at this
  exact cell_of_row _ _ _ _ _ (0, 0) this
set_option maxHeartbeats 4000000 in
set_option maxRecDepth 100000 in
theorem Take_any {w : World} {base g gh hc : Nat} {M O : Value} {s : Sh} (B : Bw w base g M gh hc O s) {c : Nat} (hcl : s.hs.length = c) (hc4 : c ≤ 4) {d : Qv} {x : Wk} {b : Nat} (D : Dq w b d x) (ok : d.h.Ok) (bd : ∀ p ∈ x.sto, 0 ≤ p.1 ∧ 0 < p.2 ∧ p.1 + p.2 ≤ 4096)
    (hsl : x.sto.length ≤ 1000000) (hol : s.out.length + x.out.length ≤ 1000000) (hst : s.steps + x.n ≤ 1000000000) {k : Nat} (hk : k < c) :
    Calls Tryd.prog 48 #[.pointer (some ⟨g, 0, none⟩), .int .i64 k, .agg (qA d)] w fun e w' => e = .returned (.tuple #[]) ∧ Bd w' base g (tk s k x) ∧ Below base w w' := by
  obtain ⟨sa, sc, hsto⟩ := (owns_cells D.sto).2.2
  obtain ⟨oa, oc, rfl⟩ := (owns_cells B.out).2.2
  obtain ⟨da, dc, hdo⟩ := (owns_cells D.out).2.2
  obtain ⟨da2, dc2, hdm, _⟩ := D.mem.mem
  have HDO : Hid (d.out = .slice da x.out.length dc) := hdo
  have HDM : Hid (d.m = .slice da2 x.m.length dc2) := hdm
  have hbw : base ≤ w.heap.size := B.base_le
  have g40 : (qA d)[40]? = some (.slice sa x.sto.length sc) := by rw [qA_fld ok 3]; simp [hsto]
  have g37 : (qA d)[37]? = some (.slice da2 x.m.length dc2) := by rw [qA_fld ok 0]; simp [hdm]
  have g38 : (qA d)[38]? = some (.slice da x.out.length dc) := by rw [qA_fld ok 1]; simp [hdo]
  have g39 : (qA d)[39]? = some (.int .i64 x.n) := by rw [qA_fld ok 2]; simp [D.n]
  have HLD : Hid ((hL d.h).length = 37) := hL_len ok
  have HGR : Hid (∀ j u, (hL d.h)[j]? = some u → (qA d)[j]? = some u) := fun j u hj => by
    have : j < 37 := by have := (List.getElem?_eq_some_iff.1 hj).1; rwa [HLD.out] at this
    rw [qA_get ok this]; exact hj
  have HOK : Hid d.h.Ok := ok
  have HD : Hid (Dq w b d x) := D
  have HB : Hid (Bw w base g M gh hc (.slice oa s.out.length oc) s) := B
  have hgl : g < w.heap.size := (Array.getElem?_eq_some_iff.1 B.blk).1
  have hghl : gh < w.heap.size := by obtain ⟨_, e⟩ := B.row.row; exact (Array.getElem?_eq_some_iff.1 e).1
  have hggh : g ≠ gh := by obtain ⟨_, e⟩ := B.row.row; exact ne_of_types B.blk e (by decide)
  have HCL : Hid (s.hs.length = c) := hcl
  have HBD : Hid (∀ p ∈ x.sto, 0 ≤ p.1 ∧ 0 < p.2 ∧ p.1 + p.2 ≤ 4096) := bd
  have HST : Hid (d.sto = .slice sa x.sto.length sc) := hsto
  clear D ok hsto B hcl bd hdo hdm
  generalize qA d = QA at *
  generalize hn : x.sto.length = n at *
  have HN : Hid (x.sto.length = n) := hn
  clear hn
  go_enter Tryd.func48, Tryd.ntmps48
  go_wp2_with fail
  go_loopw [13] (fun i wr => ∃ i' : Nat, i' ≤ n ∧ i = .int .i64 i' ∧ Bw wr base g M gh hc (.slice oa s.out.length oc) ⟨lose k (x.sto.take i') s.hs, s.m, s.out, s.steps⟩ ∧ Ch gh (w.alloc (.cells QA 104)) wr) (fun i _ => n - (intOf i).toNat)
  case atStart =>
    refine ⟨0, Nat.zero_le _, rfl, ?_, Ch.refl _ _⟩
    rw [List.take_zero, lose_nil]
    exact HB.out.of ((Gr.refl _).alloc _)
  case round =>
    obtain ⟨i, hi, rfl, B1, C1⟩ := hrel
    have HB1 : Hid (Bw wr base g M gh hc (.slice oa s.out.length oc) ⟨lose k (x.sto.take i) s.hs, s.m, s.out, s.steps⟩) := B1
    have HC1 : Hid (Ch gh (w.alloc (.cells QA 104)) wr) := C1
    have HD1 : Hid (Dq wr b d x) := (HD.out.gr ((Gr.refl _).alloc _)).ch (HB.out.row.of ((Gr.refl _).alloc _)) C1
    clear B1 C1
    by_cases hlt : i < n
    · obtain ⟨p, hp⟩ : ∃ p, x.sto[i]? = some p := ⟨_, List.getElem?_eq_getElem (by rw [HN.out]; exact hlt)⟩
      have HP : Hid (x.sto[i]? = some p) := hp
      obtain ⟨p0, p1, p2⟩ := HBD.out p (List.mem_of_getElem? hp)
      obtain ⟨sb, cp, hv, _⟩ := owns_at HD1.out.sto (by rw [HN.out]; omega)
      rw [HST.out, HN.out] at hv
      obtain rfl : sa = some ⟨sb, 0, none⟩ := by injection hv
      have OS : wr.ownsRow b 132 2 (.slice (some ⟨sb, 0, none⟩) n sc) n (rgs x.sto) := by have := HD1.out.sto; rw [HST.out, HN.out] at this; exact this
      have s0 : wr.cell? ⟨sb, i * 2, none⟩ = some (.int .u32 p.1) := (OS.cellAt _ (by omega)).trans (rgs_get _ _ _ hp).1
      have s1 : wr.cell? ⟨sb, i * 2 + 1, none⟩ = some (.int .u32 (Wd.lo (p.1 + p.2))) := (OS.cellAt _ (by omega)).trans (rgs_get _ _ _ hp).2
      have HL1 : Hid ((lose k (x.sto.take i) s.hs).length = c) := by unfold Hid; rw [lose_len]; exact HCL.out
      have HLo : Hid (∀ W : World, Gr wr W → Calls Tryd.prog 72 #[.pointer (some ⟨g, 0, none⟩), .int .i64 k, .agg #[.int .u32 p.1, .int .u32 (Wd.lo (p.1 + p.2))]] W fun e w' => ∃ v, e = .returned v ∧ w'.ownsRow W.heap.size 136 2 v (lostU k p (lose k (x.sto.take i) s.hs) c).length (lsC (lostU k p (lose k (x.sto.take i) s.hs) c)) ∧ Gr W w') := fun W G => by
        have := Lost_any (HB1.out.of G) (by show (lose _ _ _).length ≤ 4; rw [HL1.out]; exact hc4) k p p0 p1 p2
        simp only [HL1.out] at this
        exact this
      have HNX : Hid (lose k (x.sto.take (i + 1)) s.hs = drops (lose k (x.sto.take i) s.hs) (lostU k p (lose k (x.sto.take i) s.hs) c)) := by
        unfold Hid
        rw [lose_snoc k hp, ← drops_all, HL1.out]
      have hUl := lostU_len k p (lose k (x.sto.take i) s.hs) c
      have HUlt : Hid (∀ q ∈ lostU k p (lose k (x.sto.take i) s.hs) c, q.1 < c) := lostU_lt k p _ c
      clear hv OS hp
      generalize lose k (x.sto.take i) s.hs = hs at *
      generalize lostU k p hs c = U at *
      generalize Wd.lo (p.1 + p.2) = pt at *
      generalize p.1 = pf at *
      go_wp2_with fail
      refine (HLo.out _ ((Gr.refl _).alloc _)).mono ?_
      rintro e w2 ⟨v, rfl, OL, G2⟩
      obtain ⟨la, lc, rfl⟩ := (owns_cells OL).2.2
      have HG2 : Hid (Gr wr w2) := ((Gr.refl _).alloc _).trans G2
      have HOL : Hid (w2.ownsRow 0 136 2 (.slice la U.length lc) U.length (lsC U)) := ⟨OL.1, OL.2.imp (fun h => h) (fun ⟨a, b, c, h1, h2, h3⟩ => ⟨a, b, c, h1, Nat.zero_le _, h3⟩)⟩
      have HB2 : Hid (Bw w2 base g M gh hc (.slice oa s.out.length oc) ⟨hs, s.m, s.out, s.steps⟩) := HB1.out.of HG2.out
      have HC2 : Hid (Ch gh (w.alloc (.cells QA 104)) w2) := HC1.out.gr HG2.out
      clear OL G2 HLo s0 s1 HB1 HC1 HD1
      go_wp2_with fail
      go_loopw [22] (fun i wq => ∃ m : Nat, m ≤ U.length ∧ i = .int .i64 m ∧ Bw wq base g M gh hc (.slice oa s.out.length oc) ⟨drops hs (U.take m), s.m, s.out, s.steps⟩ ∧ Ch gh w2 wq) (fun i _ => U.length - (intOf i).toNat)
      case atStart =>
        refine ⟨0, Nat.zero_le _, rfl, ?_, Ch.refl _ _⟩
        rw [List.take_zero]
        exact HB2.out
      case round =>
        obtain ⟨m, hm, rfl, B3, C3⟩ := hrel
        have HB3 : Hid (Bw wr base g M gh hc (.slice oa s.out.length oc) ⟨drops hs (U.take m), s.m, s.out, s.steps⟩) := B3
        have HC3 : Hid (Ch gh w2 wr) := C3
        clear B3 C3
        by_cases hlt2 : m < U.length
        · obtain ⟨q, hq⟩ : ∃ q, U[m]? = some q := ⟨_, List.getElem?_eq_getElem hlt2⟩
          obtain ⟨lb, cp2, hv, _⟩ := owns_at HOL.out (by omega)
          obtain rfl : la = some ⟨lb, 0, none⟩ := by injection hv
          have OL3 : wr.ownsRow 0 136 2 (.slice (some ⟨lb, 0, none⟩) U.length lc) U.length (lsC U) := owns_to HOL.out fun k o f hk => ch_keep HB2.out.row HC3.out (by decide) hk
          have l0 : wr.cell? ⟨lb, m * 2, none⟩ = some (.int .i64 q.1) := (OL3.cellAt _ (by omega)).trans (lsC_get _ _ _ hq).1
          have l1 : wr.cell? ⟨lb, m * 2 + 1, none⟩ = some (.int .u32 q.2) := (OL3.cellAt _ (by omega)).trans (lsC_get _ _ _ hq).2
          have HDS : Hid (drops hs (U.take (m + 1)) = (drops hs (U.take m)).set q.1 (((drops hs (U.take m)).getD q.1 hN).hold false 0)) := drops_snoc hs hq
          have hq1 : q.1 < c := HUlt.out q (List.mem_of_getElem? hq)
          have hdl : (drops hs (U.take m)).length = c := by rw [drops_len]; exact HL1.out
          have HDL : Hid ((drops hs (U.take m)).length = c) := hdl
          have hgq : (drops hs (U.take m))[q.1]? = some ((drops hs (U.take m)).getD q.1 hN) := by rw [List.getElem?_eq_getElem (by omega)]; simp [List.getD, show q.1 < (drops hs (U.take m)).length by omega]
          have okq : ((drops hs (U.take m)).getD q.1 hN).Ok := HB3.out.row.ok _ (List.mem_of_getElem? hgq)
          have c33 : wr.cell? ⟨gh, q.1 * 37 + 33, none⟩ = some (.bool ((drops hs (U.take m)).getD q.1 hN).held) := (HB3.out.row.cell hgq (by omega)).trans (hL_fld okq 1)
          have c34 : wr.cell? ⟨gh, q.1 * 37 + 34, none⟩ = some (.int .u32 ((drops hs (U.take m)).getD q.1 hN).heldAt) := (HB3.out.row.cell hgq (by omega)).trans (hL_fld okq 2)
          have f33 : wr.frozen? ⟨gh, q.1 * 37 + 33, none⟩ = false := HB3.out.row.fz _
          have f34 : wr.frozen? ⟨gh, q.1 * 37 + 34, none⟩ = false := HB3.out.row.fz _
          have kg1 : wr.cell? ⟨g, 1, none⟩ = some (.slice (some ⟨gh, 0, none⟩) c hc) := by have := HB3.out.cell 1; simp only [HDL.out] at this; exact this
          have hgw : g < wr.heap.size := (Array.getElem?_eq_some_iff.1 HB3.out.blk).1
          have hghw : gh < wr.heap.size := by obtain ⟨_, e⟩ := HB3.out.row.row; exact (Array.getElem?_eq_some_iff.1 e).1
          have n1 : gh ≠ g := fun e => hggh e.symm
          have n2 : gh ≠ wr.heap.size := by omega
          have HGQ : Hid ((drops hs (U.take m))[q.1]? = some ((drops hs (U.take m)).getD q.1 hN)) := hgq
          have HOQ : Hid ((drops hs (U.take m)).getD q.1 hN).Ok := okq
          clear hq hv OL3 hdl hgq okq
          obtain ⟨q1, q2⟩ := q
          simp only at *
          generalize (drops hs (U.take m)).getD q1 hN = hq at *
          generalize drops hs (U.take m) = hsm at *
          go_wp2_with fail
          go_region_held3 (fun W => W.cell? ⟨g, 1, none⟩ = some (.slice (some ⟨gh, 0, none⟩) c hc) ∧ W.cell? ⟨wr.heap.size, 0, none⟩ = some (.int .i64 q1)) (refine ⟨?_, ?_⟩ <;> first | (go_keep; done) | exact cell_sa _ _ _ _ _ _ | exact cell_saa _ _ _ _ _ _ _ _) (fail)
          go_wp2_with fail
          go_region_held3 (fun W => W.cell? ⟨g, 1, none⟩ = some (.slice (some ⟨gh, 0, none⟩) c hc) ∧ W.cell? ⟨wr.heap.size, 0, none⟩ = some (.int .i64 q1)) (refine ⟨?_, ?_⟩ <;> first | (go_keep; done) | exact cell_saa _ _ _ _ _ _ _ _) (fail)
          go_wp2_with fail
          go_roundw
          case rel =>
            have ok1 : Hv.Ok { hq with held := false } := ⟨HOQ.out.len, HOQ.out.reg, HOQ.out.pc0, HOQ.out.pc1, HOQ.out.at0, HOQ.out.at1⟩
            have R1 := HB3.out.row.set HGQ.out (by omega) (set_held HOQ.out false) ok1
            have hg1 : (hsm.set q1 { hq with held := false })[q1]? = some { hq with held := false } := by rw [List.getElem?_set_self (by rw [HDL.out]; exact hq1)]
            have R2 := R1.set hg1 (by omega) (set_heldAt ok1 0) (h' := hq.hold false 0) (HOQ.out.hold false (x := 0) (by omega) (by omega))
            rw [List.set_set] at R2
            have CH : ∀ o : Obj, Ch gh wr (((wr.setCell ⟨gh, q1 * 37 + 33, none⟩ (.bool false)).setCell ⟨gh, q1 * 37 + 34, none⟩ (.int .u32 0)).alloc o).drew.drew := fun o => Ch.gr (((Ch.refl gh wr).setCell _ _).setCell _ _) (Gr.drew (Gr.drew (Gr.alloc (Gr.refl _) _)))
            refine ⟨m + 1, by omega, by go_num, ?_, HC3.out.trans (CH _)⟩
            rw [HDS.out]
            exact HB3.out.ch (CH _) (R2.of (Gr.drew (Gr.drew (Gr.alloc (Gr.refl _) _)))) (by show (hsm.set q1 _).length = hsm.length; rw [List.length_set])
          case measure => simp [intOf]; omega
        · have HBN : Hid (Bw wr base g M gh hc (.slice oa s.out.length oc) ⟨lose k (x.sto.take (i + 1)) s.hs, s.m, s.out, s.steps⟩) := by
            have := HB3.out
            rw [show m = U.length by omega, List.take_length] at this
            unfold Hid; rw [HNX.out]; exact this
          have HCN : Hid (Ch gh (w.alloc (.cells QA 104)) wr) := HC2.out.trans HC3.out
          clear HB3 HC3 HNX HOL HB2 HC2
          go_wp2_with fail
          go_roundw
          case rel => exact ⟨i + 1, by omega, by go_num, HBN.out, HCN.out⟩
          case measure => simp [intOf]; omega
-- TAIL
    · have HB4 : Hid (Bw wr base g M gh hc (.slice oa s.out.length oc) ⟨lose k x.sto s.hs, s.m, s.out, s.steps⟩) := by
        have := HB1.out
        rw [show i = x.sto.length by rw [HN.out]; omega, List.take_length] at this
        exact this
      have HBX : Hid (wr.heap[w.heap.size]? = some (.cells QA 104 (0, 0))) := (ch_keep (HB.out.row.of ((Gr.refl _).alloc _)) HC1.out (by decide) (heap_alloc_new w _)).trans (heap_alloc_new w _)
      have HL4 : Hid ((lose k x.sto s.hs).length = c) := by unfold Hid; rw [lose_len]; exact HCL.out
      have kg1 : wr.cell? ⟨g, 1, none⟩ = some (.slice (some ⟨gh, 0, none⟩) c hc) := by have := HB4.out.cell 1; simp only [HL4.out] at this; exact this
      have HRG : Hid (wr.rangeAt w.heap.size 0 (hL d.h)) := fun j u hj => by rw [Nat.zero_add, cell_of_row _ _ _ _ _ _ HBX.out]; exact HGR.out j u hj
      have HTH : Hid (wr.there gh (k * 37) 37) := HB4.out.row.there (i := k) (List.getElem?_eq_getElem (by rw [HL4.out]; exact hk))
      have HCA : Hid (Below base w wr) := Below.trans (Below.alloc (Below.refl base w) hbw _) (HC1.out.below HB.out.bh (by simp; omega))
      clear HB1 HC1 HBD
      generalize hh4 : lose k x.sto s.hs = hs4 at *
      have HH4 : Hid (lose k x.sto s.hs = hs4) := hh4
      clear hh4
      go_wp2_with fail
      refine wp_region_held_drew (S := fun W => W.cell? ⟨g, 1, none⟩ = some (.slice (some ⟨gh, 0, none⟩) c hc) ∧ W.rangeAt w.heap.size 0 (hL d.h)) (by kernel_rfl) ?_ (fun hHeld => ?_)
      · exact ⟨kg1, HRG.out⟩
      have HS0 : Hid _ := hHeld
      clear hHeld
      refine wpAnyH_take (i := 0) (v := .pointer (some ⟨g, 0, none⟩)) rfl (by kernel_rfl) (by kernel_rfl) (by kernel_rfl) (fun _ _ _ h => h) (Or.inl ⟨by rfl, fun W hW => by obtain ⟨q0, q1⟩ := hW; go_simp⟩) HS0.out ?_
      simp only [Act.put, List.setIfInBounds_toArray, List.set_cons_zero, List.set_cons_succ]
      refine wpAnyH_take (i := 1) (v := .pointer (some ⟨g, 0, none⟩)) rfl (by kernel_rfl) (by kernel_rfl) (by kernel_rfl) (fun _ _ _ h => h) (Or.inl ⟨by rfl, fun W hW => by obtain ⟨q0, q1⟩ := hW; go_simp⟩) HS0.out ?_
      simp only [Act.put, List.setIfInBounds_toArray, List.set_cons_zero, List.set_cons_succ]
      refine wpAnyH_take (i := 2) (v := .pointer (some ⟨g, 0, none⟩)) rfl (by kernel_rfl) (by kernel_rfl) (by kernel_rfl) (fun _ _ _ h => h) (Or.inl ⟨by rfl, fun W hW => by obtain ⟨q0, q1⟩ := hW; go_simp⟩) HS0.out ?_
      simp only [Act.put, List.setIfInBounds_toArray, List.set_cons_zero, List.set_cons_succ]
      refine wpAnyH_take (i := 3) (v := .pointer (some ⟨g, 0, none⟩)) rfl (by kernel_rfl) (by kernel_rfl) (by kernel_rfl) (fun _ _ _ h => h) (Or.inl ⟨by rfl, fun W hW => by obtain ⟨q0, q1⟩ := hW; go_simp⟩) HS0.out ?_
      simp only [Act.put, List.setIfInBounds_toArray, List.set_cons_zero, List.set_cons_succ]
      refine wpAnyH_take (i := 4) (v := .pointer (some ⟨g, 1, none⟩)) rfl (by kernel_rfl) (by kernel_rfl) (by kernel_rfl) (fun _ _ _ h => h) (Or.inl ⟨by rfl, fun W hW => by obtain ⟨q0, q1⟩ := hW; go_simp⟩) HS0.out ?_
      simp only [Act.put, List.setIfInBounds_toArray, List.set_cons_zero, List.set_cons_succ]
      refine wpAnyH_take (i := 5) (v := .slice (some ⟨gh, 0, none⟩) c hc) rfl (by kernel_rfl) (by kernel_rfl) (by kernel_rfl) (fun _ _ _ h => h) (Or.inl ⟨by rfl, fun W hW => by obtain ⟨q0, q1⟩ := hW; go_simp⟩) HS0.out ?_
      simp only [Act.put, List.setIfInBounds_toArray, List.set_cons_zero, List.set_cons_succ]
      refine wpAnyH_take (i := 6) (v := .int .i64 k) rfl (by kernel_rfl) (by kernel_rfl) (by kernel_rfl) (fun _ _ _ h => h) (Or.inl ⟨by rfl, fun W hW => by obtain ⟨q0, q1⟩ := hW; go_simp⟩) HS0.out ?_
      simp only [Act.put, List.setIfInBounds_toArray, List.set_cons_zero, List.set_cons_succ]
      refine wpAnyH_take (i := 7) (v := .pointer (some ⟨w.heap.size, 0, none⟩)) rfl (by kernel_rfl) (by kernel_rfl) (by kernel_rfl) (fun _ _ _ h => h) (Or.inl ⟨by rfl, fun W hW => by obtain ⟨q0, q1⟩ := hW; go_simp⟩) HS0.out ?_
      simp only [Act.put, List.setIfInBounds_toArray, List.set_cons_zero, List.set_cons_succ]
      refine wpAnyH_take (i := 8) (v := .agg (hL d.h).toArray) rfl (by kernel_rfl) (by kernel_rfl) (by kernel_rfl) (fun _ _ _ h => h) ?hy HS0.out ?_
      case hy => exact yieldsIf_load_mid (by rfl) 34 (.tmp 55) rfl w.heap.size 0 (by simp [Act.eval]) (hL d.h) _ (fun W hW => hW.2) Tryd.underlying34 rfl (by rw [HLD.out]; exact iH)
      simp only [Act.put, List.setIfInBounds_toArray, List.set_cons_zero, List.set_cons_succ]
      refine wpAnyH_take (i := 9) (v := .pointer (some ⟨gh, k * 37, none⟩)) rfl (by kernel_rfl) (by kernel_rfl) (by kernel_rfl) (fun _ _ _ h => h) (Or.inl ⟨by rfl, fun W hW => by obtain ⟨q0, q1⟩ := hW; go_simp⟩) HS0.out ?_
      simp only [Act.put, List.setIfInBounds_toArray, List.set_cons_zero, List.set_cons_succ]
      have C5 : Ch gh wr (wr.drew.setCells gh (k * 37) (hL d.h)) := Ch.setCells (Ch.ofGr (Gr.drew (Gr.refl _))) _ _
      have B5 : Bw (wr.drew.setCells gh (k * 37) (hL d.h)) base g M gh hc (.slice oa s.out.length oc) ⟨hs4.set k d.h, s.m, s.out, s.steps⟩ := HB4.out.ch C5 ((HB4.out.row.of (Gr.drew (Gr.refl _))).put (by rw [HL4.out]; exact hk) HOK.out) (by show (hs4.set k _).length = hs4.length; rw [List.length_set])
      have X5 : (wr.drew.setCells gh (k * 37) (hL d.h)).heap[w.heap.size]? = some (.cells QA 104 (0, 0)) := (ch_keep HB4.out.row C5 (by decide) HBX.out).trans HBX.out
      have D5 : Dq (wr.drew.setCells gh (k * 37) (hL d.h)) b d x := HD1.out.ch HB4.out.row C5
      have L5 : Below base w (wr.drew.setCells gh (k * 37) (hL d.h)) := Below.trans HCA.out (C5.below HB.out.bh HB4.out.base_le)
      refine held_store_mid (i := 10) (by kernel_rfl) rfl rfl 34 (.tmp 57) (.tmp 56) rfl gh (k * 37) (hL d.h).toArray (by simp [Act.eval]) (by simp [Act.eval]) (by rw [List.size_toArray, HLD.out]; exact HTH.out) (by rw [List.size_toArray, HLD.out]; exact iH) (one_hA d.h) ?_ ?_
      · exact ⟨by have := B5.cell 1; simp only [List.length_set, HL4.out] at this; exact this, fun j u hj => by rw [Nat.zero_add, cell_of_row _ _ _ _ _ _ X5]; exact HGR.out j u hj⟩
      clear HS0
      refine wpAnyH_done (by kernel_rfl) ?_ _
      have e0 : (hL d.h).toArray.toList = hL d.h := rfl
      rw [e0]
      clear HTH HRG kg1 C5 HB4 HBX HD1 HCA
      generalize wr.drew.setCells gh (k * 37) (hL d.h) = w5 at *
      have HB5 : Hid (Bw w5 base g M gh hc (.slice oa s.out.length oc) ⟨hs4.set k d.h, s.m, s.out, s.steps⟩) := B5
      have HX5 : Hid (w5.heap[w.heap.size]? = some (.cells QA 104 (0, 0))) := X5
      have HD5 : Hid (Dq w5 b d x) := D5
      have HL5 : Hid (Below base w w5) := L5
      have k0 : w5.cell? ⟨g, 0, none⟩ = some M := B5.cell 0
      have f0 : w5.frozen? ⟨g, 0, none⟩ = false := B5.fz 0
      have m37 : w5.cell? ⟨w.heap.size, 37, none⟩ = some (.slice da2 x.m.length dc2) := (cell_of_row _ _ _ _ _ _ X5).trans g37
      clear B5 X5 D5 L5
      go_wp2_with fail
      have B6 := HB5.out.setM (by have := HD5.out.mem; rw [HDM.out] at this; exact this)
      have X6 := (bw_other HB5.out 0 (.slice da2 x.m.length dc2) (by decide) HX5.out).trans HX5.out
      have D6 : (w5.setCell ⟨g, 0, none⟩ (.slice da2 x.m.length dc2)).ownsRow b 22 1 d.out x.out.length (x.out.map (Value.int .u32)) := owns_to HD5.out.out fun _ _ _ hk => bw_other HB5.out _ _ (by decide) hk
      have L6 : Below base w (w5.setCell ⟨g, 0, none⟩ (.slice da2 x.m.length dc2)) := Below.setCell HL5.out (by exact HB.out.bg) _
      clear HB5 HX5 HD5 HL5 k0 f0 m37
      generalize w5.setCell ⟨g, 0, none⟩ (.slice da2 x.m.length dc2) = w6 at *
      have HB6 : Hid (Bw w6 base g (.slice da2 x.m.length dc2) gh hc (.slice oa s.out.length oc) ⟨hs4.set k d.h, x.m, s.out, s.steps⟩) := B6
      have HX6 : Hid (w6.heap[w.heap.size]? = some (.cells QA 104 (0, 0))) := X6
      have HD6 : Hid (w6.ownsRow b 22 1 (.slice da x.out.length dc) x.out.length (x.out.map (Value.int .u32))) := by rw [HDO.out] at D6; exact D6
      have HL6 : Hid (Below base w w6) := L6
      have k2 : w6.cell? ⟨g, 2, none⟩ = some (.slice oa s.out.length oc) := B6.cell 2
      have m38 : w6.cell? ⟨w.heap.size, 38, none⟩ = some (.slice da x.out.length dc) := (cell_of_row _ _ _ _ _ _ X6).trans g38
      have hb6 : base ≤ w6.heap.size := B6.base_le
      have HO6 : Hid (w6.ownsRow base 22 1 (.slice oa s.out.length oc) s.out.length (s.out.map (Value.int .u32))) := B6.out
      clear B6 X6 D6 L6
      obtain ⟨i0, hi0, hz0, hz1, hz2⟩ := info_parts infoW
      go_region_law (refine step_append_src rfl (.tmp 70) (.tmp 72) rfl Tryd.underlying37 hi0 hz0 hz1 hz2 rfl (by decide) (by simp [Act.eval, Act.put]) (by simp [Act.eval, Act.put]) (owns_gr HO6.out (by repeat (first | exact Gr.refl _ | refine Gr.drew ?_))) (Src.own (owns_gr HD6.out (by repeat (first | exact Gr.refl _ | refine Gr.drew ?_)))) (words_one _) (by unfold maxLen; omega) (by omega) (by exact hb6) ?_; intro v' w7 hown hgrow; obtain ⟨va, vc, rfl⟩ := (owns_cells hown).2.2; have X7 := (grown_keep (owns_gr HO6.out (Gr.drew (Gr.refl _))) hgrow (by decide) (Hr.heap_of_gr (Gr.drew (Gr.refl _)) HX6.out)); rw [Hr.heap_of_gr (Gr.drew (Gr.refl _)) HX6.out] at X7; have HX7 : Hid (w7.heap[w.heap.size]? = some (.cells QA 104 (0, 0))) := X7; rw [← List.map_append, ← List.length_append] at hown; obtain ⟨c2, z2, B7, L7⟩ := (HB6.out.of (Gr.drew (Gr.refl _))).grown hgrow hown; have HB7 : Hid _ := B7; have HL7 : Hid (Below base w _) := Below.trans HL6.out (Below.trans (Below.drew (Below.refl base w6)) L7); clear X7 B7 L7 hown hgrow)
      all_goals
        have B8 := HB7.out
        have L8 := HL7.out
        have X8 : (w7.setCell ⟨g, 2, none⟩ (.slice va (s.out.length + x.out.length) vc)).heap[w.heap.size]? = some (.cells QA 104 (0, 0)) := (heap_setCell_other _ _ _ _ (by show w.heap.size ≠ g; omega)).trans HX7.out
        clear HB7 HL7 HX7 HB6 HX6 HD6 HL6 HO6 k2 m38 c2 z2
        rw [List.length_append] at B8 L8
        generalize w7.setCell ⟨g, 2, none⟩ (.slice va (s.out.length + x.out.length) vc) = w8 at *
        have HB8 : Hid (Bw w8 base g (.slice da2 x.m.length dc2) gh hc (.slice va (s.out.length + x.out.length) vc) ⟨hs4.set k d.h, x.m, s.out ++ x.out, s.steps⟩) := B8
        have HL8 : Hid (Below base w w8) := L8
        have k3 : w8.cell? ⟨g, 3, none⟩ = some (.int .i64 s.steps) := B8.cell 3
        have f3 : w8.frozen? ⟨g, 3, none⟩ = false := B8.fz 3
        have m39 : w8.cell? ⟨w.heap.size, 39, none⟩ = some (.int .i64 x.n) := (cell_of_row _ _ _ _ _ _ X8).trans g39
        clear B8 L8 X8
        go_wp2_with fail
        go_region
      all_goals
        go_end0
        refine ⟨rfl, ?_, ?_⟩
        · have B9 := HB8.out.setN (s.steps + x.n)
          have e9 : tk s k x = ⟨hs4.set k d.h, x.m, s.out ++ x.out, s.steps + x.n⟩ := by unfold tk; rw [HH4.out, HD.out.hh]
          rw [e9]
          rw [Int.natCast_add] at B9
          exact ⟨_, _, _, _, B9.of (Gr.drew (Gr.refl _))⟩
        · exact Below.drew (Below.setCell HL8.out (by exact HB.out.bg) _)
end Go.Proofs.YtfolphjampklpaaDoor.Mc
