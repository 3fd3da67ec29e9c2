/-
  Mb8, Mb9: texts of ours that lie in one file.
-/
import Derived.Test.YtdiofidmlgliiaaDoorK03
import Derived.Deep.RegionWith
/-
  What Board's Take does: what a hart did is made true ('tk').
-/
namespace Go.Proofs.YtdiofidmlgliiaaDoor.Mc
open Go.ChangeShapes Go.WideShapes Go.ChangeAt Go.RowKit Mm Hh Hc
set_option linter.unusedVariables false
set_option linter.unusedSimpArgs false

variable {ty : Nat} {rs : List Value}
theorem rgs_get : ∀ (ss : List (Int × Int)) (i : Nat) (p : Int × Int), ss[i]? = some p → (rgs ss)[i * 2]? = some (.int .u32 p.1) ∧ (rgs ss)[i * 2 + 1]? = some (.int .u32 (Wd.lo (p.1 + p.2)))
  | [], i, q, h => by simp at h
  | p :: r, 0, q, h => by simp at h; subst h; exact ⟨rfl, rfl⟩
  | p :: r, i + 1, q, h => by
    have ih := rgs_get r i q (by simpa using h)
    have e : rgs (p :: r) = [.int .u32 p.1, .int .u32 (Wd.lo (p.1 + p.2))] ++ rgs r := rfl
    rw [e, List.getElem?_append_right (by simp; omega), List.getElem?_append_right (by simp; omega)]
    simp only [List.length_cons, List.length_nil]
    rw [show (i + 1) * 2 - (0 + 1 + 1) = i * 2 by omega, show (i + 1) * 2 + 1 - (0 + 1 + 1) = i * 2 + 1 by omega]
    exact ih
theorem take_snoc {α : Type} {l : List α} {i : Nat} {x : α} (h : l[i]? = some x) : l.take (i + 1) = l.take i ++ [x] := by
  rw [List.take_add_one, h]
  rfl
theorem drops_snoc (hs : List Hv) {U : List (Nat × Int)} {m : Nat} {q : Nat × Int} (h : U[m]? = some q) : drops hs (U.take (m + 1)) = (drops hs (U.take m)).set q.1 (((drops hs (U.take m)).getD q.1 hN).hold false 0) := by
  rw [take_snoc h, drops_app]
  rfl
theorem lose_snoc (k : Nat) {ss : List (Int × Int)} {i : Nat} {p : Int × Int} (h : ss[i]? = some p) (hs : List Hv) : lose k (ss.take (i + 1)) hs = lose k [p] (lose k (ss.take i) hs) := by
  rw [take_snoc h, lose_app]
theorem cell_sa (w : World) (p : Addr) (v a b : Value) (t : Nat) : ((w.setCell p v).alloc (.cells #[a, b] t)).drew.cell? ⟨w.heap.size, 0, none⟩ = some a := by
  have := heap_alloc_new (w.setCell p v) (.cells #[a, b] t)
  have e : (w.setCell p v).heap.size = w.heap.size := by simp
  rw [e] at this
  exact cell_of_row _ _ _ _ _ (0, 0) this
theorem cell_saa (w : World) (p p' : Addr) (v v' a b : Value) (t : Nat) : (((w.setCell p v).setCell p' v').alloc (.cells #[a, b] t)).drew.drew.cell? ⟨w.heap.size, 0, none⟩ = some a := by
  have := heap_alloc_new ((w.setCell p v).setCell p' v') (.cells #[a, b] t)
  have e : ((w.setCell p v).setCell p' v').heap.size = w.heap.size := by simp
  rw [e] at this
  exact cell_of_row _ _ _ _ _ (0, 0) this
set_option maxHeartbeats 4000000 in
set_option maxRecDepth 100000 in
theorem Take_any {w : World} {base g gh hc : Nat} {M O : Value} {s : Sh} (B : Bw ty rs w base g M gh hc O s) {c : Nat} (hcl : s.hs.length = c) (hc4 : c ≤ 4) {d : Qv} {x : Wk} {b : Nat} (D : Dq w b d x) (ok : d.h.Ok) (bd : ∀ p ∈ x.sto, 0 ≤ p.1 ∧ 0 < p.2 ∧ p.1 + p.2 ≤ 4096)
    (hsl : x.sto.length ≤ 1000000) (hol : s.out.length + x.out.length ≤ 1000000) (hst : s.steps + x.n ≤ 1000000000) {k : Nat} (hk : k < c) :
    Calls Tryd.prog 40 #[.pointer (some ⟨g, 0, none⟩), .int .i64 k, .agg (qA d)] w fun e w' => e = .returned (.tuple #[]) ∧ Bd ty rs w' base g (tk s k x) ∧ Fe ty base w w' := by
  obtain ⟨sa, sc, hsto⟩ := (owns_cells D.sto).2.2
  obtain ⟨oa, oc, rfl⟩ := (owns_cells B.out).2.2
  obtain ⟨da, dc, hdo⟩ := (owns_cells D.out).2.2
  obtain ⟨da2, dc2, hdm, _⟩ := D.mem.mem
  have HDO : Hid (d.out = .slice da x.out.length dc) := hdo
  have HDM : Hid (d.m = .slice da2 x.m.length dc2) := hdm
  have hbw : base ≤ w.heap.size := B.base_le
  have g40 : (qA d)[40]? = some (.slice sa x.sto.length sc) := by rw [qA_fld ok 3]; simp [hsto]
  have g37 : (qA d)[37]? = some (.slice da2 x.m.length dc2) := by rw [qA_fld ok 0]; simp [hdm]
  have g38 : (qA d)[38]? = some (.slice da x.out.length dc) := by rw [qA_fld ok 1]; simp [hdo]
  have g39 : (qA d)[39]? = some (.int .i64 x.n) := by rw [qA_fld ok 2]; simp [D.n]
  have HLD : Hid ((hL d.h).length = 37) := hL_len ok
  have HGR : Hid (∀ j u, (hL d.h)[j]? = some u → (qA d)[j]? = some u) := fun j u hj => by
    have : j < 37 := by have := (List.getElem?_eq_some_iff.1 hj).1; rwa [HLD.out] at this
    rw [qA_get ok this]; exact hj
  have HOK : Hid d.h.Ok := ok
  have HD : Hid (Dq w b d x) := D
  have HB : Hid (Bw ty rs w base g M gh hc (.slice oa s.out.length oc) s) := B
  have hgl : g < w.heap.size := B.lt
  have hghl : gh < w.heap.size := by obtain ⟨_, e⟩ := B.row.row; exact (Array.getElem?_eq_some_iff.1 e).1
  have hggh : g ≠ gh := by obtain ⟨_, e⟩ := B.row.row; exact ne_of_types B.blk e B.t3
  have HCL : Hid (s.hs.length = c) := hcl
  have HBD : Hid (∀ p ∈ x.sto, 0 ≤ p.1 ∧ 0 < p.2 ∧ p.1 + p.2 ≤ 4096) := bd
  have HST : Hid (d.sto = .slice sa x.sto.length sc) := hsto
  clear D ok hsto B hcl bd hdo hdm
  generalize qA d = QA at *
  generalize hn : x.sto.length = n at *
  have HN : Hid (x.sto.length = n) := hn
  clear hn
  go_enter Tryd.func40, Tryd.ntmps40
  go_wp2_with fail
  go_loopw [13] (fun i wr => ∃ i' : Nat, i' ≤ n ∧ i = .int .i64 i' ∧ Bw ty rs wr base g M gh hc (.slice oa s.out.length oc) ⟨lose k (x.sto.take i') s.hs, s.m, s.out, s.steps⟩ ∧ Ch gh (w.alloc (.cells QA 101)) wr) (fun i _ => n - (intOf i).toNat)
  case atStart =>
    refine ⟨0, Nat.zero_le _, rfl, ?_, Ch.refl _ _⟩
    rw [List.take_zero, lose_nil]
    exact HB.out.of ((Gr.refl _).alloc _)
  case round =>
    obtain ⟨i, hi, rfl, B1, C1⟩ := hrel
    have HB1 : Hid (Bw ty rs wr base g M gh hc (.slice oa s.out.length oc) ⟨lose k (x.sto.take i) s.hs, s.m, s.out, s.steps⟩) := B1
    have HC1 : Hid (Ch gh (w.alloc (.cells QA 101)) wr) := C1
    have HD1 : Hid (Dq wr b d x) := (HD.out.gr ((Gr.refl _).alloc _)).ch (HB.out.row.of ((Gr.refl _).alloc _)) C1
    clear B1 C1
    by_cases hlt : i < n
    · obtain ⟨p, hp⟩ : ∃ p, x.sto[i]? = some p := ⟨_, List.getElem?_eq_getElem (by rw [HN.out]; exact hlt)⟩
      have HP : Hid (x.sto[i]? = some p) := hp
      obtain ⟨p0, p1, p2⟩ := HBD.out p (List.mem_of_getElem? hp)
      obtain ⟨sb, cp, hv, _⟩ := owns_at HD1.out.sto (by rw [HN.out]; omega)
      rw [HST.out, HN.out] at hv
      obtain rfl : sa = some ⟨sb, 0, none⟩ := by injection hv
      have OS : wr.ownsRow b 143 2 (.slice (some ⟨sb, 0, none⟩) n sc) n (rgs x.sto) := by have := HD1.out.sto; rw [HST.out, HN.out] at this; exact this
      have s0 : wr.cell? ⟨sb, i * 2, none⟩ = some (.int .u32 p.1) := (OS.cellAt _ (by omega)).trans (rgs_get _ _ _ hp).1
      have s1 : wr.cell? ⟨sb, i * 2 + 1, none⟩ = some (.int .u32 (Wd.lo (p.1 + p.2))) := (OS.cellAt _ (by omega)).trans (rgs_get _ _ _ hp).2
      have HL1 : Hid ((lose k (x.sto.take i) s.hs).length = c) := by unfold Hid; rw [lose_len]; exact HCL.out
      have HLo : Hid (∀ W : World, Gr wr W → Calls Tryd.prog 73 #[.pointer (some ⟨g, 0, none⟩), .int .i64 k, .agg #[.int .u32 p.1, .int .u32 (Wd.lo (p.1 + p.2))]] W fun e w' => ∃ v, e = .returned v ∧ w'.ownsRow W.heap.size 88 2 v (lostU k p (lose k (x.sto.take i) s.hs) c).length (lsC (lostU k p (lose k (x.sto.take i) s.hs) c)) ∧ Gr W w') := fun W G => by
        have := Lost_any (HB1.out.of G) (by show (lose _ _ _).length ≤ 4; rw [HL1.out]; exact hc4) k p p0 p1 p2
        simp only [HL1.out] at this
        exact this
      have HNX : Hid (lose k (x.sto.take (i + 1)) s.hs = drops (lose k (x.sto.take i) s.hs) (lostU k p (lose k (x.sto.take i) s.hs) c)) := by
        unfold Hid
        rw [lose_snoc k hp, ← drops_all, HL1.out]
      have hUl := lostU_len k p (lose k (x.sto.take i) s.hs) c
      have HUlt : Hid (∀ q ∈ lostU k p (lose k (x.sto.take i) s.hs) c, q.1 < c) := lostU_lt k p _ c
      clear hv OS hp
      generalize lose k (x.sto.take i) s.hs = hs at *
      generalize lostU k p hs c = U at *
      generalize Wd.lo (p.1 + p.2) = pt at *
      generalize p.1 = pf at *
      go_wp2_with fail
      refine (HLo.out _ ((Gr.refl _).alloc _)).mono ?_
      rintro e w2 ⟨v, rfl, OL, G2⟩
      obtain ⟨la, lc, rfl⟩ := (owns_cells OL).2.2
      have HG2 : Hid (Gr wr w2) := ((Gr.refl _).alloc _).trans G2
      have HOL : Hid (w2.ownsRow 0 88 2 (.slice la U.length lc) U.length (lsC U)) := ⟨OL.1, OL.2.imp (fun h => h) (fun ⟨a, b, c, h1, h2, h3⟩ => ⟨a, b, c, h1, Nat.zero_le _, h3⟩)⟩
      have HB2 : Hid (Bw ty rs w2 base g M gh hc (.slice oa s.out.length oc) ⟨hs, s.m, s.out, s.steps⟩) := HB1.out.of HG2.out
      have HC2 : Hid (Ch gh (w.alloc (.cells QA 101)) w2) := HC1.out.gr HG2.out
      clear OL G2 HLo s0 s1 HB1 HC1 HD1
      go_wp2_with fail
      go_loopw [22] (fun i wq => ∃ m : Nat, m ≤ U.length ∧ i = .int .i64 m ∧ Bw ty rs wq base g M gh hc (.slice oa s.out.length oc) ⟨drops hs (U.take m), s.m, s.out, s.steps⟩ ∧ Ch gh w2 wq) (fun i _ => U.length - (intOf i).toNat)
      case atStart =>
        refine ⟨0, Nat.zero_le _, rfl, ?_, Ch.refl _ _⟩
        rw [List.take_zero]
        exact HB2.out
      case round =>
        obtain ⟨m, hm, rfl, B3, C3⟩ := hrel
        have HB3 : Hid (Bw ty rs wr base g M gh hc (.slice oa s.out.length oc) ⟨drops hs (U.take m), s.m, s.out, s.steps⟩) := B3
        have HC3 : Hid (Ch gh w2 wr) := C3
        clear B3 C3
        by_cases hlt2 : m < U.length
        · obtain ⟨q, hq⟩ : ∃ q, U[m]? = some q := ⟨_, List.getElem?_eq_getElem hlt2⟩
          obtain ⟨lb, cp2, hv, _⟩ := owns_at HOL.out (by omega)
          obtain rfl : la = some ⟨lb, 0, none⟩ := by injection hv
          have OL3 : wr.ownsRow 0 88 2 (.slice (some ⟨lb, 0, none⟩) U.length lc) U.length (lsC U) := owns_to HOL.out fun k o f hk => ch_keep HB2.out.row HC3.out (by decide) hk
          have l0 : wr.cell? ⟨lb, m * 2, none⟩ = some (.int .i64 q.1) := (OL3.cellAt _ (by omega)).trans (lsC_get _ _ _ hq).1
          have l1 : wr.cell? ⟨lb, m * 2 + 1, none⟩ = some (.int .u32 q.2) := (OL3.cellAt _ (by omega)).trans (lsC_get _ _ _ hq).2
          have HDS : Hid (drops hs (U.take (m + 1)) = (drops hs (U.take m)).set q.1 (((drops hs (U.take m)).getD q.1 hN).hold false 0)) := drops_snoc hs hq
          have hq1 : q.1 < c := HUlt.out q (List.mem_of_getElem? hq)
          have hdl : (drops hs (U.take m)).length = c := by rw [drops_len]; exact HL1.out
          have HDL : Hid ((drops hs (U.take m)).length = c) := hdl
          have hgq : (drops hs (U.take m))[q.1]? = some ((drops hs (U.take m)).getD q.1 hN) := by rw [List.getElem?_eq_getElem (by omega)]; simp [List.getD, show q.1 < (drops hs (U.take m)).length by omega]
          have okq : ((drops hs (U.take m)).getD q.1 hN).Ok := HB3.out.row.ok _ (List.mem_of_getElem? hgq)
          have c33 : wr.cell? ⟨gh, q.1 * 37 + 33, none⟩ = some (.bool ((drops hs (U.take m)).getD q.1 hN).held) := (HB3.out.row.cell hgq (by omega)).trans (hL_fld okq 1)
          have c34 : wr.cell? ⟨gh, q.1 * 37 + 34, none⟩ = some (.int .u32 ((drops hs (U.take m)).getD q.1 hN).heldAt) := (HB3.out.row.cell hgq (by omega)).trans (hL_fld okq 2)
          have f33 : wr.frozen? ⟨gh, q.1 * 37 + 33, none⟩ = false := HB3.out.row.fz _
          have f34 : wr.frozen? ⟨gh, q.1 * 37 + 34, none⟩ = false := HB3.out.row.fz _
          have kg1 : wr.cell? ⟨g, 1, none⟩ = some (.slice (some ⟨gh, 0, none⟩) c hc) := by have := HB3.out.c1; simp only [HDL.out] at this; exact this
          have hgw : g < wr.heap.size := (Array.getElem?_eq_some_iff.1 HB3.out.blk).1
          have hghw : gh < wr.heap.size := by obtain ⟨_, e⟩ := HB3.out.row.row; exact (Array.getElem?_eq_some_iff.1 e).1
          have n1 : gh ≠ g := fun e => hggh e.symm
          have n2 : gh ≠ wr.heap.size := by omega
          have HGQ : Hid ((drops hs (U.take m))[q.1]? = some ((drops hs (U.take m)).getD q.1 hN)) := hgq
          have HOQ : Hid ((drops hs (U.take m)).getD q.1 hN).Ok := okq
          clear hq hv OL3 hdl hgq okq
          obtain ⟨q1, q2⟩ := q
          simp only at *
          generalize (drops hs (U.take m)).getD q1 hN = hq at *
          generalize drops hs (U.take m) = hsm at *
          go_wp2_with fail
          go_region_held3 (fun W => W.cell? ⟨g, 1, none⟩ = some (.slice (some ⟨gh, 0, none⟩) c hc) ∧ W.cell? ⟨wr.heap.size, 0, none⟩ = some (.int .i64 q1)) (refine ⟨?_, ?_⟩ <;> first | (go_keep; done) | exact cell_sa _ _ _ _ _ _ | exact cell_saa _ _ _ _ _ _ _ _) (fail)
          go_wp2_with fail
          go_region_held3 (fun W => W.cell? ⟨g, 1, none⟩ = some (.slice (some ⟨gh, 0, none⟩) c hc) ∧ W.cell? ⟨wr.heap.size, 0, none⟩ = some (.int .i64 q1)) (refine ⟨?_, ?_⟩ <;> first | (go_keep; done) | exact cell_saa _ _ _ _ _ _ _ _) (fail)
          go_wp2_with fail
          go_roundw
          case rel =>
            have ok1 : Hv.Ok { hq with held := false } := ⟨HOQ.out.len, HOQ.out.reg, HOQ.out.pc0, HOQ.out.pc1, HOQ.out.at0, HOQ.out.at1⟩
            have R1 := HB3.out.row.set HGQ.out (by omega) (set_held HOQ.out false) ok1
            have hg1 : (hsm.set q1 { hq with held := false })[q1]? = some { hq with held := false } := by rw [List.getElem?_set_self (by rw [HDL.out]; exact hq1)]
            have R2 := R1.set hg1 (by omega) (set_heldAt ok1 0) (h' := hq.hold false 0) (HOQ.out.hold false (x := 0) (by omega) (by omega))
            rw [List.set_set] at R2
            have CH : ∀ o : Obj, Ch gh wr (((wr.setCell ⟨gh, q1 * 37 + 33, none⟩ (.bool false)).setCell ⟨gh, q1 * 37 + 34, none⟩ (.int .u32 0)).alloc o).drew.drew := fun o => Ch.gr (((Ch.refl gh wr).setCell _ _).setCell _ _) (Gr.drew (Gr.drew (Gr.alloc (Gr.refl _) _)))
            refine ⟨m + 1, by omega, by go_num, ?_, HC3.out.trans (CH _)⟩
            rw [HDS.out]
            exact HB3.out.ch (CH _) (R2.of (Gr.drew (Gr.drew (Gr.alloc (Gr.refl _) _)))) (by show (hsm.set q1 _).length = hsm.length; rw [List.length_set])
          case measure => simp [intOf]; omega
        · have HBN : Hid (Bw ty rs wr base g M gh hc (.slice oa s.out.length oc) ⟨lose k (x.sto.take (i + 1)) s.hs, s.m, s.out, s.steps⟩) := by
            have := HB3.out
            rw [show m = U.length by omega, List.take_length] at this
            unfold Hid; rw [HNX.out]; exact this
          have HCN : Hid (Ch gh (w.alloc (.cells QA 101)) wr) := HC2.out.trans HC3.out
          clear HB3 HC3 HNX HOL HB2 HC2
          go_wp2_with fail
          go_roundw
          case rel => exact ⟨i + 1, by omega, by go_num, HBN.out, HCN.out⟩
          case measure => simp [intOf]; omega
-- TAIL
    · have HB4 : Hid (Bw ty rs wr base g M gh hc (.slice oa s.out.length oc) ⟨lose k x.sto s.hs, s.m, s.out, s.steps⟩) := by
        have := HB1.out
        rw [show i = x.sto.length by rw [HN.out]; omega, List.take_length] at this
        exact this
      have HBX : Hid (wr.heap[w.heap.size]? = some (.cells QA 101 (0, 0))) := (ch_keep (HB.out.row.of ((Gr.refl _).alloc _)) HC1.out (by decide) (heap_alloc_new w _)).trans (heap_alloc_new w _)
      have HL4 : Hid ((lose k x.sto s.hs).length = c) := by unfold Hid; rw [lose_len]; exact HCL.out
      have kg1 : wr.cell? ⟨g, 1, none⟩ = some (.slice (some ⟨gh, 0, none⟩) c hc) := by have := HB4.out.c1; simp only [HL4.out] at this; exact this
      have HRG : Hid (wr.rangeAt w.heap.size 0 (hL d.h)) := fun j u hj => by rw [Nat.zero_add, cell_of_row _ _ _ _ _ _ HBX.out]; exact HGR.out j u hj
      have HTH : Hid (wr.there gh (k * 37) 37) := HB4.out.row.there (i := k) (List.getElem?_eq_getElem (by rw [HL4.out]; exact hk))
      have HCA : Hid (Fe ty base w wr) := Fe.trans (Fe.ofGr ((Gr.refl w).alloc _) hbw) (Fe.ch (HB.out.row.of ((Gr.refl _).alloc _)) HC1.out HB.out.bh (by simp; omega))
      clear HB1 HC1 HBD
      generalize hh4 : lose k x.sto s.hs = hs4 at *
      have HH4 : Hid (lose k x.sto s.hs = hs4) := hh4
      clear hh4
      go_wp2_with fail
      refine wp_region_held_drew (S := fun W => W.cell? ⟨g, 1, none⟩ = some (.slice (some ⟨gh, 0, none⟩) c hc) ∧ W.rangeAt w.heap.size 0 (hL d.h)) (by kernel_rfl) ?_ (fun hHeld => ?_)
      · exact ⟨kg1, HRG.out⟩
      have HS0 : Hid _ := hHeld
      clear hHeld
      refine wpAnyH_take (i := 0) (v := .pointer (some ⟨g, 0, none⟩)) rfl (by kernel_rfl) (by kernel_rfl) (by kernel_rfl) (fun _ _ _ h => h) (Or.inl ⟨by rfl, fun W hW => by obtain ⟨q0, q1⟩ := hW; go_simp⟩) HS0.out ?_
      simp only [Act.put, List.setIfInBounds_toArray, List.set_cons_zero, List.set_cons_succ]
      refine wpAnyH_take (i := 1) (v := .pointer (some ⟨g, 0, none⟩)) rfl (by kernel_rfl) (by kernel_rfl) (by kernel_rfl) (fun _ _ _ h => h) (Or.inl ⟨by rfl, fun W hW => by obtain ⟨q0, q1⟩ := hW; go_simp⟩) HS0.out ?_
      simp only [Act.put, List.setIfInBounds_toArray, List.set_cons_zero, List.set_cons_succ]
      refine wpAnyH_take (i := 2) (v := .pointer (some ⟨g, 0, none⟩)) rfl (by kernel_rfl) (by kernel_rfl) (by kernel_rfl) (fun _ _ _ h => h) (Or.inl ⟨by rfl, fun W hW => by obtain ⟨q0, q1⟩ := hW; go_simp⟩) HS0.out ?_
      simp only [Act.put, List.setIfInBounds_toArray, List.set_cons_zero, List.set_cons_succ]
      refine wpAnyH_take (i := 3) (v := .pointer (some ⟨g, 0, none⟩)) rfl (by kernel_rfl) (by kernel_rfl) (by kernel_rfl) (fun _ _ _ h => h) (Or.inl ⟨by rfl, fun W hW => by obtain ⟨q0, q1⟩ := hW; go_simp⟩) HS0.out ?_
      simp only [Act.put, List.setIfInBounds_toArray, List.set_cons_zero, List.set_cons_succ]
      refine wpAnyH_take (i := 4) (v := .pointer (some ⟨g, 1, none⟩)) rfl (by kernel_rfl) (by kernel_rfl) (by kernel_rfl) (fun _ _ _ h => h) (Or.inl ⟨by rfl, fun W hW => by obtain ⟨q0, q1⟩ := hW; go_simp⟩) HS0.out ?_
      simp only [Act.put, List.setIfInBounds_toArray, List.set_cons_zero, List.set_cons_succ]
      refine wpAnyH_take (i := 5) (v := .slice (some ⟨gh, 0, none⟩) c hc) rfl (by kernel_rfl) (by kernel_rfl) (by kernel_rfl) (fun _ _ _ h => h) (Or.inl ⟨by rfl, fun W hW => by obtain ⟨q0, q1⟩ := hW; go_simp⟩) HS0.out ?_
      simp only [Act.put, List.setIfInBounds_toArray, List.set_cons_zero, List.set_cons_succ]
      refine wpAnyH_take (i := 6) (v := .int .i64 k) rfl (by kernel_rfl) (by kernel_rfl) (by kernel_rfl) (fun _ _ _ h => h) (Or.inl ⟨by rfl, fun W hW => by obtain ⟨q0, q1⟩ := hW; go_simp⟩) HS0.out ?_
      simp only [Act.put, List.setIfInBounds_toArray, List.set_cons_zero, List.set_cons_succ]
      refine wpAnyH_take (i := 7) (v := .pointer (some ⟨w.heap.size, 0, none⟩)) rfl (by kernel_rfl) (by kernel_rfl) (by kernel_rfl) (fun _ _ _ h => h) (Or.inl ⟨by rfl, fun W hW => by obtain ⟨q0, q1⟩ := hW; go_simp⟩) HS0.out ?_
      simp only [Act.put, List.setIfInBounds_toArray, List.set_cons_zero, List.set_cons_succ]
      refine wpAnyH_take (i := 8) (v := .agg (hL d.h).toArray) rfl (by kernel_rfl) (by kernel_rfl) (by kernel_rfl) (fun _ _ _ h => h) ?hy HS0.out ?_
      case hy => exact yieldsIf_load_mid (by rfl) 70 (.tmp 55) rfl w.heap.size 0 (by simp [Act.eval]) (hL d.h) _ (fun W hW => hW.2) Tryd.underlying70 rfl (by rw [HLD.out]; exact iH)
      simp only [Act.put, List.setIfInBounds_toArray, List.set_cons_zero, List.set_cons_succ]
      refine wpAnyH_take (i := 9) (v := .pointer (some ⟨gh, k * 37, none⟩)) rfl (by kernel_rfl) (by kernel_rfl) (by kernel_rfl) (fun _ _ _ h => h) (Or.inl ⟨by rfl, fun W hW => by obtain ⟨q0, q1⟩ := hW; go_simp⟩) HS0.out ?_
      simp only [Act.put, List.setIfInBounds_toArray, List.set_cons_zero, List.set_cons_succ]
      have C5 : Ch gh wr (wr.drew.setCells gh (k * 37) (hL d.h)) := Ch.setCells (Ch.ofGr (Gr.drew (Gr.refl _))) _ _
      have B5 : Bw ty rs (wr.drew.setCells gh (k * 37) (hL d.h)) base g M gh hc (.slice oa s.out.length oc) ⟨hs4.set k d.h, s.m, s.out, s.steps⟩ := HB4.out.ch C5 ((HB4.out.row.of (Gr.drew (Gr.refl _))).put (by rw [HL4.out]; exact hk) HOK.out) (by show (hs4.set k _).length = hs4.length; rw [List.length_set])
      have X5 : (wr.drew.setCells gh (k * 37) (hL d.h)).heap[w.heap.size]? = some (.cells QA 101 (0, 0)) := (ch_keep HB4.out.row C5 (by decide) HBX.out).trans HBX.out
      have D5 : Dq (wr.drew.setCells gh (k * 37) (hL d.h)) b d x := HD1.out.ch HB4.out.row C5
      have L5 : Fe ty base w (wr.drew.setCells gh (k * 37) (hL d.h)) := Fe.trans HCA.out (Fe.ch HB4.out.row C5 HB.out.bh HB4.out.base_le)
      refine held_store_mid (i := 10) (by kernel_rfl) rfl rfl 70 (.tmp 57) (.tmp 56) rfl gh (k * 37) (hL d.h).toArray (by simp [Act.eval]) (by simp [Act.eval]) (by rw [List.size_toArray, HLD.out]; exact HTH.out) (by rw [List.size_toArray, HLD.out]; exact iH) (one_hA d.h) ?_ ?_
      · exact ⟨by have := B5.c1; simp only [List.length_set, HL4.out] at this; exact this, fun j u hj => by rw [Nat.zero_add, cell_of_row _ _ _ _ _ _ X5]; exact HGR.out j u hj⟩
      clear HS0
      refine wpAnyH_done (by kernel_rfl) ?_ _
      have e0 : (hL d.h).toArray.toList = hL d.h := rfl
      rw [e0]
      clear HTH HRG kg1 C5 HB4 HBX HD1 HCA
      generalize wr.drew.setCells gh (k * 37) (hL d.h) = w5 at *
      have HB5 : Hid (Bw ty rs w5 base g M gh hc (.slice oa s.out.length oc) ⟨hs4.set k d.h, s.m, s.out, s.steps⟩) := B5
      have HX5 : Hid (w5.heap[w.heap.size]? = some (.cells QA 101 (0, 0))) := X5
      have HD5 : Hid (Dq w5 b d x) := D5
      have HL5 : Hid (Fe ty base w w5) := L5
      have k0 : w5.cell? ⟨g, 0, none⟩ = some M := B5.c0
      have f0 : w5.frozen? ⟨g, 0, none⟩ = false := B5.fz 0
      have m37 : w5.cell? ⟨w.heap.size, 37, none⟩ = some (.slice da2 x.m.length dc2) := (cell_of_row _ _ _ _ _ _ X5).trans g37
      clear B5 X5 D5 L5
      go_wp2_with fail
      have B6 := HB5.out.setM (by have := HD5.out.mem; rw [HDM.out] at this; exact this)
      have X6 : (w5.setCell ⟨g, 0, none⟩ (.slice da2 x.m.length dc2)).heap[w.heap.size]? = some (.cells QA 101 (0, 0)) := (heap_setCell_other _ _ _ _ (by show w.heap.size ≠ g; omega)).trans HX5.out
      have D6 : (w5.setCell ⟨g, 0, none⟩ (.slice da2 x.m.length dc2)).ownsRow b 59 1 d.out x.out.length (x.out.map (Value.int .u32)) := owns_to HD5.out.out fun _ _ _ hk => bw_other HB5.out _ _ HB.out.t2.symm hk
      have L6 : Fe ty base w (w5.setCell ⟨g, 0, none⟩ (.slice da2 x.m.length dc2)) := Fe.setCell HL5.out HB5.out.blk HB.out.bg _ _
      clear HB5 HX5 HD5 HL5 k0 f0 m37
      generalize w5.setCell ⟨g, 0, none⟩ (.slice da2 x.m.length dc2) = w6 at *
      have HB6 : Hid (Bw ty rs w6 base g (.slice da2 x.m.length dc2) gh hc (.slice oa s.out.length oc) ⟨hs4.set k d.h, x.m, s.out, s.steps⟩) := B6
      have HX6 : Hid (w6.heap[w.heap.size]? = some (.cells QA 101 (0, 0))) := X6
      have HD6 : Hid (w6.ownsRow b 59 1 (.slice da x.out.length dc) x.out.length (x.out.map (Value.int .u32))) := by rw [HDO.out] at D6; exact D6
      have HL6 : Hid (Fe ty base w w6) := L6
      have k2 : w6.cell? ⟨g, 2, none⟩ = some (.slice oa s.out.length oc) := B6.c2
      have m38 : w6.cell? ⟨w.heap.size, 38, none⟩ = some (.slice da x.out.length dc) := (cell_of_row _ _ _ _ _ _ X6).trans g38
      have hb6 : base ≤ w6.heap.size := B6.base_le
      have HO6 : Hid (w6.ownsRow base 59 1 (.slice oa s.out.length oc) s.out.length (s.out.map (Value.int .u32))) := B6.out
      clear B6 X6 D6 L6
      obtain ⟨i0, hi0, hz0, hz1, hz2⟩ := info_parts infoW
      go_region_law (refine step_append_src rfl (.tmp 70) (.tmp 72) rfl Tryd.underlying38 hi0 hz0 hz1 hz2 rfl (by decide) (by simp [Act.eval, Act.put]) (by simp [Act.eval, Act.put]) (owns_gr HO6.out (by repeat (first | exact Gr.refl _ | refine Gr.drew ?_))) (Src.own (owns_gr HD6.out (by repeat (first | exact Gr.refl _ | refine Gr.drew ?_)))) (words_one _) (by unfold maxLen; omega) (by omega) (by exact hb6) ?_; intro v' w7 hown hgrow; obtain ⟨va, vc, rfl⟩ := (owns_cells hown).2.2; have X7 := (grown_keep (owns_gr HO6.out (Gr.drew (Gr.refl _))) hgrow (by decide) (Hr.heap_of_gr (Gr.drew (Gr.refl _)) HX6.out)); rw [Hr.heap_of_gr (Gr.drew (Gr.refl _)) HX6.out] at X7; have HX7 : Hid (w7.heap[w.heap.size]? = some (.cells QA 101 (0, 0))) := X7; rw [← List.map_append, ← List.length_append] at hown; obtain ⟨c2, z2, B7, L7⟩ := (HB6.out.of (Gr.drew (Gr.refl _))).grown hgrow hown; have HB7 : Hid _ := B7; have HL7 : Hid (Fe ty base w _) := Fe.trans HL6.out (Fe.trans (Fe.drew (Fe.refl base w6)) L7); clear X7 B7 L7 hown hgrow)
      all_goals
        have B8 := HB7.out
        have L8 := HL7.out
        have X8 : (w7.setCell ⟨g, 2, none⟩ (.slice va (s.out.length + x.out.length) vc)).heap[w.heap.size]? = some (.cells QA 101 (0, 0)) := (heap_setCell_other _ _ _ _ (by show w.heap.size ≠ g; omega)).trans HX7.out
        clear HB7 HL7 HX7 HB6 HX6 HD6 HL6 HO6 k2 m38 c2 z2
        rw [List.length_append] at B8 L8
        generalize w7.setCell ⟨g, 2, none⟩ (.slice va (s.out.length + x.out.length) vc) = w8 at *
        have HB8 : Hid (Bw ty rs w8 base g (.slice da2 x.m.length dc2) gh hc (.slice va (s.out.length + x.out.length) vc) ⟨hs4.set k d.h, x.m, s.out ++ x.out, s.steps⟩) := B8
        have HL8 : Hid (Fe ty base w w8) := L8
        have k3 : w8.cell? ⟨g, 3, none⟩ = some (.int .i64 s.steps) := B8.c3
        have f3 : w8.frozen? ⟨g, 3, none⟩ = false := B8.fz 3
        have m39 : w8.cell? ⟨w.heap.size, 39, none⟩ = some (.int .i64 x.n) := (cell_of_row _ _ _ _ _ _ X8).trans g39
        clear B8 L8 X8
        go_wp2_with fail
        go_region
      all_goals
        go_end0
        refine ⟨rfl, ?_, ?_⟩
        · have B9 := HB8.out.setN (s.steps + x.n)
          have e9 : tk s k x = ⟨hs4.set k d.h, x.m, s.out ++ x.out, s.steps + x.n⟩ := by unfold tk; rw [HH4.out, HD.out.hh]
          rw [e9]
          rw [Int.natCast_add] at B9
          exact ⟨_, _, _, _, B9.of (Gr.drew (Gr.refl _))⟩
        · exact Fe.drew (Fe.setCell HL8.out HB8.out.blk HB.out.bg _ _)
end Go.Proofs.YtdiofidmlgliiaaDoor.Mc
/-
  What package machine's Run answers: how a machine runs ('play'), or what is wrong.
-/
namespace Go.Proofs.YtdiofidmlgliiaaDoor.Mc
open Go.ChangeShapes Go.WideShapes Go.ChangeAt Go.RowKit Mm Hh Hc
set_option linter.unusedVariables false
set_option linter.unusedSimpArgs false

theorem wk_ok {m : Nat} : ∀ (n : Nat) {x : Wk}, WOk x m → WOk (wk x n) m ∧ (wk x n).n ≤ x.n + n
  | 0, x, o => ⟨o, Nat.le_refl _⟩
  | n + 1, x, o => by
    unfold wk
    split
    · rename_i h
      have := wk_ok n (wk1_ok o h)
      refine ⟨this.1, ?_⟩
      have h2 := this.2
      have : (wk1 x).n = x.n + 1 := rfl
      omega
    · exact ⟨o, by omega⟩
/-- What came out is no more than the steps; these are at most t. -/
def Few (s : Sh) (t : Nat) : Prop := s.out.length ≤ s.steps ∧ s.steps ≤ t
theorem tk_few {s : Sh} {t m n k : Nat} {x : Wk} (f : Few s t) (o : WOk x m) (h : x.n ≤ n) : Few (tk s k x) (t + n) := by
  unfold Few tk at *
  have := o.out
  simp only [List.length_append]
  omega
/-- A script of picks that may be, as numbers. -/
def nums (ps : List (Int × Int)) : List (Nat × Nat) := ps.map fun p => (p.1.toNat, p.2.toNat)
theorem nums_get {ps : List (Int × Int)} {j : Nat} {p : Int × Int} (h : ps[j]? = some p) : (nums ps).take (j + 1) = (nums ps).take j ++ [(p.1.toNat, p.2.toNat)] := by
  refine take_snoc ?_
  unfold nums
  rw [List.getElem?_map, h]
  rfl
theorem wrong_ok {m : List UInt8} {hs : List Hv} {ps : List (Int × Int)} (h : wrong m hs ps = 0) : m.length ≤ 4096 ∧ 1 ≤ hs.length ∧ hs.length ≤ 4 ∧ (∀ h ∈ hs, may h = true) ∧ ps.length ≤ 300 ∧ ∀ p ∈ ps, 0 ≤ p.1 ∧ p.1 < hs.length ∧ 0 ≤ p.2 ∧ p.2 ≤ 400 := by
  unfold wrong at h
  split at h
  · omega
  split at h
  · omega
  split at h
  · omega
  split at h
  · omega
  rename_i h1 h2 h3 h4
  refine ⟨by omega, by omega, by omega, ?_, by omega, fun p hp => ?_⟩
  · simpa using h2
  · have := (List.all_eq_true.1 (by simpa using h4)) p hp
    simpa [pickOk] using this
theorem HRow.lt {w : World} {g : Nat} {hs : List Hv} (r : HRow w g hs) : g < w.heap.size := by
  obtain ⟨_, e⟩ := r.row; exact (Array.getElem?_eq_some_iff.1 e).1
theorem HRow.hs {w : World} {g c : Nat} {hs : List Hv} (r : HRow w g hs) (h : hs.length = c) : Hs w (some ⟨g, 0, none⟩) c hs :=
  ⟨h, r.ok, fun _ => ⟨g, 0, rfl, r.lt, fun i q hq => by rw [Nat.zero_add]; exact r.range hq⟩⟩
/-- In world w, the struct v (api.Shown) reads as S: a machine of c harts and mn bytes, what came out, steps. -/
def Shn (w : World) (v : Value) (c mn : Nat) (S : Sh) : Prop := ∃ ma mc ha hc oa oc, v = .agg #[.slice ma mn mc, .slice ha c hc, .slice oa S.out.length oc, .int .i64 S.steps] ∧ Mem w ma mn S.m ∧ (ma = none → mc = 0) ∧ Hs w ha c S.hs ∧ Wm w oa S.out.length S.out ∧ (oa = none → oc = 0)
theorem Shn.of {w w' : World} {v : Value} {c mn : Nat} {S : Sh} (h : Shn w v c mn S) (G : Gr w w') : Shn w' v c mn S := by
  obtain ⟨ma, mc, ha, hc, oa, oc, e, h1, h2, h3, h4, h5⟩ := h
  exact ⟨ma, mc, ha, hc, oa, oc, e, h1.of G, h2, h3.of G, h4.of G, h5⟩
theorem own_cap {w : World} {a : Option Addr} {n c : Nat} {l : List UInt8} (h : Own w 0 (.slice a n c) l) : a = none → c = 0 := by
  rintro rfl
  rcases h with ⟨h, _⟩ | ⟨k, cap, h, _⟩
  · injection h
  · cases h
theorem owns_cap {w : World} {base e sz n c : Nat} {a : Option Addr} {xs : List Value} (h : w.ownsRow base e sz (.slice a n c) n xs) : a = none → c = 0 := by
  rintro rfl
  rcases h.2 with ⟨h, _⟩ | ⟨g, cap, cur, h, _⟩
  · injection h
  · cases h
theorem gr_trans2 {a b c : World} {n : Nat} (h : Gr a b) (k : Below n b c) (hn : a.heap.size ≤ n) : Gr a c := Below.trans h (Below.mono k hn)
theorem shn_own {w : World} {va oa : Option Addr} {vc gh hc oc c mn base : Nat} {S : Sh} (h1 : Own w 0 (.slice va mn vc) S.m) (hm : S.m.length = mn) (h2 : HRow w gh S.hs) (hl : S.hs.length = c) (h3 : w.ownsRow base 59 1 (.slice oa S.out.length oc) S.out.length (S.out.map (Value.int .u32))) :
    Shn w (.agg #[.slice va mn vc, .slice (some ⟨gh, 0, none⟩) c hc, .slice oa S.out.length oc, .int .i64 S.steps]) c mn S := by
  obtain ⟨a, b, e, M⟩ := h1.mem
  obtain ⟨a2, b2, e2, W⟩ := wm_own rfl h3
  injection e with e3 e4 e5
  injection e2 with e6 e7 e8
  subst e3 e6
  rw [hm] at M
  exact ⟨_, _, _, _, _, _, rfl, M, own_cap h1, h2.hs hl, W, owns_cap h3⟩
theorem iS : (Tryd.prog.info? 40).map (·.size) = some 4 := by kernel_rfl

set_option maxHeartbeats 1000000 in
set_option maxRecDepth 100000 in
theorem Run_no {ma ha pa : Option Addr} {hn pn : Nat} (mc hc pc : Nat) {m : List UInt8} {hs : List Hv} {ps : List (Int × Int)} {w : World} (mn : Nat) (hmn : m.length = mn) (H : Hs w ha hn hs) (P : Ps w pa pn ps) (b1 : mn ≤ 140737488351232) (b2 : hn ≤ 140737488351232) (b3 : pn ≤ 140737488351232) (hno : ¬ wrong m hs ps = 0) :
    Calls Tryd.prog 20 #[.agg #[.slice ma mn mc, .slice ha hn hc], .slice pa pn pc] w fun e w' => e = .returned (.tuple #[.agg #[.slice none 0 0, .slice none 0 0, .slice none 0 0, .int .i64 0], .int .i64 (wrong m hs ps)]) ∧ Gr w w' := by
  have HM : Hid (∀ W : World, Gr w W → Calls Tryd.prog 28 #[.agg #[.slice ma mn mc, .slice ha hn hc], .slice pa pn pc] W fun e w' => e = .returned (.tuple #[.agg #[.slice none 0 0, .slice none 0 0, .slice none 0 0, .int .i64 0], .int .i64 (wrong m hs ps)]) ∧ Gr W w') := fun W G => NewBoard_no mc hc pc mn hmn (H.of G) (P.of G) b1 b2 b3 hno
  clear H P hmn
  generalize wrong m hs ps = E at *
  have hE : (E != 0) = true := by simpa using hno
  clear hno
  go_enter Tryd.func20, Tryd.ntmps20
  go_wp2_with fail
  refine (HM.out _ (((Gr.refl _).alloc _).alloc _)).mono ?_
  rintro e w1 ⟨rfl, G1⟩
  have HG1 : Hid (Gr w w1) := (((Gr.refl _).alloc _).alloc _).trans G1
  have HB : Hid (w1.heap[w.heap.size + 1]? = some (.cells #[.slice none 0 0, .slice none 0 0, .slice none 0 0, .int .i64 0] 40 (0, 0))) := (two_of G1).2
  have hlt : w.heap.size + 1 < w1.heap.size := (Array.getElem?_eq_some_iff.1 HB.out).1
  clear G1 HM
  have HI : Hid ((Tryd.prog.info? 40).map (·.size) = some 4) := iS
  have HB2 : Hid (∀ Y : Array Value, (w1.alloc (.cells Y 72)).heap[w.heap.size + 1]? = some (.cells #[.slice none 0 0, .slice none 0 0, .slice none 0 0, .int .i64 0] 40 (0, 0))) := fun Y => Hr.heap_of_gr ((Gr.refl _).alloc _) HB.out
  go_wp2_with (refine wpList_store_row rfl 40 _ _ rfl (w.heap.size + 1) #[.slice none 0 0, .slice none 0 0, .slice none 0 0, .int .i64 0] rfl rfl 40 _ ?hb HI.out rfl (by kernel_rfl) ?_; (case hb => exact HB2.out _))
  refine bodyPost_ret (v := .tuple #[.agg _, .int .i64 E]) (Hr.results_cell_tmp' Tryd.results20 _ _ _ _ _ (0, 0) _ _ rfl rfl (setRow_heap _ _ _ _ _ (0, 0) (HB2.out _)) Tryd.underlying40 rfl HI.out) rfl ⟨rfl, ?_⟩
  exact gr_setRow (HG1.out.alloc _) (Nat.le_succ _) _

set_option maxHeartbeats 4000000 in
set_option maxRecDepth 100000 in
theorem Run_yes {ma ha pa : Option Addr} {hn pn : Nat} (mc hc pc : Nat) {m : List UInt8} {hs : List Hv} {ps : List (Int × Int)} {w : World} (mn : Nat) (T : TT w w.heap.size) (M : Mem w ma mn m) (hcap : ma = none → mc = 0) (H : Hs w ha hn hs) (P : Ps w pa pn ps) (hy : wrong m hs ps = 0) :
    Calls Tryd.prog 20 #[.agg #[.slice ma mn mc, .slice ha hn hc], .slice pa pn pc] w fun e w' => ∃ v, e = .returned (.tuple #[v, .int .i64 0]) ∧ Shn w' v hn mn (play ⟨hs, m, [], 0⟩ (nums ps)) ∧ Gr w w' := by
  obtain ⟨b1, b2, b4, hmay, b3, hpk⟩ := wrong_ok hy
  have hml := M.len
  have hhl := H.len
  have hpl := P.len
  have HN : Hid (∀ W : World, Gr w W → Calls Tryd.prog 28 #[.agg #[.slice ma mn mc, .slice ha hn hc], .slice pa pn pc] W fun e w' => ∃ a c gh hc, e = .returned (.tuple #[.agg #[.slice a mn c, .slice (some ⟨gh, 0, none⟩) hn hc, .slice none 0 0, .int .i64 0], .int .i64 0]) ∧ Own w' 0 (.slice a mn c) m ∧ W.heap.size ≤ gh ∧ HRow w' gh hs ∧ Gr W w') := fun W G => NewBoard_yes mc hc pc mn (M.of G) hcap (H.of G) (P.of G) (by omega) hy (by omega) (by omega) (by omega)
  have F0 : Fit ⟨hs, m, [], 0⟩ hn mn := ⟨hhl, hml, fun h hm => ⟨H.ok h hm, hmay h hm⟩⟩
  have HF0 : Hid (Fit ⟨hs, m, [], 0⟩ hn mn) := F0
  have HT : Hid (TT w w.heap.size) := T
  have HP : Hid (Ps w pa pn ps) := P
  have HPL : Hid (ps.length = pn) := hpl
  have HPK : Hid (∀ p ∈ ps, 0 ≤ p.1 ∧ p.1 < hn ∧ 0 ≤ p.2 ∧ p.2 ≤ 400) := by rw [hhl] at hpk; exact hpk
  have HHL : Hid (hs.length = hn) := hhl
  have HML : Hid (m.length = mn) := hml
  have c4 : hn ≤ 4 := by omega
  have m4 : mn ≤ 4096 := by omega
  have p4 : pn ≤ 300 := by omega
  clear M H P hy hcap T F0 hmay hpk hml hhl hpl b1 b2 b4 b3
  go_enter Tryd.func20, Tryd.ntmps20
  go_wp2_with fail
  refine (HN.out _ (((Gr.refl _).alloc _).alloc _)).mono ?_
  rintro e w1 ⟨a1, c1, gh, hc1, rfl, O1, hgh, R1, G1⟩
  have HG1 : Hid (Gr w w1) := (((Gr.refl _).alloc _).alloc _).trans G1
  have HS1 : Hid (w1.heap[w.heap.size + 1]? = some (.cells #[.slice none 0 0, .slice none 0 0, .slice none 0 0, .int .i64 0] 40 (0, 0))) := (two_of G1).2
  have hlt : w.heap.size + 1 < w1.heap.size := (Array.getElem?_eq_some_iff.1 HS1.out).1
  have hgh2 : w.heap.size + 2 ≤ gh := by simpa using hgh
  have HO1 : Hid (Own w1 0 (.slice a1 mn c1) m) := O1
  have HR1 : Hid (HRow w1 gh hs) := R1
  have HB1 : Hid (∀ Y : Array Value, Bw 72 [] ((w1.alloc (.cells Y 72)).setRow w1.heap.size #[.slice a1 mn c1, .slice (some ⟨gh, 0, none⟩) hn hc1, .slice none 0 0, .int .i64 0]) (w.heap.size + 2) w1.heap.size (.slice a1 mn c1) gh hc1 (.slice none 0 0) ⟨hs, m, [], 0⟩) := fun Y => by
    have G : Gr w1 ((w1.alloc (.cells Y 72)).setRow w1.heap.size #[.slice a1 mn c1, .slice (some ⟨gh, 0, none⟩) hn hc1, .slice none 0 0, .int .i64 0]) := gr_setRow ((Gr.refl _).alloc _) (Nat.le_refl _) _
    refine ⟨by decide, by decide, by decide, by omega, ?_, own_gr HO1.out G, hgh2, HR1.out.of G, World.ownsRow_nil _ _ _ _⟩
    show _ = some (Obj.cells #[.slice a1 mn c1, .slice (some ⟨gh, 0, none⟩) hs.length hc1, .slice none 0 0, .int .i64 ((0 : Nat) : Int)] 72 (0, 0))
    rw [HHL.out]
    exact setRow_heap _ _ _ _ _ (0, 0) (heap_alloc_new w1 _)
  have HI : Hid ((Tryd.prog.info? 72).map (·.size) = some 4) := iB
  clear O1 R1 G1 hgh HN
  go_wp2_with (refine wpList_store_row rfl 72 _ _ rfl w1.heap.size #[.slice a1 mn c1, .slice (some ⟨gh, 0, none⟩) hn hc1, .slice none 0 0, .int .i64 0] rfl rfl 72 _ (heap_alloc_new w1 _) HI.out rfl (one_bd _ _ _ _ _ _ _ _ _ _) ?_)
  go_loopw [22] (fun i wr => ∃ j : Nat, j ≤ pn ∧ i = .int .i64 j ∧ Bd 72 [] wr (w.heap.size + 2) w1.heap.size (play ⟨hs, m, [], 0⟩ ((nums ps).take j)) ∧ Few (play ⟨hs, m, [], 0⟩ ((nums ps).take j)) (400 * j) ∧ Below (w.heap.size + 2) w1 wr) (fun i _ => pn - (intOf i).toNat)
  case atStart =>
    refine ⟨0, Nat.zero_le _, rfl, ?_, ⟨Nat.le_refl _, Nat.le_refl _⟩, ?_⟩
    · exact ⟨_, _, _, _, HB1.out _⟩
    · exact Below.mono (gr_setRow ((Gr.refl w1).alloc _) (Nat.le_refl _) _) (by omega)
  case round =>
    obtain ⟨j, hj, rfl, B, fw, L⟩ := hrel
    have HB : Hid (Bd 72 [] wr (w.heap.size + 2) w1.heap.size (play ⟨hs, m, [], 0⟩ ((nums ps).take j))) := B
    have HFW : Hid (Few (play ⟨hs, m, [], 0⟩ ((nums ps).take j)) (400 * j)) := fw
    have HL : Hid (Below (w.heap.size + 2) w1 wr) := L
    have HGW : Hid (Gr w wr) := gr_trans2 HG1.out L (by omega)
    clear B fw L HB1
    by_cases hlt2 : j < pn
    · obtain ⟨p, hp⟩ : ∃ p, ps[j]? = some p := ⟨_, List.getElem?_eq_getElem (by rw [HPL.out]; exact hlt2)⟩
      obtain ⟨z0, z1, z2, z3⟩ := HPK.out p (List.mem_of_getElem? hp)
      obtain ⟨b', o', rfl, hb', hcell'⟩ := HP.out.spot (by omega)
      have q0 : wr.cell? ⟨b', o' + j * 2, none⟩ = some (.int .i64 p.1) := (HGW.out.cell _ (by exact hb')).trans (hcell' j p hp).1
      have q1 : wr.cell? ⟨b', o' + j * 2 + 1, none⟩ = some (.int .i64 p.2) := (HGW.out.cell _ (by exact hb')).trans (hcell' j p hp).2
      have HTK : Hid ((nums ps).take (j + 1) = (nums ps).take j ++ [(p.1.toNat, p.2.toNat)]) := nums_get hp
      have HFs : Hid (Fit (play ⟨hs, m, [], 0⟩ ((nums ps).take j)) hn mn) := play_fit _ (fun q hq => by
        obtain ⟨r, hr, rfl⟩ := List.mem_map.1 (List.mem_of_mem_take hq)
        have := HPK.out r hr
        show r.1.toNat < hn
        omega) HF0.out
      clear hp hcell'
      obtain ⟨p1, p2⟩ := p
      simp only at *
      obtain ⟨k, rfl⟩ := Int.eq_ofNat_of_zero_le z0
      obtain ⟨n, rfl⟩ := Int.eq_ofNat_of_zero_le z2
      simp only [Int.toNat_natCast] at HTK
      have hk : k < hn := by omega
      have hn4 : n ≤ 400 := by omega
      have HNX : Hid (play ⟨hs, m, [], 0⟩ ((nums ps).take (j + 1)) = tk (play ⟨hs, m, [], 0⟩ ((nums ps).take j)) k (wk (w0 (play ⟨hs, m, [], 0⟩ ((nums ps).take j)) k) n)) := by
        unfold Hid
        rw [HTK.out, play_app, play_cons]
        exact runs_wk (by rw [HFs.out.len]; exact hk) n
      have HX := wk_ok n (w0_ok HFs.out hk)
      generalize hS : play ⟨hs, m, [], 0⟩ ((nums ps).take j) = s at *
      clear hS z0 z1 z2 z3 HTK
      obtain ⟨Mv, gh', hc', Ov, B⟩ := HB.out
      have HXo : Hid (WOk (wk (w0 s k) n) mn) := HX.1
      have HXn : Hid ((wk (w0 s k) n).n ≤ n) := by have := HX.2; have e : (w0 s k).n = 0 := rfl; unfold Hid; omega
      have HWk : Hid (∀ W : World, Gr wr W → Calls Tryd.prog 41 #[.pointer (some ⟨w1.heap.size, 0, none⟩), .agg #[.int .i64 k, .int .i64 n]] W fun e w' => ∃ d, e = .returned (.agg (qA d)) ∧ d.h.Ok ∧ Dq w' W.heap.size d (wk (w0 s k) n) ∧ Gr W w') := fun W G => Work_any (B.of G) HFs.out m4 (HT.out.grow (HGW.out.trans G)) hk c4 hn4
      have HTk : Hid (∀ (W : World) (d : Qv) (b : Nat), Gr wr W → d.h.Ok → Dq W b d (wk (w0 s k) n) → Calls Tryd.prog 40 #[.pointer (some ⟨w1.heap.size, 0, none⟩), .int .i64 k, .agg (qA d)] W fun e w' => e = .returned (.tuple #[]) ∧ Bd 72 [] w' (w.heap.size + 2) w1.heap.size (tk s k (wk (w0 s k) n)) ∧ Below (w.heap.size + 2) W w') := fun W d b G o D => by
        have o1 := HXo.out.out
        have o2 := HXo.out.sto
        have o3 := HXn.out
        have o4 := HFW.out.1
        have o5 := HFW.out.2
        exact (Take_any (B.of G) HFs.out.len c4 D o (fun q hq => by have := HXo.out.bd q hq; omega) (by omega) (by omega) (by omega) hk).mono fun e w' h => ⟨h.1, h.2.1, h.2.2.below⟩
      have HFN : Hid (Few (tk s k (wk (w0 s k) n)) (400 * (j + 1))) := by
        have := tk_few (k := k) HFW.out HXo.out (n := 400) (by have := HXn.out; omega)
        unfold Hid
        rw [show 400 * (j + 1) = 400 * j + 400 by omega]
        exact this
      clear HX B
      generalize wk (w0 s k) n = X at *
      have hlw : b' < wr.heap.size := Nat.lt_of_lt_of_le hb' HGW.out.size
      go_wp2_with fail
      go_region_with (first
        | (go_at_call 41; refine (HWk.out _ (by repeat (first | exact Gr.refl _ | refine Gr.drew ?_ | refine Gr.alloc ?_ _))).mono ?_; rintro e w2 ⟨d, rfl, od, D, G2⟩; have HOD : Hid d.h.Ok := od; have HD : Hid (∃ b, Dq w2 b d X) := ⟨_, D⟩; have HG2 : Hid (Gr wr w2) := Gr.trans (by repeat (first | exact Gr.refl wr | refine Gr.drew ?_ | refine Gr.alloc ?_ _)) G2; have y0 : w2.cell? ⟨wr.heap.size, 0, none⟩ = some (.int .i64 k) := (G2.cell _ (by simp)).trans (by simp); clear od D G2)
        | (go_at_call 40; obtain ⟨b2, D2⟩ := HD.out; refine (HTk.out _ d b2 (by repeat (first | exact HG2.out | refine Gr.drew ?_)) HOD.out (D2.gr (by repeat (first | exact Gr.refl _ | refine Gr.drew ?_)))).mono ?_; rintro e w3 ⟨rfl, B3, L3⟩; have HB3 : Hid (Bd 72 [] w3 (w.heap.size + 2) w1.heap.size (tk s k X)) := B3; have HL3 : Hid (Below (w.heap.size + 2) w2 w3) := Below.trans (by repeat (first | exact Below.refl _ _ | refine Below.drew ?_)) L3; clear B3 L3 D2))
      all_goals
        go_wp2_with fail
        go_roundw
        case rel => exact ⟨j + 1, by omega, by go_num, by rw [HNX.out]; exact HB3.out, by rw [HNX.out]; exact HFN.out, Below.trans HL.out (Below.trans (Below.mono HG2.out (by have := HL.out.size; omega)) HL3.out)⟩
        case measure => simp [intOf]; omega
    · have ej : j = pn := by omega
      have HE : Hid (play ⟨hs, m, [], 0⟩ ((nums ps).take j) = play ⟨hs, m, [], 0⟩ (nums ps)) := by unfold Hid; rw [ej, List.take_of_length_le (by unfold nums; rw [List.length_map, HPL.out]; exact Nat.le_refl _)]
      have HFs : Hid (Fit (play ⟨hs, m, [], 0⟩ (nums ps)) hn mn) := play_fit _ (fun q hq => by
        obtain ⟨r, hr, rfl⟩ := List.mem_map.1 hq
        have := HPK.out r hr
        show r.1.toNat < hn
        omega) HF0.out
      obtain ⟨Mv, gh', hc', Ov, B⟩ := HB.out
      rw [HE.out] at B
      generalize hS : play ⟨hs, m, [], 0⟩ (nums ps) = s at *
      have HSS : Hid (play ⟨hs, m, [], 0⟩ (nums ps) = s) := hS
      clear hS
      obtain ⟨va, vc, rfl, _⟩ := B.mem.mem
      obtain ⟨oa, oc, rfl⟩ := (owns_cells B.out).2.2
      have HBF : Hid (Bw 72 [] wr (w.heap.size + 2) w1.heap.size (.slice va s.m.length vc) gh' hc' (.slice oa s.out.length oc) s) := B
      have HMs : Hid (s.m.length = mn) := HFs.out.mem
      have HHs : Hid (s.hs.length = hn) := HFs.out.len
      have HBk : Hid (wr.heap[w1.heap.size]? = some (.cells #[.slice va mn vc, .slice (some ⟨gh', 0, none⟩) hn hc', .slice oa s.out.length oc, .int .i64 s.steps] 72 (0, 0))) := by have := B.blk; rw [HMs.out, HHs.out] at this; exact this
      have HSr : Hid (wr.heap[w.heap.size + 1]? = some (.cells #[.slice none 0 0, .slice none 0 0, .slice none 0 0, .int .i64 0] 40 (0, 0))) := (HL.out.block _ (by omega)).trans HS1.out
      have HJ : Hid ((Tryd.prog.info? 40).map (·.size) = some 4) := iS
      clear B HE HB HFW HF0 ej
      go_wp2_with (first
        | (refine wpList_load_row rfl 40 _ rfl w1.heap.size rfl 72 #[.slice va mn vc, .slice (some ⟨gh', 0, none⟩) hn hc', .slice oa s.out.length oc, .int .i64 s.steps] (0, 0) _ ?yy1 Tryd.underlying40 rfl HJ.out ?_; (case yy1 => exact HBk.out))
        | (refine wpList_store_row rfl 40 _ _ rfl (w.heap.size + 1) #[.slice va mn vc, .slice (some ⟨gh', 0, none⟩) hn hc', .slice oa s.out.length oc, .int .i64 s.steps] rfl rfl 40 #[.slice none 0 0, .slice none 0 0, .slice none 0 0, .int .i64 0] ?yy2 HJ.out rfl (one_bd _ _ _ _ _ _ _ _ _ _) ?_; (case yy2 => exact HSr.out)))
      have ne : ∀ (t : Nat) (k : Nat) (q : Array Value) (f : Nat × Nat), t ≠ 40 → wr.heap[k]? = some (.cells q t f) → (wr.setRow (w.heap.size + 1) #[.slice va mn vc, .slice (some ⟨gh', 0, none⟩) hn hc', .slice oa s.out.length oc, .int .i64 s.steps]).heap[k]? = wr.heap[k]? := fun t k q f ht hk => setRow_other _ _ _ _ (ne_of_types hk HSr.out ht)
      refine bodyPost_ret (v := .tuple #[.agg #[.slice va mn vc, .slice (some ⟨gh', 0, none⟩) hn hc', .slice oa s.out.length oc, .int .i64 s.steps], .int .i64 0]) (Hr.results_cell_tmp' Tryd.results20 _ _ _ _ _ (0, 0) _ _ rfl rfl (setRow_heap _ _ _ _ _ (0, 0) HSr.out) Tryd.underlying40 rfl HJ.out) rfl ⟨_, rfl, ?_, ?_⟩
      · rw [HSS.out]
        refine shn_own (base := w.heap.size + 2) ?_ HMs.out (HBF.out.row.to fun k o f hk => ne _ k o f (by decide) hk) HHs.out (owns_to HBF.out.out fun k o f hk => ne _ k o f (by decide) hk)
        rw [← HMs.out]
        have := HBF.out.mem.to (w' := wr.setRow (w.heap.size + 1) #[.slice va mn vc, .slice (some ⟨gh', 0, none⟩) hn hc', .slice oa s.out.length oc, .int .i64 s.steps]) fun k o f hk => ne _ k o f (by decide) hk
        rw [← HMs.out] at this
        exact this
      · exact gr_setRow HGW.out (Nat.le_succ _) _
end Go.Proofs.YtdiofidmlgliiaaDoor.Mc
