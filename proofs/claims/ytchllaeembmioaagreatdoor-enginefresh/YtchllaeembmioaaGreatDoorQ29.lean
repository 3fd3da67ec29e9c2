/-
  Mb8, Gc: texts of ours that lie in one file.
-/
import Derived.Test.YtchllaeembmioaaGreatDoorQ20
import Derived.Test.YtchllaeembmioaaGreatDoorQ16
set_option linter.unusedVariables false
set_option linter.unusedSimpArgs false
set_option maxHeartbeats 8000000
set_option maxRecDepth 100000
namespace Go.Proofs.YtchllaeembmioaaGreatDoor.Mc
open Go.ChangeShapes Go.WideShapes Go.ChangeAt Go.RowKit Mm Hh Hc

variable {ty : Nat} {rs : List Value}
theorem rgs_get : ∀ (ss : List (Int × Int)) (i : Nat) (p : Int × Int), ss[i]? = some p → (rgs ss)[i * 2]? = some (.int .u32 p.1) ∧ (rgs ss)[i * 2 + 1]? = some (.int .u32 (Wd.lo (p.1 + p.2)))
 | [], i, q, h => by simp at h
 | p :: r, 0, q, h => by simp at h; subst h; exact ⟨rfl, rfl⟩
 | p :: r, i + 1, q, h => by
  have ih := rgs_get r i q (by simpa using h)
  have e : rgs (p :: r) = [.int .u32 p.1, .int .u32 (Wd.lo (p.1 + p.2))] ++ rgs r := rfl
  rw [e, List.getElem?_append_right (by simp; omega), List.getElem?_append_right (by simp; omega)]
  simp only [List.length_cons, List.length_nil]
  rw [show (i + 1) * 2 - (0 + 1 + 1) = i * 2 by omega, show (i + 1) * 2 + 1 - (0 + 1 + 1) = i * 2 + 1 by omega]
  exact ih
theorem take_snoc {α : Type} {l : List α} {i : Nat} {x : α} (h : l[i]? = some x) : l.take (i + 1) = l.take i ++ [x] := by
 rw [List.take_add_one, h]
 rfl
theorem drops_snoc (hs : List Hv) {U : List (Nat × Int)} {m : Nat} {q : Nat × Int} (h : U[m]? = some q) : drops hs (U.take (m + 1)) = (drops hs (U.take m)).set q.1 (((drops hs (U.take m)).getD q.1 hN).hold false 0) := by
 rw [take_snoc h, drops_app]
 rfl
theorem lose_snoc (k : Nat) {ss : List (Int × Int)} {i : Nat} {p : Int × Int} (h : ss[i]? = some p) (hs : List Hv) : lose k (ss.take (i + 1)) hs = lose k [p] (lose k (ss.take i) hs) := by
 rw [take_snoc h, lose_app]
theorem cell_sa (w : World) (p : Addr) (v a b : Value) (t : Nat) : ((w.setCell p v).alloc (.cells #[a, b] t)).drew.cell? ⟨w.heap.size, 0, none⟩ = some a := by
 have := heap_alloc_new (w.setCell p v) (.cells #[a, b] t)
 have e : (w.setCell p v).heap.size = w.heap.size := by simp
 rw [e] at this
 exact cell_of_row _ _ _ _ _ (0, 0) this
theorem cell_saa (w : World) (p p' : Addr) (v v' a b : Value) (t : Nat) : (((w.setCell p v).setCell p' v').alloc (.cells #[a, b] t)).drew.drew.cell? ⟨w.heap.size, 0, none⟩ = some a := by
 have := heap_alloc_new ((w.setCell p v).setCell p' v') (.cells #[a, b] t)
 have e : ((w.setCell p v).setCell p' v').heap.size = w.heap.size := by simp
 rw [e] at this
 exact cell_of_row _ _ _ _ _ (0, 0) this
theorem Take_any {w : World} {base g gh hc : Nat} {M O : Value} {s : Sh} (B : Bw ty rs w base g M gh hc O s) {c : Nat} (hcl : s.hs.length = c) (hc4 : c ≤ 4) {d : Qv} {x : Wk} {b : Nat} (D : Dq w b d x) (ok : d.h.Ok) (bd : ∀ p ∈ x.sto, 0 ≤ p.1 ∧ 0 < p.2 ∧ p.1 + p.2 ≤ 4096)
  (hsl : x.sto.length ≤ 1000000) (hol : s.out.length + x.out.length ≤ 1000000) (hst : s.steps + x.n ≤ 1000000000) {k : Nat} (hk : k < c) :
  Calls Tryz.prog 27 #[.pointer (some ⟨g, 0, none⟩), .int .i64 k, .agg (qA d)] w fun e w' => e = .returned (.tuple #[]) ∧ Bd ty rs w' base g (tk s k x) ∧ Fe ty base w w' := by
 obtain ⟨sa, sc, hsto⟩ := (owns_cells D.sto).2.2
 obtain ⟨oa, oc, rfl⟩ := (owns_cells B.out).2.2
 obtain ⟨da, dc, hdo⟩ := (owns_cells D.out).2.2
 obtain ⟨da2, dc2, hdm, _⟩ := D.mem.mem
 have HDO : Hid (d.out = .slice da x.out.length dc) := hdo
 have HDM : Hid (d.m = .slice da2 x.m.length dc2) := hdm
 have hbw : base ≤ w.heap.size := B.base_le
 have g40 : (qA d)[40]? = some (.slice sa x.sto.length sc) := by rw [qA_fld ok 3]; simp [hsto]
 have g37 : (qA d)[37]? = some (.slice da2 x.m.length dc2) := by rw [qA_fld ok 0]; simp [hdm]
 have g38 : (qA d)[38]? = some (.slice da x.out.length dc) := by rw [qA_fld ok 1]; simp [hdo]
 have g39 : (qA d)[39]? = some (.int .i64 x.n) := by rw [qA_fld ok 2]; simp [D.n]
 have HLD : Hid ((hL d.h).length = 37) := hL_len ok
 have HGR : Hid (∀ j u, (hL d.h)[j]? = some u → (qA d)[j]? = some u) := fun j u hj => by
  have : j < 37 := by have := (List.getElem?_eq_some_iff.1 hj).1; rwa [HLD.out] at this
  rw [qA_get ok this]; exact hj
 have HOK : Hid d.h.Ok := ok
 have HD : Hid (Dq w b d x) := D
 have HB : Hid (Bw ty rs w base g M gh hc (.slice oa s.out.length oc) s) := B
 have hgl : g < w.heap.size := B.lt
 have hghl : gh < w.heap.size := by obtain ⟨_, e⟩ := B.row.row; exact (Array.getElem?_eq_some_iff.1 e).1
 have hggh : g ≠ gh := by obtain ⟨_, e⟩ := B.row.row; exact ne_of_types B.blk e B.t3
 have HCL : Hid (s.hs.length = c) := hcl
 have HBD : Hid (∀ p ∈ x.sto, 0 ≤ p.1 ∧ 0 < p.2 ∧ p.1 + p.2 ≤ 4096) := bd
 have HST : Hid (d.sto = .slice sa x.sto.length sc) := hsto
 clear D ok hsto B hcl bd hdo hdm
 generalize qA d = QA at *
 generalize hn : x.sto.length = n at *
 have HN : Hid (x.sto.length = n) := hn
 clear hn
 go_enter Tryz.func27, Tryz.ntmps27
 go_wp2_with fail
 go_loopw [13] (fun i wr => ∃ i' : Nat, i' ≤ n ∧ i = .int .i64 i' ∧ Bw ty rs wr base g M gh hc (.slice oa s.out.length oc) ⟨lose k (x.sto.take i') s.hs, s.m, s.out, s.steps⟩ ∧ Ch gh (w.alloc (.cells QA 84)) wr) (fun i _ => n - (intOf i).toNat)
 case atStart =>
  refine ⟨0, Nat.zero_le _, rfl, ?_, Ch.refl _ _⟩
  rw [List.take_zero, lose_nil]
  exact HB.out.of ((Gr.refl _).alloc _)
 case round =>
  obtain ⟨i, hi, rfl, B1, C1⟩ := hrel
  have HB1 : Hid (Bw ty rs wr base g M gh hc (.slice oa s.out.length oc) ⟨lose k (x.sto.take i) s.hs, s.m, s.out, s.steps⟩) := B1
  have HC1 : Hid (Ch gh (w.alloc (.cells QA 84)) wr) := C1
  have HD1 : Hid (Dq wr b d x) := (HD.out.gr ((Gr.refl _).alloc _)).ch (HB.out.row.of ((Gr.refl _).alloc _)) C1
  clear B1 C1
  by_cases hlt : i < n
  ·obtain ⟨p, hp⟩ : ∃ p, x.sto[i]? = some p := ⟨_, List.getElem?_eq_getElem (by rw [HN.out]; exact hlt)⟩
   have HP : Hid (x.sto[i]? = some p) := hp
   obtain ⟨p0, p1, p2⟩ := HBD.out p (List.mem_of_getElem? hp)
   obtain ⟨sb, cp, hv, _⟩ := owns_at HD1.out.sto (by rw [HN.out]; omega)
   rw [HST.out, HN.out] at hv
   obtain rfl : sa = some ⟨sb, 0, none⟩ := by injection hv
   have OS : wr.ownsRow b 109 2 (.slice (some ⟨sb, 0, none⟩) n sc) n (rgs x.sto) := by have := HD1.out.sto; rw [HST.out, HN.out] at this; exact this
   have s0 : wr.cell? ⟨sb, i * 2, none⟩ = some (.int .u32 p.1) := (OS.cellAt _ (by omega)).trans (rgs_get _ _ _ hp).1
   have s1 : wr.cell? ⟨sb, i * 2 + 1, none⟩ = some (.int .u32 (Wd.lo (p.1 + p.2))) := (OS.cellAt _ (by omega)).trans (rgs_get _ _ _ hp).2
   have HL1 : Hid ((lose k (x.sto.take i) s.hs).length = c) := by unfold Hid; rw [lose_len]; exact HCL.out
   have HLo : Hid (∀ W : World, Gr wr W → Calls Tryz.prog 49 #[.pointer (some ⟨g, 0, none⟩), .int .i64 k, .agg #[.int .u32 p.1, .int .u32 (Wd.lo (p.1 + p.2))]] W fun e w' => ∃ v, e = .returned v ∧ w'.ownsRow W.heap.size 113 2 v (lostU k p (lose k (x.sto.take i) s.hs) c).length (lsC (lostU k p (lose k (x.sto.take i) s.hs) c)) ∧ Gr W w') := fun W G => by
    have := Lost_any (HB1.out.of G) (by show (lose _ _ _).length ≤ 4; rw [HL1.out]; exact hc4) k p p0 p1 p2
    simp only [HL1.out] at this
    exact this
   have HNX : Hid (lose k (x.sto.take (i + 1)) s.hs = drops (lose k (x.sto.take i) s.hs) (lostU k p (lose k (x.sto.take i) s.hs) c)) := by
    unfold Hid
    rw [lose_snoc k hp, ← drops_all, HL1.out]
   have hUl := lostU_len k p (lose k (x.sto.take i) s.hs) c
   have HUlt : Hid (∀ q ∈ lostU k p (lose k (x.sto.take i) s.hs) c, q.1 < c) := lostU_lt k p _ c
   clear hv OS hp
   generalize lose k (x.sto.take i) s.hs = hs at *
   generalize lostU k p hs c = U at *
   generalize Wd.lo (p.1 + p.2) = pt at *
   generalize p.1 = pf at *
   go_wp2_with fail
   refine (HLo.out _ ((Gr.refl _).alloc _)).mono ?_
   rintro e w2 ⟨v, rfl, OL, G2⟩
   obtain ⟨la, lc, rfl⟩ := (owns_cells OL).2.2
   have HG2 : Hid (Gr wr w2) := ((Gr.refl _).alloc _).trans G2
   have HOL : Hid (w2.ownsRow 0 113 2 (.slice la U.length lc) U.length (lsC U)) := ⟨OL.1, OL.2.imp (fun h => h) (fun ⟨a, b, c, h1, h2, h3⟩ => ⟨a, b, c, h1, Nat.zero_le _, h3⟩)⟩
   have HB2 : Hid (Bw ty rs w2 base g M gh hc (.slice oa s.out.length oc) ⟨hs, s.m, s.out, s.steps⟩) := HB1.out.of HG2.out
   have HC2 : Hid (Ch gh (w.alloc (.cells QA 84)) w2) := HC1.out.gr HG2.out
   clear OL G2 HLo s0 s1 HB1 HC1 HD1
   go_wp2_with fail
   go_loopw [22] (fun i wq => ∃ m : Nat, m ≤ U.length ∧ i = .int .i64 m ∧ Bw ty rs wq base g M gh hc (.slice oa s.out.length oc) ⟨drops hs (U.take m), s.m, s.out, s.steps⟩ ∧ Ch gh w2 wq) (fun i _ => U.length - (intOf i).toNat)
   case atStart =>
    refine ⟨0, Nat.zero_le _, rfl, ?_, Ch.refl _ _⟩
    rw [List.take_zero]
    exact HB2.out
   case round =>
    obtain ⟨m, hm, rfl, B3, C3⟩ := hrel
    have HB3 : Hid (Bw ty rs wr base g M gh hc (.slice oa s.out.length oc) ⟨drops hs (U.take m), s.m, s.out, s.steps⟩) := B3
    have HC3 : Hid (Ch gh w2 wr) := C3
    clear B3 C3
    by_cases hlt2 : m < U.length
    ·obtain ⟨q, hq⟩ : ∃ q, U[m]? = some q := ⟨_, List.getElem?_eq_getElem hlt2⟩
     obtain ⟨lb, cp2, hv, _⟩ := owns_at HOL.out (by omega)
     obtain rfl : la = some ⟨lb, 0, none⟩ := by injection hv
     have OL3 : wr.ownsRow 0 113 2 (.slice (some ⟨lb, 0, none⟩) U.length lc) U.length (lsC U) := owns_to HOL.out fun k o f hk => ch_keep HB2.out.row HC3.out (by decide) hk
     have l0 : wr.cell? ⟨lb, m * 2, none⟩ = some (.int .i64 q.1) := (OL3.cellAt _ (by omega)).trans (lsC_get _ _ _ hq).1
     have l1 : wr.cell? ⟨lb, m * 2 + 1, none⟩ = some (.int .u32 q.2) := (OL3.cellAt _ (by omega)).trans (lsC_get _ _ _ hq).2
     have HDS : Hid (drops hs (U.take (m + 1)) = (drops hs (U.take m)).set q.1 (((drops hs (U.take m)).getD q.1 hN).hold false 0)) := drops_snoc hs hq
     have hq1 : q.1 < c := HUlt.out q (List.mem_of_getElem? hq)
     have hdl : (drops hs (U.take m)).length = c := by rw [drops_len]; exact HL1.out
     have HDL : Hid ((drops hs (U.take m)).length = c) := hdl
     have hgq : (drops hs (U.take m))[q.1]? = some ((drops hs (U.take m)).getD q.1 hN) := by rw [List.getElem?_eq_getElem (by omega)]; simp [List.getD, show q.1 < (drops hs (U.take m)).length by omega]
     have okq : ((drops hs (U.take m)).getD q.1 hN).Ok := HB3.out.row.ok _ (List.mem_of_getElem? hgq)
     have c33 : wr.cell? ⟨gh, q.1 * 37 + 33, none⟩ = some (.bool ((drops hs (U.take m)).getD q.1 hN).held) := (HB3.out.row.cell hgq (by omega)).trans (hL_fld okq 1)
     have c34 : wr.cell? ⟨gh, q.1 * 37 + 34, none⟩ = some (.int .u32 ((drops hs (U.take m)).getD q.1 hN).heldAt) := (HB3.out.row.cell hgq (by omega)).trans (hL_fld okq 2)
     have f33 : wr.frozen? ⟨gh, q.1 * 37 + 33, none⟩ = false := HB3.out.row.fz _
     have f34 : wr.frozen? ⟨gh, q.1 * 37 + 34, none⟩ = false := HB3.out.row.fz _
     have kg1 : wr.cell? ⟨g, 1, none⟩ = some (.slice (some ⟨gh, 0, none⟩) c hc) := by have := HB3.out.c1; simp only [HDL.out] at this; exact this
     have hgw : g < wr.heap.size := (Array.getElem?_eq_some_iff.1 HB3.out.blk).1
     have hghw : gh < wr.heap.size := by obtain ⟨_, e⟩ := HB3.out.row.row; exact (Array.getElem?_eq_some_iff.1 e).1
     have n1 : gh ≠ g := fun e => hggh e.symm
     have n2 : gh ≠ wr.heap.size := by omega
     have HGQ : Hid ((drops hs (U.take m))[q.1]? = some ((drops hs (U.take m)).getD q.1 hN)) := hgq
     have HOQ : Hid ((drops hs (U.take m)).getD q.1 hN).Ok := okq
     clear hq hv OL3 hdl hgq okq
     obtain ⟨q1, q2⟩ := q
     simp only at *
     generalize (drops hs (U.take m)).getD q1 hN = hq at *
     generalize drops hs (U.take m) = hsm at *
     go_wp2_with fail
     go_region_held3 (fun W => W.cell? ⟨g, 1, none⟩ = some (.slice (some ⟨gh, 0, none⟩) c hc) ∧ W.cell? ⟨wr.heap.size, 0, none⟩ = some (.int .i64 q1)) (refine ⟨?_, ?_⟩ <;> first | (go_keep; done) | exact cell_sa _ _ _ _ _ _ | exact cell_saa _ _ _ _ _ _ _ _) (fail)
     go_wp2_with fail
     go_region_held3 (fun W => W.cell? ⟨g, 1, none⟩ = some (.slice (some ⟨gh, 0, none⟩) c hc) ∧ W.cell? ⟨wr.heap.size, 0, none⟩ = some (.int .i64 q1)) (refine ⟨?_, ?_⟩ <;> first | (go_keep; done) | exact cell_saa _ _ _ _ _ _ _ _) (fail)
     go_wp2_with fail
     go_roundw
     case rel =>
      have ok1 : Hv.Ok { hq with held := false } := ⟨HOQ.out.len, HOQ.out.reg, HOQ.out.pc0, HOQ.out.pc1, HOQ.out.at0, HOQ.out.at1⟩
      have R1 := HB3.out.row.set HGQ.out (by omega) (set_held HOQ.out false) ok1
      have hg1 : (hsm.set q1 { hq with held := false })[q1]? = some { hq with held := false } := by rw [List.getElem?_set_self (by rw [HDL.out]; exact hq1)]
      have R2 := R1.set hg1 (by omega) (set_heldAt ok1 0) (h' := hq.hold false 0) (HOQ.out.hold false (x := 0) (by omega) (by omega))
      rw [List.set_set] at R2
      have CH : ∀ o : Obj, Ch gh wr (((wr.setCell ⟨gh, q1 * 37 + 33, none⟩ (.bool false)).setCell ⟨gh, q1 * 37 + 34, none⟩ (.int .u32 0)).alloc o).drew.drew := fun o => Ch.gr (((Ch.refl gh wr).setCell _ _).setCell _ _) (Gr.drew (Gr.drew (Gr.alloc (Gr.refl _) _)))
      refine ⟨m + 1, by omega, by go_num, ?_, HC3.out.trans (CH _)⟩
      rw [HDS.out]
      exact HB3.out.ch (CH _) (R2.of (Gr.drew (Gr.drew (Gr.alloc (Gr.refl _) _)))) (by show (hsm.set q1 _).length = hsm.length; rw [List.length_set])
     case measure => simp [intOf]; omega
    ·have HBN : Hid (Bw ty rs wr base g M gh hc (.slice oa s.out.length oc) ⟨lose k (x.sto.take (i + 1)) s.hs, s.m, s.out, s.steps⟩) := by
      have := HB3.out
      rw [show m = U.length by omega, List.take_length] at this
      unfold Hid; rw [HNX.out]; exact this
     have HCN : Hid (Ch gh (w.alloc (.cells QA 84)) wr) := HC2.out.trans HC3.out
     clear HB3 HC3 HNX HOL HB2 HC2
     go_wp2_with fail
     go_roundw
     case rel => exact ⟨i + 1, by omega, by go_num, HBN.out, HCN.out⟩
     case measure => simp [intOf]; omega
-- TAIL
  ·have HB4 : Hid (Bw ty rs wr base g M gh hc (.slice oa s.out.length oc) ⟨lose k x.sto s.hs, s.m, s.out, s.steps⟩) := by
    have := HB1.out
    rw [show i = x.sto.length by rw [HN.out]; omega, List.take_length] at this
    exact this
   have HBX : Hid (wr.heap[w.heap.size]? = some (.cells QA 84 (0, 0))) := (ch_keep (HB.out.row.of ((Gr.refl _).alloc _)) HC1.out (by decide) (heap_alloc_new w _)).trans (heap_alloc_new w _)
   have HL4 : Hid ((lose k x.sto s.hs).length = c) := by unfold Hid; rw [lose_len]; exact HCL.out
   have kg1 : wr.cell? ⟨g, 1, none⟩ = some (.slice (some ⟨gh, 0, none⟩) c hc) := by have := HB4.out.c1; simp only [HL4.out] at this; exact this
   have HRG : Hid (wr.rangeAt w.heap.size 0 (hL d.h)) := fun j u hj => by rw [Nat.zero_add, cell_of_row _ _ _ _ _ _ HBX.out]; exact HGR.out j u hj
   have HTH : Hid (wr.there gh (k * 37) 37) := HB4.out.row.there (i := k) (List.getElem?_eq_getElem (by rw [HL4.out]; exact hk))
   have HCA : Hid (Fe ty base w wr) := Fe.trans (Fe.ofGr ((Gr.refl w).alloc _) hbw) (Fe.ch (HB.out.row.of ((Gr.refl _).alloc _)) HC1.out HB.out.bh (by simp; omega))
   clear HB1 HC1 HBD
   generalize hh4 : lose k x.sto s.hs = hs4 at *
   have HH4 : Hid (lose k x.sto s.hs = hs4) := hh4
   clear hh4
   go_wp2_with fail
   refine wp_region_held_drew (S := fun W => W.cell? ⟨g, 1, none⟩ = some (.slice (some ⟨gh, 0, none⟩) c hc) ∧ W.rangeAt w.heap.size 0 (hL d.h)) (by kernel_rfl) ?_ (fun hHeld => ?_)
   ·exact ⟨kg1, HRG.out⟩
   have HS0 : Hid _ := hHeld
   clear hHeld
   refine wpAnyH_take (i := 0) (v := .pointer (some ⟨g, 0, none⟩)) rfl (by kernel_rfl) (by kernel_rfl) (by kernel_rfl) (fun _ _ _ h => h) (Or.inl ⟨by rfl, fun W hW => by obtain ⟨q0, q1⟩ := hW; go_simp⟩) HS0.out ?_
   simp only [Act.put, List.setIfInBounds_toArray, List.set_cons_zero, List.set_cons_succ]
   refine wpAnyH_take (i := 1) (v := .pointer (some ⟨g, 0, none⟩)) rfl (by kernel_rfl) (by kernel_rfl) (by kernel_rfl) (fun _ _ _ h => h) (Or.inl ⟨by rfl, fun W hW => by obtain ⟨q0, q1⟩ := hW; go_simp⟩) HS0.out ?_
   simp only [Act.put, List.setIfInBounds_toArray, List.set_cons_zero, List.set_cons_succ]
   refine wpAnyH_take (i := 2) (v := .pointer (some ⟨g, 0, none⟩)) rfl (by kernel_rfl) (by kernel_rfl) (by kernel_rfl) (fun _ _ _ h => h) (Or.inl ⟨by rfl, fun W hW => by obtain ⟨q0, q1⟩ := hW; go_simp⟩) HS0.out ?_
   simp only [Act.put, List.setIfInBounds_toArray, List.set_cons_zero, List.set_cons_succ]
   refine wpAnyH_take (i := 3) (v := .pointer (some ⟨g, 0, none⟩)) rfl (by kernel_rfl) (by kernel_rfl) (by kernel_rfl) (fun _ _ _ h => h) (Or.inl ⟨by rfl, fun W hW => by obtain ⟨q0, q1⟩ := hW; go_simp⟩) HS0.out ?_
   simp only [Act.put, List.setIfInBounds_toArray, List.set_cons_zero, List.set_cons_succ]
   refine wpAnyH_take (i := 4) (v := .pointer (some ⟨g, 1, none⟩)) rfl (by kernel_rfl) (by kernel_rfl) (by kernel_rfl) (fun _ _ _ h => h) (Or.inl ⟨by rfl, fun W hW => by obtain ⟨q0, q1⟩ := hW; go_simp⟩) HS0.out ?_
   simp only [Act.put, List.setIfInBounds_toArray, List.set_cons_zero, List.set_cons_succ]
   refine wpAnyH_take (i := 5) (v := .slice (some ⟨gh, 0, none⟩) c hc) rfl (by kernel_rfl) (by kernel_rfl) (by kernel_rfl) (fun _ _ _ h => h) (Or.inl ⟨by rfl, fun W hW => by obtain ⟨q0, q1⟩ := hW; go_simp⟩) HS0.out ?_
   simp only [Act.put, List.setIfInBounds_toArray, List.set_cons_zero, List.set_cons_succ]
   refine wpAnyH_take (i := 6) (v := .int .i64 k) rfl (by kernel_rfl) (by kernel_rfl) (by kernel_rfl) (fun _ _ _ h => h) (Or.inl ⟨by rfl, fun W hW => by obtain ⟨q0, q1⟩ := hW; go_simp⟩) HS0.out ?_
   simp only [Act.put, List.setIfInBounds_toArray, List.set_cons_zero, List.set_cons_succ]
   refine wpAnyH_take (i := 7) (v := .pointer (some ⟨w.heap.size, 0, none⟩)) rfl (by kernel_rfl) (by kernel_rfl) (by kernel_rfl) (fun _ _ _ h => h) (Or.inl ⟨by rfl, fun W hW => by obtain ⟨q0, q1⟩ := hW; go_simp⟩) HS0.out ?_
   simp only [Act.put, List.setIfInBounds_toArray, List.set_cons_zero, List.set_cons_succ]
   refine wpAnyH_take (i := 8) (v := .agg (hL d.h).toArray) rfl (by kernel_rfl) (by kernel_rfl) (by kernel_rfl) (fun _ _ _ h => h) ?hy HS0.out ?_
   case hy => exact yieldsIf_load_mid (by rfl) 51 (.tmp 55) rfl w.heap.size 0 (by simp [Act.eval]) (hL d.h) _ (fun W hW => hW.2) Tryz.underlying51 rfl (by rw [HLD.out]; exact iH)
   simp only [Act.put, List.setIfInBounds_toArray, List.set_cons_zero, List.set_cons_succ]
   refine wpAnyH_take (i := 9) (v := .pointer (some ⟨gh, k * 37, none⟩)) rfl (by kernel_rfl) (by kernel_rfl) (by kernel_rfl) (fun _ _ _ h => h) (Or.inl ⟨by rfl, fun W hW => by obtain ⟨q0, q1⟩ := hW; go_simp⟩) HS0.out ?_
   simp only [Act.put, List.setIfInBounds_toArray, List.set_cons_zero, List.set_cons_succ]
   have C5 : Ch gh wr (wr.drew.setCells gh (k * 37) (hL d.h)) := Ch.setCells (Ch.ofGr (Gr.drew (Gr.refl _))) _ _
   have B5 : Bw ty rs (wr.drew.setCells gh (k * 37) (hL d.h)) base g M gh hc (.slice oa s.out.length oc) ⟨hs4.set k d.h, s.m, s.out, s.steps⟩ := HB4.out.ch C5 ((HB4.out.row.of (Gr.drew (Gr.refl _))).put (by rw [HL4.out]; exact hk) HOK.out) (by show (hs4.set k _).length = hs4.length; rw [List.length_set])
   have X5 : (wr.drew.setCells gh (k * 37) (hL d.h)).heap[w.heap.size]? = some (.cells QA 84 (0, 0)) := (ch_keep HB4.out.row C5 (by decide) HBX.out).trans HBX.out
   have D5 : Dq (wr.drew.setCells gh (k * 37) (hL d.h)) b d x := HD1.out.ch HB4.out.row C5
   have L5 : Fe ty base w (wr.drew.setCells gh (k * 37) (hL d.h)) := Fe.trans HCA.out (Fe.ch HB4.out.row C5 HB.out.bh HB4.out.base_le)
   refine held_store_mid (i := 10) (by kernel_rfl) rfl rfl 51 (.tmp 57) (.tmp 56) rfl gh (k * 37) (hL d.h).toArray (by simp [Act.eval]) (by simp [Act.eval]) (by rw [List.size_toArray, HLD.out]; exact HTH.out) (by rw [List.size_toArray, HLD.out]; exact iH) (one_hA d.h) ?_ ?_
   ·exact ⟨by have := B5.c1; simp only [List.length_set, HL4.out] at this; exact this, fun j u hj => by rw [Nat.zero_add, cell_of_row _ _ _ _ _ _ X5]; exact HGR.out j u hj⟩
   clear HS0
   refine wpAnyH_done (by kernel_rfl) ?_ _
   have e0 : (hL d.h).toArray.toList = hL d.h := rfl
   rw [e0]
   clear HTH HRG kg1 C5 HB4 HBX HD1 HCA
   generalize wr.drew.setCells gh (k * 37) (hL d.h) = w5 at *
   have HB5 : Hid (Bw ty rs w5 base g M gh hc (.slice oa s.out.length oc) ⟨hs4.set k d.h, s.m, s.out, s.steps⟩) := B5
   have HX5 : Hid (w5.heap[w.heap.size]? = some (.cells QA 84 (0, 0))) := X5
   have HD5 : Hid (Dq w5 b d x) := D5
   have HL5 : Hid (Fe ty base w w5) := L5
   have k0 : w5.cell? ⟨g, 0, none⟩ = some M := B5.c0
   have f0 : w5.frozen? ⟨g, 0, none⟩ = false := B5.fz 0
   have m37 : w5.cell? ⟨w.heap.size, 37, none⟩ = some (.slice da2 x.m.length dc2) := (cell_of_row _ _ _ _ _ _ X5).trans g37
   clear B5 X5 D5 L5
   go_wp2_with fail
   have B6 := HB5.out.setM (by have := HD5.out.mem; rw [HDM.out] at this; exact this)
   have X6 : (w5.setCell ⟨g, 0, none⟩ (.slice da2 x.m.length dc2)).heap[w.heap.size]? = some (.cells QA 84 (0, 0)) := (heap_setCell_other _ _ _ _ (by show w.heap.size ≠ g; omega)).trans HX5.out
   have D6 : (w5.setCell ⟨g, 0, none⟩ (.slice da2 x.m.length dc2)).ownsRow b 42 1 d.out x.out.length (x.out.map (Value.int .u32)) := owns_to HD5.out.out fun _ _ _ hk => bw_other HB5.out _ _ HB.out.t2.symm hk
   have L6 : Fe ty base w (w5.setCell ⟨g, 0, none⟩ (.slice da2 x.m.length dc2)) := Fe.setCell HL5.out HB5.out.blk HB.out.bg _ _
   clear HB5 HX5 HD5 HL5 k0 f0 m37
   generalize w5.setCell ⟨g, 0, none⟩ (.slice da2 x.m.length dc2) = w6 at *
   have HB6 : Hid (Bw ty rs w6 base g (.slice da2 x.m.length dc2) gh hc (.slice oa s.out.length oc) ⟨hs4.set k d.h, x.m, s.out, s.steps⟩) := B6
   have HX6 : Hid (w6.heap[w.heap.size]? = some (.cells QA 84 (0, 0))) := X6
   have HD6 : Hid (w6.ownsRow b 42 1 (.slice da x.out.length dc) x.out.length (x.out.map (Value.int .u32))) := by rw [HDO.out] at D6; exact D6
   have HL6 : Hid (Fe ty base w w6) := L6
   have k2 : w6.cell? ⟨g, 2, none⟩ = some (.slice oa s.out.length oc) := B6.c2
   have m38 : w6.cell? ⟨w.heap.size, 38, none⟩ = some (.slice da x.out.length dc) := (cell_of_row _ _ _ _ _ _ X6).trans g38
   have hb6 : base ≤ w6.heap.size := B6.base_le
   have HO6 : Hid (w6.ownsRow base 42 1 (.slice oa s.out.length oc) s.out.length (s.out.map (Value.int .u32))) := B6.out
   clear B6 X6 D6 L6
   obtain ⟨i0, hi0, hz0, hz1, hz2⟩ := info_parts infoW
   go_region_law (refine step_append_src rfl (.tmp 70) (.tmp 72) rfl Tryz.underlying30 hi0 hz0 hz1 hz2 rfl (by decide) (by simp [Act.eval, Act.put]) (by simp [Act.eval, Act.put]) (owns_gr HO6.out (by repeat (first | exact Gr.refl _ | refine Gr.drew ?_))) (Src.own (owns_gr HD6.out (by repeat (first | exact Gr.refl _ | refine Gr.drew ?_)))) (words_one _) (by unfold maxLen; omega) (by omega) (by exact hb6) ?_; intro v' w7 hown hgrow; obtain ⟨va, vc, rfl⟩ := (owns_cells hown).2.2; have X7 := (grown_keep (owns_gr HO6.out (Gr.drew (Gr.refl _))) hgrow (by decide) (Hr.heap_of_gr (Gr.drew (Gr.refl _)) HX6.out)); rw [Hr.heap_of_gr (Gr.drew (Gr.refl _)) HX6.out] at X7; have HX7 : Hid (w7.heap[w.heap.size]? = some (.cells QA 84 (0, 0))) := X7; rw [← List.map_append, ← List.length_append] at hown; obtain ⟨c2, z2, B7, L7⟩ := (HB6.out.of (Gr.drew (Gr.refl _))).grown hgrow hown; have HB7 : Hid _ := B7; have HL7 : Hid (Fe ty base w _) := Fe.trans HL6.out (Fe.trans (Fe.drew (Fe.refl base w6)) L7); clear X7 B7 L7 hown hgrow)
   all_goals
    have B8 := HB7.out
    have L8 := HL7.out
    have X8 : (w7.setCell ⟨g, 2, none⟩ (.slice va (s.out.length + x.out.length) vc)).heap[w.heap.size]? = some (.cells QA 84 (0, 0)) := (heap_setCell_other _ _ _ _ (by show w.heap.size ≠ g; omega)).trans HX7.out
    clear HB7 HL7 HX7 HB6 HX6 HD6 HL6 HO6 k2 m38 c2 z2
    rw [List.length_append] at B8 L8
    generalize w7.setCell ⟨g, 2, none⟩ (.slice va (s.out.length + x.out.length) vc) = w8 at *
    have HB8 : Hid (Bw ty rs w8 base g (.slice da2 x.m.length dc2) gh hc (.slice va (s.out.length + x.out.length) vc) ⟨hs4.set k d.h, x.m, s.out ++ x.out, s.steps⟩) := B8
    have HL8 : Hid (Fe ty base w w8) := L8
    have k3 : w8.cell? ⟨g, 3, none⟩ = some (.int .i64 s.steps) := B8.c3
    have f3 : w8.frozen? ⟨g, 3, none⟩ = false := B8.fz 3
    have m39 : w8.cell? ⟨w.heap.size, 39, none⟩ = some (.int .i64 x.n) := (cell_of_row _ _ _ _ _ _ X8).trans g39
    clear B8 L8 X8
    go_wp2_with fail
    go_region
   all_goals
    go_end0
    refine ⟨rfl, ?_, ?_⟩
    ·have B9 := HB8.out.setN (s.steps + x.n)
     have e9 : tk s k x = ⟨hs4.set k d.h, x.m, s.out ++ x.out, s.steps + x.n⟩ := by unfold tk; rw [HH4.out, HD.out.hh]
     rw [e9]
     rw [Int.natCast_add] at B9
     exact ⟨_, _, _, _, B9.of (Gr.drew (Gr.refl _))⟩
    ·exact Fe.drew (Fe.setCell HL8.out HB8.out.blk HB.out.bg _ _)
end Go.Proofs.YtchllaeembmioaaGreatDoor.Mc
namespace Go.Proofs.YtchllaeembmioaaGreatDoor.Gc
open Go.ChangeShapes Go.WideShapes Go.ChangeAt Go.RowKit Mm Hh Hc

variable {ty : Nat} {rs : List Value}
def cB (c : Cv) (rs : List Value) : Array Value := (hL c.h ++ ([c.m, c.out, c.sto] ++ rs)).toArray
theorem cB_get {c : Cv} (o : c.h.Ok) {i : Nat} (hi : i < 37) : (cB c rs)[i]? = (hL c.h)[i]? := by
 have := hL_len o
 unfold cB
 rw [List.getElem?_toArray, List.getElem?_append_left (by omega)]
theorem cB_fld {c : Cv} (o : c.h.Ok) {j : Nat} (hj : j < 3) : (cB c rs)[37 + j]? = [c.m, c.out, c.sto][j]? := by
 unfold cB
 rw [List.getElem?_toArray, List.getElem?_append_right (by simp [hL_len o]), hL_len o, show 37 + j - 37 = j by omega, List.getElem?_append_left (by simpa using hj)]
theorem cB_rest {c : Cv} (o : c.h.Ok) (j : Nat) : (cB c rs)[40 + j]? = rs[j]? := by
 unfold cB
 rw [List.getElem?_toArray, List.getElem?_append_right (by simp [hL_len o]; omega), hL_len o, List.getElem?_append_right (by simp; omega)]
 simp only [List.length_cons, List.length_nil]
 rw [show 40 + j - 37 - (0 + 1 + 1 + 1) = j by omega]
theorem cB_set {c : Cv} (o : c.h.Ok) {i : Nat} (hi : i < 37) {v : Value} {h' : Hv} (e : (hL c.h).set i v = hL h') : (cB c rs).setIfInBounds i v = cB { c with h := h' } rs := by
 have := hL_len o
 unfold cB
 simp only [List.setIfInBounds_toArray]
 rw [List.set_append_left _ _ (by omega), e]
theorem cB_setF {c c' : Cv} (o : c.h.Ok) {j : Nat} (hj : j < 3) {v : Value} (eh : c'.h = c.h) (e : [c.m, c.out, c.sto].set j v = [c'.m, c'.out, c'.sto]) : (cB c rs).setIfInBounds (37 + j) v = cB c' rs := by
 have := hL_len o
 unfold cB
 simp only [List.setIfInBounds_toArray]
 rw [List.set_append_right _ _ (by omega), this, show 37 + j - 37 = j by omega, List.set_append_left _ _ (by simpa using hj), e, eh]
theorem cB_setR {c : Cv} (o : c.h.Ok) (j : Nat) (v : Value) : (cB c rs).setIfInBounds (40 + j) v = cB c (rs.set j v) := by
 have := hL_len o
 unfold cB
 simp only [List.setIfInBounds_toArray]
 rw [List.set_append_right _ _ (by omega), this, List.set_append_right _ _ (by simp; omega)]
 simp only [List.length_cons, List.length_nil]
 rw [show 40 + j - 37 - (0 + 1 + 1 + 1) = j by omega]
structure Inv (ty : Nat) (rs : List Value) (w : World) (base g : Nat) (c : Cv) (l : List UInt8) (os : List Int) (ss : List (Int × Int)) : Prop where
 t1 : ty ≠ 5
 t2 : ty ≠ 42
 t3 : ty ≠ 109
 ok : c.h.Ok
 bg : base ≤ g
 core : w.heap[g]? = some (.cells (cB c rs) ty (0, 0))
 mem : Own w 0 c.m l
 out : w.ownsRow base 42 1 c.out os.length (os.map (Value.int .u32))
 sto : w.ownsRow base 109 2 c.sto ss.length (rgs ss)
def In (ty : Nat) (rs : List Value) (w : World) (base g : Nat) (h : Hv) (l : List UInt8) (os : List Int) (ss : List (Int × Int)) : Prop := ∃ c : Cv, c.h = h ∧ Inv ty rs w base g c l os ss
theorem Inv.toM {w w' : World} {base g : Nat} {c c' : Cv} {l l' : List UInt8} {os : List Int} {ss : List (Int × Int)} {rs' : List Value} (I : Inv ty rs w base g c l os ss) (q : Ch g w w') (hc : w'.heap[g]? = some (.cells (cB c' rs') ty (0, 0)))
  (ok : c'.h.Ok) (em : Own w' 0 c'.m l') (eo : c'.out = c.out) (es : c'.sto = c.sto) : Inv ty rs' w' base g c' l' os ss := by
 have st : ∀ t : Nat, t ≠ ty → ∀ (k : Nat) (o : Array Value) (f : Nat × Nat), w.heap[k]? = some (.cells o t f) → w'.heap[k]? = w.heap[k]? := fun t ht k o f hk =>
  q.block k (Array.getElem?_eq_some_iff.1 hk).1 (fun e => ne_of_types hk I.core ht (by injection e))
 refine ⟨I.t1, I.t2, I.t3, ok, I.bg, hc, em, ?_, ?_⟩
 ·rw [eo]; exact owns_to I.out (st _ I.t2.symm)
 ·rw [es]; exact owns_to I.sto (st _ I.t3.symm)
theorem Inv.to {w w' : World} {base g : Nat} {c c' : Cv} {l : List UInt8} {os : List Int} {ss : List (Int × Int)} {rs' : List Value} (I : Inv ty rs w base g c l os ss) (q : Ch g w w') (hc : w'.heap[g]? = some (.cells (cB c' rs') ty (0, 0)))
  (ok : c'.h.Ok) (em : c'.m = c.m) (eo : c'.out = c.out) (es : c'.sto = c.sto) : Inv ty rs' w' base g c' l os ss := by
 have st : ∀ t : Nat, t ≠ ty → ∀ (k : Nat) (o : Array Value) (f : Nat × Nat), w.heap[k]? = some (.cells o t f) → w'.heap[k]? = w.heap[k]? := fun t ht k o f hk =>
  q.block k (Array.getElem?_eq_some_iff.1 hk).1 (fun e => ne_of_types hk I.core ht (by injection e))
 exact I.toM q hc ok (by rw [em]; exact I.mem.to (st _ I.t1.symm)) eo es
theorem Inv.of {w w' : World} {base g : Nat} {c : Cv} {l : List UInt8} {os : List Int} {ss : List (Int × Int)} (I : Inv ty rs w base g c l os ss) (q : Gr w w') : Inv ty rs w' base g c l os ss :=
 I.to ((Ch.refl g w).gr q) ((q.block g (Array.getElem?_eq_some_iff.1 I.core).1).trans I.core) I.ok rfl rfl rfl
theorem In.of {w w' : World} {base g : Nat} {h : Hv} {l : List UInt8} {os : List Int} {ss : List (Int × Int)} (I : In ty rs w base g h l os ss) (q : Gr w w') : In ty rs w' base g h l os ss := by
 obtain ⟨c, e, I⟩ := I
 exact ⟨c, e, I.of q⟩
theorem Inv.lt {w : World} {base g : Nat} {c : Cv} {l : List UInt8} {os : List Int} {ss : List (Int × Int)} (I : Inv ty rs w base g c l os ss) : g < w.heap.size := (Array.getElem?_eq_some_iff.1 I.core).1
theorem Inv.hcell {w : World} {base g : Nat} {c : Cv} {l : List UInt8} {os : List Int} {ss : List (Int × Int)} (I : Inv ty rs w base g c l os ss) {i : Nat} (hi : i < 37) : w.cell? ⟨g, i, none⟩ = (hL c.h)[i]? :=
 (cell_of_row _ _ _ _ _ _ I.core).trans (cB_get I.ok hi)
theorem Inv.fcell {w : World} {base g : Nat} {c : Cv} {l : List UInt8} {os : List Int} {ss : List (Int × Int)} (I : Inv ty rs w base g c l os ss) (j : Nat) (hj : j < 3 := by omega) : w.cell? ⟨g, 37 + j, none⟩ = [c.m, c.out, c.sto][j]? :=
 (cell_of_row _ _ _ _ _ _ I.core).trans (cB_fld I.ok hj)
theorem Inv.rest {w : World} {base g : Nat} {c : Cv} {l : List UInt8} {os : List Int} {ss : List (Int × Int)} (I : Inv ty rs w base g c l os ss) (j : Nat) : w.cell? ⟨g, 40 + j, none⟩ = rs[j]? :=
 (cell_of_row _ _ _ _ _ _ I.core).trans (cB_rest I.ok j)
theorem Inv.reg {w : World} {base g : Nat} {c : Cv} {l : List UInt8} {os : List Int} {ss : List (Int × Int)} (I : Inv ty rs w base g c l os ss) {i : Nat} (hi : i < 32) : w.cell? ⟨g, i, none⟩ = some (.int .u32 (rg c.h i)) :=
 (I.hcell (by omega)).trans (hL_reg I.ok hi)
theorem Inv.fz {w : World} {base g : Nat} {c : Cv} {l : List UInt8} {os : List Int} {ss : List (Int × Int)} (I : Inv ty rs w base g c l os ss) (j : Nat) : w.frozen? ⟨g, j, none⟩ = false := frozen_of_row _ _ j _ _ I.core
theorem Inv.set {w : World} {base g : Nat} {c : Cv} {l : List UInt8} {os : List Int} {ss : List (Int × Int)} (I : Inv ty rs w base g c l os ss) {i : Nat} (hi : i < 37) {v : Value} {h' : Hv} (e : (hL c.h).set i v = hL h') (ok : h'.Ok) :
  Inv ty rs (w.setCell ⟨g, i, none⟩ v) base g { c with h := h' } l os ss :=
 I.to ((Ch.refl g w).setCell i v) (by rw [heap_setCell_same _ _ _ _ _ _ I.core, cB_set I.ok hi e]) ok rfl rfl rfl
theorem Inv.setR {w : World} {base g : Nat} {c : Cv} {l : List UInt8} {os : List Int} {ss : List (Int × Int)} (I : Inv ty rs w base g c l os ss) (j : Nat) (v : Value) : Inv ty (rs.set j v) (w.setCell ⟨g, 40 + j, none⟩ v) base g c l os ss :=
 I.to ((Ch.refl g w).setCell (40 + j) v) (by rw [heap_setCell_same _ _ _ _ _ _ I.core, cB_setR I.ok]) I.ok rfl rfl rfl
theorem Inv.inn {w : World} {base g : Nat} {c : Cv} {l : List UInt8} {os : List Int} {ss : List (Int × Int)} (I : Inv ty rs w base g c l os ss) : In ty rs w base g c.h l os ss := ⟨c, rfl, I⟩
theorem Inv.base_le {w : World} {base g : Nat} {c : Cv} {l : List UInt8} {os : List Int} {ss : List (Int × Int)} (I : Inv ty rs w base g c l os ss) : base ≤ w.heap.size := Nat.le_trans I.bg (Nat.le_of_lt I.lt)
structure Fr (ty : Nat) (base : Nat) (w w' : World) : Prop where
 below : Below base w w'
 keep : ∀ (k : Nat) (o : Array Value) (t : Nat) (f : Nat × Nat), w.heap[k]? = some (.cells o t f) → t ≠ ty → t ≠ 42 → t ≠ 109 → w'.heap[k]? = w.heap[k]?
theorem Fr.trans {base : Nat} {a b c : World} (h : Fr ty base a b) (q : Fr ty base b c) : Fr ty base a c :=
 ⟨h.below.trans q.below, fun k o t f e n1 n2 n3 => by
  have e1 := h.keep k o t f e n1 n2 n3
  exact (q.keep k o t f (e1.trans e) n1 n2 n3).trans e1⟩
theorem Fr.ofGr {base : Nat} {w w' : World} (h : Gr w w') (hb : base ≤ w.heap.size) : Fr ty base w w' :=
 ⟨Below.mono h hb, fun k o t f e _ _ _ => h.block k (Array.getElem?_eq_some_iff.1 e).1⟩
theorem In.below {w w' : World} {base g : Nat} {h : Hv} {l : List UInt8} {os : List Int} {ss : List (Int × Int)} (I : In ty rs w base g h l os ss) (q : Ch g w w') : Fr ty base w w' := by
 obtain ⟨c, _, I⟩ := I
 exact ⟨q.below I.bg I.base_le, fun k o t f e n1 _ _ => q.block k (Array.getElem?_eq_some_iff.1 e).1 (fun q => ne_of_types e I.core n1 (by injection q))⟩
structure Ts (w : World) (base : Nat) : Prop where
 sizes : ∀ i n, ([0, 0, 0, 0, 0, 0, 0, 0, 0, 0, 0, 0, 0, 0, 0, 0, 1, 2, 4] : List Int)[i]? = some n → w.cell? ⟨4, i, none⟩ = some (.int .u32 n)
 b1 : 4 < base
theorem ts_of {w w' : World} {base : Nat} (T : Ts w base) (h : Below base w w') : Ts w' base :=
 ⟨fun i n e => (Below.cell h (by exact T.b1)).trans (T.sizes i n e), T.b1⟩
theorem Inv.sto_grown {w W w' : World} {base g n : Nat} {c : Cv} {l : List UInt8} {os : List Int} {ss ss' : List (Int × Int)} {v : Value} (I : Inv ty rs w base g c l os ss) (G : Gr w W) (q : W.grownBy w' c.sto.ownBlock) (hn : ss'.length = n) (ho : w'.ownsRow base 109 2 v n (rgs ss')) :
  w'.cell? ⟨g, 39, none⟩ = some c.sto ∧ w'.frozen? ⟨g, 39, none⟩ = false ∧ Inv ty rs (w'.setCell ⟨g, 39, none⟩ v) base g { c with sto := v } l os ss' ∧ Fr ty base w (w'.setCell ⟨g, 39, none⟩ v) := by
 subst hn
 have I1 := I.of G
 have st : ∀ t : Nat, t ≠ 109 → ∀ (k : Nat) (o : Array Value) (f : Nat × Nat), W.heap[k]? = some (.cells o t f) → w'.heap[k]? = W.heap[k]? := fun t ht k o f hk =>
  q.block k (Array.getElem?_eq_some_iff.1 hk).1 (fun e => by
   rcases I1.sto.2 with ⟨h0, _⟩ | ⟨g', cap, cur, hv, _, hg, _⟩
   ·rw [h0] at e; cases e
   ·rw [hv] at e
    injection e with e
    exact ne_of_types hk hg ht e)
 have hb : ∀ k, c.sto.ownBlock = some k → base ≤ k := fun k e => (I1.sto.lt k e).1
 have hcore := (st _ I.t3 g _ _ I1.core).trans I1.core
 have ne : ∀ t : Nat, t ≠ ty → ∀ (k : Nat) (o : Array Value) (f : Nat × Nat), w'.heap[k]? = some (.cells o t f) → (w'.setCell ⟨g, 39, none⟩ v).heap[k]? = w'.heap[k]? := fun t ht k o f hk =>
  heap_setCell_other _ _ _ _ (by exact ne_of_types hk hcore ht)
 refine ⟨(cell_of_row _ _ _ _ _ _ hcore).trans (cB_fld (j := 2) I.ok (by omega)), frozen_of_row _ _ _ _ _ hcore, ⟨I.t1, I.t2, I.t3, I.ok, I.bg, ?_, ?_, ?_, ?_⟩, ?_⟩
 ·rw [heap_setCell_same _ _ _ _ _ _ hcore, cB_setF (c' := { c with sto := v }) (j := 2) I.ok (by omega) rfl rfl]
 ·exact (I1.mem.to (st _ (by decide))).to (ne _ I.t1.symm)
 ·exact owns_to (owns_to I1.out (st _ (by decide))) (ne _ I.t2.symm)
 ·exact owns_to ho (ne _ I.t3.symm)
 ·refine ⟨Below.setCell ((Below.mono G I.base_le).grown q I1.base_le hb) (by exact I.bg) _, fun k o t f e n1 n2 n3 => ?_⟩
  have e1 := (Array.getElem?_eq_some_iff.1 e).1
  have e2 := (G.block k e1).trans e
  have e3 := (st _ n3 k _ _ e2).trans e2
  exact ((ne _ n1 k _ _ e3).trans e3).trans e.symm
theorem Inv.out_grown {w W w' : World} {base g n : Nat} {c : Cv} {l : List UInt8} {os os' : List Int} {ss : List (Int × Int)} {v : Value} (I : Inv ty rs w base g c l os ss) (G : Gr w W) (q : W.grownBy w' c.out.ownBlock) (hn : os'.length = n) (ho : w'.ownsRow base 42 1 v n (os'.map (Value.int .u32))) :
  w'.cell? ⟨g, 38, none⟩ = some c.out ∧ w'.frozen? ⟨g, 38, none⟩ = false ∧ Inv ty rs (w'.setCell ⟨g, 38, none⟩ v) base g { c with out := v } l os' ss ∧ Fr ty base w (w'.setCell ⟨g, 38, none⟩ v) := by
 subst hn
 have I1 := I.of G
 have st : ∀ t : Nat, t ≠ 42 → ∀ (k : Nat) (o : Array Value) (f : Nat × Nat), W.heap[k]? = some (.cells o t f) → w'.heap[k]? = W.heap[k]? := fun t ht k o f hk =>
  q.block k (Array.getElem?_eq_some_iff.1 hk).1 (fun e => by
   rcases I1.out.2 with ⟨h0, _⟩ | ⟨g', cap, cur, hv, _, hg, _⟩
   ·rw [h0] at e; cases e
   ·rw [hv] at e
    injection e with e
    exact ne_of_types hk hg ht e)
 have hb : ∀ k, c.out.ownBlock = some k → base ≤ k := fun k e => (I1.out.lt k e).1
 have hcore := (st _ I.t2 g _ _ I1.core).trans I1.core
 have ne : ∀ t : Nat, t ≠ ty → ∀ (k : Nat) (o : Array Value) (f : Nat × Nat), w'.heap[k]? = some (.cells o t f) → (w'.setCell ⟨g, 38, none⟩ v).heap[k]? = w'.heap[k]? := fun t ht k o f hk =>
  heap_setCell_other _ _ _ _ (by exact ne_of_types hk hcore ht)
 refine ⟨(cell_of_row _ _ _ _ _ _ hcore).trans (cB_fld (j := 1) I.ok (by omega)), frozen_of_row _ _ _ _ _ hcore, ⟨I.t1, I.t2, I.t3, I.ok, I.bg, ?_, ?_, ?_, ?_⟩, ?_⟩
 ·rw [heap_setCell_same _ _ _ _ _ _ hcore, cB_setF (c' := { c with out := v }) (j := 1) I.ok (by omega) rfl rfl]
 ·exact (I1.mem.to (st _ (by decide))).to (ne _ I.t1.symm)
 ·exact owns_to ho (ne _ I.t2.symm)
 ·exact owns_to (owns_to I1.sto (st _ (by decide))) (ne _ I.t3.symm)
 ·refine ⟨Below.setCell ((Below.mono G I.base_le).grown q I1.base_le hb) (by exact I.bg) _, fun k o t f e n1 n2 n3 => ?_⟩
  have e1 := (Array.getElem?_eq_some_iff.1 e).1
  have e2 := (G.block k e1).trans e
  have e3 := (st _ n2 k _ _ e2).trans e2
  exact ((ne _ n1 k _ _ e3).trans e3).trans e.symm
theorem Inv.stored {w w1 : World} {base g n : Nat} {c : Cv} {l k : List UInt8} {os : List Int} {ss : List (Int × Int)} (I : Inv ty rs w base g c l os ss) (G : Gr w w1) (R : Row w1 w.heap.size k) (hk : k.length = n) :
  Inv ty rs (w1.setCell ⟨g, 37, none⟩ (.slice (some ⟨w.heap.size, 0, none⟩) n n)) base g { c with m := .slice (some ⟨w.heap.size, 0, none⟩) n n } k os ss := by
 have I1 := I.of G
 obtain ⟨rest, hr⟩ := R
 refine I1.toM ((Ch.refl g w1).setCell _ _) (by rw [heap_setCell_same _ _ _ _ _ _ I1.core, cB_setF (c' := { c with m := .slice (some ⟨w.heap.size, 0, none⟩) n n }) (j := 0) I.ok (by omega) rfl rfl]) I.ok (.inr ⟨w.heap.size, n, by rw [hk], Nat.zero_le _, rest, ?_⟩) rfl rfl
 rw [heap_setCell_other _ _ _ _ (by exact ne_of_types hr I1.core I.t1.symm)]
 exact hr
end Go.Proofs.YtchllaeembmioaaGreatDoor.Gc
