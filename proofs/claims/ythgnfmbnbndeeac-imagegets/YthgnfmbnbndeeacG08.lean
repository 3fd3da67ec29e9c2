/-
  Iw2, Iput, Mb2, Mb3, Hm3, Hm4, Tabs, Walks1, Walks2, Walks3, Walks4, Hm5: texts of ours that lie in one file.
-/
import Derived.Test.YthgnfmbnbndeeacG07
import Derived.Test.YthgnfmbnbndeeacG06
import Derived.Deep.RegionHeld3
import Derived.Test.YthgnfmbnbndeeacG03
import Derived.Test.YthgnfmbnbndeeacG04
import Derived.Test.YthgnfmbnbndeeacG02
import Derived.Test.YthgnfmbnbndeeacRows
import Derived.Test.YthgnfmbnbndeeacG01
import Derived.WalkKit
import Derived.ProofKit
import Derived.OpenShut
import Derived.LaidMore
import Derived.RowKit3
import Derived.Deep.QuietTactic
import Derived.BigQuiet
import Derived.Deep.MidRow
/-
  What package image's writer writes of a hart, and of a machine.
-/
namespace Go.Proofs.Ythgnfmbnbndeeac.Im
open Go.ChangeShapes Go.WideShapes Go.ChangeAt Go.RowKit Mm Hh Hc Mc
set_option linter.unusedVariables false
set_option linter.unusedSimpArgs false

theorem hA_reg {h : Hv} (o : h.Ok) : ∀ i x, h.regs[i]? = some x → (hA h)[0 + i]? = some (.int .u32 x) := by
  intro i x hx
  have hi : i < 32 := by have := (List.getElem?_eq_some_iff.1 hx).1; rw [o.len] at this; exact this
  rw [Nat.zero_add, hA, List.getElem?_toArray, hL_reg o hi, rg, List.getD_eq_getElem?_getD, hx]
  rfl
theorem five_row {a0 a1 a2 a3 a4 : Int} : ∀ i x, ([a0, a1, a2, a3, a4] : List Int)[i]? = some x → (#[.int .u32 a0, .int .u32 a1, .int .u32 a2, .int .u32 a3, .int .u32 a4] : Array Value)[0 + i]? = some (.int .u32 x) := by
  intro i x hx
  match i, hx with
  | 0, hx => simp at hx; subst hx; rfl
  | 1, hx => simp at hx; subst hx; rfl
  | 2, hx => simp at hx; subst hx; rfl
  | 3, hx => simp at hx; subst hx; rfl
  | 4, hx => simp at hx; subst hx; rfl
set_option maxHeartbeats 1000000 in
set_option maxRecDepth 100000 in
theorem whart_any {w : World} {base g : Nat} {l : List UInt8} {h : Hv} (I : Wr w base g l) (o : h.Ok) (hm : may h = true) (hz : l.length + 148 ≤ 1000000) :
    Calls Try.prog 39 #[.pointer (some ⟨g, 0, none⟩), .agg (hA h)] w fun e w' => e = .returned (.tuple #[]) ∧ Wr w' base g (l ++ hB h) ∧ Fi base w w' := by
  obtain ⟨⟨s0, s1⟩, c0, c1⟩ := may_nums o hm
  have hle := I.le
  have HN1 : Hid (∀ (W : World) (c : Nat), Wr W base g l → W.heap[w.heap.size]? = some (.cells (hA h) 48 (0, 0)) → Calls Try.prog 38 #[.pointer (some ⟨g, 0, none⟩), .slice (some ⟨w.heap.size, 0, none⟩) 32 c] W fun e w' => e = .returned (.tuple #[]) ∧ Wr w' base g (l ++ nB h.regs) ∧ Fi base W w') := fun W c I hb =>
    numbers_any I hb (by decide) (by decide) o.len (hA_reg o) (regs_u4 o) (by omega)
  have HN2 : Hid (∀ (W : World) (b c : Nat), Wr W base g (l ++ nB h.regs) → W.heap[b]? = some (.cells #[.int .u32 h.pc, .int .u32 (bi h.held), .int .u32 h.heldAt, .int .u32 h.state, .int .u32 h.cause] 45 (0, 0)) → Calls Try.prog 38 #[.pointer (some ⟨g, 0, none⟩), .slice (some ⟨b, 0, none⟩) 5 c] W fun e w' => e = .returned (.tuple #[]) ∧ Wr w' base g (l ++ hB h) ∧ Fi base W w') := fun W b c I hb => by
    have := numbers_any (o := 0) (c := c) (n := 5) I hb (by decide) (by decide) rfl five_row (fun x hx => hN_u4 o hm x (by unfold hN; exact List.mem_append_right _ hx)) (by rw [List.length_append, nB_len, o.len]; omega)
    rwa [List.append_assoc, ← nB_app] at this
  have HI : Hid (Wr w base g l) := I
  have g32 : (hA h)[32]? = some (.int .u32 h.pc) := by rw [hA, List.getElem?_toArray]; exact hL_fld o 0
  have g33 : (hA h)[33]? = some (.bool h.held) := by rw [hA, List.getElem?_toArray]; exact hL_fld o 1
  have g34 : (hA h)[34]? = some (.int .u32 h.heldAt) := by rw [hA, List.getElem?_toArray]; exact hL_fld o 2
  have g35 : (hA h)[35]? = some (.int .i64 h.state) := by rw [hA, List.getElem?_toArray]; exact hL_fld o 3
  have g36 : (hA h)[36]? = some (.int .i64 h.cause) := by rw [hA, List.getElem?_toArray]; exact hL_fld o 4
  have es : IntKind.u32.wrap h.state = h.state := by show h.state % 4294967296 = h.state; omega
  have ec : IntKind.u32.wrap h.cause = h.cause := by show h.cause % 4294967296 = h.cause; omega
  generalize hA h = H at *
  generalize h.state = st at *
  generalize h.cause = ca at *
  generalize h.pc = pc at *
  generalize h.heldAt = ha at *
  generalize h.held = hd at *
  clear I o hm
  go_enter Try.func39, Try.ntmps39
  go_wp2_with fail
  refine (HN1.out _ _ (HI.out.gr ((Gr.refl _).alloc _)) (heap_alloc_new w _)).mono ?_
  rintro e w1 ⟨rfl, I1, F1⟩
  have HI1 : Hid (Wr w1 base g (l ++ nB h.regs)) := I1
  have hb1 : w1.heap[w.heap.size]? = some (.cells H 48 (0, 0)) := (F1.keep _ _ _ _ (heap_alloc_new w _) (by decide) (by decide)).trans (heap_alloc_new w _)
  have HB1 : Hid (w1.heap[w.heap.size]? = some (.cells H 48 (0, 0))) := hb1
  have HF1 : Hid (Fi base w w1) := (Fi.ofGr ((Gr.refl _).alloc _) hle).trans F1
  clear I1 F1 hb1 HN1
  go_wp2_with fail
  refine wp_region_held_drew (S := fun W => W.heap[w.heap.size]? = some (.cells H 48 (0, 0))) (by kernel_rfl) ?_ (fun hHeld => ?_)
  · exact HB1.out
  have HS0 : Hid _ := hHeld
  clear hHeld
  refine wpAnyH_take (i := 0) (v := .pointer (some ⟨g, 0, none⟩)) rfl (by kernel_rfl) (by kernel_rfl) (by kernel_rfl) (fun _ _ _ h => h) (Or.inl ⟨by rfl, fun W hW => by go_simp⟩) HS0.out ?_
  simp only [List.getElem_toArray, List.getElem_cons_succ, List.getElem_cons_zero, Act.put, List.setIfInBounds_toArray, List.set_cons_zero, List.set_cons_succ]
  refine wpAnyH_take (i := 1) (v := .pointer (some ⟨w.heap.size, 32, none⟩)) rfl (by kernel_rfl) (by kernel_rfl) (by kernel_rfl) (fun _ _ _ h => h) (Or.inl ⟨by rfl, fun W hW => by go_simp⟩) HS0.out ?_
  simp only [List.getElem_toArray, List.getElem_cons_succ, List.getElem_cons_zero, Act.put, List.setIfInBounds_toArray, List.set_cons_zero, List.set_cons_succ]
  refine wpAnyH_take (i := 2) (v := .int .u32 pc) rfl (by kernel_rfl) (by kernel_rfl) (by kernel_rfl) (fun _ _ _ h => h) (Or.inl ⟨by rfl, fun W hW => by have a := (cr hW).trans g32; go_simp⟩) HS0.out ?_
  simp only [List.getElem_toArray, List.getElem_cons_succ, List.getElem_cons_zero, Act.put, List.setIfInBounds_toArray, List.set_cons_zero, List.set_cons_succ]
  refine wpAnyH_take (i := 3) (v := .pointer (some ⟨w.heap.size, 33, none⟩)) rfl (by kernel_rfl) (by kernel_rfl) (by kernel_rfl) (fun _ _ _ h => h) (Or.inl ⟨by rfl, fun W hW => by go_simp⟩) HS0.out ?_
  simp only [List.getElem_toArray, List.getElem_cons_succ, List.getElem_cons_zero, Act.put, List.setIfInBounds_toArray, List.set_cons_zero, List.set_cons_succ]
  refine wpAnyH_take (i := 4) (v := .bool hd) rfl (by kernel_rfl) (by kernel_rfl) (by kernel_rfl) (fun _ _ _ h => h) (Or.inl ⟨by rfl, fun W hW => by have a := (cr hW).trans g33; go_simp⟩) HS0.out ?_
  simp only [List.getElem_toArray, List.getElem_cons_succ, List.getElem_cons_zero, Act.put, List.setIfInBounds_toArray, List.set_cons_zero, List.set_cons_succ]
  refine wpAnyH_take (i := 6) (v := .pointer (some ⟨w.heap.size, 34, none⟩)) rfl (by kernel_rfl) (by kernel_rfl) (by kernel_rfl) (fun _ _ _ h => h) (Or.inl ⟨by rfl, fun W hW => by go_simp⟩) HS0.out ?_
  simp only [List.getElem_toArray, List.getElem_cons_succ, List.getElem_cons_zero, Act.put, List.setIfInBounds_toArray, List.set_cons_zero, List.set_cons_succ]
  refine wpAnyH_take (i := 7) (v := .int .u32 ha) rfl (by kernel_rfl) (by kernel_rfl) (by kernel_rfl) (fun _ _ _ h => h) (Or.inl ⟨by rfl, fun W hW => by have a := (cr hW).trans g34; go_simp⟩) HS0.out ?_
  simp only [List.getElem_toArray, List.getElem_cons_succ, List.getElem_cons_zero, Act.put, List.setIfInBounds_toArray, List.set_cons_zero, List.set_cons_succ]
  refine wpAnyH_take (i := 8) (v := .pointer (some ⟨w.heap.size, 35, none⟩)) rfl (by kernel_rfl) (by kernel_rfl) (by kernel_rfl) (fun _ _ _ h => h) (Or.inl ⟨by rfl, fun W hW => by go_simp⟩) HS0.out ?_
  simp only [List.getElem_toArray, List.getElem_cons_succ, List.getElem_cons_zero, Act.put, List.setIfInBounds_toArray, List.set_cons_zero, List.set_cons_succ]
  refine wpAnyH_take (i := 9) (v := .int .i64 st) rfl (by kernel_rfl) (by kernel_rfl) (by kernel_rfl) (fun _ _ _ h => h) (Or.inl ⟨by rfl, fun W hW => by have a := (cr hW).trans g35; go_simp⟩) HS0.out ?_
  simp only [List.getElem_toArray, List.getElem_cons_succ, List.getElem_cons_zero, Act.put, List.setIfInBounds_toArray, List.set_cons_zero, List.set_cons_succ]
  refine wpAnyH_take (i := 10) (v := .int .u32 st) rfl (by kernel_rfl) (by kernel_rfl) (by kernel_rfl) (fun _ _ _ h => h) (Or.inl ⟨by rfl, fun W hW => by go_simp⟩) HS0.out ?_
  simp only [List.getElem_toArray, List.getElem_cons_succ, List.getElem_cons_zero, Act.put, List.setIfInBounds_toArray, List.set_cons_zero, List.set_cons_succ]
  refine wpAnyH_take (i := 11) (v := .pointer (some ⟨w.heap.size, 36, none⟩)) rfl (by kernel_rfl) (by kernel_rfl) (by kernel_rfl) (fun _ _ _ h => h) (Or.inl ⟨by rfl, fun W hW => by go_simp⟩) HS0.out ?_
  simp only [List.getElem_toArray, List.getElem_cons_succ, List.getElem_cons_zero, Act.put, List.setIfInBounds_toArray, List.set_cons_zero, List.set_cons_succ]
  refine wpAnyH_take (i := 12) (v := .int .i64 ca) rfl (by kernel_rfl) (by kernel_rfl) (by kernel_rfl) (fun _ _ _ h => h) (Or.inl ⟨by rfl, fun W hW => by have a := (cr hW).trans g36; go_simp⟩) HS0.out ?_
  simp only [List.getElem_toArray, List.getElem_cons_succ, List.getElem_cons_zero, Act.put, List.setIfInBounds_toArray, List.set_cons_zero, List.set_cons_succ]
  refine wpAnyH_take (i := 13) (v := .int .u32 ca) rfl (by kernel_rfl) (by kernel_rfl) (by kernel_rfl) (fun _ _ _ h => h) (Or.inl ⟨by rfl, fun W hW => by go_simp⟩) HS0.out ?_
  simp only [List.getElem_toArray, List.getElem_cons_succ, List.getElem_cons_zero, Act.put, List.setIfInBounds_toArray, List.set_cons_zero, List.set_cons_succ]
  refine wpAnyH_ready (rs := [5]) (by kernel_rfl) (by simp) ?_
  refine AllReadyH.cons rfl (fun K hK => ?_) AllReadyH.nil
  go_simp
  refine (told_any hd _).mono ?_
  rintro e w2 ⟨rfl, rfl⟩
  simp only []
  refine hK.out _ _ HS0.out (fun hx => ?_)
  clear hK K hx
  refine wpAnyH_ready (rs := [14]) (by kernel_rfl) (by simp) ?_
  refine AllReadyH.cons rfl (fun K hK => ?_) AllReadyH.nil
  go_simp
  have HG2 : Hid (Gr w1 (World.drew (w1.alloc (.cells #[.int .u32 pc, .int .u32 (bi hd), .int .u32 ha, .int .u32 st, .int .u32 ca] 45)))) := ((Gr.refl _).alloc _).drew
  have HB2 : Hid ((World.drew (w1.alloc (.cells #[.int .u32 pc, .int .u32 (bi hd), .int .u32 ha, .int .u32 st, .int .u32 ca] 45))).heap[w1.heap.size]? = some (.cells #[.int .u32 pc, .int .u32 (bi hd), .int .u32 ha, .int .u32 st, .int .u32 ca] 45 (0, 0))) := heap_alloc_new w1 _
  generalize World.drew (w1.alloc (.cells #[.int .u32 pc, .int .u32 (bi hd), .int .u32 ha, .int .u32 st, .int .u32 ca] 45)) = w3 at *
  refine hK.out _ _ (Hr.heap_of_gr HG2.out HB1.out) (fun hx => ?_)
  clear hK K hx
  refine wpAnyH_ready (rs := [15]) (by kernel_rfl) (by simp) ?_
  refine AllReadyH.cons rfl (fun K hK => ?_) AllReadyH.nil
  go_simp
  refine (HN2.out _ _ _ (HI1.out.gr HG2.out) HB2.out).mono ?_
  rintro e w4 ⟨rfl, I4, F4⟩
  have HI4 : Hid (Wr w4 base g (l ++ hB h)) := I4
  have HF4 : Hid (Fi base w w4) := HF1.out.trans ((Fi.ofGr HG2.out HI1.out.le).trans F4)
  have hb4 : w4.heap[w.heap.size]? = some (.cells H 48 (0, 0)) := (F4.keep _ _ _ _ (Hr.heap_of_gr HG2.out HB1.out) (by decide) (by decide)).trans (Hr.heap_of_gr HG2.out HB1.out)
  simp only []
  refine hK.out _ _ hb4 (fun hx => ?_)
  clear hK K hx I4 F4 hb4
  refine wpAnyH_done (by kernel_rfl) ?_ _
  go_wp2_with fail
  go_end0
  exact ⟨rfl, HI4.out, HF4.out⟩
theorem one_row {x : Int} : ∀ i y, ([x] : List Int)[i]? = some y → (#[.int .u32 x] : Array Value)[0 + i]? = some (.int .u32 y) := by
  intro i y hy
  match i, hy with
  | 0, hy => simp at hy; subst hy; rfl
theorem one_number {w : World} {base g c b : Nat} {l : List UInt8} {x : Int} (I : Wr w base g l) (u : fit4 x) (hz : l.length + 4 ≤ 1000000) (hb : w.heap[b]? = some (.cells #[.int .u32 x] 45 (0, 0))) :
    Calls Try.prog 38 #[.pointer (some ⟨g, 0, none⟩), .slice (some ⟨b, 0, none⟩) 1 c] w fun e w' => e = .returned (.tuple #[]) ∧ Wr w' base g (l ++ n4 x) ∧ Fi base w w' := by
  have := numbers_any (o := 0) (c := c) (n := 1) (ns := [x]) I hb (by decide) (by decide) rfl one_row (fun y hy => by simp at hy; rw [hy]; exact u) (by omega)
  have e : nB [x] = n4 x := by simp [nB]
  rwa [e] at this
theorem Wr.grownG {w W w' : World} {base g n q : Nat} {l l' : List UInt8} {v v' : Value} (h : Wr w base g l) (e : w.heap[g]? = some (.cells #[v] 66 (0, 0))) (O : w.ownsRow base 5 1 v q (bc l)) (hq : l.length = q) (hn : l'.length = n) (g1 : W.grownBy w' v.ownBlock) (O' : w'.ownsRow base 5 1 v' (q + n) (bc l ++ bc l')) (G : Gr w W) :
    Wr (w'.setCell ⟨g, 0, none⟩ v') base g (l ++ l') ∧ Fi base w (w'.setCell ⟨g, 0, none⟩ v') := by
  subst hq
  obtain ⟨a, b⟩ := Wr.grown (h.gr G) (Hr.heap_of_gr G e) (owns_gr O G) g1 (n := n) (l' := l') (by rw [List.length_append, hn]) O'
  exact ⟨a, (Fi.ofGr G h.le).trans b⟩
theorem mem_below {w w' : World} {ao : Option Addr} {n base : Nat} {l : List UInt8} (M : Mem w ao n l) (B : Below base w w') (lt : 0 < n → ∀ ad, ao = some ad → ad.block < base) : Mem w' ao n l := by
  by_cases h : 0 < n
  · exact M.apart fun ad e => B.block _ (lt h ad e)
  · exact ⟨M.len, M.nil, fun ad e t ht => absurd ht (by omega)⟩
theorem mem_lt {w : World} {ao : Option Addr} {n : Nat} {l : List UInt8} (M : Mem w ao n l) : 0 < n → ∀ ad, ao = some ad → ad.block < w.heap.size := by
  intro h ad e
  obtain ⟨b, o, e', hb, _⟩ := M.spot h
  rw [e] at e'
  obtain rfl := Option.some.inj e'
  exact hb
set_option maxHeartbeats 2000000 in
set_option maxRecDepth 100000 in
theorem wmachine_any {w : World} {base g mn mc hn hc : Nat} {ma ha : Option Addr} {m : List UInt8} {hs : List Hv} (I : Wr w base g []) (M : Mem w ma mn m) (hcap : ma = none → mc = 0) (H : Hs w ha hn hs) (lt : 0 < mn → ∀ ad, ma = some ad → ad.block < base) (lh : ∀ ad, ha = some ad → ad.block < base) (hm : mayM mn hs = true) :
    Calls Try.prog 26 #[.pointer (some ⟨g, 0, none⟩), .agg #[.slice ma mn mc, .slice ha hn hc]] w fun e w' => e = .returned (.tuple #[]) ∧ Wr w' base g (mB m hs) ∧ Fi base w w' := by
  obtain ⟨i0, hi, hz0, hz1, hz2⟩ := info_parts info5
  obtain ⟨k1, k2, k3, k4⟩ := mayM_of hm
  have hl := H.len
  have ml := M.len
  rw [hl] at k2 k3
  have hle := I.le
  obtain ⟨hb, ho, rfl, hlt, hcell⟩ := H.spot (by omega)
  have HI : Hid (Wr w base g []) := I
  have HM : Hid (Mem w ma mn m) := M
  have HLt : Hid (0 < mn → ∀ ad, ma = some ad → ad.block < base) := lt
  have hbb : hb < base := lh _ rfl
  have HK : Hid (∀ i h, hs[i]? = some h → w.rangeAt hb (ho + i * 37) (hL h)) := hcell
  have HOK : Hid (∀ h ∈ hs, h.Ok) := H.ok
  have HMy : Hid (∀ h ∈ hs, may h = true) := k4
  have HL : Hid (hs.length = hn) := hl
  have HML : Hid (m.length = mn) := ml
  have ew : IntKind.u32.wrap (mn : Int) = mn := by show (mn : Int) % 4294967296 = mn; omega
  have ew2 : IntKind.u32.wrap (hn : Int) = hn := by show (hn : Int) % 4294967296 = hn; omega
  clear I M hcell H k4 hl ml hm lt lh
  go_enter Try.func26, Try.ntmps26
  go_wp2_with fail
  refine (one_number (l := []) (x := (mn : Int)) (HI.out.gr (((Gr.refl _).alloc _).alloc _)) ⟨by omega, by omega⟩ (by simp) (heap_alloc2_new w _ _)).mono ?_
  rintro e w1 ⟨rfl, I1, F1⟩
  obtain ⟨l1, hl1⟩ : ∃ l1, l1 = [] ++ n4 (mn : Int) := ⟨_, rfl⟩
  rw [← hl1] at I1
  have HQ1 : Hid (l1 = n4 (mn : Int)) := hl1
  have q1 : l1.length = 4 := by rw [hl1]; rfl
  have HX1 : Hid (w1.heap[w.heap.size]? = some (.cells #[.slice ma mn mc, .slice (some ⟨hb, ho, none⟩) hn hc] 25 (0, 0))) := (F1.keep _ _ _ _ (heap_alloc2_old w _ _) (by decide) (by decide)).trans (heap_alloc2_old w _ _)
  have HF1 : Hid (Fi base w w1) := (Fi.ofGr (((Gr.refl _).alloc _).alloc _) hle).trans F1
  have HI1 : Hid (Wr w1 base g l1) := I1
  have HM1 : Hid (Mem w1 ma mn m) := mem_below HM.out HF1.out.below HLt.out
  have hle1 : base ≤ w1.heap.size := I1.le
  obtain ⟨v, e, O⟩ := I1.blk
  obtain ⟨va, vc, rfl⟩ := own_slice O
  rw [q1] at e O
  have HE1 : Hid (w1.heap[g]? = some (.cells #[.slice va 4 vc] 66 (0, 0))) := e
  have HO1 : Hid (w1.ownsRow base 5 1 (.slice va 4 vc) 4 (bc l1)) := O
  have HQ4 : Hid (l1.length = 4) := q1
  have x1 := cr0 e
  have y0 := cr0 HX1.out
  clear I1 F1 e O hl1 HM HI q1
  go_wp2_with fail
  go_region_law (refine step_append_src rfl (.tmp 17) (.tmp 19) rfl Try.underlying22 hi hz0 hz1 hz2 rfl (by decide) (by simp [Act.eval, Act.put]) (by simp [Act.eval, Act.put]) (owns_gr HO1.out (by repeat (first | exact Gr.refl _ | refine Gr.drew ?_))) (Src.mem (HM1.out.of (by repeat (first | exact Gr.refl _ | refine Gr.drew ?_))) hcap) (bc_one m) (by unfold maxLen; omega) (by omega) (by exact hle1) ?_; intro v' w2 hown hgrow; obtain ⟨va', vc', rfl⟩ := own_slice hown; have HW : Hid (Wr (w2.setCell ⟨g, 0, none⟩ (.slice va' (4 + mn) vc')) base g (l1 ++ m) ∧ Fi base w1 (w2.setCell ⟨g, 0, none⟩ (.slice va' (4 + mn) vc'))) := Wr.grownG HI1.out HE1.out HO1.out HQ4.out HML.out hgrow hown (by repeat (first | exact Gr.refl _ | refine Gr.drew ?_)); have hh := grown_keep' (owns_gr HO1.out (by repeat (first | exact Gr.refl _ | refine Gr.drew ?_))) hgrow (by decide) (Hr.heap_of_gr (by repeat (first | exact Gr.refl _ | refine Gr.drew ?_)) HE1.out); have hh2 : w2.heap[g]? = some (.cells #[.slice va 4 vc] 66 (0, 0)) := hh.trans (Hr.heap_of_gr (by repeat (first | exact Gr.refl _ | refine Gr.drew ?_)) HE1.out); have j0 := cr0 hh2; have j1 : w2.frozen? ⟨g, 0, none⟩ = false := fzr hh2; clear hown hgrow hh hh2)
  all_goals
    have HF3 : Hid (Fi base w (w2.setCell ⟨g, 0, none⟩ (.slice va' (4 + mn) vc'))) := HF1.out.trans HW.out.2
    have HI3 : Hid (Wr (w2.setCell ⟨g, 0, none⟩ (.slice va' (4 + mn) vc')) base g (l1 ++ m)) := HW.out.1
    have HX3 : Hid ((w2.setCell ⟨g, 0, none⟩ (.slice va' (4 + mn) vc')).heap[w.heap.size]? = some (.cells #[.slice ma mn mc, .slice (some ⟨hb, ho, none⟩) hn hc] 25 (0, 0))) := (HW.out.2.keep _ _ _ _ HX1.out (by decide) (by decide)).trans HX1.out
    clear HW j0 j1 HF1 HX1 HI1 HE1 HO1 HM1 x1 y0
    generalize w2.setCell ⟨g, 0, none⟩ (.slice va' (4 + mn) vc') = w3 at *
    have y1 := cr1 HX3.out
    clear w2
    go_wp2_with fail
    refine (one_number (x := (hn : Int)) (HI3.out.gr ((Gr.refl _).alloc _)) ⟨by omega, by omega⟩ (by rw [List.length_append, HQ4.out, HML.out]; omega) (heap_alloc_new w3 _)).mono ?_
    rintro e w4 ⟨rfl, I4, F4⟩
    have HX4 : Hid (w4.heap[w.heap.size]? = some (.cells #[.slice ma mn mc, .slice (some ⟨hb, ho, none⟩) hn hc] 25 (0, 0))) := (F4.keep _ _ _ _ (Hr.heap_of_gr ((Gr.refl _).alloc _) HX3.out) (by decide) (by decide)).trans (Hr.heap_of_gr ((Gr.refl _).alloc _) HX3.out)
    have HF4 : Hid (Fi base w w4) := HF3.out.trans ((Fi.ofGr ((Gr.refl _).alloc _) HI3.out.le).trans F4)
    have HLe : Hid ((l1 ++ m ++ n4 (hn : Int)).length ≤ 5000) := by unfold Hid; rw [List.length_append, List.length_append, HQ4.out, HML.out, n4_len]; omega
    have HMB : Hid (mB m hs = l1 ++ m ++ n4 (hn : Int) ++ hsB hs) := by unfold Hid mB; rw [HQ1.out, HML.out, HL.out]; simp only [List.append_assoc]
    generalize l1 ++ m ++ n4 (hn : Int) = l4 at *
    have HI4 : Hid (Wr w4 base g l4) := I4
    have y2 := cr1 HX4.out
    clear I4 F4 HI3 HF3 HX3 y1
    go_wp2_with fail
    go_loopw [33] (fun i wr => ∃ k : Nat, k ≤ hn ∧ i = .int .i64 k ∧ Wr wr base g (l4 ++ hsB (hs.take k)) ∧ Fi base w wr) (fun i _ => hn - (intOf i).toNat)
    case atStart => exact ⟨0, Nat.zero_le _, rfl, by simpa [hsB] using HI4.out, HF4.out⟩
    case round =>
      obtain ⟨k, hk, rfl, I, F⟩ := hrel
      have HF : Hid (Fi base w wr) := F
      have HIr : Hid (Wr wr base g (l4 ++ hsB (hs.take k))) := I
      clear I F
      by_cases hlt2 : k < hn
      · obtain ⟨h, hh⟩ : ∃ h, hs[k]? = some h := ⟨_, List.getElem?_eq_getElem (by rw [HL.out]; exact hlt2)⟩
        have okh := HOK.out h (List.mem_of_getElem? hh)
        have mayh := HMy.out h (List.mem_of_getElem? hh)
        have RG : Hid (wr.rangeAt hb (ho + k * 37) (hL h)) := fun j v hv => (Below.cell HF.out.below (by exact hbb)).trans (HK.out k h hh j v hv)
        have HLL : Hid ((hL h).length = 37) := hL_len okh
        have HSZ : Hid ((hL h).toArray.size = 37) := by unfold Hid; simp [HLL.out]
        have HONE : Hid ((hL h).toArray.all (·.oneCell') = true) := one_hA h
        have HT : Hid (l4 ++ hsB (hs.take (k + 1)) = (l4 ++ hsB (hs.take k)) ++ hB h) := by
          unfold Hid
          rw [List.take_add_one, hh, List.append_assoc]
          exact congrArg _ (hsB_snoc _ _)
        have HLk : Hid ((l4 ++ hsB (hs.take k)).length + 148 ≤ 1000000) := by
          have := HLe.out
          unfold Hid
          rw [List.length_append, hsB_len (fun q hq => HOK.out q (List.mem_of_mem_take hq)), List.length_take, HL.out]
          omega
        have M1 : Hid (∀ W : World, Wr W base g (l4 ++ hsB (hs.take k)) → Calls Try.prog 39 #[.pointer (some ⟨g, 0, none⟩), .agg (hL h).toArray] W fun e w' => e = .returned (.tuple #[]) ∧ Wr w' base g (l4 ++ hsB (hs.take (k + 1))) ∧ Fi base W w') := fun W I => by
          have := whart_any I okh mayh HLk.out
          rw [← HT.out] at this
          exact this
        have HW4 : Hid (∀ Y : Array Value, Gr wr ((wr.alloc (.cells Y 48)).setRow wr.heap.size (hL h).toArray)) := fun Y => gr_setRow ((Gr.refl _).alloc _) (Nat.le_refl _) _
        have HX5 : Hid (∀ Y : Array Value, ((wr.alloc (.cells Y 48)).setRow wr.heap.size (hL h).toArray).heap[wr.heap.size]? = some (.cells (hL h).toArray 48 (0, 0))) := fun Y => setRow_heap _ _ _ _ _ (0, 0) (heap_alloc_new wr _)
        clear hh okh mayh HT y2
        go_wp2_with (first
          | (refine wpList_load_mid rfl 48 _ rfl hb (ho + k * 37) rfl (hL h) _ ?r1 Try.underlying48 rfl (by rw [HLL.out]; exact iH) ?_; (case r1 => exact RG.out))
          | (refine wpList_store_row rfl 48 _ _ rfl wr.heap.size (hL h).toArray rfl rfl 48 _ (heap_alloc_new wr _) (by rw [HSZ.out]; exact iH) (by rw [HSZ.out]; rfl) HONE.out ?_)
          | (refine wpList_load_row rfl 48 _ rfl wr.heap.size rfl 48 (hL h).toArray (0, 0) _ ?r2 Try.underlying48 rfl (by rw [HSZ.out]; exact iH) ?_; (case r2 => exact HX5.out _)))
        refine (M1.out _ (HIr.out.gr (HW4.out _))).mono ?_
        rintro e w5 ⟨rfl, I5, F5⟩
        have HI5 : Hid (Wr w5 base g (l4 ++ hsB (hs.take (k + 1)))) := I5
        have HF5 : Hid (Fi base w w5) := HF.out.trans ((Fi.ofGr (HW4.out _) HIr.out.le).trans F5)
        clear I5 F5 M1 HW4 HX5 RG HIr HF
        go_wp2_with fail
        go_roundw
        case rel => exact ⟨k + 1, by omega, by go_num, HI5.out, HF5.out⟩
        case measure => simp [intOf]; omega
      · have ek : hs.take k = hs := by rw [List.take_of_length_le (by rw [HL.out]; omega)]
        have HI6 : Hid (Wr wr base g (mB m hs)) := by have := HIr.out; rw [ek, ← HMB.out] at this; exact this
        clear ek HIr
        go_wp2_with fail
        go_end0
        exact ⟨rfl, HI6.out, HF.out⟩
end Go.Proofs.Ythgnfmbnbndeeac.Im
/-
  What package image's Put answers.
-/
namespace Go.Proofs.Ythgnfmbnbndeeac.Im
open Go.ChangeShapes Go.WideShapes Go.ChangeAt Go.RowKit Mm Hh Hc Mc
set_option linter.unusedVariables false
set_option linter.unusedSimpArgs false

variable {w : World} {ma ha : Option Addr} {mn mc hn hc : Nat} {m : List UInt8} {hs : List Hv}
set_option maxHeartbeats 1000000 in
set_option maxRecDepth 100000 in
theorem Put_no (H : Hs w ha hn hs) (b1 : mn ≤ 140737488351232) (b2 : hn ≤ 140737488351232) (hm : mayM mn hs = false) :
    Calls Try.prog 11 #[.agg #[.slice ma mn mc, .slice ha hn hc]] w fun e w' => e = .returned (.tuple #[.slice none 0 0, .int .i64 2]) ∧ Gr w w' := by
  have HM : Hid (∀ W : World, Gr w W → Calls Try.prog 17 #[.agg #[.slice ma mn mc, .slice ha hn hc]] W fun e w' => e = .returned (.bool false) ∧ Gr W w') := fun W G => by
    have := MMay_any (ma := ma) mc hc mn (H.of G) b1 b2
    rwa [hm] at this
  clear H hm
  go_enter Try.func11, Try.ntmps11
  go_wp2_with fail
  refine (HM.out _ ((Gr.refl _).alloc _)).mono ?_
  rintro e w1 ⟨rfl, G1⟩
  have HG : Hid (Gr w w1) := ((Gr.refl _).alloc _).trans G1
  clear G1 HM
  go_wp2_with fail
  go_ret2
  exact ⟨rfl, HG.out⟩
theorem hs_lt (H : Hs w ha hn hs) (h0 : 0 < hn) : ∀ ad, ha = some ad → ad.block < w.heap.size := by
  intro ad e
  obtain ⟨b, o, e', hb, _⟩ := H.spot h0
  rw [e] at e'
  obtain rfl := Option.some.inj e'
  exact hb
/-- The block of a slice of no bytes is not known to be there: such a slice may as well be nil. -/
theorem Wr.row {base g : Nat} {l : List UInt8} {v : Value} (O : w.ownsRow base 5 1 v l.length (bc l)) (h0 : 0 < l.length) : ∃ k cap, v = .slice (some ⟨k, 0, none⟩) l.length cap ∧ base ≤ k ∧ l.length ≤ cap ∧ Row w k l := by
  rcases own_of rfl O with ⟨_, e⟩ | ⟨k, cap, e, ⟨hb, hc⟩, R⟩
  · rw [e] at h0; cases h0
  · exact ⟨k, cap, e, hb, hc, R⟩
set_option maxHeartbeats 1000000 in
set_option maxRecDepth 100000 in
theorem Put_yes (M : Mem w ma mn m) (hcap : ma = none → mc = 0) (H : Hs w ha hn hs) (hm : mayM mn hs = true) :
    Calls Try.prog 11 #[.agg #[.slice ma mn mc, .slice ha hn hc]] w fun e w' => ∃ k cap, e = .returned (.tuple #[.slice (some ⟨k, 0, none⟩) (mB m hs).length cap, .int .i64 0]) ∧ w.heap.size ≤ k ∧ (mB m hs).length ≤ cap ∧ Row w' k (mB m hs) ∧ Gr w w' := by
  obtain ⟨k1, k2, k3, k4⟩ := mayM_of hm
  have HM : Hid (∀ W : World, Gr w W → Calls Try.prog 17 #[.agg #[.slice ma mn mc, .slice ha hn hc]] W fun e w' => e = .returned (.bool true) ∧ Gr W w') := fun W G => by
    have := MMay_any (ma := ma) mc hc mn (H.of G) (by omega) (by rw [← H.len]; omega)
    rwa [hm] at this
  have HL : Hid (0 < (mB m hs).length) := by unfold Hid; rw [mB_len H.ok]; omega
  have HWm : Hid (∀ (W : World) (g : Nat), Gr w W → Wr W w.heap.size g [] → Calls Try.prog 26 #[.pointer (some ⟨g, 0, none⟩), .agg #[.slice ma mn mc, .slice ha hn hc]] W fun e w' => e = .returned (.tuple #[]) ∧ Wr w' w.heap.size g (mB m hs) ∧ Fi w.heap.size W w') := fun W g G I =>
    wmachine_any I (M.of G) hcap (H.of G) (mem_lt M) (hs_lt H (by rw [← H.len]; omega)) hm
  clear H M hm k1 k2 k3 k4 hcap
  generalize mB m hs = B at *
  go_enter Try.func11, Try.ntmps11
  go_wp2_with fail
  refine (HM.out _ ((Gr.refl _).alloc _)).mono ?_
  rintro e w1 ⟨rfl, G1⟩
  have HX1 : Hid (w1.heap[w.heap.size]? = some (.cells #[.slice ma mn mc, .slice ha hn hc] 25 (0, 0))) := Hr.heap_of_gr G1 (heap_alloc_new w _)
  have HG1 : Hid (Gr w w1) := ((Gr.refl _).alloc _).trans G1
  have x0 := cr0 HX1.out
  have x1 := cr1 HX1.out
  have hl1 : w.heap.size < w1.heap.size := (gs HX1.out).1
  clear G1 HM
  go_wp2_with fail
  refine (HWm.out _ w1.heap.size (HG1.out.alloc _) ⟨by omega, _, heap_alloc_new w1 _, rfl, .inl ⟨rfl, rfl⟩⟩).mono ?_
  rintro e w2 ⟨rfl, I2, F2⟩
  have HG2 : Hid (Gr w w2) := Below.trans (HG1.out.alloc _) F2.below
  obtain ⟨v, e, O⟩ := I2.blk
  obtain ⟨k, cap, rfl, hk, hcp, R⟩ := Wr.row (g := 0) O HL.out
  have z0 := cr0 e
  have HR : Hid (Row w2 k B) := R
  have HK : Hid (w.heap.size ≤ k) := hk
  have HC : Hid (B.length ≤ cap) := hcp
  clear I2 F2 e O R hk hcp HWm x0 x1
  go_wp2_with fail
  go_ret2
  exact ⟨k, cap, rfl, HK.out, HC.out, HR.out, HG2.out⟩
end Go.Proofs.Ythgnfmbnbndeeac.Im
/-
  What package machine's wrong and slices.Clone (of harts) answer.
-/
namespace Go.Proofs.Ythgnfmbnbndeeac.Mc
open Go.ChangeShapes Go.WideShapes Go.ChangeAt Go.RowKit Mm Hh Hc
set_option linter.unusedVariables false
set_option linter.unusedSimpArgs false

variable {hs : List Hv} {w : World} {n : Nat}
theorem owns_at {base e sz : Nat} {v : Value} {xs : List Value} (h : w.ownsRow base e sz v n xs) (hn : 1 ≤ n) : ∃ g cap, v = .slice (some ⟨g, 0, none⟩) n cap ∧ base ≤ g := by
  obtain ⟨_, h⟩ := h
  rcases h with ⟨_, h0⟩ | ⟨g, cap, cur, hv, hb, _⟩
  · omega
  · exact ⟨g, cap, hv, hb⟩
theorem infoH : (Try.prog.info? 48).map (fun i => (i.zero, i.size, i.bytes)) = some (some (.agg (hA h0)), 37, 160) := by kernel_rfl
set_option maxHeartbeats 1000000 in
set_option maxRecDepth 100000 in
/-- slices.Clone, of harts. -/
theorem HClone_any {ad : Addr} (cap : Nat) (H : Hs w (some ad) n hs) (hn1 : 1 ≤ n) (hn : n ≤ 4) :
    Calls Try.prog 20 #[.slice (some ad) n cap] w fun e w' => ∃ g c, e = .returned (.slice (some ⟨g, 0, none⟩) n c) ∧ w.heap.size ≤ g ∧ HRow w' g hs ∧ Gr w w' := by
  obtain ⟨i0, hi, hz0, hz1, hz2⟩ := info_parts infoH
  have HH : Hid _ := H
  have HL : Hid _ := H.len
  have HO : Hid _ := H.ok
  have he : ∀ w : World, (binOp .eql 23 (.slice (some ad) n cap) (.slice none 0 0)).run Try.prog w = .ok (.bool false) w := fun _ => by kernel_rfl
  clear H
  go_enter Try.func20, Try.ntmps20
  go_wp2_with (at_builtin; refine wpList_append_own _ rfl (.tmp 5) (.tmp 6) 23 rfl w.heap.size 48 i0 (.agg (hA h0)) 37 160 Try.underlying23 hi hz0 hz1 hz2 rfl (by decide) _ 0 [] rfl (World.ownsRow_made w #[] 0 (Nat.le_refl _) (by decide) rfl) ad n cap (hC hs) rfl (by rw [hC_len HO.out, HL.out]) (HH.out.of ((Gr.refl _).alloc _)).src (hC_one hs) (by unfold maxLen; omega) (by omega) (by simp) ?_; intro v' w1 hown hgrow _; have HOw : Hid (w1.ownsRow w.heap.size 48 37 v' n (hC hs)) := (by unfold Hid; simpa using hown); have HG : Hid (Gr w w1) := ((Gr.refl _).alloc _).grown hgrow (fun k e => Nat.le_of_eq (Option.some.inj e)); clear hown hgrow)
  obtain ⟨g, c, rfl, hg⟩ := owns_at HOw.out hn1
  have HR : Hid (HRow w1 g hs) := HRow.own HO.out HOw.out
  clear HOw
  go_ret
  exact ⟨g, c, rfl, hg, HR.out, HG.out⟩
end Go.Proofs.Ythgnfmbnbndeeac.Mc
/-
  A board of package machine, as cells of memory; what NewBoard answers.
-/
namespace Go.Proofs.Ythgnfmbnbndeeac.Mc
open Go.ChangeShapes Go.WideShapes Go.ChangeAt Go.RowKit Mm Hh Hc
set_option linter.unusedVariables false
set_option linter.unusedSimpArgs false

variable {ty : Nat} {rs : List Value}
theorem HRow.of {w w' : World} {g : Nat} {hs : List Hv} (r : HRow w g hs) (G : Gr w w') : HRow w' g hs := by
  obtain ⟨rest, e⟩ := r.row
  exact ⟨r.ok, rest, (G.block _ (gs e).1).trans e⟩
theorem own_gr {w w' : World} {base : Nat} {v : Value} {l : List UInt8} (h : Own w base v l) (G : Gr w w') : Own w' base v l :=
  h.to fun k o f e => G.block _ (gs e).1
/-- A board at the beginning of block g, which is of type ty (the cells behind the board: rs): its memory M, its harts in block gh, what came out O. -/
structure Bw (ty : Nat) (rs : List Value) (w : World) (base g : Nat) (M : Value) (gh hc : Nat) (O : Value) (s : Sh) : Prop where
  t1 : ty ≠ 5
  t2 : ty ≠ 45
  t3 : ty ≠ 48
  bg : base ≤ g
  blk : w.heap[g]? = some (.cells (M :: .slice (some ⟨gh, 0, none⟩) s.hs.length hc :: O :: .int .i64 s.steps :: rs).toArray ty (0, 0))
  mem : Own w 0 M s.m
  bh : base ≤ gh
  row : HRow w gh s.hs
  out : w.ownsRow base 45 1 O s.out.length (s.out.map (Value.int .u32))
def Bd (ty : Nat) (rs : List Value) (w : World) (base g : Nat) (s : Sh) : Prop := ∃ M gh hc O, Bw ty rs w base g M gh hc O s
theorem Bw.of {w w' : World} {base g : Nat} {M : Value} {gh hc : Nat} {O : Value} {s : Sh} (B : Bw ty rs w base g M gh hc O s) (G : Gr w w') : Bw ty rs w' base g M gh hc O s :=
  ⟨B.t1, B.t2, B.t3, B.bg, (G.block _ (gs B.blk).1).trans B.blk, own_gr B.mem G, B.bh, B.row.of G, owns_to B.out fun k o f e => G.block _ (gs e).1⟩
theorem Bd.of {w w' : World} {base g : Nat} {s : Sh} (B : Bd ty rs w base g s) (G : Gr w w') : Bd ty rs w' base g s := by
  obtain ⟨M, gh, hc, O, B⟩ := B
  exact ⟨M, gh, hc, O, B.of G⟩
section
variable {w : World} {base g gh hc : Nat} {M O : Value} {s : Sh}
theorem Bw.lt (B : Bw ty rs w base g M gh hc O s) : g < w.heap.size := (gs B.blk).1
theorem Bw.c0 (B : Bw ty rs w base g M gh hc O s) : w.cell? ⟨g, 0, none⟩ = some M := (cr B.blk).trans (by simp)
theorem Bw.c1 (B : Bw ty rs w base g M gh hc O s) : w.cell? ⟨g, 1, none⟩ = some (.slice (some ⟨gh, 0, none⟩) s.hs.length hc) := (cr B.blk).trans (by simp)
theorem Bw.c2 (B : Bw ty rs w base g M gh hc O s) : w.cell? ⟨g, 2, none⟩ = some O := (cr B.blk).trans (by simp)
theorem Bw.c3 (B : Bw ty rs w base g M gh hc O s) : w.cell? ⟨g, 3, none⟩ = some (.int .i64 s.steps) := (cr B.blk).trans (by simp)
theorem Bw.rest (B : Bw ty rs w base g M gh hc O s) (i : Nat) : w.cell? ⟨g, 4 + i, none⟩ = rs[i]? := (cr B.blk).trans (by rw [List.getElem?_toArray, Nat.add_comm]; rfl)
end

theorem one_bd (a b c : Option Addr) (n1 n2 n3 c1 c2 c3 : Nat) (x : Int) : (#[.slice a n1 c1, .slice b n2 c2, .slice c n3 c3, .int .i64 x] : Array Value).all (·.oneCell') = true := by
  refine all_oneCell_toArray ?_
  intro v hv
  simp only [List.mem_cons, List.not_mem_nil, or_false] at hv
  rcases hv with rfl | rfl | rfl | rfl <;> rfl
theorem clone_own {ma : Option Addr} {mc : Nat} {m : List UInt8} {w : World} {mn : Nat} (M : Mem w ma mn m) (hcap : ma = none → mc = 0) (hn : mn ≤ 4096) :
    Calls Try.prog 19 #[.slice ma mn mc] w fun e w' => ∃ a c, e = .returned (.slice a mn c) ∧ Own w' 0 (.slice a mn c) m ∧ Gr w w' :=
  (Clone_any M hcap (by omega)).mono fun e w' ⟨v, e1, e2, e3⟩ => by
    obtain ⟨a, c, rfl, _⟩ := e2.mem
    have := M.len
    rw [this] at e1 e2
    exact ⟨a, c, e1, e2.base (w' := w') (Nat.zero_le _), e3⟩
end Go.Proofs.Ythgnfmbnbndeeac.Mc
/-
  What the methods of package hart's core do: reserve, storeHeld, Atom, effect.
-/
namespace Go.Proofs.Ythgnfmbnbndeeac.Hc
open Go.ChangeShapes Go.WideShapes Go.ChangeAt Go.RowKit Mm Hh
set_option linter.unusedVariables false
set_option linter.unusedSimpArgs false

abbrev Ptr (g : Nat) : Value := .pointer (some ⟨g, 0, none⟩)
def ret2 (r : Option Int) : Value := .tuple #[.int .u32 (r.getD 0), .bool r.isSome]

end Go.Proofs.Ythgnfmbnbndeeac.Hc
/-
  What the method effect of package hart's core does, of every instruction.
-/
namespace Go.Proofs.Ythgnfmbnbndeeac.Hc
open Go.ChangeShapes Go.WideShapes Go.ChangeAt Go.RowKit Mm Hh
set_option linter.unusedVariables false
set_option linter.unusedSimpArgs false

variable {w : World} {base g : Nat} {h : Hv} {l : List UInt8} {os : List Int} {ss : List (Int × Int)}
theorem within_yes (n a b : Int) (w : World) (h : a ≤ n ∧ n ≤ b) : Calls Try.prog 43 #[.int .i64 n, .int .i64 a, .int .i64 b] w fun e w' => e = .returned (.bool true) ∧ w = w' := by
  have := within_any n a b w
  rw [show (decide (a ≤ n) && decide (n ≤ b)) = true by simp; omega] at this
  exact this.mono fun e w' h => ⟨h.1, h.2.symm⟩
theorem within_no (n a b : Int) (w : World) (h : ¬ (a ≤ n ∧ n ≤ b)) : Calls Try.prog 43 #[.int .i64 n, .int .i64 a, .int .i64 b] w fun e w' => e = .returned (.bool false) ∧ w = w' := by
  have := within_any n a b w
  rw [show (decide (a ≤ n) && decide (n ≤ b)) = false by simp; omega] at this
  exact this.mono fun e w' h => ⟨h.1, h.2.symm⟩
def opers : List Int := [0, 0, 0, 0, 0, 0, 0, 0, 0, 0, 0, 0, 0, 0, 0, 0, 0, 0, 0, 28, 31, 32, 33, 36, 37, 30, 34, 35]
end Go.Proofs.Ythgnfmbnbndeeac.Hc
/-
  What the two tables of package decode hold, cell by cell, wherever they read as their initialisers lay them; and the word for 'this call made memory, and nothing old has turned' ('Gr').
-/
namespace Go.Proofs.Ythgnfmbnbndeeac.Dw
open Go.ChangeShapes Go.WideShapes Go.ChangeAt Go.RowKit
set_option linter.unusedVariables false

variable {w w' a : World} {v : Value}
/-- Memory was made, or an order drawn; of what was there nothing has turned. -/
def Gr (w w' : World) : Prop := Below w.heap.size w w' ∧ ∀ a, w'.frozen? a = w.frozen? a
theorem Gr.refl (w : World) : Gr w w := ⟨Below.refl _ _, fun _ => rfl⟩
theorem Gr.size (h : Gr w w') : w.heap.size ≤ w'.heap.size := h.1.size
theorem Gr.trans {b c : World} (h : Gr a b) (k : Gr b c) : Gr a c := ⟨h.1.trans (k.1.mono h.1.size), fun x => (k.2 x).trans (h.2 x)⟩
theorem Gr.alloc (h : Gr a w) (c : Array Value) (t : TypeId) : Gr a (w.alloc (.cells c t)) := ⟨h.1.alloc h.1.size _, fun x => (frozen?_alloc_cells _ _ _ x).trans (h.2 x)⟩
theorem Gr.setCell (h : Gr a w) {p : Addr} (hp : a.heap.size ≤ p.block) (v : Value) : Gr a (w.setCell p v) := ⟨h.1.setCell hp v, fun x => (World.frozen?_setCell _ _ _ _).trans (h.2 x)⟩
theorem Gr.drewN (h : Gr a w) (n : Nat) : Gr a (w.drewN n) := ⟨⟨h.1.os, h.1.tape, h.1.output, h.1.size, h.1.block⟩, h.2⟩
theorem Gr.grown (h : Gr a w) : Grown a w := ⟨h.1.frame _, h.2, h.1.size⟩
theorem Gr.cell (h : Gr w w') (b o : Nat) (hb : b < w.heap.size) : w'.cell? ⟨b, o, none⟩ = w.cell? ⟨b, o, none⟩ := h.1.cell (p := ⟨b, o, none⟩) hb
theorem lt_of_cell {b o : Nat} (h : w.cell? ⟨b, o, none⟩ = some v) : b < w.heap.size := by
  by_cases hb : b < w.heap.size
  · exact hb
  · have : w.heap[b]? = none := by simp; omega
    simp [World.cell?, this] at h

/-- The value at a cell of plain data. -/
def look {H : Type} (P : Program) : Nat → TypeId → DataW H → Nat → Option Value
  | 0, _, _, _ => none
  | n + 1, t, d, i =>
    match P.underlying t, d with
    | some .bool, .lit (.bool b) => if i = 0 then some (.bool b) else none
    | some (.int _), .lit (.int k m) => if i = 0 then some (.int k m) else none
    | some (.struct fs), .agg ds =>
      match (List.range fs.size).find? (fun j => match fs[j]? with | some f => decide (f.offset ≤ i) && decide (i < f.offset + P.cellsOf f.type) | none => false) with
      | some j => match fs[j]?, ds[j]? with
        | some f, some e => if f.offset ≤ i ∧ i < f.offset + P.cellsOf f.type then look P n f.type e (i - f.offset) else none
        | _, _ => none
      | none => none
    | some (.array k e), .agg ds =>
      match ds[i / P.cellsOf e]? with
      | some x => if 0 < P.cellsOf e ∧ i / P.cellsOf e < k then look P n e x (i % P.cellsOf e) else none
      | none => none
    | _, _ => none

theorem take_drop_get {α : Type} (cs : List α) (a n i : Nat) (v : α) (h : ((cs.drop a).take n)[i]? = some v) : cs[a + i]? = some v := by
  rw [List.getElem?_take] at h
  split at h
  · rwa [List.getElem?_drop] at h
  · cases h

theorem look_cell {H : Type} {enc : TypeId × Value → H} {P : Program} {base : Nat} {spare : Nat → Bool} {held : Bool} : (n : Nat) → ∀ {fuel : Nat} {t : TypeId} {cs : List Value} {d : DataW H} {ps : List MemPlace} {i : Nat} {v : Value},
    DataW.trod enc P w base spare held fuel t cs = some (d, ps) → look P n t d i = some v → cs[i]? = some v
  | 0, _, _, _, _, _, _, _, _, hl => by cases hl
  | n + 1, fuel, t, cs, d, ps, i, v, h, hl => by
    unfold look at hl
    split at hl
    · rename_i ht
      obtain ⟨b, rfl, hx⟩ := DataW.trod_bool ht h
      simp at hx
      split at hl
      · subst_vars; simpa [hx.1] using hl
      · cases hl
    · rename_i ht
      obtain ⟨b, rfl, hx, _⟩ := DataW.trod_int ht h
      simp at hx
      split at hl
      · subst_vars; simp at hl; rw [← hl, hx.1.1, hx.1.2]; rfl
      · cases hl
    · rename_i fs ds ht
      obtain ⟨xs, m, rfl, hx, _, hlen, hel⟩ := DataW.trod_struct ht h
      simp only [Prod.mk.injEq, DataW.agg.injEq] at hx
      split at hl
      · rename_i j _
        split at hl
        · rename_i f e hf he
          split at hl
          · rename_i hi
            have hE := hel j f hf
            rw [hx.1, List.getElem?_map] at he
            cases hy : xs[j]? with
            | none => simp [hy] at he
            | some y =>
              rw [hy] at hE he
              simp at he
              have := look_cell n (d := e) (ps := y.2) (by rw [hE, ← he]) hl
              have := take_drop_get _ _ _ _ _ this
              rwa [show f.offset + (i - f.offset) = i by omega] at this
          · cases hl
        · cases hl
      · cases hl
    · rename_i k e ds ht
      obtain ⟨xs, m, rfl, hx, _, hlen, hel⟩ := DataW.trod_array ht h
      simp only [Prod.mk.injEq, DataW.agg.injEq] at hx
      split at hl
      · rename_i x he
        split at hl
        · rename_i hi
          have hE := hel _ hi.2
          rw [hx.1, List.getElem?_map] at he
          cases hy : xs[i / P.cellsOf e]? with
          | none => simp [hy] at he
          | some y =>
            rw [hy] at hE he
            simp at he
            have := look_cell n (d := x) (ps := y.2) (by rw [hE, ← he]) hl
            have := take_drop_get _ _ _ _ _ this
            rwa [Nat.mul_comm, Nat.div_add_mod] at this
        · cases hl
      · cases hl
    · cases hl

/-- A shape, cell by cell: what tells it, its registers, the pieces of Imm (12 numbers), how many bits are above its sign. -/
def shape (told : Int) (rd rs1 rs2 : Bool) (imm : List Int) (spare : Int) : List Value := [.int .u32 told, .bool rd, .bool rs1, .bool rs2] ++ imm.map (fun n => .int .i64 n) ++ [.int .i64 spare]
def pieces (f : Nat) : List Int := match f with
  | 1 => [12, 12, 20, 0, 0, 0, 0, 0, 0, 0, 0, 0] | 2 => [31, 20, 1, 12, 12, 8, 20, 11, 1, 21, 1, 10] | 3 => [20, 0, 12, 0, 0, 0, 0, 0, 0, 0, 0, 0] | 4 => [20, 0, 5, 0, 0, 0, 0, 0, 0, 0, 0, 0]
  | 5 => [31, 12, 1, 7, 11, 1, 25, 5, 6, 8, 1, 4] | 6 => [25, 5, 7, 7, 0, 5, 0, 0, 0, 0, 0, 0] | 8 => [25, 0, 2, 0, 0, 0, 0, 0, 0, 0, 0, 0] | _ => [0, 0, 0, 0, 0, 0, 0, 0, 0, 0, 0, 0]
def spare (f : Nat) : Int := match f with | 2 => 11 | 3 => 20 | 5 => 19 | 6 => 20 | _ => 0
def shapes : List Value := (List.range 10).flatMap fun (f : Nat) => shape (Dc.mask f) (Dc.hasRd f) (Dc.hasRs1 f) (Dc.hasRs2 f) (pieces f) (spare f)

theorem look_of {d : DataW Unit} {n t N : Nat} {l : List Value} (h : (List.range N).map (look Try.prog n t d) = l.map some) {i : Nat} (hi : l[i]? = some v) : look Try.prog n t d i = some v := by
  have e := congrArg (·[i]?) h
  simp only [List.getElem?_map, hi, Option.map_some] at e
  cases hr : (List.range N)[i]? with
  | none => simp [hr] at e
  | some j =>
    rw [hr] at e
    have : j = i := by
      rw [List.getElem?_eq_some_iff] at hr
      obtain ⟨_, hr⟩ := hr
      simpa using hr.symm
    subst this
    simpa using e
end Go.Proofs.Ythgnfmbnbndeeac.Dw
/-
  What package decode's small functions return: taken, within, row, told, span. Conditions: the tables hold what their initialisers lay ('Tab'); words are from 0 to 2^32 - 1.
-/
namespace Go.Proofs.Ythgnfmbnbndeeac.Dw
open Go.ChangeShapes Go.WideShapes Go.ChangeAt Go.RowKit
set_option linter.unusedVariables false

variable {a b : Int}
theorem ret_int {k : IntKind} (h : a = b) : Ending.returned (.int k a) = .returned (.int k b) := by rw [h]
theorem ret_bool {a b : Bool} (h : a = b) : Ending.returned (.bool a) = .returned (.bool b) := by rw [h]
theorem wrap_u32' (n : Int) : IntKind.u32.wrap n = n % 4294967296 := by rfl
theorem ofInt32 (a : Nat) (ha : (a : Int) < 4294967296) : (BitVec.ofInt 32 (a : Int)).toNat = a := by
  rw [BitVec.ofInt_natCast, BitVec.toNat_ofNat]; exact Nat.mod_eq_of_lt (by omega)
theorem bits_and_u32 (a b : Int) (ha : 0 ≤ a) (ha' : a < 4294967296) (hb : 0 ≤ b) (hb' : b < 4294967296) : bits .and .u32 a b = Wd.band a b := by
  obtain ⟨a, rfl⟩ := Int.eq_ofNat_of_zero_le ha
  obtain ⟨b, rfl⟩ := Int.eq_ofNat_of_zero_le hb
  have hx : a &&& b < 2 ^ 32 := Nat.and_lt_two_pow _ (by omega)
  show IntKind.u32.wrap ((BitVec.ofInt 32 (a : Int) &&& BitVec.ofInt 32 (b : Int)).toNat : Int) = _
  rw [BitVec.toNat_and, ofInt32 a ha', ofInt32 b hb', wrap_u32']
  simp only [Wd.band, Int.toNat_natCast]
  omega
theorem bits_or_u32 (a b : Int) (ha : 0 ≤ a) (ha' : a < 4294967296) (hb : 0 ≤ b) (hb' : b < 4294967296) : bits .or .u32 a b = Wd.bor a b := by
  obtain ⟨a, rfl⟩ := Int.eq_ofNat_of_zero_le ha
  obtain ⟨b, rfl⟩ := Int.eq_ofNat_of_zero_le hb
  have hx : a ||| b < 2 ^ 32 := Nat.or_lt_two_pow (by omega) (by omega)
  show IntKind.u32.wrap ((BitVec.ofInt 32 (a : Int) ||| BitVec.ofInt 32 (b : Int)).toNat : Int) = _
  rw [BitVec.toNat_or, ofInt32 a ha', ofInt32 b hb', wrap_u32']
  simp only [Wd.bor, Int.toNat_natCast]
  omega

theorem and_mask (x : Int) (n : Nat) (h0 : 0 ≤ x) (h1 : x < 4294967296) (hn : n ≤ 31) : bits .and .u32 x ((2 ^ n - 1) % 4294967296) = x % 2 ^ n := by
  have hp : (2 : Int) ^ n = ((2 ^ n : Nat) : Int) := by simp
  have hb : (2 : Nat) ^ n ≤ 2 ^ 31 := Nat.pow_le_pow_right (by omega) hn
  have hb0 : 0 < (2 : Nat) ^ n := Nat.two_pow_pos _
  obtain ⟨x, rfl⟩ := Int.eq_ofNat_of_zero_le h0
  have e : ((2 : Int) ^ n - 1) % 4294967296 = ((2 ^ n - 1 : Nat) : Int) := by rw [hp]; omega
  rw [e, bits_and_u32 _ _ h0 h1 (by omega) (by omega)]
  unfold Wd.band
  rw [Int.toNat_natCast, Int.toNat_natCast, Nat.and_two_pow_sub_one_eq_mod, hp]
  omega
theorem bor_lo (x y : Int) (i : Nat) (hx : 0 ≤ x) (hy : 0 ≤ y) (h : x < 2 ^ i) : Wd.bor x (y * 2 ^ i) = x + y * 2 ^ i := by
  obtain ⟨x, rfl⟩ := Int.eq_ofNat_of_zero_le hx
  obtain ⟨y, rfl⟩ := Int.eq_ofNat_of_zero_le hy
  have e : (y : Int) * 2 ^ i = ((y * 2 ^ i : Nat) : Int) := by simp
  have h' : x < 2 ^ i := by
    have : ((2 : Int) ^ i) = ((2 ^ i : Nat) : Int) := by simp
    rw [this] at h; omega
  rw [e]
  unfold Wd.bor
  rw [Int.toNat_natCast, Int.toNat_natCast, Nat.or_comm, Dc.nor_add _ _ _ h']
  omega
theorem bor_comm (x y : Int) : Wd.bor x y = Wd.bor y x := by unfold Wd.bor; rw [Nat.or_comm]
theorem bor_hi (x y : Int) (i : Nat) (hx : 0 ≤ x) (hy : 0 ≤ y) (h : x < 2 ^ i) : Wd.bor (y * 2 ^ i) x = y * 2 ^ i + x := by
  rw [bor_comm, bor_lo x y i hx hy h]; omega
theorem row_num (low m u : Int) (h1 : 0 ≤ low) (h2 : low < 4096) (h3 : 0 ≤ m) (h4 : m < 8) (h5 : 0 ≤ u) (h6 : u < 128) :
    bits .or .u32 (bits .or .u32 low (m * 4096)) (u * 33554432) = low + m * 4096 + u * 33554432 := by
  rw [show m * 4096 = m * 2 ^ 12 by omega, show u * 33554432 = u * 2 ^ 25 by omega]
  rw [bits_or_u32 low _ h1 (by omega) (by omega) (by omega), bor_lo low m 12 h1 h3 (by omega)]
  rw [bits_or_u32 _ _ (by omega) (by omega) (by omega) (by omega), bor_lo _ u 25 (by omega) h5 (by omega)]
theorem cells_new (w : World) (ms : List Int) (t : TypeId) : ∀ i n, ms[i]? = some n → (w.alloc (.cells (ms.map (Value.int .u32)).toArray t)).cell? ⟨w.heap.size, i, none⟩ = some (.int .u32 n) := by
  intro i n h
  rw [World.cell?_alloc_new]; simp [h]
theorem ret_two {c d : Int} (h : a = c) (h' : b = d) : Ending.returned (.tuple #[.int .i64 a, .int .u32 b]) = .returned (.tuple #[.int .i64 c, .int .u32 d]) := by rw [h, h']
end Go.Proofs.Ythgnfmbnbndeeac.Dw
/-
  What readImm returns. Conditions: the tables hold what their initialisers lay ('Tab'); words are from 0 to 2^32 - 1.
-/
namespace Go.Proofs.Ythgnfmbnbndeeac.Dw
open Go.ChangeShapes Go.WideShapes Go.ChangeAt Go.RowKit
set_option linter.unusedVariables false

variable {u s : Int} {p : Nat → Int × Int × Int} {j k : Nat}
theorem or_add (n x : Int) (i : Nat) (h0 : 0 ≤ n) (hx : 0 ≤ x) (hm : n % 2 ^ i = 0) (hl : x < 2 ^ i) (hb : n + x < 4294967296) : bits .or .u32 n x = n + x := by
  rw [bits_or_u32 n x h0 (by omega) hx (by omega)]
  have e : n = n / 2 ^ i * 2 ^ i := by
    have := Int.mul_ediv_add_emod n (2 ^ i)
    rw [hm, Int.mul_comm] at this
    omega
  have hn : 0 ≤ n / 2 ^ i := Int.ediv_nonneg h0 (Int.pow_nonneg (by omega))
  have := bor_hi x (n / 2 ^ i) i hx hn hl
  rwa [← e] at this
theorem imm_0 (a : Int) (h0 : 0 ≤ a) (h1 : a < 4294967296) : 0 = Dc.immF 0 a := rfl
theorem imm_1 (a : Int) (h0 : 0 ≤ a) (h1 : a < 4294967296) : wrap32 (a / 4096 * 4096) = Dc.immF 1 a := by
  show _ = Wd.sg a - a % 4096
  unfold wrap32 Wd.sg; split <;> omega
theorem imm_2 (a : Int) (h0 : 0 ≤ a) (h1 : a < 4294967296) : wrap32 ((a / 2147483648 * 1048576 + a / 4096 % 256 * 4096 + a / 1048576 % 2 * 2048 + a / 2097152 % 1024 * 2) * 2048) / 2048 = Dc.immF 2 a := by
  show _ = Dc.sgn 1048576 (a / 2147483648 * 1048576 + a / 4096 % 256 * 4096 + a / 1048576 % 2 * 2048 + a / 2097152 % 1024 * 2)
  unfold wrap32 Dc.sgn; split <;> omega
theorem imm_3 (a : Int) (h0 : 0 ≤ a) (h1 : a < 4294967296) : wrap32 (a / 1048576 * 1048576) / 1048576 = Dc.immF 3 a := by
  show _ = Dc.sgn 2048 (a / 1048576)
  unfold wrap32 Dc.sgn; split <;> omega
theorem imm_4 (a : Int) (h0 : 0 ≤ a) (h1 : a < 4294967296) : a / 1048576 % 32 = Dc.immF 4 a := rfl
theorem imm_5 (a : Int) (h0 : 0 ≤ a) (h1 : a < 4294967296) : wrap32 ((a / 2147483648 * 4096 + a / 128 % 2 * 2048 + a / 33554432 % 64 * 32 + a / 256 % 16 * 2) * 524288) / 524288 = Dc.immF 5 a := by
  show _ = Dc.sgn 4096 (a / 2147483648 * 4096 + a / 128 % 2 * 2048 + a / 33554432 % 64 * 32 + a / 256 % 16 * 2)
  unfold wrap32 Dc.sgn; split <;> omega
theorem imm_6 (a : Int) (h0 : 0 ≤ a) (h1 : a < 4294967296) : wrap32 ((a / 33554432 * 32 + a / 128 % 32) * 1048576) / 1048576 = Dc.immF 6 a := by
  show _ = Dc.sgn 2048 (a / 33554432 * 32 + a / 128 % 32)
  unfold wrap32 Dc.sgn; split <;> omega
theorem imm_7 (a : Int) (h0 : 0 ≤ a) (h1 : a < 4294967296) : 0 = Dc.immF 7 a := rfl
theorem imm_8 (a : Int) (h0 : 0 ≤ a) (h1 : a < 4294967296) : a / 33554432 % 4 = Dc.immF 8 a := rfl
theorem imm_9 (a : Int) (h0 : 0 ≤ a) (h1 : a < 4294967296) : 0 = Dc.immF 9 a := rfl
theorem bor_assoc (a b c : Int) : Wd.bor (Wd.bor a b) c = Wd.bor a (Wd.bor b c) := by
  unfold Wd.bor; rw [Int.toNat_natCast, Int.toNat_natCast, Nat.or_assoc]
/-- Bits that are 0, filled. -/
theorem ins_nat (n y i c : Nat) (hz : n / 2 ^ i % 2 ^ c = 0) (hy : y < 2 ^ c) : n ||| y * 2 ^ i = n + y * 2 ^ i := by
  have e1 : n = n / 2 ^ (i + c) * 2 ^ (i + c) + n % 2 ^ i := by
    have a1 := Nat.div_add_mod n (2 ^ i)
    have a2 := Nat.div_add_mod (n / 2 ^ i) (2 ^ c)
    rw [Nat.div_div_eq_div_mul, ← Nat.pow_add, hz, Nat.add_zero] at a2
    rw [← a2, ← Nat.mul_assoc, ← Nat.pow_add, Nat.mul_comm] at a1
    exact a1.symm
  have hl : n % 2 ^ i < 2 ^ i := Nat.mod_lt _ (Nat.two_pow_pos _)
  generalize n % 2 ^ i = l at *
  generalize n / 2 ^ (i + c) = h at *
  have hx : y * 2 ^ i + l < 2 ^ (i + c) := by
    have : (y + 1) * 2 ^ i ≤ 2 ^ c * 2 ^ i := Nat.mul_le_mul_right _ hy
    rw [Nat.add_mul, Nat.one_mul] at this
    rw [Nat.pow_add, Nat.mul_comm (2 ^ i)]
    omega
  have hl' : l < 2 ^ (i + c) := by omega
  rw [e1, ← Dc.nor_add l h (i + c) hl', Nat.or_assoc, Nat.or_comm l, Dc.nor_add l y i hl, Dc.nor_add _ h (i + c) hx, Dc.nor_add l h (i + c) hl']
  omega
theorem ins_bor (n y : Int) (i c : Nat) (h0 : 0 ≤ n) (hy : 0 ≤ y) (hz : n / 2 ^ i % 2 ^ c = 0) (hl : y < 2 ^ c) : Wd.bor n (y * 2 ^ i) = n + y * 2 ^ i := by
  obtain ⟨n, rfl⟩ := Int.eq_ofNat_of_zero_le h0
  obtain ⟨y, rfl⟩ := Int.eq_ofNat_of_zero_le hy
  have p1 : ((2 : Int) ^ i) = ((2 ^ i : Nat) : Int) := by simp
  have p2 : ((2 : Int) ^ c) = ((2 ^ c : Nat) : Int) := by simp
  rw [p1, p2] at hz
  rw [p2] at hl
  have hz' : n / 2 ^ i % 2 ^ c = 0 := by exact_mod_cast hz
  have := ins_nat n y i c hz' (by omega)
  rw [p1]
  unfold Wd.bor
  rw [show (y : Int) * ((2 ^ i : Nat) : Int) = ((y * 2 ^ i : Nat) : Int) by simp, Int.toNat_natCast, Int.toNat_natCast, this]
  omega
theorem or_ins (n y : Int) (i c : Nat) (h0 : 0 ≤ n) (hy : 0 ≤ y) (hz : n / 2 ^ i % 2 ^ c = 0) (hl : y < 2 ^ c) (hb : n < 4294967296) (hx : y * 2 ^ i < 4294967296) (hx0 : 0 ≤ y * 2 ^ i) : bits .or .u32 n (y * 2 ^ i) = n + y * 2 ^ i := by
  rw [bits_or_u32 n _ h0 hb hx0 hx]
  exact ins_bor n y i c h0 hy hz hl
theorem z_2 (x y z : Int) (a1 : 0 ≤ x) (a2 : x < 2) (b1 : 0 ≤ y) (b2 : y < 256) (c1 : 0 ≤ z) (c2 : z < 2) : (x * 2147483648 + y * 4096 + z * 1048576) / 2 ^ 21 % 2 ^ 10 = 0 := by
  have : (x * 2147483648 + y * 4096 + z * 1048576) / 2 ^ 21 = x * 1024 := by omega
  rw [this]; omega
theorem z_5 (x y z : Int) (a1 : 0 ≤ x) (a2 : x < 2) (b1 : 0 ≤ y) (b2 : y < 2) (c1 : 0 ≤ z) (c2 : z < 64) : (x * 2147483648 + y * 128 + z * 33554432) / 2 ^ 8 % 2 ^ 4 = 0 := by
  have : (x * 2147483648 + y * 128 + z * 33554432) / 2 ^ 8 = x * 8388608 + z * 131072 := by omega
  rw [this]; omega
/-- A word's pieces, each moved to its place, one by one: p tells where a piece is taken, how long it is, and where it goes. -/
def orP (u : Int) (p : Nat → Int × Int × Int) : Nat → Int
  | 0 => 0
  | j + 1 => bits .or .u32 (orP u p j) (u / 2 ^ (p j).1.toNat % 2 ^ (p j).2.1.toNat * 2 ^ (p j).2.2.toNat % 4294967296)
theorem orP_zero (h : orP u p j = s) (hs : 0 ≤ s ∧ s < 4294967296) (hc : (p j).2.1 = 0) : orP u p (j + 1) = s := by
  rw [orP, h, hc]
  have e : u / 2 ^ (p j).1.toNat % 2 ^ (0 : Int).toNat * 2 ^ (p j).2.2.toNat % 4294967296 = 0 * 2 ^ 0 := by
    rw [show (2 : Int) ^ (0 : Int).toNat = 1 from rfl, Int.emod_one, Int.zero_mul]
    rfl
  rw [e, or_ins s 0 0 0 hs.1 (by omega) (by omega) (by omega) hs.2 (by omega) (by omega)]
  omega
theorem orP_ins (h : orP u p j = s) (b c a : Nat) (hp : p j = ((b : Int), (c : Int), (a : Int))) (hs : 0 ≤ s ∧ s < 4294967296) (hz : s / 2 ^ a % 2 ^ c = 0) (hc : (2 : Int) ^ c * 2 ^ a ≤ 4294967296) (h2 : (0 : Int) < 2 ^ a) (h3 : (0 : Int) < 2 ^ c) : orP u p (j + 1) = s + u / 2 ^ b % 2 ^ c * 2 ^ a := by
  rw [orP, h, hp]
  simp only [Int.toNat_natCast]
  have y0 : 0 ≤ u / 2 ^ b % 2 ^ c := Int.emod_nonneg _ (by omega)
  have y1 : u / 2 ^ b % 2 ^ c < 2 ^ c := Int.emod_lt_of_pos _ h3
  generalize u / 2 ^ b % 2 ^ c = y at *
  have y2 : 0 ≤ y * 2 ^ a := Int.mul_nonneg y0 (by omega)
  have y3 : y * 2 ^ a < 4294967296 := Int.lt_of_lt_of_le (Int.mul_lt_mul_of_pos_right y1 h2) hc
  rw [Int.emod_eq_of_lt y2 y3, or_ins s y a c hs.1 y0 hz y1 hs.2 y3 y2]
def twelve (q : Nat → Int) : Array Value := #[.int .i64 (q 0), .int .i64 (q 1), .int .i64 (q 2), .int .i64 (q 3), .int .i64 (q 4), .int .i64 (q 5), .int .i64 (q 6), .int .i64 (q 7), .int .i64 (q 8), .int .i64 (q 9), .int .i64 (q 10), .int .i64 (q 11)]
/-- A form's twelve numbers. -/
def pcs (k i : Nat) : Int := (pieces k).getD i 0
theorem pcs_at (k : Nat) (hk : k < 10) (i : Nat) (hi : i < 12) : shapes[k * 17 + 4 + i]? = some (.int .i64 (pcs k i)) := by
  have hk' : k = 0 ∨ k = 1 ∨ k = 2 ∨ k = 3 ∨ k = 4 ∨ k = 5 ∨ k = 6 ∨ k = 7 ∨ k = 8 ∨ k = 9 := by omega
  have hi' : i = 0 ∨ i = 1 ∨ i = 2 ∨ i = 3 ∨ i = 4 ∨ i = 5 ∨ i = 6 ∨ i = 7 ∨ i = 8 ∨ i = 9 ∨ i = 10 ∨ i = 11 := by omega
  rcases hk' with rfl | rfl | rfl | rfl | rfl | rfl | rfl | rfl | rfl | rfl <;> rcases hi' with rfl | rfl | rfl | rfl | rfl | rfl | rfl | rfl | rfl | rfl | rfl | rfl <;> rfl
theorem spare_at (k : Nat) (hk : k < 10) : shapes[k * 17 + 16]? = some (.int .i64 (spare k)) ∧ 0 ≤ spare k ∧ spare k ≤ 31 := by
  have hk' : k = 0 ∨ k = 1 ∨ k = 2 ∨ k = 3 ∨ k = 4 ∨ k = 5 ∨ k = 6 ∨ k = 7 ∨ k = 8 ∨ k = 9 := by omega
  rcases hk' with rfl | rfl | rfl | rfl | rfl | rfl | rfl | rfl | rfl | rfl <;> exact ⟨rfl, by decide, by decide⟩
theorem pcs_bd (k : Nat) (hk : k < 10) (i : Nat) : 0 ≤ pcs k i ∧ pcs k i ≤ 31 := by
  have h : ∀ x ∈ pieces k, 0 ≤ x ∧ x ≤ 31 := by
    have hk' : k = 0 ∨ k = 1 ∨ k = 2 ∨ k = 3 ∨ k = 4 ∨ k = 5 ∨ k = 6 ∨ k = 7 ∨ k = 8 ∨ k = 9 := by omega
    rcases hk' with rfl | rfl | rfl | rfl | rfl | rfl | rfl | rfl | rfl | rfl <;> decide
  unfold pcs
  rw [List.getD_eq_getElem?_getD]
  cases e : (pieces k)[i]? with
  | none => simp
  | some x => exact h x (List.mem_of_getElem? e)
theorem wrap_mod (x : Int) : wrap32 (x % 4294967296) = wrap32 x := by unfold wrap32; omega
/-- Where readImm takes piece j of form k, how long it is, where it goes. -/
def pR (k j : Nat) : Int × Int × Int := (pcs k (3 * j), pcs k (3 * j + 2), pcs k (3 * j + 1))
end Go.Proofs.Ythgnfmbnbndeeac.Dw
/-
  What read and Decode return. Conditions: the tables hold what their initialisers lay ('Tab'); words are from 0 to 2^32 - 1.
-/
namespace Go.Proofs.Ythgnfmbnbndeeac.Dw
open Go.ChangeShapes Go.WideShapes Go.ChangeAt Go.RowKit
set_option linter.unusedVariables false
set_option linter.unusedSimpArgs false

/-- An instruction, as its five fields. -/
def insV (op rd rs1 rs2 imm : Int) : Value := .agg #[.int .i64 op, .int .i64 rd, .int .i64 rs1, .int .i64 rs2, .int .i32 imm]
/-- A block that was made just ahead stands, and is not marked. -/
theorem fresh_of {w w1 : World} {c : Array Value} {t : TypeId} (g : Gr (w.alloc (.cells c t)) w1) :
    (∀ i v, c[i]? = some v → w1.cell? ⟨w.heap.size, i, none⟩ = some v) ∧ (∀ i, w1.frozen? ⟨w.heap.size, i, none⟩ = false) ∧ w.heap.size < w1.heap.size := by
  have hs : (w.alloc (.cells c t)).heap.size = w.heap.size + 1 := by simp
  refine ⟨fun i v h => ?_, fun i => ?_, by have := g.size; omega⟩
  · rw [g.cell _ _ (by omega), World.cell?_alloc_new, h]
  · rw [g.2, frozen?_alloc_cells]
    simp [World.frozen?]
end Go.Proofs.Ythgnfmbnbndeeac.Dw
/-
  What package decode's Decode returns: of every word the instruction that 'Dc' tells, and whether it is one. Conditions: the tables hold what their initialisers lay ('Tab'); words are from 0 to 2^32 - 1.
-/
namespace Go.Proofs.Ythgnfmbnbndeeac.Dw
open Go.ChangeShapes Go.WideShapes Go.ChangeAt Go.RowKit
set_option linter.unusedVariables false
set_option linter.unusedSimpArgs false

variable {a : Int}
/-- The instruction of a word; all 0, if it is none. -/
def decV (a : Int) : Value := insV (Dc.dop a) (Dc.rdF (Dc.frm (Dc.dop a)) a) (Dc.rs1F (Dc.frm (Dc.dop a)) a) (Dc.rs2F (Dc.frm (Dc.dop a)) a) (Dc.immF (Dc.frm (Dc.dop a)) a)
def decOk (a : Int) : Bool := decide (Dc.dop a ≠ 0)
theorem dec_none (h : Dc.dop a = 0) : decV a = insV 0 0 0 0 0 ∧ decOk a = false := by
  unfold decV decOk; rw [h]; exact ⟨rfl, rfl⟩
theorem dec_some {k : Int} (h : Dc.dop a = k) (hk : 1 ≤ k) : decV a = insV k (Dc.rdF (Dc.frm k) a) (Dc.rs1F (Dc.frm k) a) (Dc.rs2F (Dc.frm k) a) (Dc.immF (Dc.frm k) a) ∧ decOk a = true := by
  unfold decV decOk; rw [h]; exact ⟨rfl, by simp; omega⟩
theorem sp_bd (lo : Int) : (1 ≤ Dc.sp1 lo ∨ Dc.sp2 lo = -1) ∧ 0 ≤ Dc.sp1 lo ∧ Dc.sp1 lo ≤ 58 ∧ -1 ≤ Dc.sp2 lo ∧ Dc.sp2 lo ≤ 59 ∧ Dc.sp1 lo ≤ Dc.sp2 lo + 1 := by
  unfold Dc.sp1 Dc.sp2
  by_cases h1 : lo = 55
  · simp [h1]
  by_cases h2 : lo = 23
  · simp [h2]
  by_cases h3 : lo = 111
  · simp [h3]
  by_cases h4 : lo = 103
  · simp [h4]
  by_cases h5 : lo = 99
  · simp [h5]
  by_cases h6 : lo = 3
  · simp [h6]
  by_cases h7 : lo = 35
  · simp [h7]
  by_cases h8 : lo = 19
  · simp [h8]
  by_cases h9 : lo = 51
  · simp [h9]
  by_cases h10 : lo = 47
  · simp [h10]
  by_cases h11 : lo = 15
  · simp [h11]
  by_cases h12 : lo = 115
  · simp [h12]
  simp [h1, h2, h3, h4, h5, h6, h7, h8, h9, h10, h11, h12]
theorem mask_bd (f : Int) : 0 ≤ Dc.mask f ∧ Dc.mask f < 4294967296 := by
  unfold Dc.mask; repeat' split
  all_goals omega
theorem raw_none {s1 s2 : Int} (h0 : 0 ≤ a) (h1 : a < 4294967296) (e1 : Dc.sp1 (a % 128) = s1) (e2 : Dc.sp2 (a % 128) = s2) (h : ∀ j, s1 ≤ j → j ≤ s2 → Dc.raw a ≠ j) : Dc.dop a = 0 := by
  have : Dc.raw a = 0 := by
    by_cases hr : Dc.raw a = 0
    · exact hr
    · have := Dc.raw_told h0 h1 hr
      exact absurd rfl (h (Dc.raw a) (by omega) (by omega))
  unfold Dc.dop; rw [this]; rfl
end Go.Proofs.Ythgnfmbnbndeeac.Dw
/-
  What the methods do and Step of package hart's core do, of every instruction and every word.
-/
namespace Go.Proofs.Ythgnfmbnbndeeac.Hc
open Go.ChangeShapes Go.WideShapes Go.ChangeAt Go.RowKit Mm Hh
set_option linter.unusedVariables false
set_option linter.unusedSimpArgs false

end Go.Proofs.Ythgnfmbnbndeeac.Hc
