/-
  Ref5d, Ucu: texts of ours that lie in one file.
-/
import Derived.Test.YtdiofidmlgliiaaDoorL08
import Derived.Test.YtdiofidmlgliiaaDoorL01
import Derived.Test.YtdiofidmlgliiaaDoorL05
import Derived.Test.YtdiofidmlgliiaaDoorL06
/-
  What ferrybridgeref5.Play answers: how a machine runs ('play').
-/
namespace Go.Proofs.YtdiofidmlgliiaaDoor.Mc
open Go.ChangeShapes Go.WideShapes Go.ChangeAt Go.RowKit Mm Hh Hc
set_option linter.unusedVariables false
set_option linter.unusedSimpArgs false

variable {w w' : World} {ma : Option Addr} {mn mc hn b0 b1 t : Nat} {m l : List UInt8} {hs : List Hv} {S : Sv} {d : Dv} {v : Value} {os : List Int}
theorem mem_src (M : Mem w ma mn m) (hc : ma = none → mc = 0) : Src w (.slice ma mn mc) mn 1 (bc m) := by
  have hl := M.len
  cases ma with
  | none =>
    obtain rfl := hc rfl
    obtain rfl := M.nil rfl
    obtain rfl : m = [] := List.eq_nil_of_length_eq_zero hl
    exact .inl ⟨rfl, rfl, rfl⟩
  | some ad => exact .inr ⟨ad, mc, rfl, by rw [bc_len, hl]; simp, mem_bc M (Gr.refl _)⟩
theorem hs_src {ad : Addr} (hc : Nat) (H : Hs w (some ad) hn hs) : Src w (.slice (some ad) hn hc) hn 37 (hC hs) :=
  .inr ⟨ad, hc, rfl, by rw [hC_len H.ok, H.len], H.src⟩
theorem h3o (w : World) (A : Array Value) (t : Nat) (b c : Obj) : (((w.alloc (.cells A t)).alloc b).alloc c).heap[w.heap.size]? = some (.cells A t (0, 0)) := Hr.heap_of_gr (Gr.alloc (Gr.refl _) _) (heap_alloc2_old w _ _)
theorem h3m (w : World) (a : Obj) (A : Array Value) (t : Nat) (c : Obj) : (((w.alloc a).alloc (.cells A t)).alloc c).heap[w.heap.size + 1]? = some (.cells A t (0, 0)) := Hr.heap_of_gr (Gr.alloc (Gr.refl _) _) (heap_alloc2_new w _ _)
theorem h3n (w : World) (a b c : Obj) : (((w.alloc a).alloc b).alloc c).heap[w.heap.size + 1 + 1]? = some c := by
  have := heap_alloc_new ((w.alloc a).alloc b) c
  have e : ((w.alloc a).alloc b).heap.size = w.heap.size + 1 + 1 := by simp
  rwa [e] at this
theorem g3 (w : World) (a b c : Obj) : Gr w (((w.alloc a).alloc b).alloc c) := Gr.alloc (Gr.alloc (Gr.alloc (Gr.refl _) _) _) _
theorem held_store_row {P : Program} {md : Region.Mode} {ops : Array Oper} {Q : Exit → Act → World → Prop} {S : World → Prop} {fuel i : Nat} {listed : Array Bool} {o : Oper} {a : Act} (hr : Region.ready md ops listed = [i]) (hoi : ops[i]? = some o) (hg : o.guard = none) (ty : TypeId) (x y : Operand) (ho : o.op = .store ty x y)
    (g : Nat) (cells : Array Value) (hx : a.eval x = .pointer (some ⟨g, 0, none⟩)) (hy : a.eval y = .agg cells) (t : TypeId) (old : Array Value) (hb : w.heap[g]? = some (.cells old t (0, 0))) (hi : (P.info? ty).map (·.size) = some cells.size) (hold : old.size = cells.size) (h1 : cells.all (·.oneCell') = true)
    (hS : S (w.setRow g cells)) (h : wpAnyH P md ops Q S fuel (listed.setIfInBounds i true) (a.put o.dst undef) (w.setRow g cells)) : wpAnyH P md ops Q S (fuel + 1) listed a w :=
  wpAnyH_ready hr (by simp) (AllReadyH.cons hoi (fun K hK => step_store hg ty x y ho g cells hx hy t old hb hi hold h1 (hK.out _ _ hS fun _ => h)) AllReadyH.nil)
theorem at_world {p : World → Prop} {x : World} (F : World → Prop) (hF : F x) (h : ∀ y, F y → p y) : p x := h x hF
theorem dd_of {v0 : Value} (D : Hr.Dd w v0 b0 d S) (G : Gr w w') (hb : b1 ≤ b0) : Hr.Dd w' v0 b1 d S := by
  obtain ⟨ok, h, ⟨ao, n, cap, e, M, f⟩, out, sto⟩ := D
  refine ⟨ok, h, ⟨ao, n, cap, e, M.of G, ?_⟩, ?_, sto⟩
  · rcases f with f | f
    · exact .inl f
    · exact .inr fun ad ea => Nat.le_trans hb (f ad ea)
  · rcases out with o | ⟨k, x, e1, e2, e3⟩
    · exact .inl o
    · exact .inr ⟨k, x, e1, e2, Hr.heap_of_gr G e3⟩
theorem mem_lt (M : Mem w ma mn l) : ∀ ad, ma = some ad → 0 < mn → ad.block < w.heap.size := fun ad e h0 => by
  have := World.block_lt_of_cell? w _ (M.cell ad e 0 h0)
  rwa [add_block] at this
theorem dd_row {g : Nat} (D : Hr.Dd w (.slice ma mn mc) b0 d S) (hg : g < b0) (hm : ∀ ad, ma = some ad → 0 < mn → ad.block ≠ g) {A : Array Value} {fz : Nat × Nat} (hb : w.heap[g]? = some (.cells A t fz)) (ht : t ≠ 59) (cells : Array Value) (hb1 : b1 ≤ b0) : Hr.Dd (w.setRow g cells) (.slice ma mn mc) b1 d S := by
  obtain ⟨ok, h, ⟨ao, n, cap, e, M, f⟩, out, sto⟩ := D
  refine ⟨ok, h, ⟨ao, n, cap, e, mem_keep M fun ad ea h0 _ => sro ?_, ?_⟩, ?_, sto⟩
  · rcases f with f | f
    · rw [f] at e
      injection e with e1 e2 e3
      exact hm ad (e1.trans ea) (by omega)
    · have := f ad ea; omega
  · rcases f with f | f
    · exact .inl f
    · exact .inr fun ad ea => Nat.le_trans hb1 (f ad ea)
  · rcases out with o | ⟨k, x, e1, e2, e3⟩
    · exact .inl o
    · exact .inr ⟨k, x, e1, e2, (sro (ne_of_types e3 hb (fun h => ht h.symm))).trans e3⟩
theorem outv_to (O : Hr.OutV w v os) (h : ∀ {k : Nat} {o : Array Value} {f : Nat × Nat}, w.heap[k]? = some (.cells o 59 f) → w'.heap[k]? = w.heap[k]?) : Hr.OutV w' v os := by
  rcases O with o | ⟨k, x, e1, e2, e3⟩
  · exact .inl o
  · exact .inr ⟨k, x, e1, e2, (h e3).trans e3⟩
theorem outv_src (O : Hr.OutV w v os) : Src w v os.length 1 (os.map (Value.int .u32)) := by
  rcases O with ⟨rfl, rfl⟩ | ⟨k, x, rfl, rfl, e3⟩
  · exact .inl ⟨rfl, rfl, rfl⟩
  · refine .inr ⟨⟨k, 0, none⟩, 1, rfl, rfl, fun j u hj => ?_⟩
    have h1 : j < 1 := (List.getElem?_eq_some_iff.1 hj).1
    obtain rfl : j = 0 := by omega
    rw [add_at, cr e3]
    exact hj
theorem u32_one (os : List Int) : ∀ u ∈ os.map (Value.int .u32), u.oneCell' = true := fun u hu => by
  obtain ⟨x, _, rfl⟩ := List.mem_map.1 hu
  rfl
theorem set_same {l : List Hv} {j : Nat} {q : Hv} (h : l[j]? = some q) : l.set j q = l := by
  obtain ⟨h1, h2⟩ := List.getElem?_eq_some_iff.1 h
  subst h2
  exact List.set_getElem_self h1
theorem mem_off (M : Mem w ma mn l) {b : Nat} {f : Nat × Nat} (hb : w.heap[b]? = some (.cells #[.slice none 0 0, .slice none 0 0, .slice none 0 0, .int .i64 0] t f)) : ∀ ad, ma = some ad → 0 < mn → ad.block ≠ b := fun ad e h0 hbk => by
  have h := M.cell ad e 0 h0
  rw [show ad.add 0 = ad by simp [Addr.add]] at h
  unfold World.cell? at h
  rw [hbk, hb] at h
  simp only at h
  split at h
  · cases h
  · generalize ad.off = o at h
    match o, h with
    | 0, h => simp at h
    | 1, h => simp at h
    | 2, h => simp at h
    | 3, h => simp at h
    | n + 4, h => simp at h
structure Once (P : Prop) : Prop where
  out : P
theorem share {P Q : Prop} (h : Once P → Q) (p : P) : Q := h ⟨p⟩
/-- A run at block g, of mn bytes, its harts in block gh. -/
def Pd (w : World) (base g mn gh hc : Nat) (s : Sh) : Prop := ∃ ma mc O, Pb w base g ma mn mc gh hc O s
theorem size_setCell (w : World) (p : Addr) (v : Value) : (w.setCell p v).heap.size = w.heap.size := by simp
set_option maxHeartbeats 8000000 in
set_option maxRecDepth 100000 in
theorem Play_any {ma ha pa : Option Addr} {hn pn : Nat} (mc hc pc : Nat) {m : List UInt8} {hs : List Hv} {ps : List (Int × Int)} {w : World} (mn : Nat) (M : Mem w ma mn m) (hcap : ma = none → mc = 0) (H : Hs w ha hn hs) (P : Ps w pa pn ps) (hy : wrong m hs ps = 0) :
    Calls Tryd.prog 14 #[.agg #[.slice ma mn mc, .slice ha hn hc], .slice pa pn pc] w fun e w' => ∃ v, e = .returned v ∧ Shw w' v hn mn (play ⟨hs, m, [], 0⟩ (nums ps)) ∧ Gr w w' := by
  obtain ⟨b1, b2, b4, hmay, b3, hpk⟩ := wrong_ok hy
  have hml := M.len
  have hhl := H.len
  have hpl := P.len
  obtain ⟨bh, oh, rfl, _, _⟩ := H.spot (by omega)
  have HSM : Hid (∀ W : World, Gr w W → Src W (.slice ma mn mc) mn 1 (bc m)) := fun W G => mem_src (M.of G) hcap
  have HSH : Hid (∀ W : World, Gr w W → Src W (.slice (some ⟨bh, oh, none⟩) hn hc) hn 37 (hC hs)) := fun W G => hs_src hc (H.of G)
  have HF0 : Hid (Fit ⟨hs, m, [], 0⟩ hn mn) := ⟨hhl, hml, fun h hm => ⟨H.ok h hm, hmay h hm⟩⟩
  have HP : Hid (Ps w pa pn ps) := P
  have HPL : Hid (ps.length = pn) := hpl
  have HPK : Hid (∀ p ∈ ps, 0 ≤ p.1 ∧ p.1 < hn ∧ 0 ≤ p.2 ∧ p.2 ≤ 400) := by rw [hhl] at hpk; exact hpk
  have HHL : Hid (hs.length = hn) := hhl
  have HML : Hid (m.length = mn) := hml
  have HOK : Hid (∀ h ∈ hs, h.Ok) := H.ok
  have hn1 : 1 ≤ hn := by omega
  have c4 : hn ≤ 4 := by omega
  have m4 : mn ≤ 4096 := by omega
  have p4 : pn ≤ 300 := by omega
  obtain ⟨i8, hi8, z80, z81, z82⟩ := info_parts info5
  obtain ⟨iH0, hiH, zH0, zH1, zH2⟩ := info_parts infoH
  obtain ⟨iW0, hiW, zW0, zW1, zW2⟩ := info_parts infoW
  clear M H P hy hcap hmay hpk hml hhl hpl b1 b2 b4 b3
  go_enter Tryd.func14, Tryd.ntmps14
  go_wp2_with (first
    | (at_builtin; refine wpList_append_src (base := w.heap.size + 1 + 1) (n := 0) (m := mn) rfl (.tmp 15) (.tmp 17) rfl Tryd.underlying31 hi8 z80 z81 z82 rfl (by decide) rfl rfl (World.ownsRow_nil _ _ _ _) (HSM.out _ (g3 w _ _ _)) (bc_one m) (by unfold maxLen; omega) (by omega) (by simp) ?_; intro v1 w1 hown hgrow; have HO1 : Hid (w1.ownsRow (w.heap.size + 1 + 1) 5 1 v1 mn (bc m)) := (by unfold Hid; rw [Nat.zero_add, List.nil_append] at hown; exact hown); have G1 := Gr.grown (Gr.refl _) hgrow (fun k e => by cases e); have HX1 : Hid (w1.heap[w.heap.size]? = some (.cells #[.slice ma mn mc, .slice (some ⟨bh, oh, none⟩) hn hc] 34 (0, 0))) := Hr.heap_of_gr G1 (h3o w _ _ _ _); have HR1 : Hid (w1.heap[w.heap.size + 1]? = some (.cells #[.slice none 0 0, .slice none 0 0, .slice none 0 0, .int .i64 0] 40 (0, 0))) := Hr.heap_of_gr G1 (h3m w _ _ _ _); have HS1 : Hid (w1.heap[w.heap.size + 1 + 1]? = some (.cells #[.slice none 0 0, .slice none 0 0, .slice none 0 0, .int .i64 0] 40 (0, 0))) := Hr.heap_of_gr G1 (h3n w _ _ _); have HG1 : Hid (Gr w w1) := (g3 w _ _ _).trans G1; obtain ⟨a1, c1, rfl⟩ := (owns_cells HO1.out).2.2; have y0 : w1.cell? ⟨w.heap.size + 1 + 1, 0, none⟩ = some (.slice none 0 0) := cell_of_row _ _ _ _ _ _ HS1.out; have y1 : w1.cell? ⟨w.heap.size + 1 + 1, 1, none⟩ = some (.slice none 0 0) := cell_of_row _ _ _ _ _ _ HS1.out; have f0 : w1.frozen? ⟨w.heap.size + 1 + 1, 0, none⟩ = false := frozen_of_row _ _ _ _ _ HS1.out; have y2 : w1.cell? ⟨w.heap.size, 1, none⟩ = some (.slice (some ⟨bh, oh, none⟩) hn hc) := cell_of_row _ _ _ _ _ _ HX1.out; clear hown hgrow G1)
    | (at_builtin; refine wpList_append_src (base := w.heap.size + 1 + 1) (n := 0) (m := hn) rfl (.tmp 23) (.tmp 25) rfl Tryd.underlying32 hiH zH0 zH1 zH2 rfl (by decide) rfl rfl (World.ownsRow_nil _ _ _ _) (HSH.out _ (HG1.out.setCell (by show w.heap.size ≤ w.heap.size + 1 + 1; omega) _)) (hC_one hs) (by unfold maxLen; omega) (by omega) (by have := (Array.getElem?_eq_some_iff.1 HS1.out).1; simp; omega) ?_; intro v2 w2 hown hgrow; have HO2 : Hid (w2.ownsRow (w.heap.size + 1 + 1) 70 37 v2 hn (hC hs)) := (by unfold Hid; rw [Nat.zero_add, List.nil_append] at hown; exact hown); have G2 := Gr.grown (Gr.refl _) hgrow (fun k e => by cases e); obtain ⟨gh, c2, rfl, hgh⟩ := owns_at HO2.out hn1; have HRo2 : Hid (HRow w2 gh hs) := HRow.own HOK.out HO2.out; have HM2 : Hid (w2.ownsRow (w.heap.size + 1 + 1) 5 1 (.slice a1 mn c1) mn (bc m)) := owns_gr (owns_to HO1.out fun k o f hk => heap_setCell_other _ _ _ _ (by exact ne_of_types hk HS1.out (by decide))) G2; have HS2 : Hid (w2.heap[w.heap.size + 1 + 1]? = some (.cells #[.slice a1 mn c1, .slice none 0 0, .slice none 0 0, .int .i64 0] 40 (0, 0))) := Hr.heap_of_gr G2 (by rw [heap_setCell_same _ _ _ _ _ _ HS1.out]; rfl); have HR2 : Hid (w2.heap[w.heap.size + 1]? = some (.cells #[.slice none 0 0, .slice none 0 0, .slice none 0 0, .int .i64 0] 40 (0, 0))) := Hr.heap_of_gr G2 ((heap_setCell_other _ _ _ _ (by show w.heap.size + 1 ≠ w.heap.size + 1 + 1; omega)).trans HR1.out); have HG2 : Hid (Gr w w2) := (HG1.out.setCell (by show w.heap.size ≤ w.heap.size + 1 + 1; omega) _).trans G2; have k1 : w2.cell? ⟨w.heap.size + 1 + 1, 1, none⟩ = some (.slice none 0 0) := cell_of_row _ _ _ _ _ _ HS2.out; have f1 : w2.frozen? ⟨w.heap.size + 1 + 1, 1, none⟩ = false := frozen_of_row _ _ _ _ _ HS2.out; clear hown hgrow G2 y0 y1 y2 f0 HO2 HO1 HX1 HR1 HS1))
  have B3 : Pb (w2.setCell ⟨w.heap.size + 1 + 1, 1, none⟩ (.slice (some ⟨gh, 0, none⟩) hn c2)) (w.heap.size + 1 + 1) (w.heap.size + 1 + 1) a1 mn c1 gh c2 (.slice none 0 0) ⟨hs, m, [], 0⟩ := by
    have ne : ∀ {t : Nat}, t ≠ 40 → ∀ {k : Nat} {o : Array Value} {f : Nat × Nat}, w2.heap[k]? = some (.cells o t f) → (w2.setCell ⟨w.heap.size + 1 + 1, 1, none⟩ (.slice (some ⟨gh, 0, none⟩) hn c2)).heap[k]? = w2.heap[k]? := fun ht _ _ _ hk => heap_setCell_other _ _ _ _ (by exact ne_of_types hk HS2.out ht)
    have O3 := own_of HML.out (owns_to HM2.out fun k o f hk => ne (by decide) hk)
    obtain ⟨_, _, e, M3⟩ := O3.mem
    injection e with e1 e2 e3
    subst e1
    rw [HML.out] at M3
    refine ⟨Nat.le_refl _, ?_, M3, fun ad ea h0 => ?_, hgh, HRo2.out.to fun k o f hk => ne (by decide) hk, World.ownsRow_nil _ _ _ _⟩
    · rw [heap_setCell_same _ _ _ _ _ _ HS2.out]
      show some (Obj.cells #[.slice a1 mn c1, .slice (some ⟨gh, 0, none⟩) hn c2, .slice none 0 0, .int .i64 0] _ _) = some (Obj.cells #[.slice a1 mn c1, .slice (some ⟨gh, 0, none⟩) hs.length c2, .slice none 0 0, .int .i64 ((0 : Nat) : Int)] _ _)
      rw [HHL.out]
      rfl
    · subst ea
      rcases HM2.out.2 with ⟨h, _⟩ | ⟨g', cp, cur, h, _, hg', _⟩
      · cases h
      · injection h with h
        injection h with h
        subst h
        obtain ⟨_, er⟩ := HRo2.out.row
        exact ⟨ne_of_types hg' HS2.out (by decide), ne_of_types hg' er (by decide), by simp [Value.ownBlock]⟩
  have GW3 : Gr w (w2.setCell ⟨w.heap.size + 1 + 1, 1, none⟩ (.slice (some ⟨gh, 0, none⟩) hn c2)) := HG2.out.setCell (by show w.heap.size ≤ w.heap.size + 1 + 1; omega) _
  have RR3 : (w2.setCell ⟨w.heap.size + 1 + 1, 1, none⟩ (.slice (some ⟨gh, 0, none⟩) hn c2)).heap[w.heap.size + 1]? = some (.cells #[.slice none 0 0, .slice none 0 0, .slice none 0 0, .int .i64 0] 40 (0, 0)) := (heap_setCell_other _ _ _ _ (by show w.heap.size + 1 ≠ w.heap.size + 1 + 1; omega)).trans HR2.out
  have HB3 : Hid (Pb (w2.setCell ⟨w.heap.size + 1 + 1, 1, none⟩ (.slice (some ⟨gh, 0, none⟩) hn c2)) (w.heap.size + 1 + 1) (w.heap.size + 1 + 1) a1 mn c1 gh c2 (.slice none 0 0) ⟨hs, m, [], 0⟩) := B3
  have HGW3 : Hid (Gr w (w2.setCell ⟨w.heap.size + 1 + 1, 1, none⟩ (.slice (some ⟨gh, 0, none⟩) hn c2))) := GW3
  have HRR3 : Hid ((w2.setCell ⟨w.heap.size + 1 + 1, 1, none⟩ (.slice (some ⟨gh, 0, none⟩) hn c2)).heap[w.heap.size + 1]? = some (.cells #[.slice none 0 0, .slice none 0 0, .slice none 0 0, .int .i64 0] 40 (0, 0))) := RR3
  clear B3 GW3 RR3 HM2 HRo2 HS2 HR2 k1 f1
  go_loopw [7] (fun i wr => ∃ i' : Nat, i' ≤ pn ∧ i = .int .i64 i' ∧ Pd wr (w.heap.size + 1 + 1) (w.heap.size + 1 + 1) mn gh c2 (play ⟨hs, m, [], 0⟩ ((nums ps).take i')) ∧ Few (play ⟨hs, m, [], 0⟩ ((nums ps).take i')) (400 * i') ∧ Gr w wr ∧ wr.heap[w.heap.size + 1]? = some (.cells #[.slice none 0 0, .slice none 0 0, .slice none 0 0, .int .i64 0] 40 (0, 0))) (fun i _ => pn - (intOf i).toNat)
  case atStart => exact ⟨0, Nat.zero_le _, rfl, ⟨_, _, _, HB3.out⟩, ⟨Nat.le_refl _, Nat.le_refl _⟩, HGW3.out, HRR3.out⟩
  case round =>
    obtain ⟨i, hi, rfl, Bq, fw, GW, RR⟩ := hrel
    have HB : Hid (Pd wr (w.heap.size + 1 + 1) (w.heap.size + 1 + 1) mn gh c2 (play ⟨hs, m, [], 0⟩ ((nums ps).take i))) := Bq
    have HFW : Hid (Few (play ⟨hs, m, [], 0⟩ ((nums ps).take i)) (400 * i)) := fw
    have HGW : Hid (Gr w wr) := GW
    have HRR : Hid (wr.heap[w.heap.size + 1]? = some (.cells #[.slice none 0 0, .slice none 0 0, .slice none 0 0, .int .i64 0] 40 (0, 0))) := RR
    clear Bq fw GW RR HB3 HGW3 HRR3
    by_cases hlt : i < pn
    · obtain ⟨p, hp⟩ : ∃ p, ps[i]? = some p := ⟨_, List.getElem?_eq_getElem (by rw [HPL.out]; exact hlt)⟩
      obtain ⟨z0, z1, z2, z3⟩ := HPK.out p (List.mem_of_getElem? hp)
      obtain ⟨b', o', rfl, hb', hcell'⟩ := HP.out.spot (by omega)
      have HQ : Hid (∀ W : World, Gr w W → W.cell? ⟨b', o' + i * 2, none⟩ = some (.int .i64 p.1) ∧ W.cell? ⟨b', o' + i * 2 + 1, none⟩ = some (.int .i64 p.2)) := fun W G => ⟨(G.cell _ (by exact hb')).trans (hcell' i p hp).1, (G.cell _ (by exact hb')).trans (hcell' i p hp).2⟩
      have HTK : Hid ((nums ps).take (i + 1) = (nums ps).take i ++ [(p.1.toNat, p.2.toNat)]) := nums_get hp
      have HFs : Hid (Fit (play ⟨hs, m, [], 0⟩ ((nums ps).take i)) hn mn) := play_fit _ (fun q hq => by
        obtain ⟨r, hr, rfl⟩ := List.mem_map.1 (List.mem_of_mem_take hq)
        have := HPK.out r hr
        show r.1.toNat < hn
        omega) HF0.out
      clear hp hcell'
      obtain ⟨p1, p2⟩ := p
      simp only at *
      obtain ⟨k, rfl⟩ := Int.eq_ofNat_of_zero_le z0
      obtain ⟨N, rfl⟩ := Int.eq_ofNat_of_zero_le z2
      simp only [Int.toNat_natCast] at HTK
      have hk : k < hn := by omega
      have hN : N ≤ 400 := by omega
      have HNX : Hid (play ⟨hs, m, [], 0⟩ ((nums ps).take (i + 1)) = runs (play ⟨hs, m, [], 0⟩ ((nums ps).take i)) k N) := by
        unfold Hid
        rw [HTK.out, play_app, play_cons]
        rfl
      generalize hS : play ⟨hs, m, [], 0⟩ ((nums ps).take i) = s at *
      clear hS z0 z1 z2 z3 HTK
      have q0 : wr.cell? ⟨b', o' + i * 2, none⟩ = some (.int .i64 k) := (HQ.out _ HGW.out).1
      go_wp2_with fail
      go_loopw [9] (fun n wq => ∃ (c : Nat) (s' : Sh), c ≤ N ∧ n = .int .i64 c ∧ runs s k N = runs s' k (N - c) ∧ Fit s' hn mn ∧ Few s' (400 * i + c) ∧ Pd wq (w.heap.size + 1 + 1) (w.heap.size + 1 + 1) mn gh c2 s' ∧ Gr w wq ∧ wq.heap[w.heap.size + 1]? = some (.cells #[.slice none 0 0, .slice none 0 0, .slice none 0 0, .int .i64 0] 40 (0, 0))) (fun n _ => N - (intOf n).toNat)
      case atStart => exact ⟨0, s, Nat.zero_le _, rfl, rfl, HFs.out, HFW.out, HB.out, HGW.out, HRR.out⟩
      case round =>
        obtain ⟨c, s', hc, rfl, hrun, Ft, fw, Bq, GW, RR⟩ := hrel
        have HB5 : Hid (Pd wr (w.heap.size + 1 + 1) (w.heap.size + 1 + 1) mn gh c2 s') := Bq
        have HFW5 : Hid (Few s' (400 * i + c)) := fw
        have HGW5 : Hid (Gr w wr) := GW
        have HRR5 : Hid (wr.heap[w.heap.size + 1]? = some (.cells #[.slice none 0 0, .slice none 0 0, .slice none 0 0, .int .i64 0] 40 (0, 0))) := RR
        have HRN : Hid (runs s k N = runs s' k (N - c)) := hrun
        have HFt : Hid (Fit s' hn mn) := Ft
        clear hrun Ft fw Bq GW RR HB HFW HGW HRR q0
        have q1 : wr.cell? ⟨b', o' + i * 2 + 1, none⟩ = some (.int .i64 N) := (HQ.out _ HGW5.out).2
        have hl : k < s'.hs.length := by rw [HFt.out.len]; exact hk
        have eh : s'.hs[k]? = some (at' s' k) := by unfold at'; rw [List.getElem?_eq_getElem hl]; simp [List.getD, hl]
        obtain ⟨okh, mayh⟩ := HFt.out.ok _ (mem_of_get eh)
        obtain ⟨ma', mc', O', B⟩ := HB5.out
        have c35 : wr.cell? ⟨gh, k * 37 + 35, none⟩ = some (.int .i64 (at' s' k).state) := (B.row.cell eh (by omega)).trans (hL_fld okh 3)
        have ghl : gh < wr.heap.size := B.row.lt
        by_cases hgo : c < N ∧ (at' s' k).state = 0
        · obtain ⟨hlt2, hst⟩ := hgo
          have HST : Hid ((at' s' k).state = 0) := hst
          rw [hst] at c35
          have HEH : Hid (s'.hs[k]? = some (at' s' k)) := eh
          have HSP : Hid (stepS s' k = ⟨lose k (stp (at' s' k) s'.m).sto (s'.hs.set k (stp (at' s' k) s'.m).h), (stp (at' s' k) s'.m).m, s'.out ++ (stp (at' s' k) s'.m).out, s'.steps + 1⟩) := rfl
          have HFN : Hid (Fit (stepS s' k) hn mn) := step_fit HFt.out hk hst
          have HRN2 : Hid (runs s k N = runs (stepS s' k) k (N - (c + 1))) := by
            unfold Hid
            rw [HRN.out, show N - c = (N - (c + 1)) + 1 by omega]
            show (if (at' s' k).state = 0 then _ else _) = _
            rw [if_pos hst]
          have gd := good_stp (rn_of mayh hst) s'.m
          have so := stp_sto okh s'.m
          have HOS : Hid (stp (at' s' k) s'.m).h.Ok := stp_ok okh s'.m
          have HOL : (stp (at' s' k) s'.m).out.length ≤ 1 := gd.2.2.2.1
          have HSML : Hid ((stp (at' s' k) s'.m).m.length = mn) := gd.2.1.trans HFt.out.mem
          have HSO : Hid (∀ p ∈ (stp (at' s' k) s'.m).sto, 0 ≤ p.1 ∧ 0 < p.2 ∧ p.1 + p.2 ≤ mn) := fun p hp => by have := so.1 p hp; unfold StOk at this; rwa [HFt.out.mem] at this
          have hsteps : s'.steps ≤ 1000000 := by have := HFW5.out.2; omega
          have houts : s'.out.length ≤ 1000000 := by have := HFW5.out.1; have := HFW5.out.2; omega
          have HFW6 : Hid (Few (stepS s' k) (400 * i + (c + 1))) := by
            rw [HSP.out]
            refine ⟨?_, ?_⟩
            · have := HFW5.out.1; show (s'.out ++ _).length ≤ s'.steps + 1; rw [List.length_append]; omega
            · have := HFW5.out.2; show s'.steps + 1 ≤ _; omega
          have kg3 : wr.cell? ⟨w.heap.size + 1 + 1, 3, none⟩ = some (.int .i64 s'.steps) := B.cell 3
          have fg3 : wr.frozen? ⟨w.heap.size + 1 + 1, 3, none⟩ = false := B.fz 3
          have B4 := B.setN (s'.steps + 1)
          rw [show ((s'.steps + 1 : Nat) : Int) = (s'.steps : Int) + 1 by omega] at B4
          have G4 : Gr w (wr.setCell ⟨w.heap.size + 1 + 1, 3, none⟩ (.int .i64 ((s'.steps : Int) + 1))) := HGW5.out.setCell (by show w.heap.size ≤ w.heap.size + 1 + 1; omega) _
          have R4 : (wr.setCell ⟨w.heap.size + 1 + 1, 3, none⟩ (.int .i64 ((s'.steps : Int) + 1))).heap[w.heap.size + 1]? = some (.cells #[.slice none 0 0, .slice none 0 0, .slice none 0 0, .int .i64 0] 40 (0, 0)) := (heap_setCell_other _ _ _ _ (by show w.heap.size + 1 ≠ w.heap.size + 1 + 1; omega)).trans HRR5.out
          have HB4 : Hid (Pb (wr.setCell ⟨w.heap.size + 1 + 1, 3, none⟩ (.int .i64 ((s'.steps : Int) + 1))) (w.heap.size + 1 + 1) (w.heap.size + 1 + 1) ma' mn mc' gh c2 O' ⟨s'.hs, s'.m, s'.out, s'.steps + 1⟩) := B4
          have HG4 : Hid (Gr w (wr.setCell ⟨w.heap.size + 1 + 1, 3, none⟩ (.int .i64 ((s'.steps : Int) + 1)))) := G4
          have HR4 : Hid ((wr.setCell ⟨w.heap.size + 1 + 1, 3, none⟩ (.int .i64 ((s'.steps : Int) + 1))).heap[w.heap.size + 1]? = some (.cells #[.slice none 0 0, .slice none 0 0, .slice none 0 0, .int .i64 0] 40 (0, 0))) := R4
          have HMH : Hid (may (at' s' k) = true) := mayh
          have HOH : Hid (at' s' k).Ok := okh
          clear B B4 G4 R4 hst gd so mayh okh eh HB5
          go_wp2_with fail
          clear q1 c35 kg3 fg3
          generalize wr.setCell ⟨w.heap.size + 1 + 1, 3, none⟩ (.int .i64 ((s'.steps : Int) + 1)) = w4 at *
          generalize at' s' k = h at *
          have HStp : Hid (∀ W : World, Gr w4 W → Calls Tryd.prog 32 #[.agg (hL h).toArray, .slice ma' mn mc'] W fun e w' => ∃ d, e = .returned (.agg (dA d)) ∧ Hr.Dd w' (.slice ma' mn mc') W.heap.size d (stp h s'.m) ∧ Gr W w') := fun W G => Hr.rstep_any HOH.out (HB4.out.mem.of G) (by omega) HST.out
          have HRG : Hid (w4.rangeAt gh (k * 37) (hL h)) := HB4.out.row.range HEH.out
          have kg0 : w4.cell? ⟨w.heap.size + 1 + 1, 0, none⟩ = some (.slice ma' mn mc') := HB4.out.cell 0
          have HLh : Hid ((hL h).length = 37) := hL_len HOH.out
          generalize stp h s'.m = S at *
          have HS13 : Hid (∀ W : World, Gr w4 W → W.cell? ⟨w.heap.size + 1 + 1, 0, none⟩ = some (.slice ma' mn mc') ∧ W.rangeAt gh (k * 37) (hL h)) := fun W G => ⟨(G.cell _ (by exact HB4.out.glt)).trans kg0, fun j v hv => (G.cell _ (by exact HB4.out.row.lt)).trans (HRG.out j v hv)⟩
          have ghl4 : gh < w4.heap.size := HB4.out.row.lt
          apply share
          · intro CONT
            refine wp_region_held_drew (S := fun W => W.cell? ⟨w.heap.size + 1 + 1, 0, none⟩ = some (.slice ma' mn mc') ∧ W.rangeAt gh (k * 37) (hL h)) (by kernel_rfl) ?_ (fun hHeld => ?_)
            · exact HS13.out _ (Gr.refl _).drew
            have HS0 : Hid _ := hHeld
            clear hHeld
            refine wpAnyH_take (i := 0) (v := .slice (some ⟨gh, 0, none⟩) hn c2) rfl (by kernel_rfl) (by kernel_rfl) (by kernel_rfl) (fun _ _ _ h => h) (Or.inl ⟨by rfl, fun W hW => by obtain ⟨y0, y1⟩ := hW; go_simp⟩) HS0.out ?_
            simp only [List.getElem_toArray, List.getElem_cons_succ, List.getElem_cons_zero, Act.put, List.setIfInBounds_toArray, List.set_cons_zero, List.set_cons_succ]
            refine wpAnyH_take (i := 1) (v := .int .i64 k) rfl (by kernel_rfl) (by kernel_rfl) (by kernel_rfl) (fun _ _ _ h => h) (Or.inl ⟨by rfl, fun W hW => by obtain ⟨y0, y1⟩ := hW; go_simp⟩) HS0.out ?_
            simp only [List.getElem_toArray, List.getElem_cons_succ, List.getElem_cons_zero, Act.put, List.setIfInBounds_toArray, List.set_cons_zero, List.set_cons_succ]
            refine wpAnyH_take (i := 2) (v := .pointer (some ⟨gh, k * 37, none⟩)) rfl (by kernel_rfl) (by kernel_rfl) (by kernel_rfl) (fun _ _ _ h => h) (Or.inl ⟨by rfl, fun W hW => by obtain ⟨y0, y1⟩ := hW; go_simp⟩) HS0.out ?_
            simp only [List.getElem_toArray, List.getElem_cons_succ, List.getElem_cons_zero, Act.put, List.setIfInBounds_toArray, List.set_cons_zero, List.set_cons_succ]
            refine wpAnyH_take (i := 3) (v := .agg (hL h).toArray) rfl (by kernel_rfl) (by kernel_rfl) (by kernel_rfl) (fun _ _ _ h => h) ?hy HS0.out ?_
            case hy => exact yieldsIf_load_mid (by rfl) 70 (.tmp 66) rfl gh (k * 37) (by simp [Act.eval]) (hL h) _ (fun W hW => hW.2) Tryd.underlying70 rfl (by rw [HLh.out]; exact iH)
            simp only [List.getElem_toArray, List.getElem_cons_succ, List.getElem_cons_zero, Act.put, List.setIfInBounds_toArray, List.set_cons_zero, List.set_cons_succ]
            refine wpAnyH_take (i := 4) (v := .pointer (some ⟨w.heap.size + 1 + 1, 0, none⟩)) rfl (by kernel_rfl) (by kernel_rfl) (by kernel_rfl) (fun _ _ _ h => h) (Or.inl ⟨by rfl, fun W hW => by obtain ⟨y0, y1⟩ := hW; go_simp⟩) HS0.out ?_
            simp only [List.getElem_toArray, List.getElem_cons_succ, List.getElem_cons_zero, Act.put, List.setIfInBounds_toArray, List.set_cons_zero, List.set_cons_succ]
            refine wpAnyH_take (i := 5) (v := .pointer (some ⟨w.heap.size + 1 + 1, 0, none⟩)) rfl (by kernel_rfl) (by kernel_rfl) (by kernel_rfl) (fun _ _ _ h => h) (Or.inl ⟨by rfl, fun W hW => by obtain ⟨y0, y1⟩ := hW; go_simp⟩) HS0.out ?_
            simp only [List.getElem_toArray, List.getElem_cons_succ, List.getElem_cons_zero, Act.put, List.setIfInBounds_toArray, List.set_cons_zero, List.set_cons_succ]
            refine wpAnyH_take (i := 6) (v := .slice ma' mn mc') rfl (by kernel_rfl) (by kernel_rfl) (by kernel_rfl) (fun _ _ _ h => h) (Or.inl ⟨by rfl, fun W hW => by obtain ⟨y0, y1⟩ := hW; go_simp⟩) HS0.out ?_
            simp only [List.getElem_toArray, List.getElem_cons_succ, List.getElem_cons_zero, Act.put, List.setIfInBounds_toArray, List.set_cons_zero, List.set_cons_succ]
            refine wpAnyH_ready (rs := [7, 8]) (by kernel_rfl) (by simp) ?_
            refine AllReadyH.cons rfl (fun K hK => ?cf) (AllReadyH.cons rfl (fun K hK => ?af) AllReadyH.nil)
            case cf =>
              go_simp
              refine (HStp.out _ (Gr.refl _).drew).mono ?_
              rintro e wd ⟨d, rfl, DD, Gd⟩
              have HDd : Hid (Hr.Dd wd (.slice ma' mn mc') w4.heap.size d S) := DD
              have HGd : Hid (Gr w4 wd) := (Gr.refl _).drew.trans Gd
              have HSD : Hid ((dA d).size = 41) := dA_size DD.ok.h
              have HOD : Hid ((dA d).all (·.oneCell') = true) := one_dA DD.ok
              clear DD Gd
              refine hK.out _ _ (HS13.out _ HGd.out) (fun hx => ?_)
              clear hK K hx
              refine wpAnyH_ready (rs := [8]) (by kernel_rfl) (by simp) ?_
              refine AllReadyH.cons rfl (fun K hK => ?_) AllReadyH.nil
              go_simp
              refine hK.out _ _ (HS13.out _ (HGd.out.alloc _)) (fun hx => ?_)
              clear hK K hx
              refine held_store_row (i := 9) (by kernel_rfl) rfl rfl 81 (.tmp 10) (.tmp 71) rfl wd.heap.size (dA d) (by simp [Act.eval]) (by simp [Act.eval]) 81 _ (heap_alloc_new wd _) (by rw [HSD.out]; exact Hr.iD) (by rw [HSD.out]; rfl) HOD.out ?_ ?_
              · exact HS13.out _ (gr_setRow (HGd.out.alloc _) HGd.out.size _)
              refine wpAnyH_done (by kernel_rfl) ?_ _
              refine at_world (fun W => Hr.Dd W (.slice ma' mn mc') w4.heap.size d S ∧ W.heap[wd.heap.size]? = some (.cells (dA d) 81 (0, 0)) ∧ Gr w4 W) ?_ ?_
              · exact ⟨dd_of HDd.out (gr_setRow ((Gr.refl _).alloc _) (Nat.le_refl _) _) (Nat.le_refl _), setRow_heap _ _ _ _ _ (0, 0) (heap_alloc_new wd _), gr_setRow (HGd.out.alloc _) HGd.out.size _⟩
              have gdl : w4.heap.size ≤ wd.heap.size := HGd.out.size
              clear HDd HS0
              generalize wd.heap.size = gd at *
              clear HGd
              clear wd
              revert gdl
              revert gd
              revert HSD HOD
              revert d
              exact CONT.out
            case af =>
              go_simp
              refine hK.out _ _ (HS13.out _ ((Gr.refl _).alloc _).drew) (fun hx => ?_)
              clear hK K hx
              refine wpAnyH_ready (rs := [7]) (by kernel_rfl) (by simp) ?_
              refine AllReadyH.cons rfl (fun K hK => ?_) AllReadyH.nil
              go_simp
              refine (HStp.out _ ((Gr.refl _).alloc _).drew).mono ?_
              rintro e wd ⟨d, rfl, DD, Gd⟩
              have HDd : Hid (Hr.Dd wd (.slice ma' mn mc') (w4.heap.size + 1) d S) := dd_of DD (Gr.refl _) (by show w4.heap.size + 1 ≤ (World.alloc w4 _).heap.size; rw [World.size_alloc]; exact Nat.le_refl _)
              have HNw : Hid (wd.heap[w4.heap.size]? = some (.cells _ 81 (0, 0))) := Hr.heap_of_gr Gd (Hr.heap_of_gr (Gr.refl _).drew (heap_alloc_new w4 _))
              have HGd : Hid (Gr w4 wd) := Gr.trans (Gr.drew ((Gr.refl w4).alloc _)) Gd
              have HSD : Hid ((dA d).size = 41) := dA_size DD.ok.h
              have HOD : Hid ((dA d).all (·.oneCell') = true) := one_dA DD.ok
              clear DD Gd
              refine hK.out _ _ (HS13.out _ HGd.out) (fun hx => ?_)
              clear hK K hx
              refine held_store_row (i := 9) (by kernel_rfl) rfl rfl 81 (.tmp 10) (.tmp 71) rfl w4.heap.size (dA d) (by simp [Act.eval]) (by simp [Act.eval]) 81 _ HNw.out (by rw [HSD.out]; exact Hr.iD) (by rw [HSD.out]; rfl) HOD.out ?_ ?_
              · exact HS13.out _ (gr_setRow HGd.out (Nat.le_refl _) _)
              refine wpAnyH_done (by kernel_rfl) ?_ _
              refine at_world (fun W => Hr.Dd W (.slice ma' mn mc') w4.heap.size d S ∧ W.heap[w4.heap.size]? = some (.cells (dA d) 81 (0, 0)) ∧ Gr w4 W) ?_ ?_
              · exact ⟨dd_row HDd.out (Nat.lt_succ_self _) (fun ad e h0 => Nat.ne_of_lt (mem_lt HB4.out.mem ad e h0)) HNw.out (by decide) _ (Nat.le_succ _), setRow_heap _ _ _ _ _ (0, 0) HNw.out, gr_setRow HGd.out (Nat.le_refl _) _⟩
              exact CONT.out d HSD HOD _ (Nat.le_refl _)
          · intro d HSD HOD gd gdl
            clear HS13 HStp
            rintro wD ⟨DD, BD, GD⟩
            obtain ⟨dok, dh, ⟨a3, n3, c3, dm, M3, far3⟩, dout, dsto⟩ := DD
            have e3 : n3 = mn := M3.len.symm.trans HSML.out
            rw [e3] at dm M3
            have HFar : Hid (∀ ad, a3 = some ad → 0 < mn → ad.block ≠ w.heap.size + 1 + 1 ∧ ad.block ≠ gh ∧ O'.ownBlock ≠ some ad.block) := by
              intro ad ea h0
              rcases far3 with f | f
              · rw [dm] at f
                injection f with f1 f2 f3
                exact HB4.out.far ad (f1.symm.trans ea) h0
              · have h1 := f ad ea
                have h2 := HB4.out.glt
                have h3 := HB4.out.row.lt
                refine ⟨by omega, by omega, fun e => ?_⟩
                have := (HB4.out.out.lt _ e).2
                omega
            have g37 : (dA d)[37]? = some (.slice a3 mn c3) := by rw [dA_fld dok.h 0]; simp [dm]
            have g38 : (dA d)[38]? = some d.out := by rw [dA_fld dok.h 1]; rfl
            have g39 : (dA d)[39]? = some (.int .u32 d.fro) := by rw [dA_fld dok.h 2]; rfl
            have g40 : (dA d)[40]? = some (.int .i64 d.many) := by rw [dA_fld dok.h 3]; rfl
            have HLS : Hid ((hL S.h).length = 37) := hL_len HOS.out
            have HRD : Hid (wD.rangeAt gd 0 (hL S.h)) := fun j u hj => by
              have hj2 : j < 37 := by have := (List.getElem?_eq_some_iff.1 hj).1; rw [HLS.out] at this; exact this
              rw [Nat.zero_add, cell_of_row _ _ _ _ _ _ BD, dA_get dok.h hj2, dh]
              exact hj
            have HPD : Hid (Pb wD (w.heap.size + 1 + 1) (w.heap.size + 1 + 1) ma' mn mc' gh c2 O' ⟨s'.hs, s'.m, s'.out, s'.steps + 1⟩) := HB4.out.of GD
            have HWD : Hid (Gr w wD) := Gr.trans HG4.out GD
            have HRD2 : Hid (wD.heap[w.heap.size + 1]? = some (.cells #[.slice none 0 0, .slice none 0 0, .slice none 0 0, .int .i64 0] 40 (0, 0))) := Hr.heap_of_gr GD HR4.out
            have HM3 : Hid (Mem wD a3 mn S.m) := M3
            obtain ⟨mm, hmm, hmm4, fr0, fr1, HNS⟩ : ∃ mm : Nat, d.many = mm ∧ mm ≤ 4096 ∧ 0 ≤ d.fro ∧ d.fro < 4294967296 ∧ ∀ x, nearS x S.sto = near x d.fro mm := by
              rcases dsto with ⟨e, e1, e2⟩ | e
              · exact ⟨0, by rw [e2]; rfl, by omega, by omega, by omega, fun x => by rw [e]; simp [nearS, near]⟩
              · have := HSO.out (d.fro, d.many) (by rw [e]; exact List.mem_singleton.2 rfl)
                simp only at this
                refine ⟨d.many.toNat, by omega, by omega, by omega, by omega, fun x => ?_⟩
                rw [e, show ((d.many.toNat : Nat) : Int) = d.many by omega]
                simp [nearS]
            have HNR : Hid (∀ x, nearS x S.sto = near x d.fro mm) := HNS
            rw [hmm] at g40
            have HOT : Hid (Hr.OutV wD d.out S.out) := dout
            have HBD : Hid (wD.heap[gd]? = some (.cells (dA d) 81 (0, 0))) := BD
            have HTH : Hid (wD.there gh (k * 37) 37) := HPD.out.row.there HEH.out
            clear dok dh dm far3 dout dsto M3 HNS hmm BD GD HB4 HG4 HR4 HRG kg0
            generalize dA d = DA at *
            generalize d.out = OV at *
            generalize d.fro = fr at *
            simp only [List.getElem_toArray, List.getElem_cons_succ, List.getElem_cons_zero, Act.put, List.setIfInBounds_toArray, List.set_cons_zero, List.set_cons_succ]
            go_wp2_with (first
              | (refine wpList_load_mid rfl 70 _ rfl gd 0 rfl (hL S.h) _ ?r1 Tryd.underlying70 rfl (by rw [HLS.out]; exact iH) ?_; (case r1 => exact HRD.out))
              | (refine wpList_store_mid rfl 70 _ _ rfl gh (k * 37) (hL S.h).toArray rfl rfl ?t1 (by rw [List.size_toArray, HLS.out]; exact iH) (one_hA S.h) ?_; (case t1 => rw [List.size_toArray, HLS.out]; exact HTH.out); (change wpList _ _ _ _ _ (World.setCells wD gh (k * 37) (hL S.h))); have C5 : Ch gh wD (World.setCells wD gh (k * 37) (hL S.h)) := Ch.setCells (Ch.refl gh wD) _ _; have B5 : Pb (World.setCells wD gh (k * 37) (hL S.h)) (w.heap.size + 1 + 1) (w.heap.size + 1 + 1) ma' mn mc' gh c2 O' ⟨s'.hs.set k S.h, s'.m, s'.out, s'.steps + 1⟩ := HPD.out.ch C5 (HPD.out.row.put (by rw [HFt.out.len]; exact hk) HOS.out) (by show (s'.hs.set k _).length = s'.hs.length; rw [List.length_set]); have X5 : (World.setCells wD gh (k * 37) (hL S.h)).heap[gd]? = some (.cells DA 81 (0, 0)) := (ch_keep HPD.out.row C5 (by decide) HBD.out).trans HBD.out; have M5 : Mem (World.setCells wD gh (k * 37) (hL S.h)) a3 mn S.m := mem_keep HM3.out (fun ad e h0 hb => C5.block _ hb (fun x => (HFar.out ad e h0).2.1 (by injection x))); have O5 : Hr.OutV (World.setCells wD gh (k * 37) (hL S.h)) OV S.out := outv_to HOT.out (fun hk => ch_keep HPD.out.row C5 (by decide) hk); have G5 : Gr w (World.setCells wD gh (k * 37) (hL S.h)) := Below.trans HWD.out (Below.mono (C5.below HPD.out.bh HPD.out.base_le) (by omega)); have R5 : (World.setCells wD gh (k * 37) (hL S.h)).heap[w.heap.size + 1]? = some (.cells #[.slice none 0 0, .slice none 0 0, .slice none 0 0, .int .i64 0] 40 (0, 0)) := (ch_keep HPD.out.row C5 (by decide) HRD2.out).trans HRD2.out; clear HPD HBD HM3 HOT HWD HRD HRD2 HTH C5; generalize (World.setCells wD gh (k * 37) (hL S.h)) = w5 at *; have hgdg : gd ≠ w.heap.size + 1 + 1 := ne_of_types X5 B5.blk (by decide); have k0 : w5.cell? ⟨w.heap.size + 1 + 1, 0, none⟩ = some (.slice ma' mn mc') := B5.cell 0; have f0 : w5.frozen? ⟨w.heap.size + 1 + 1, 0, none⟩ = false := B5.fz 0; have m37 : w5.cell? ⟨gd, 37, none⟩ = some (.slice a3 mn c3) := (cell_of_row _ _ _ _ _ _ X5).trans g37; have B6 : Pb (w5.setCell ⟨w.heap.size + 1 + 1, 0, none⟩ (.slice a3 mn c3)) (w.heap.size + 1 + 1) (w.heap.size + 1 + 1) a3 mn c3 gh c2 O' ⟨s'.hs.set k S.h, S.m, s'.out, s'.steps + 1⟩ := B5.setM c3 M5 HFar.out; have X6 : (w5.setCell ⟨w.heap.size + 1 + 1, 0, none⟩ (.slice a3 mn c3)).heap[gd]? = some (.cells DA 81 (0, 0)) := (heap_setCell_other _ _ _ _ (by exact hgdg)).trans X5; have HO6 : Hid (Hr.OutV (w5.setCell ⟨w.heap.size + 1 + 1, 0, none⟩ (.slice a3 mn c3)) OV S.out) := outv_to O5 (fun hk => heap_setCell_other _ _ _ _ (by exact ne_of_types hk B5.blk (by decide))); have HG6 : Hid (Gr w (w5.setCell ⟨w.heap.size + 1 + 1, 0, none⟩ (.slice a3 mn c3))) := G5.setCell (by show w.heap.size ≤ w.heap.size + 1 + 1; omega) _; have HR6 : Hid ((w5.setCell ⟨w.heap.size + 1 + 1, 0, none⟩ (.slice a3 mn c3)).heap[w.heap.size + 1]? = some (.cells #[.slice none 0 0, .slice none 0 0, .slice none 0 0, .int .i64 0] 40 (0, 0))) := (heap_setCell_other _ _ _ _ (by show w.heap.size + 1 ≠ w.heap.size + 1 + 1; omega)).trans R5; have k2 : (w5.setCell ⟨w.heap.size + 1 + 1, 0, none⟩ (.slice a3 mn c3)).cell? ⟨w.heap.size + 1 + 1, 2, none⟩ = some O' := B6.cell 2; have m38 : (w5.setCell ⟨w.heap.size + 1 + 1, 0, none⟩ (.slice a3 mn c3)).cell? ⟨gd, 38, none⟩ = some OV := (cell_of_row _ _ _ _ _ _ X6).trans g38; have HB6 : Hid (Pb (w5.setCell ⟨w.heap.size + 1 + 1, 0, none⟩ (.slice a3 mn c3)) (w.heap.size + 1 + 1) (w.heap.size + 1 + 1) a3 mn c3 gh c2 O' ⟨s'.hs.set k S.h, S.m, s'.out, s'.steps + 1⟩) := B6; have HX6 : Hid ((w5.setCell ⟨w.heap.size + 1 + 1, 0, none⟩ (.slice a3 mn c3)).heap[gd]? = some (.cells DA 81 (0, 0))) := X6; clear B5 X5 M5 O5 G5 R5 B6 X6)
              | (at_builtin; refine wpList_append_src_at (base := w.heap.size + 1 + 1) (n := s'.out.length) (m := S.out.length) rfl (.tmp 82) (.tmp 84) rfl Tryd.underlying38 hiW zW0 zW1 zW2 rfl (by decide) rfl rfl HB6.out.out (outv_src HO6.out) (u32_one _) (by unfold maxLen; omega) (by omega) HB6.out.base_le ?_; intro v7 w7 hown hgrow hv; obtain ⟨a7, c7, rfl⟩ := (owns_cells hown).2.2; have hown2 : w7.ownsRow (w.heap.size + 1 + 1) 59 1 (.slice a7 (s'.out.length + S.out.length) c7) (s'.out ++ S.out).length ((s'.out ++ S.out).map (Value.int .u32)) := (by rw [List.length_append, List.map_append]; exact hown); obtain ⟨k7, f7, B8, L8⟩ := HB6.out.grown hgrow hown2 hv; have X7 : w7.heap[gd]? = some (.cells DA 81 (0, 0)) := (grown_keep HB6.out.out hgrow (by decide) HX6.out).trans HX6.out; have HX8 : Hid ((w7.setCell ⟨w.heap.size + 1 + 1, 2, none⟩ (.slice a7 (s'.out.length + S.out.length) c7)).heap[gd]? = some (.cells DA 81 (0, 0))) := (heap_setCell_other _ _ _ _ (by exact hgdg)).trans X7; have HG8 : Hid (Gr w (w7.setCell ⟨w.heap.size + 1 + 1, 2, none⟩ (.slice a7 (s'.out.length + S.out.length) c7))) := Below.trans HG6.out (L8.mono (by omega)); have HR8 : Hid ((w7.setCell ⟨w.heap.size + 1 + 1, 2, none⟩ (.slice a7 (s'.out.length + S.out.length) c7)).heap[w.heap.size + 1]? = some (.cells #[.slice none 0 0, .slice none 0 0, .slice none 0 0, .int .i64 0] 40 (0, 0))) := (L8.block _ (by omega)).trans HR6.out; have HB8 : Hid (Pb (w7.setCell ⟨w.heap.size + 1 + 1, 2, none⟩ (.slice a7 (s'.out.length + S.out.length) c7)) (w.heap.size + 1 + 1) (w.heap.size + 1 + 1) a3 mn c3 gh c2 (.slice a7 (s'.out.length + S.out.length) c7) ⟨s'.hs.set k S.h, S.m, s'.out ++ S.out, s'.steps + 1⟩) := B8; clear hown hgrow hv hown2 B8 L8 X7))
            generalize (w7.setCell ⟨w.heap.size + 1 + 1, 2, none⟩ (.slice a7 (s'.out.length + S.out.length) c7)) = w8 at *
            clear k0 f0 m37 k2 m38 k7 f7 HB6 HX6 HO6 HG6 HR6 HFar g37 g38 HLS
            have HHN : Hid ((s'.hs.set k S.h).length = hn) := by unfold Hid; rw [List.length_set]; exact HFt.out.len
            go_loopw [11] (fun jv wq => ∃ j : Nat, j ≤ hn ∧ jv = .int .i64 j ∧ Pb wq (w.heap.size + 1 + 1) (w.heap.size + 1 + 1) a3 mn c3 gh c2 (.slice a7 (s'.out.length + S.out.length) c7) ⟨loseU k S.sto (s'.hs.set k S.h) j, S.m, s'.out ++ S.out, s'.steps + 1⟩ ∧ Gr w wq ∧ wq.heap[w.heap.size + 1]? = some (.cells #[.slice none 0 0, .slice none 0 0, .slice none 0 0, .int .i64 0] 40 (0, 0)) ∧ wq.heap[gd]? = some (.cells DA 81 (0, 0))) (fun jv _ => hn - (intOf jv).toNat)
            case atStart => exact ⟨0, Nat.zero_le _, rfl, by rw [loseU_zero]; exact HB8.out, HG8.out, HR8.out, HX8.out⟩
            case round =>
              obtain ⟨j, hj, rfl, B9, G9, R9, X9⟩ := hrel
              have HB9 : Hid (Pb wr (w.heap.size + 1 + 1) (w.heap.size + 1 + 1) a3 mn c3 gh c2 (.slice a7 (s'.out.length + S.out.length) c7) ⟨loseU k S.sto (s'.hs.set k S.h) j, S.m, s'.out ++ S.out, s'.steps + 1⟩) := B9
              have HG9 : Hid (Gr w wr) := G9
              have HR9 : Hid (wr.heap[w.heap.size + 1]? = some (.cells #[.slice none 0 0, .slice none 0 0, .slice none 0 0, .int .i64 0] 40 (0, 0))) := R9
              have HX9 : Hid (wr.heap[gd]? = some (.cells DA 81 (0, 0))) := X9
              clear B9 G9 R9 X9 HB8 HG8 HR8 HX8
              by_cases hjl : j < hn
              · obtain ⟨q, hq⟩ : ∃ q, (s'.hs.set k S.h)[j]? = some q := ⟨_, List.getElem?_eq_getElem (by rw [HHN.out]; exact hjl)⟩
                have HJ0 : Hid ((loseU k S.sto (s'.hs.set k S.h) j)[j]? = some q) := by unfold Hid; rw [loseU_get, hq]; simp
                have okq : q.Ok := HB9.out.row.ok _ (mem_of_get HJ0.out)
                have HSu : Hid (loseU k S.sto (s'.hs.set k S.h) (j + 1) = (loseU k S.sto (s'.hs.set k S.h) j).set j (if j ≠ k then lose1 S.sto q else q)) := loseU_succ k S.sto hq
                have HL1 : Hid (lose1 S.sto q = if q.held = true ∧ near q.heldAt fr mm = true then q.hold false 0 else q) := by unfold Hid lose1; rw [HNR.out]
                have c33 : wr.cell? ⟨gh, j * 37 + 33, none⟩ = some (.bool q.held) := (HB9.out.row.cell HJ0.out (by omega)).trans (hL_fld okq 1)
                have c34 : wr.cell? ⟨gh, j * 37 + 34, none⟩ = some (.int .u32 q.heldAt) := (HB9.out.row.cell HJ0.out (by omega)).trans (hL_fld okq 2)
                have f33 : wr.frozen? ⟨gh, j * 37 + 33, none⟩ = false := HB9.out.row.fz _
                have f34 : wr.frozen? ⟨gh, j * 37 + 34, none⟩ = false := HB9.out.row.fz _
                have x39 : wr.cell? ⟨gd, 39, none⟩ = some (.int .u32 fr) := (cell_of_row _ _ _ _ _ _ HX9.out).trans g39
                have x40 : wr.cell? ⟨gd, 40, none⟩ = some (.int .i64 mm) := (cell_of_row _ _ _ _ _ _ HX9.out).trans g40
                have HOq : Hid q.Ok := okq
                have HNr : Hid (∀ W : World, Calls Tryd.prog 33 #[.int .u32 q.heldAt, .int .u32 fr, .int .i64 mm] W fun e w' => e = .returned (.bool (near q.heldAt fr mm)) ∧ w' = W) := fun W => rnear_any okq.at0 okq.at1 fr0 fr1 hmm4 W
                have hghr : gh < wr.heap.size := HB9.out.row.lt
                clear hq okq
                generalize loseU k S.sto (s'.hs.set k S.h) j = hsj at *
                by_cases hjk : j = k
                · have HS1 : Hid (loseU k S.sto (s'.hs.set k S.h) (j + 1) = hsj) := by unfold Hid; rw [HSu.out, if_neg (by omega), set_same HJ0.out]
                  have n1 : ((j : Int) != (k : Int)) = false := by simp [hjk]
                  have n2 : ((j : Int) == (k : Int)) = true := by simp [hjk]
                  go_wp2_with fail
                  go_quiet (fail)
                  go_wp2_with fail
                  go_roundw
                  case rel => exact ⟨j + 1, by omega, by go_num, by rw [HS1.out]; exact HB9.out.of ((Gr.refl _).drewN _), HG9.out.drewN _, Hr.heap_of_gr ((Gr.refl _).drewN _) HR9.out, Hr.heap_of_gr ((Gr.refl _).drewN _) HX9.out⟩
                  case measure => simp [intOf]; omega
                · have n1 : ((j : Int) != (k : Int)) = true := by simp; omega
                  have n2 : ((j : Int) == (k : Int)) = false := by simp; omega
                  by_cases hh : q.held = false
                  · have HS1 : Hid (loseU k S.sto (s'.hs.set k S.h) (j + 1) = hsj) := by unfold Hid; rw [HSu.out, if_pos hjk, HL1.out, if_neg (by rw [hh]; simp), set_same HJ0.out]
                    rw [hh] at c33
                    go_wp2_with fail
                    go_quiet (fail)
                    go_wp2_with fail
                    go_roundw
                    case rel => exact ⟨j + 1, by omega, by go_num, by rw [HS1.out]; exact HB9.out.of ((Gr.refl _).drewN _), HG9.out.drewN _, Hr.heap_of_gr ((Gr.refl _).drewN _) HR9.out, Hr.heap_of_gr ((Gr.refl _).drewN _) HX9.out⟩
                    case measure => simp [intOf]; omega
                  · have ht : q.held = true := by simpa using hh
                    rw [ht] at c33
                    by_cases hnr : near q.heldAt fr mm = false
                    · have HS1 : Hid (loseU k S.sto (s'.hs.set k S.h) (j + 1) = hsj) := by unfold Hid; rw [HSu.out, if_pos hjk, HL1.out, if_neg (by rw [hnr]; simp), set_same HJ0.out]
                      have HNf : Hid (∀ W : World, Calls Tryd.prog 33 #[.int .u32 q.heldAt, .int .u32 fr, .int .i64 mm] W fun e w' => e = .returned (.bool false) ∧ w' = W) := fun W => (HNr.out W).mono fun e w' h => ⟨by rw [h.1, hnr], h.2⟩
                      go_wp2_with fail
                      go_quiet (exact Calls.quiet_of_same (HNf.out _))
                      go_wp2_with fail
                      go_roundw
                      case rel => exact ⟨j + 1, by omega, by go_num, by rw [HS1.out]; exact HB9.out.of ((Gr.refl _).drewN _), HG9.out.drewN _, Hr.heap_of_gr ((Gr.refl _).drewN _) HR9.out, Hr.heap_of_gr ((Gr.refl _).drewN _) HX9.out⟩
                      case measure => simp [intOf]; omega
                    · have hnt : near q.heldAt fr mm = true := by simpa using hnr
                      have HNf : Hid (∀ W : World, Calls Tryd.prog 33 #[.int .u32 q.heldAt, .int .u32 fr, .int .i64 mm] W fun e w' => e = .returned (.bool true) ∧ w' = W) := fun W => (HNr.out W).mono fun e w' h => ⟨by rw [h.1, hnt], h.2⟩
                      have HS1 : Hid (loseU k S.sto (s'.hs.set k S.h) (j + 1) = hsj.set j (q.hold false 0)) := by unfold Hid; rw [HSu.out, if_pos hjk, HL1.out, if_pos ⟨ht, hnt⟩]
                      have BB : Hid (∀ n : Nat, Pb (((wr.drewN n).setCell ⟨gh, j * 37 + 33, none⟩ (.bool false)).setCell ⟨gh, j * 37 + 34, none⟩ (.int .u32 0)) (w.heap.size + 1 + 1) (w.heap.size + 1 + 1) a3 mn c3 gh c2 (.slice a7 (s'.out.length + S.out.length) c7) ⟨hsj.set j (q.hold false 0), S.m, s'.out ++ S.out, s'.steps + 1⟩ ∧ Gr w (((wr.drewN n).setCell ⟨gh, j * 37 + 33, none⟩ (.bool false)).setCell ⟨gh, j * 37 + 34, none⟩ (.int .u32 0)) ∧ (((wr.drewN n).setCell ⟨gh, j * 37 + 33, none⟩ (.bool false)).setCell ⟨gh, j * 37 + 34, none⟩ (.int .u32 0)).heap[w.heap.size + 1]? = some (.cells #[.slice none 0 0, .slice none 0 0, .slice none 0 0, .int .i64 0] 40 (0, 0)) ∧ (((wr.drewN n).setCell ⟨gh, j * 37 + 33, none⟩ (.bool false)).setCell ⟨gh, j * 37 + 34, none⟩ (.int .u32 0)).heap[gd]? = some (.cells DA 81 (0, 0))) := fun n => by
                        have B0 := HB9.out.of ((Gr.refl wr).drewN n)
                        have R0 := Hr.heap_of_gr ((Gr.refl wr).drewN n) HR9.out
                        have X0 := Hr.heap_of_gr ((Gr.refl wr).drewN n) HX9.out
                        have ok1 : Hv.Ok { q with held := false } := ⟨HOq.out.len, HOq.out.reg, HOq.out.pc0, HOq.out.pc1, HOq.out.at0, HOq.out.at1⟩
                        have R1 := B0.row.set HJ0.out (by omega) (set_held HOq.out false) ok1
                        have hg1 : (hsj.set j { q with held := false })[j]? = some { q with held := false } := by rw [List.getElem?_set_self (List.getElem?_eq_some_iff.1 HJ0.out).1]
                        have R2 := R1.set hg1 (by omega) (set_heldAt ok1 0) (h' := q.hold false 0) (HOq.out.hold false (x := 0) (by omega) (by omega))
                        rw [List.set_set] at R2
                        have CH : Ch gh (wr.drewN n) (((wr.drewN n).setCell ⟨gh, j * 37 + 33, none⟩ (.bool false)).setCell ⟨gh, j * 37 + 34, none⟩ (.int .u32 0)) := ((Ch.refl gh _).setCell _ _).setCell _ _
                        exact ⟨B0.ch CH R2 (by show (hsj.set j _).length = hsj.length; rw [List.length_set]), Below.trans (HG9.out.drewN n) (Below.mono (CH.below B0.bh B0.base_le) (by omega)), (ch_keep B0.row CH (by decide) R0).trans R0, (ch_keep B0.row CH (by decide) X0).trans X0⟩
                      go_wp2_with fail
                      go_quiet (exact Calls.quiet_of_same (HNf.out _))
                      go_wp2_with fail
                      go_roundw
                      case rel => exact ⟨j + 1, by omega, by go_num, by rw [HS1.out]; exact (BB.out _).1, (BB.out _).2.1, (BB.out _).2.2.1, (BB.out _).2.2.2⟩
                      case measure => simp [intOf]; omega
              · have HFin : Hid (stepS s' k = ⟨loseU k S.sto (s'.hs.set k S.h) j, S.m, s'.out ++ S.out, s'.steps + 1⟩) := by unfold Hid; rw [HSP.out, show j = (s'.hs.set k S.h).length by rw [HHN.out]; omega, loseU_all]
                go_wp2_with fail
                go_roundw
                case rel => exact ⟨c + 1, stepS s' k, by omega, by go_num, HRN2.out, HFN.out, HFW6.out, ⟨a3, c3, (.slice a7 (s'.out.length + S.out.length) c7), by rw [HFin.out]; exact HB9.out⟩, HG9.out, HR9.out⟩
                case measure => simp [intOf]; omega
        · have HE : Hid (runs s k N = s') := by
            unfold Hid
            rw [HRN.out]
            by_cases h1 : c < N
            · exact runs_stop (fun e => hgo ⟨h1, e⟩) _
            · rw [show N - c = 0 by omega]; rfl
          have hc2 : ¬ c < N ∨ (c < N ∧ ((at' s' k).state == 0) = false) := by
            by_cases h1 : c < N
            · exact .inr ⟨h1, by simpa using fun e => hgo ⟨h1, e⟩⟩
            · exact .inl h1
          clear hgo B okh mayh eh
          generalize (at' s' k).state = st at *
          rcases hc2 with h1 | ⟨h1, h2⟩
          all_goals
            go_wp2_with fail
            go_roundw
            case rel => exact ⟨i + 1, by omega, by go_num, by rw [HNX.out, HE.out]; exact HB5.out, by rw [HNX.out, HE.out]; exact ⟨HFW5.out.1, by have := HFW5.out.2; omega⟩, HGW5.out, HRR5.out⟩
            case measure => simp [intOf]; omega
    · have ej : i = pn := by omega
      have HE : Hid (play ⟨hs, m, [], 0⟩ ((nums ps).take i) = play ⟨hs, m, [], 0⟩ (nums ps)) := by unfold Hid; rw [ej, List.take_of_length_le (by unfold nums; rw [List.length_map, HPL.out]; exact Nat.le_refl _)]
      have HFs : Hid (Fit (play ⟨hs, m, [], 0⟩ (nums ps)) hn mn) := play_fit _ (fun q hq => by
        obtain ⟨r, hr, rfl⟩ := List.mem_map.1 hq
        have := HPK.out r hr
        show r.1.toNat < hn
        omega) HF0.out
      obtain ⟨va, vc, Ov, B⟩ := HB.out
      rw [HE.out] at B
      generalize hS : play ⟨hs, m, [], 0⟩ (nums ps) = s at *
      have HSS : Hid (play ⟨hs, m, [], 0⟩ (nums ps) = s) := hS
      obtain ⟨oa, oc, rfl⟩ := (owns_cells B.out).2.2
      have HHs : Hid (s.hs.length = hn) := HFs.out.len
      have HBk : Hid (wr.heap[w.heap.size + 1 + 1]? = some (.cells #[.slice va mn vc, .slice (some ⟨gh, 0, none⟩) hn c2, .slice oa s.out.length oc, .int .i64 s.steps] 40 (0, 0))) := by have := B.blk; rw [HHs.out] at this; exact this
      have HBF : Hid (Pb wr (w.heap.size + 1 + 1) (w.heap.size + 1 + 1) va mn vc gh c2 (.slice oa s.out.length oc) s) := B
      have HJ : Hid ((Tryd.prog.info? 40).map (·.size) = some 4) := iS
      clear B hS HE HB HFW HF0 ej
      go_wp2_with (first
        | (refine wpList_load_row rfl 40 _ rfl (w.heap.size + 1 + 1) rfl 40 #[.slice va mn vc, .slice (some ⟨gh, 0, none⟩) hn c2, .slice oa s.out.length oc, .int .i64 s.steps] (0, 0) _ ?yy1 Tryd.underlying40 rfl HJ.out ?_; (case yy1 => exact HBk.out))
        | (refine wpList_store_row rfl 40 _ _ rfl (w.heap.size + 1) #[.slice va mn vc, .slice (some ⟨gh, 0, none⟩) hn c2, .slice oa s.out.length oc, .int .i64 s.steps] rfl rfl 40 #[.slice none 0 0, .slice none 0 0, .slice none 0 0, .int .i64 0] ?yy2 HJ.out rfl (one_bd _ _ _ _ _ _ _ _ _ _) ?_; (case yy2 => exact HRR.out)))
      refine bodyPost_ret (v := .agg #[.slice va mn vc, .slice (some ⟨gh, 0, none⟩) hn c2, .slice oa s.out.length oc, .int .i64 s.steps]) (results_cell_row rfl _ _ _ _ _ (0, 0) _ rfl (setRow_heap _ _ _ _ _ (0, 0) HRR.out) Tryd.underlying40 rfl HJ.out) rfl ⟨_, rfl, ?_, ?_⟩
      · have ne : ∀ {t : Nat}, t ≠ 40 → ∀ {k : Nat} {o : Array Value} {f : Nat × Nat} (A : Array Value), wr.heap[k]? = some (.cells o t f) → (wr.setRow (w.heap.size + 1) A).heap[k]? = wr.heap[k]? := fun ht _ _ _ _ hk => setRow_other _ _ _ _ (ne_of_types hk HRR.out ht)
        obtain ⟨ya, yc, ye, yw⟩ := wm_own rfl (owns_to HBF.out.out fun k o f hk => ne (by decide) #[.slice va mn vc, .slice (some ⟨gh, 0, none⟩) hn c2, .slice oa s.out.length oc, .int .i64 s.steps] hk)
        injection ye with y1 y2 y3
        subst y1
        try rw [HSS.out]
        exact ⟨va, vc, some ⟨gh, 0, none⟩, c2, oa, oc, rfl, mem_keep HBF.out.mem fun ad e h0 _ => setRow_other _ _ _ _ (mem_off HBF.out.mem HRR.out ad e h0), (HBF.out.row.to fun k o f hk => ne (by decide) _ hk).hs HHs.out, yw⟩
      · exact gr_setRow HGW.out (by omega) _
end Go.Proofs.YtdiofidmlgliiaaDoor.Mc
/-
  What ferrybridgeref12.Cut answers: a script's first steps alone.
-/
namespace Go.Proofs.YtdiofidmlgliiaaDoor.Ud
open Go.ChangeShapes Go.WideShapes Go.ChangeAt Go.RowKit Mm Hh Hc Mc
set_option linter.unusedVariables false
set_option linter.unusedSimpArgs false

/-- The first steps so far: t of them, done by the picks qs; j picks of the script were looked at. -/
structure Cu (s0 : Sh) (sc : List (Nat × Nat)) (st j : Nat) (qs : List (Nat × Nat)) (t : List Nat) : Prop where
  eq : play s0 qs = dos s0 t
  pre : t = (trP s0 sc).take t.length
  le : t.length ≤ st
  all : t.length < st → t = trP s0 (sc.take j) ∧ play s0 qs = play s0 (sc.take j)
theorem Cu.nil (s0 : Sh) (sc : List (Nat × Nat)) (st : Nat) : Cu s0 sc st 0 [] [] := ⟨rfl, by simp, Nat.zero_le _, fun _ => ⟨by simp [trP], rfl⟩⟩
theorem trP_take (s0 : Sh) (sc : List (Nat × Nat)) (j : Nat) : trP s0 (sc.take j) = (trP s0 sc).take (trP s0 (sc.take j)).length := by
  have := trP_app (sc.take j) s0 (sc.drop j)
  rw [List.take_append_drop] at this
  rw [this, List.take_left']
  rfl
theorem take_len_take {α : Type _} (n : Nat) (l : List α) : l.take (l.take n).length = l.take n := by
  rw [List.length_take]
  by_cases h : n ≤ l.length
  · rw [Nat.min_eq_left h]
  · rw [Nat.min_eq_right (by omega), List.take_length, List.take_of_length_le (by omega)]
theorem Cu.on {s0 : Sh} {sc : List (Nat × Nat)} {st j : Nat} {qs : List (Nat × Nat)} {t : List Nat} (C : Cu s0 sc st j qs t) {k n n' : Nat} (hp : sc[j]? = some (k, n)) (ht : t.length < st) (hn : n' = n ∧ n ≤ st - t.length ∨ n' = st - t.length ∧ n' < n) :
    Cu s0 sc st (j + 1) (qs ++ [(k, n')]) (t ++ trR (play s0 qs) k n') := by
  obtain ⟨e1, e2⟩ := C.all ht
  have hn' : n' ≤ n := by omega
  have hl := trR_len k n' (play s0 qs)
  have hk := trR_take k n' n (play s0 qs) hn'
  have et : sc.take (j + 1) = sc.take j ++ [(k, n)] := by rw [List.take_add_one, hp]; rfl
  have ea : trP s0 (sc.take (j + 1)) = t ++ trR (play s0 qs) k n := by
    rw [et, trP_app, ← e2, ← e1]
    show t ++ (trR (play s0 qs) k n ++ []) = _
    rw [List.append_nil]
  have ep : play s0 (qs ++ [(k, n')]) = runs (play s0 qs) k n' := by rw [play_app]; rfl
  refine ⟨?_, ?_, by rw [List.length_append]; omega, fun h => ?_⟩
  · rw [ep, dos_app, ← C.eq, runs_dos]
  · have h1 : t ++ trR (play s0 qs) k n' = (trP s0 (sc.take (j + 1))).take (t ++ trR (play s0 qs) k n').length := by
      rw [ea, List.length_append, List.take_length_add_append, hk]
      congr 1
      exact (take_len_take n' _).symm
    have h2 := trP_take s0 sc (j + 1)
    have h3 : (t ++ trR (play s0 qs) k n').length ≤ (trP s0 (sc.take (j + 1))).length := by
      rw [ea, List.length_append, List.length_append, hk, List.length_take]
      omega
    rw [h2, List.take_take, Nat.min_eq_left h3] at h1
    exact h1
  · have hr : trR (play s0 qs) k n' = trR (play s0 qs) k n := by
      rcases hn with ⟨rfl, _⟩ | ⟨hn, hlt⟩
      · rfl
      · rw [List.length_append] at h
        have h4 : (trR (play s0 qs) k n').length < n' := by omega
        rw [hk, List.length_take] at h4
        rw [hk, List.take_of_length_le (by omega)]
    refine ⟨by rw [ea, hr], ?_⟩
    rw [ep, et, play_app, ← e2, runs_dos, hr, ← runs_dos]
    rfl
theorem Cu.done {s0 : Sh} {sc : List (Nat × Nat)} {st j : Nat} {qs : List (Nat × Nat)} {t : List Nat} (C : Cu s0 sc st j qs t) (hs : st ≤ (trP s0 sc).length) (h : sc.length ≤ j ∨ st ≤ t.length) : play s0 qs = dos s0 ((trP s0 sc).take st) := by
  have hl := C.le
  by_cases ht : t.length < st
  · obtain ⟨e1, _⟩ := C.all ht
    rcases h with h | h
    · rw [List.take_of_length_le h] at e1
      rw [e1] at ht
      omega
    · omega
  · have e : t.length = st := by omega
    rw [C.eq, C.pre, e]
end Go.Proofs.YtdiofidmlgliiaaDoor.Ud
