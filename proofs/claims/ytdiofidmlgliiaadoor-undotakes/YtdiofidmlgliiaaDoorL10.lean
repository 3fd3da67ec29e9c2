/-
  Ut, Uu, Uw, Ucw: texts of ours that lie in one file.
-/
import Derived.Test.YtdiofidmlgliiaaDoorL05
import Derived.Test.YtdiofidmlgliiaaDoorL09
/-
  What a recorder's step does: its hart's step, and an Undo of it is kept.
-/
namespace Go.Proofs.YtdiofidmlgliiaaDoor.Ud
open Go.ChangeShapes Go.WideShapes Go.ChangeAt Go.RowKit Mm Hh Hc Mc
set_option linter.unusedVariables false
set_option linter.unusedSimpArgs false

theorem wk_one {s : Sh} {k : Nat} (h : (at' s k).state = 0) : wk (w0 s k) 1 = wk1 (w0 s k) := wk_go (x := w0 s k) h 0
theorem tk_one {s : Sh} {k : Nat} (hk : k < s.hs.length) (h : (at' s k).state = 0) : tk s k (wk (w0 s k) 1) = stepS s k := by
  rw [← runs_wk hk 1]
  unfold runs
  rw [if_pos h]
  rfl
theorem undo_u {s : Sh} {k : Nat} (h : (at' s k).state = 0) : (wk (w0 s k) 1).sto = (stp (at' s k) s.m).sto := by
  rw [wk_one h]
  rfl
/-- Behind step's loop: the Undo is there. -/
def Done (w : World) (ub : Nat) (u : Uv) : Prop := ∃ x : List Value, x.length = 41 ∧ w.heap[ub]? = some (.cells x.toArray 86 (0, 0)) ∧ Uo w u x
/-- Rows of other types than Undos stay. -/
def Nu (w w' : World) : Prop := w.heap.size ≤ w'.heap.size ∧ ∀ (k : Nat) (o : Array Value) (t : Nat) (f : Nat × Nat), t ≠ 86 → w.heap[k]? = some (.cells o t f) → w'.heap[k]? = w.heap[k]?
theorem Nu.refl (w : World) : Nu w w := ⟨Nat.le_refl _, fun _ _ _ _ _ _ => rfl⟩
theorem Nu.trans {a b c : World} (h : Nu a b) (k : Nu b c) : Nu a c := ⟨Nat.le_trans h.1 k.1, fun i o t f ht e => (k.2 i o t f ht ((h.2 i o t f ht e).trans e)).trans (h.2 i o t f ht e)⟩
theorem Nu.gr {a b : World} (G : Gr a b) : Nu a b := ⟨G.size, fun k o t f _ e => G.block _ (gs e).1⟩
theorem Nu.row {a b : World} (h : Nu a b) {k : Nat} {o : Array Value} {t : Nat} {f : Nat × Nat} (e : a.heap[k]? = some (.cells o t f)) (ht : t ≠ 86) : b.heap[k]? = some (.cells o t f) := (h.2 k o t f ht e).trans e
theorem Nu.set {a b : World} {ub : Nat} {Y : Array Value} {f : Nat × Nat} (h : Nu a b) (hy : b.heap[ub]? = some (.cells Y 86 f)) (i : Nat) (v : Value) : Nu a (b.setCell ⟨ub, i, none⟩ v) := ⟨by simpa using h.1, fun k o t f' ht e => by
  have e1 := h.2 k o t f' ht e
  rw [hso (by exact ne_of_types (e1.trans e) hy ht)]
  exact e1⟩
theorem Nu.ky {a b : World} (h : Nu a b) : Ky a b := fun k o t f ht e => h.2 k o t f (by rcases ht with rfl | rfl <;> decide) e
theorem Dq.nu {a b : World} {n : Nat} {d : Qv} {x : Wk} (D : Dq a n d x) (h : Nu a b) : Dq b n d x :=
  ⟨D.hh, D.n, D.mem.to fun k o f e => h.2 k o _ f (by decide) e, owns_to D.out fun k o f e => h.2 k o _ f (by decide) e, owns_to D.sto fun k o f e => h.2 k o _ f (by decide) e⟩
theorem mem_sub {w : World} {b o n f c : Nat} {l : List UInt8} (M : Mem w (some ⟨b, o, none⟩) n l) (h : f + c ≤ n) : Mem w (some ⟨b, o + f, none⟩) c ((l.drop f).take c) := by
  have hl := M.len
  refine Mem.at (by simp; omega) fun t ht => ?_
  have := M.cell _ rfl (f + t) (by omega)
  rw [add_at] at this
  rw [Nat.add_assoc, this]
  unfold bv
  simp only [List.getD, List.getElem?_take, List.getElem?_drop, ht, if_true]
theorem owns_low {w : World} {b b' e sz n : Nat} {v : Value} {xs : List Value} (h : w.ownsRow b e sz v n xs) (hb : b' ≤ b) : w.ownsRow b' e sz v n xs := by
  obtain ⟨h1, h2⟩ := h
  refine ⟨h1, ?_⟩
  rcases h2 with h2 | ⟨g, cp, cur, e1, e2, e3⟩
  · exact .inl h2
  · exact .inr ⟨g, cp, cur, e1, by omega, e3⟩
set_option maxHeartbeats 4000000 in
set_option maxRecDepth 100000 in
theorem step_any {w : World} {base g : Nat} {s : Sh} {us : List Uv} (R : Rc w base g s us) (T : TT w base) {c mn : Nat} (F : Fit s c mn) (hmn : mn ≤ 4096) {k : Nat} (hk : k < c) (hc4 : c ≤ 4) (hst : (at' s k).state = 0) (hus : us.length ≤ 200000) (hout : s.out.length ≤ 200000) (hstp : s.steps ≤ 200000) :
    Calls Tryd.prog 57 #[.pointer (some ⟨g, 0, none⟩), .int .i64 k] w fun e w' => e = .returned (.tuple #[]) ∧ Rc w' base g (stepS s k) (us ++ [undoS s k]) ∧ Fk base w w' := by
  obtain ⟨M, gh, hc, O, U, xs, R⟩ := R
  have hl : k < s.hs.length := by rw [F.len]; exact hk
  have eh : s.hs[k]? = some (at' s k) := by unfold at'; rw [List.getElem?_eq_getElem hl]; simp [List.getD, hl]
  have okh : (at' s k).Ok := (F.ok _ (mem_of_get eh)).1
  have hbb := R.bw.base_le
  have HR : Hid (Rw w base g M gh hc O U xs s us) := R
  have HTT : Hid (TT w w.heap.size) := tt_up T hbb
  have RG : Hid (w.rangeAt gh (k * 37) (hL (at' s k))) := R.bw.row.range eh
  have k1 : w.cell? ⟨g, 1, none⟩ = some (.slice (some ⟨gh, 0, none⟩) c hc) := by have := R.bw.c1; rw [F.len] at this; exact this
  have HLL : Hid ((hL (at' s k)).length = 37) := hL_len okh
  have HOK : Hid (at' s k).Ok := okh
  have HBu : Hid (Tryd.prog.built 86 [(0, .int .i64 k), (1, .agg (hL (at' s k)).toArray)] = some (uL ⟨k, at' s k, 0, [], []⟩ nilS nilS).toArray) := built_undo okh k
  have HX0l : Hid ((uL ⟨k, at' s k, 0, [], []⟩ nilS nilS).length = 41) := uL_len (u := ⟨k, at' s k, 0, [], []⟩) okh
  have HX01 : Hid ((uL ⟨k, at' s k, 0, [], []⟩ nilS nilS).toArray.all (·.oneCell') = true) := uA_one rfl rfl
  have HWk : Hid (∀ W : World, Gr w W → Calls Tryd.prog 41 #[.pointer (some ⟨g, 0, none⟩), .agg #[.int .i64 k, .int .i64 1]] W fun e w' => ∃ d, e = .returned (.agg (qA d)) ∧ d.h.Ok ∧ Dq w' W.heap.size d (wk (w0 s k) 1) ∧ Gr W w') := fun W G => Work_any (R.bw.of G) F hmn (HTT.out.grow G) hk hc4 (n := 1) (by omega)
  have HF : Hid (Fit s c mn) := F
  have HST : Hid ((at' s k).state = 0) := hst
  have hgl : g < w.heap.size := R.bw.lt
  have hgh : gh < w.heap.size := by obtain ⟨_, e⟩ := R.bw.row.row; exact (gs e).1
  clear R T F eh okh hl hst
  generalize hHh : at' s k = hv at *
  have HH : Hid (at' s k = hv) := hHh
  clear hHh
  generalize hX0 : uL ⟨k, hv, 0, [], []⟩ nilS nilS = X0 at *
  have HX0 : Hid (uL ⟨k, hv, 0, [], []⟩ nilS nilS = X0) := hX0
  clear hX0
  go_enter Tryd.func57, Tryd.ntmps57
  have HSZ : Hid (X0.toArray.size = 41) := by unfold Hid; simp [HX0l.out]
  go_wp2_with (first
    | (refine wpList_load_mid rfl 70 _ rfl gh (k * 37) rfl (hL hv) _ ?r1 Tryd.underlying70 rfl (by rw [HLL.out]; exact iH) ?_; (case r1 => exact RG.out))
    | (refine wpList_buildTo rfl 86 _ rfl _ rfl X0.toArray (by have := HBu.out; simp [Act.eval, Act.put]; exact this) ?_)
    | (refine wpList_store_row rfl 86 _ _ rfl w.heap.size X0.toArray rfl rfl 86 _ (heap_alloc_new w _) (by rw [HSZ.out]; exact iU) (by rw [HSZ.out]; rfl) HX01.out ?_))
  refine (HWk.out _ (gr_setRow ((Gr.refl _).alloc _) (Nat.le_refl _) _)).mono ?_
  rintro e w2 ⟨d, rfl, od, D, G2⟩
  have HG2 : Hid (Gr w w2) := (gr_setRow ((Gr.refl _).alloc _) (Nat.le_refl _) _).trans G2
  have HU2 : Hid (w2.heap[w.heap.size]? = some (.cells X0.toArray 86 (0, 0))) := Hr.heap_of_gr G2 (setRow_heap _ _ _ _ _ (0, 0) (heap_alloc_new w _))
  have HXs : Hid ((wk (w0 s k) 1).sto = (stp (at' s k) s.m).sto) := undo_u (by rw [HH.out]; exact HST.out)
  have HXo : Hid (WOk (wk (w0 s k) 1) mn ∧ (wk (w0 s k) 1).n ≤ 1) := by have := wk_ok 1 (w0_ok HF.out hk); have e : (w0 s k).n = 0 := rfl; exact ⟨this.1, by omega⟩
  have HTk : Hid (tk s k (wk (w0 s k) 1) = stepS s k) := tk_one (by rw [HF.out.len]; exact hk) (by rw [HH.out]; exact HST.out)
  have HD : Hid (Dq w2 _ d (wk (w0 s k) 1)) := D
  have HOd : Hid d.h.Ok := od
  obtain ⟨sa, sc, hsto⟩ := (owns_cells D.sto).2.2
  have g40 : (qA d)[40]? = some (.slice sa (wk (w0 s k) 1).sto.length sc) := by rw [qA_fld od 3]; simp [hsto]
  have HSo : Hid (d.sto = .slice sa (wk (w0 s k) 1).sto.length sc) := hsto
  have HSD : Hid ((qA d).size = 41) := qA_size od
  have HOD : Hid ((qA d).all (·.oneCell') = true) := one_qA D.mem.cells.2 (owns_cells D.out).2.1 (owns_cells D.sto).2.1
  clear G2 D hsto od HWk HBu HX01 RG k1
  generalize hXX : wk (w0 s k) 1 = X at *
  clear hXX
  have hsl : X.sto.length ≤ 1 := by have := HXo.out.1.sto; have := HXo.out.2; omega
  have HX3 : Hid (∀ Y : Array Value, Gr w2 ((w2.alloc (.cells Y 101)).setRow w2.heap.size (qA d))) := fun Y => gr_setRow ((Gr.refl _).alloc _) (Nat.le_refl _) _
  have HX4 : Hid (∀ Y : Array Value, ((w2.alloc (.cells Y 101)).setRow w2.heap.size (qA d)).heap[w2.heap.size]? = some (.cells (qA d) 101 (0, 0))) := fun Y => setRow_heap _ _ _ _ _ (0, 0) (heap_alloc_new w2 _)
  have k40 : ∀ Y : Array Value, ((w2.alloc (.cells Y 101)).setRow w2.heap.size (qA d)).cell? ⟨w2.heap.size, 40, none⟩ = some (.slice sa X.sto.length sc) := fun Y => (cr (HX4.out Y)).trans g40
  generalize hsn : X.sto.length = sn at *
  have HSN : Hid (X.sto.length = sn) := hsn
  clear hsn
  go_wp2_with (refine wpList_store_row rfl 101 _ _ rfl w2.heap.size (qA d) rfl rfl 101 _ (heap_alloc_new w2 _) (by rw [HSD.out]; exact iQ) (by rw [HSD.out]; rfl) HOD.out ?_)
  refine atW (fun W => W.heap[w2.heap.size]? = some (.cells (qA d) 101 (0, 0)) ∧ Gr w2 W) ⟨HX4.out _, HX3.out _⟩ ?_
  rintro W3 ⟨KO, G3⟩
  obtain ⟨o, ho⟩ : ∃ o : Nat, o = w2.heap.size := ⟨_, rfl⟩
  obtain ⟨ub, hub⟩ : ∃ ub : Nat, ub = w.heap.size := ⟨_, rfl⟩
  rw [← ho] at KO ⊢
  rw [← hub] at HU2 ⊢
  have HO3 : Hid (W3.heap[o]? = some (.cells (qA d) 101 (0, 0))) := KO
  have HU3 : Hid (W3.heap[ub]? = some (.cells X0.toArray 86 (0, 0))) := Hr.heap_of_gr G3 HU2.out
  have HG3 : Hid (Gr w W3) := HG2.out.trans G3
  have HD3 : Hid (∃ b, Dq W3 b d X) := ⟨_, HD.out.gr G3⟩
  have hol : w.heap.size < o := by have := (gs HU2.out).1; omega
  have huo : ub < o := by have := (gs HU2.out).1; omega
  have hbu : base ≤ ub := by omega
  have HUB : Hid (ub = w.heap.size) := hub
  have hgu : g < ub := by omega
  clear KO G3 HX3 HX4 HU2 HG2 HD k40 g40 ho hub
  clear w2
  have HUN : Hid (∀ W : World, Nu W3 W → X.sto.length = 0 → W.heap[ub]? = some (.cells X0.toArray 86 (0, 0)) → Done W ub (undoS s k)) := fun W N h0 hb => by
    have e0 : (stp (at' s k) s.m).sto = [] := by rw [← HXs.out]; exact List.eq_nil_of_length_eq_zero h0
    refine ⟨X0, HX0l.out, hb, nilS, nilS, ?_, .inl ⟨rfl, ?_⟩, ?_⟩
    · unfold undoS; rw [e0, ← HX0.out]; unfold undoOf; rw [HH.out]
    · unfold undoS; rw [e0]; rfl
    · unfold undoS; rw [e0]; exact World.ownsRow_nil _ _ _ _
  go_loopw [29] (fun i wr => ∃ j : Nat, j ≤ sn ∧ i = .int .i64 j ∧ Gr w wr ∧ Nu W3 wr ∧ (j < sn → wr.heap[ub]? = some (.cells X0.toArray 86 (0, 0))) ∧ (j = sn → Done wr ub (undoS s k))) (fun i _ => sn - (intOf i).toNat)
  case atStart => exact ⟨0, Nat.zero_le _, rfl, HG3.out, Nu.refl _, fun _ => HU3.out, fun h => HUN.out _ (Nu.refl _) (by rw [HSN.out, ← h]) HU3.out⟩
  case round =>
    obtain ⟨j, hj, rfl, G, N, hA, hB⟩ := hrel
    have HGr : Hid (Gr w wr) := G
    have HNr : Hid (Nu W3 wr) := N
    have HOr : Hid (wr.heap[o]? = some (.cells (qA d) 101 (0, 0))) := N.row HO3.out (by decide)
    by_cases hlt : j < sn
    · have HUr : Hid (wr.heap[ub]? = some (.cells X0.toArray 86 (0, 0))) := hA hlt
      clear hA hB G N
      obtain rfl : j = 0 := by omega
      have HS1 : Hid (sn = 1) := by unfold Hid; omega
      obtain ⟨p, hp⟩ : ∃ p, X.sto = [p] := List.length_eq_one_iff.1 (HSN.out.trans HS1.out)
      have hsn0 : (0 : Int) < (sn : Int) := by omega
      have HP : Hid (X.sto = [p]) := hp
      obtain ⟨p0, p1, p2⟩ := HXo.out.1.bd p (by rw [hp]; simp)
      have hlo : Wd.lo (p.1 + p.2) = p.1 + p.2 := by unfold Wd.lo; omega
      obtain ⟨b3, D3⟩ := HD3.out
      have hso' := (Dq.nu D3 HNr.out).sto
      rw [HSo.out, HSN.out, hp] at hso'
      obtain ⟨gs', hgs', hgl', hcs'⟩ := owns_read hso' hlt
      subst hgs'
      have c0 : wr.cell? ⟨gs', 0, none⟩ = some (.int .u32 p.1) := hcs' 0 _ rfl
      have c1 : wr.cell? ⟨gs', 1, none⟩ = some (.int .u32 (p.1 + p.2)) := by rw [← hlo]; exact hcs' 1 _ rfl
      have x38 : wr.cell? ⟨ub, 38, none⟩ = some (.int .u32 0) := (cr HUr.out).trans (by rw [← HX0.out, List.getElem?_toArray]; exact uL_fld (u := ⟨k, hv, 0, [], []⟩) HOK.out 0)
      have f38 : wr.frozen? ⟨ub, 38, none⟩ = false := fzr HUr.out
      have hubl : ub < wr.heap.size := (gs HUr.out).1
      clear hcs' hso' D3 hp
      obtain ⟨pf, pn⟩ := p
      simp only at *
      obtain ⟨f, rfl⟩ := Int.eq_ofNat_of_zero_le p0
      obtain ⟨q, rfl⟩ := Int.eq_ofNat_of_zero_le (show 0 ≤ pn by omega)
      have hml : s.m.length = mn := HF.out.mem
      rcases HR.out.bw.mem with ⟨_, h2⟩ | ⟨mk, mc, hMe, ⟨_, hcap⟩, hrow⟩
      · rw [h2] at hml; simp at hml; omega
      have HMe : Hid (M = .slice (some ⟨mk, 0, none⟩) mn mc) := by rw [hml] at hMe; exact hMe
      have hcp : mn ≤ mc := by omega
      have HRo : Hid (Mem w (some ⟨mk, f, none⟩) q ((s.m.drop f).take q)) := by
        have := mem_sub (f := f) (c := q) (Row.mem hrow) (by omega)
        rwa [Nat.zero_add] at this
      have HLo : Hid (∀ W : World, Gr w W → Calls Tryd.prog 73 #[.pointer (some ⟨g, 0, none⟩), .int .i64 k, .agg #[.int .u32 f, .int .u32 ((f : Int) + (q : Int))]] W fun e w' => ∃ v, e = .returned v ∧ w'.ownsRow W.heap.size 88 2 v (lostU k (f, q) s.hs s.hs.length).length (lsC (lostU k (f, q) s.hs s.hs.length)) ∧ Gr W w') := fun W G => by
        have := Lost_any (HR.out.bw.of G) (by rw [HF.out.len]; exact hc4) k ((f : Int), (q : Int)) p0 p1 (by simp only; omega)
        simp only [hlo] at this
        exact this
      clear hMe hcap hrow hml hlo
      have HX1 : Hid ((uL ⟨k, hv, 0, [], []⟩ nilS nilS).toArray.setIfInBounds 38 (.int .u32 f) = (uL ⟨k, hv, f, [], []⟩ nilS nilS).toArray) := uL_set38 (u := ⟨k, hv, 0, [], []⟩) HOK.out f
      go_wp2_with fail
      refine atW (fun W => W.heap[ub]? = some (.cells (uL ⟨k, hv, f, [], []⟩ nilS nilS).toArray 86 (0, 0)) ∧ W.heap[wr.heap.size]? = some (.cells #[.int .u32 f, .int .u32 ((f : Int) + (q : Int))] 143 (0, 0)) ∧ Gr w W ∧ Nu wr W) ⟨?fa, ?fb, ?fc, ?fd⟩ ?_
      case fa => refine Hr.heap_of_gr ((Gr.refl _).alloc _) ?_; rw [hss HUr.out, ← HX0.out, HX1.out]
      case fb => have := heap_alloc_new (wr.setCell ⟨ub, 38, none⟩ (.int .u32 f)) (.cells #[.int .u32 f, .int .u32 ((f : Int) + (q : Int))] 143); rwa [szC] at this
      case fc => exact (HGr.out.setCell (by have := HUB.out; exact Nat.le_of_eq this.symm) _).alloc _
      case fd => exact ((Nu.refl wr).set HUr.out 38 _).trans (Nu.gr ((Gr.refl _).alloc _))
      rintro W5 ⟨KU, KR, G5, N5⟩
      obtain ⟨rb, hrb⟩ : ∃ rb : Nat, rb = wr.heap.size := ⟨_, rfl⟩
      rw [← hrb] at KR ⊢
      have hru : ub ≠ rb := by omega
      have HU5 : Hid (W5.heap[ub]? = some (.cells (uL ⟨k, hv, f, [], []⟩ nilS nilS).toArray 86 (0, 0))) := KU
      have HR5 : Hid (W5.heap[rb]? = some (.cells #[.int .u32 f, .int .u32 ((f : Int) + (q : Int))] 143 (0, 0))) := KR
      have HG5 : Hid (Gr w W5) := G5
      have HN5 : Hid (Nu W3 W5) := HNr.out.trans N5
      have m0 : W5.cell? ⟨g, 0, none⟩ = some (.slice (some ⟨mk, 0, none⟩) mn mc) := by rw [← HMe.out]; exact (HR.out.bw.of G5).c0
      have r0 := cr0 KR
      have r1 := cr1 KR
      have u39 : W5.cell? ⟨ub, 39, none⟩ = some nilS := (cr KU).trans (by rw [List.getElem?_toArray]; exact uL_fld (u := ⟨k, hv, f, [], []⟩) HOK.out 1)
      have g39 : W5.frozen? ⟨ub, 39, none⟩ = false := fzr KU
      have hub5 : ub < W5.heap.size := (gs KU).1
      have HCl : Hid (∀ W : World, Gr W5 W → Calls Tryd.prog 36 #[.slice (some ⟨mk, f, none⟩) (((f : Int) + (q : Int)).toNat - f) (mc - f)] W fun e w' => ∃ a c', e = .returned (.slice a q c') ∧ Hc.Own w' 0 (.slice a q c') ((s.m.drop f).take q) ∧ Gr W w') := fun W G => by rw [show ((f : Int) + (q : Int)).toNat - f = q by omega]; exact clone_own (HRo.out.of (HG5.out.trans G)) (fun e => by cases e) (by omega)
      have q1 : (0 : Int) ≤ (f : Int) + (q : Int) := by omega
      have q2 : (f : Int) + (q : Int) ≤ (mc : Int) := by omega
      have q3 : (f : Int) ≤ (f : Int) + (q : Int) := by omega
      have q4 : ¬ mc = f := by omega
      clear KU KR G5 N5 hrb HGr HNr HOr HUr c0 c1 x38 f38 HX1 hubl
      go_region_held3 (fun W => W.cell? ⟨g, 0, none⟩ = some (.slice (some ⟨mk, 0, none⟩) mn mc) ∧ W.cell? ⟨rb, 0, none⟩ = some (.int .u32 f) ∧ W.cell? ⟨rb, 1, none⟩ = some (.int .u32 ((f : Int) + (q : Int)))) (first | (refine ⟨?_, ?_, ?_⟩ <;> assumption) | (exact ⟨(World.cell?_of_block (hso (by exact Nat.ne_of_lt hgu))).trans y0, (World.cell?_of_block (hso (by exact hru.symm))).trans y1, (World.cell?_of_block (hso (by exact hru.symm))).trans y2⟩) | (go_keep; done)) (first | (go_at_call 36; refine (HCl.out W5.drew (Gr.refl W5).drew).mono ?_; rintro e w6 ⟨ba, bc', rfl, O6, G6⟩; have HO6 : Hid (Hc.Own w6 0 (.slice ba q bc') ((s.m.drop f).take q)) := O6; have HG6 : Hid (Gr W5 w6) := (Gr.refl W5).drew.trans G6; have y0 : w6.cell? ⟨g, 0, none⟩ = some (.slice (some ⟨mk, 0, none⟩) mn mc) := (G6.cell _ (by exact Nat.lt_trans hgu hub5)).trans m0; have y1 : w6.cell? ⟨rb, 0, none⟩ = some (.int .u32 f) := cr0 (Hr.heap_of_gr G6 HR5.out); have y2 : w6.cell? ⟨rb, 1, none⟩ = some (.int .u32 ((f : Int) + (q : Int))) := cr1 (Hr.heap_of_gr G6 HR5.out); have y3 : w6.cell? ⟨ub, 39, none⟩ = some nilS := (G6.cell _ (by exact hub5)).trans u39; have y4 : w6.frozen? ⟨ub, 39, none⟩ = false := fzr (Hr.heap_of_gr G6 HU5.out); clear O6 G6))
      refine atW (fun W => W.heap[ub]? = some (.cells (uL ⟨k, hv, f, [], []⟩ (.slice ba q bc') nilS).toArray 86 (0, 0)) ∧ W.heap[rb]? = some (.cells #[.int .u32 f, .int .u32 ((f : Int) + (q : Int))] 143 (0, 0)) ∧ Gr w W ∧ Nu W3 W ∧ Hc.Own W 0 (.slice ba q bc') ((s.m.drop f).take q)) ⟨?ga, ?gb, ?gc, ?gd, ?ge⟩ ?_
      case ga => rw [hss (Hr.heap_of_gr HG6.out HU5.out), uL_set39 (u := ⟨k, hv, f, [], []⟩) HOK.out]
      case gb => rw [hso (by exact hru.symm)]; exact Hr.heap_of_gr HG6.out HR5.out
      case gc => exact (HG5.out.trans HG6.out).setCell (by have := HUB.out; exact Nat.le_of_eq this.symm) _
      case gd => exact (HN5.out.trans (Nu.gr HG6.out)).set (Hr.heap_of_gr HG6.out HU5.out) 39 _
      case ge => exact HO6.out.to fun z ob fz hz => hso (by exact ne_of_types hz (Hr.heap_of_gr HG6.out HU5.out) (by decide))
      rintro W7 ⟨KU, KR, G7, N7, O7⟩
      have HU7 : Hid (W7.heap[ub]? = some (.cells (uL ⟨k, hv, f, [], []⟩ (.slice ba q bc') nilS).toArray 86 (0, 0))) := KU
      have HR7 : Hid (W7.heap[rb]? = some (.cells #[.int .u32 f, .int .u32 ((f : Int) + (q : Int))] 143 (0, 0))) := KR
      have HG7 : Hid (Gr w W7) := G7
      have HN7 : Hid (Nu W3 W7) := N7
      have HO7 : Hid (Hc.Own W7 0 (.slice ba q bc') ((s.m.drop f).take q)) := O7
      clear HU5 HR5 HG5 HN5 m0 r0 r1 u39 g39 HCl HO6 HG6 y0 y1 y2 y3 y4 hub5 HMe q4
      have r0 := cr0 KR
      have r1 := cr1 KR
      have u40 : W7.cell? ⟨ub, 40, none⟩ = some nilS := (cr KU).trans (by rw [List.getElem?_toArray]; exact uL_fld (u := ⟨k, hv, f, [], []⟩) HOK.out 2)
      have g40 : W7.frozen? ⟨ub, 40, none⟩ = false := fzr KU
      have hub7 : ub < W7.heap.size := (gs KU).1
      clear KU KR G7 N7 O7
      go_wp2_with fail
      go_region_held3 (fun W => W.cell? ⟨rb, 0, none⟩ = some (.int .u32 f) ∧ W.cell? ⟨rb, 1, none⟩ = some (.int .u32 ((f : Int) + (q : Int)))) (first | (refine ⟨?_, ?_⟩ <;> assumption) | (exact ⟨(World.cell?_of_block (hso (by exact hru.symm))).trans y1, (World.cell?_of_block (hso (by exact hru.symm))).trans y2⟩) | (go_keep; done)) (first | (go_at_call 73; refine (HLo.out W7.drew HG7.out.drew).mono ?_; rintro e w8 ⟨lv, rfl, L8, G8⟩; obtain ⟨_, _, la, lc, rfl⟩ := owns_cells L8; have HL8 : Hid (w8.ownsRow W7.drew.heap.size 88 2 (.slice la (lostU k (f, q) s.hs s.hs.length).length lc) (lostU k (f, q) s.hs s.hs.length).length (lsC (lostU k (f, q) s.hs s.hs.length))) := L8; have HG8 : Hid (Gr W7 w8) := (Gr.refl W7).drew.trans G8; have y1 : w8.cell? ⟨rb, 0, none⟩ = some (.int .u32 f) := cr0 (Hr.heap_of_gr G8 HR7.out); have y2 : w8.cell? ⟨rb, 1, none⟩ = some (.int .u32 ((f : Int) + (q : Int))) := cr1 (Hr.heap_of_gr G8 HR7.out); have y3 : w8.cell? ⟨ub, 40, none⟩ = some nilS := (G8.cell _ (by exact hub7)).trans u40; have y4 : w8.frozen? ⟨ub, 40, none⟩ = false := fzr (Hr.heap_of_gr G8 HU7.out); clear L8 G8))
      have HFin : Hid (Done (w8.setCell ⟨ub, 40, none⟩ (.slice la (lostU k (f, q) s.hs s.hs.length).length lc)) ub (undoS s k)) := by
        have hb := Hr.heap_of_gr HG8.out HU7.out
        have eu : undoS s k = ⟨k, hv, f, (s.m.drop f).take q, lostI (lostU k (f, q) s.hs s.hs.length)⟩ := by
          unfold undoS
          rw [← HXs.out, HP.out]
          unfold undoOf
          rw [HH.out]
          simp only [Int.toNat_natCast]
        have kp : ∀ (z : Nat) (ob : Array Value) (t : Nat) (fz : Nat × Nat), t ≠ 86 → w8.heap[z]? = some (.cells ob t fz) → (w8.setCell ⟨ub, 40, none⟩ (.slice la (lostU k (f, q) s.hs s.hs.length).length lc)).heap[z]? = w8.heap[z]? := fun z ob t fz ht hz => hso (by exact ne_of_types hz hb ht)
        rw [eu]
        refine ⟨uL ⟨k, hv, f, [], []⟩ (.slice ba q bc') (.slice la (lostU k (f, q) s.hs s.hs.length).length lc), uL_len (u := ⟨k, hv, f, [], []⟩) HOK.out, ?_, .slice ba q bc', .slice la (lostU k (f, q) s.hs s.hs.length).length lc, rfl, ?_, ?_⟩
        · rw [hss hb, uL_set40 (u := ⟨k, hv, f, [], []⟩) HOK.out]
        · exact (own_gr HO7.out HG8.out).to fun z ob fz hz => kp z ob _ fz (by decide) hz
        · have := owns_to (owns_low HL8.out (Nat.zero_le _)) fun z ob fz hz => kp z ob _ fz (by decide) hz
          simp only [lsI_lostI]
          rw [show (lostI (lostU k (f, q) s.hs s.hs.length)).length = (lostU k (f, q) s.hs s.hs.length).length by simp [lostI]]
          exact this
      have HGf : Hid (Gr w (w8.setCell ⟨ub, 40, none⟩ (.slice la (lostU k (f, q) s.hs s.hs.length).length lc))) := (HG7.out.trans HG8.out).setCell (by have := HUB.out; exact Nat.le_of_eq this.symm) _
      have HNf : Hid (Nu W3 (w8.setCell ⟨ub, 40, none⟩ (.slice la (lostU k (f, q) s.hs s.hs.length).length lc))) := (HN7.out.trans (Nu.gr HG8.out)).set (Hr.heap_of_gr HG8.out HU7.out) 40 _
      generalize (w8.setCell ⟨ub, 40, none⟩ (.slice la (lostU k (f, q) s.hs s.hs.length).length lc)) = W9 at *
      go_wp2_with fail
      go_roundw
      case rel => exact ⟨1, by omega, by go_num, HGf.out, HNf.out, fun h => absurd h (by have := HS1.out; omega), fun _ => HFin.out⟩
      case measure => simp [intOf]; omega
    · obtain ⟨XL, hXl, hXb, hUo⟩ := hB (by omega)
      have HUr : Hid (wr.heap[ub]? = some (.cells XL.toArray 86 (0, 0))) := hXb
      have HXl : Hid (XL.length = 41) := hXl
      have HUo : Hid (Uo wr (undoS s k) XL) := hUo
      have HRr : Hid (Rw wr base g M gh hc O U xs s us) := HR.out.of HGr.out
      obtain ⟨QL, HQL⟩ : ∃ QL : List Value, Hid (qA d = QL.toArray) := ⟨_, rfl⟩
      have HQl : Hid (QL.length = 41) := by have := HSD.out; rw [HQL.out, List.size_toArray] at this; exact this
      have HSv : Hid (∀ V : World, V.heap[o]? = some (.cells (qA d) 101 (0, 0)) → V.rangeAt o 0 QL) := fun V e i v hv => by rw [Nat.zero_add, cr e, HQL.out, List.getElem?_toArray]; exact hv
      have HTa : Hid (∀ V : World, Gr wr V → Calls Tryd.prog 40 #[.pointer (some ⟨g, 0, none⟩), .int .i64 k, .agg QL.toArray] V fun e w' => e = .returned (.tuple #[]) ∧ Bd 76 [U] w' base g (stepS s k) ∧ Fe 76 base V w') := fun V G => by
        rw [← HQL.out, ← HTk.out]
        obtain ⟨b3, D3⟩ := HD3.out
        have o1 := HXo.out.1.out
        have o2 := HXo.out.1.sto
        have o3 := HXo.out.2
        exact Take_any (HRr.out.bw.of G) HF.out.len hc4 ((Dq.nu D3 HNr.out).gr G) HOd.out (fun p hp => by have := HXo.out.1.bd p hp; omega) (by omega) (by omega) (by omega) hk
      have hul : w.heap.size ≤ ub := by have := HUB.out; omega
      clear hXl hXb hUo hA hB G N
      go_wp2_with fail
      refine wp_region_held_drew (S := fun W => W.rangeAt o 0 QL) (by kernel_rfl) (HSv.out _ HOr.out) (fun hHeld => ?_)
      have HS0 : Hid _ := hHeld
      clear hHeld
      refine wpAnyH_take (i := 0) (v := .pointer (some ⟨g, 0, none⟩)) rfl (by kernel_rfl) (by kernel_rfl) (by kernel_rfl) (fun _ _ _ h => h) (Or.inl ⟨by rfl, fun W hW => by go_simp⟩) HS0.out ?_
      simp only [List.getElem_toArray, List.getElem_cons_succ, List.getElem_cons_zero, Act.put, List.setIfInBounds_toArray, List.set_cons_zero, List.set_cons_succ]
      refine wpAnyH_take (i := 1) (v := .pointer (some ⟨g, 0, none⟩)) rfl (by kernel_rfl) (by kernel_rfl) (by kernel_rfl) (fun _ _ _ h => h) (Or.inl ⟨by rfl, fun W hW => by go_simp⟩) HS0.out ?_
      simp only [List.getElem_toArray, List.getElem_cons_succ, List.getElem_cons_zero, Act.put, List.setIfInBounds_toArray, List.set_cons_zero, List.set_cons_succ]
      refine wpAnyH_take (i := 2) (v := .pointer (some ⟨g, 0, none⟩)) rfl (by kernel_rfl) (by kernel_rfl) (by kernel_rfl) (fun _ _ _ h => h) (Or.inl ⟨by rfl, fun W hW => by go_simp⟩) HS0.out ?_
      simp only [List.getElem_toArray, List.getElem_cons_succ, List.getElem_cons_zero, Act.put, List.setIfInBounds_toArray, List.set_cons_zero, List.set_cons_succ]
      refine wpAnyH_take (i := 3) (v := .int .i64 k) rfl (by kernel_rfl) (by kernel_rfl) (by kernel_rfl) (fun _ _ _ h => h) (Or.inl ⟨by rfl, fun W hW => by go_simp⟩) HS0.out ?_
      simp only [List.getElem_toArray, List.getElem_cons_succ, List.getElem_cons_zero, Act.put, List.setIfInBounds_toArray, List.set_cons_zero, List.set_cons_succ]
      refine wpAnyH_take (i := 4) (v := .agg QL.toArray) rfl (by kernel_rfl) (by kernel_rfl) (by kernel_rfl) (fun _ _ _ h => h) (yieldsIf_load_mid (by rfl) 101 (.tmp 5) rfl o 0 (by simp [Act.eval]) QL _ (fun W hW => hW) Tryd.underlying101 rfl (by rw [HQl.out]; exact iQ)) HS0.out ?_
      simp only [List.getElem_toArray, List.getElem_cons_succ, List.getElem_cons_zero, Act.put, List.setIfInBounds_toArray, List.set_cons_zero, List.set_cons_succ]
      refine wpAnyH_ready (rs := [5]) (by kernel_rfl) (by simp) ?_
      refine AllReadyH.cons rfl (fun K hK => ?_) AllReadyH.nil
      go_simp
      refine (HTa.out _ (Gr.refl _).drew).mono ?_
      rintro e w5 ⟨rfl, B5, F5⟩
      have HF5 : Hid (Fe 76 base wr w5) := ⟨(Below.drew (Below.refl base wr)).trans F5.below, F5.keep⟩
      have HO5 : Hid (w5.heap[o]? = some (.cells (qA d) 101 (0, 0))) := (HF5.out.cells HOr.out (by decide) (by decide) (by decide)).trans HOr.out
      have HU5 : Hid (w5.heap[ub]? = some (.cells XL.toArray 86 (0, 0))) := (HF5.out.cells HUr.out (by decide) (by decide) (by decide)).trans HUr.out
      have HUo5 : Hid (Uo w5 (undoS s k) XL) := HUo.out.to fun z ob t fz ht hz => HF5.out.cells hz (by rcases ht with rfl | rfl <;> decide) (by rcases ht with rfl | rfl <;> decide) (by rcases ht with rfl | rfl <;> decide)
      obtain ⟨M5, gh5, hc5, O5, R5⟩ := HRr.out.take B5 HF5.out
      have HR5 : Hid (Rw w5 base g M5 gh5 hc5 O5 U xs (stepS s k) us) := R5
      have HFk : Hid (Fk base w w5) := (Fk.ofGr HGr.out hbb).trans (Fk.ofFe HF5.out)
      clear B5 F5
      refine hK.out _ _ (HSv.out _ HO5.out) (fun hx => ?_)
      clear hK K hx
      refine wpAnyH_done (by kernel_rfl) ?_ _
      have c4 : w5.cell? ⟨g, 4, none⟩ = some U := R5.bw.rest 0
      have hg5 : g < w5.heap.size := R5.bw.lt
      obtain ⟨ua, uc, hU⟩ := (owns_cells R5.row).2.2
      have HUe : Hid (U = .slice ua us.length uc) := hU
      have HSu : Hid (∀ V : World, V.heap[ub]? = some (.cells XL.toArray 86 (0, 0)) → V.rangeAt ub 0 XL) := fun V e i v hv => by rw [Nat.zero_add, cr e, List.getElem?_toArray]; exact hv
      clear R5 HS0 HTa HSv HOr HUr HRr HUo HO5 HQL
      rw [hU] at c4
      clear hU
      obtain ⟨i0, hi, hz0, hz1, hz2⟩ := info_parts infoU
      go_wp2_with fail
      refine wp_region_held_drew (S := fun W => W.rangeAt ub 0 XL) (by kernel_rfl) (HSu.out _ HU5.out) (fun hHeld => ?_)
      have HT0 : Hid _ := hHeld
      clear hHeld
      refine wpAnyH_take (i := 0) (v := .pointer (some ⟨g, 0, none⟩)) rfl (by kernel_rfl) (by kernel_rfl) (by kernel_rfl) (fun _ _ _ h => h) (Or.inl ⟨by rfl, fun W hW => by go_simp⟩) HT0.out ?_
      simp only [List.getElem_toArray, List.getElem_cons_succ, List.getElem_cons_zero, Act.put, List.setIfInBounds_toArray, List.set_cons_zero, List.set_cons_succ]
      refine wpAnyH_take (i := 1) (v := .pointer (some ⟨g, 0, none⟩)) rfl (by kernel_rfl) (by kernel_rfl) (by kernel_rfl) (fun _ _ _ h => h) (Or.inl ⟨by rfl, fun W hW => by go_simp⟩) HT0.out ?_
      simp only [List.getElem_toArray, List.getElem_cons_succ, List.getElem_cons_zero, Act.put, List.setIfInBounds_toArray, List.set_cons_zero, List.set_cons_succ]
      refine wpAnyH_take (i := 2) (v := .pointer (some ⟨g, 0, none⟩)) rfl (by kernel_rfl) (by kernel_rfl) (by kernel_rfl) (fun _ _ _ h => h) (Or.inl ⟨by rfl, fun W hW => by go_simp⟩) HT0.out ?_
      simp only [List.getElem_toArray, List.getElem_cons_succ, List.getElem_cons_zero, Act.put, List.setIfInBounds_toArray, List.set_cons_zero, List.set_cons_succ]
      refine wpAnyH_take (i := 3) (v := .pointer (some ⟨g, 4, none⟩)) rfl (by kernel_rfl) (by kernel_rfl) (by kernel_rfl) (fun _ _ _ h => h) (Or.inl ⟨by rfl, fun W hW => by go_simp⟩) HT0.out ?_
      simp only [List.getElem_toArray, List.getElem_cons_succ, List.getElem_cons_zero, Act.put, List.setIfInBounds_toArray, List.set_cons_zero, List.set_cons_succ]
      refine wpAnyH_take (i := 5) (v := .agg XL.toArray) rfl (by kernel_rfl) (by kernel_rfl) (by kernel_rfl) (fun _ _ _ h => h) (yieldsIf_load_mid (by rfl) 86 (.tmp 4) rfl ub 0 (by simp [Act.eval]) XL _ (fun W hW => hW) Tryd.underlying86 rfl (by rw [HXl.out]; exact iU)) HT0.out ?_
      simp only [List.getElem_toArray, List.getElem_cons_succ, List.getElem_cons_zero, Act.put, List.setIfInBounds_toArray, List.set_cons_zero, List.set_cons_succ]
      have HX1 : Hid (∀ u ∈ XL, u.oneCell' = true) := HUo5.out.one
      have HG6 : Hid (Gr w5 (w5.drew.alloc (.cells XL.toArray 86))) := Gr.alloc (Gr.drew (Gr.refl _)) _
      have HSa : Hid (∀ Z : Obj, (w5.drew.alloc Z).rangeAt ub 0 XL) := fun Z => HSu.out _ (Hr.heap_of_gr (Gr.alloc (Gr.drew (Gr.refl w5)) Z) HU5.out)
      apply shareP
      · intro CONT
        refine wpAnyH_ready (rs := [4, 6]) (by kernel_rfl) (by simp) ?_
        refine AllReadyH.cons rfl (fun K hK => ?_) (AllReadyH.cons rfl (fun K hK => ?_) AllReadyH.nil)
        · go_simp
          refine hK.out _ _ HT0.out (fun hx => ?_)
          clear hK K hx
          refine wpAnyH_ready (rs := [6]) (by kernel_rfl) (by simp) ?_
          refine AllReadyH.cons rfl (fun K hK => ?_) AllReadyH.nil
          refine step_slice1 rfl 41 86 (.tmp 69) rfl XL.toArray 41 (by simp [Act.eval, Act.put]) (by simp [HXl.out]) Tryd.underlying41 iUz (by decide) (by decide) ?_
          refine hK.out _ _ (HSa.out _) (fun hx => ?_)
          clear hK K hx
          simp only [List.getElem_toArray, List.getElem_cons_succ, List.getElem_cons_zero, Act.put, List.setIfInBounds_toArray, List.set_cons_zero, List.set_cons_succ]
          exact CONT.out
        · refine step_slice1 rfl 41 86 (.tmp 69) rfl XL.toArray 41 (by simp [Act.eval, Act.put]) (by simp [HXl.out]) Tryd.underlying41 iUz (by decide) (by decide) ?_
          refine hK.out _ _ (HSa.out _) (fun hx => ?_)
          clear hK K hx
          simp only [List.getElem_toArray, List.getElem_cons_succ, List.getElem_cons_zero, Act.put, List.setIfInBounds_toArray, List.set_cons_zero, List.set_cons_succ]
          refine wpAnyH_ready (rs := [4]) (by kernel_rfl) (by simp) ?_
          refine AllReadyH.cons rfl (fun K hK => ?_) AllReadyH.nil
          go_simp
          refine hK.out _ _ (HSa.out _) (fun hx => ?_)
          clear hK K hx
          exact CONT.out
      have HXc : Hid (∀ j u, XL[j]? = some u → (w5.drew.alloc (.cells XL.toArray 86)).cell? ((⟨w5.drew.heap.size, 0, none⟩ : Addr).add j) = some u) := fun j u hj => by
        rw [add_at, Nat.zero_add, cr (heap_alloc_new w5.drew (.cells XL.toArray 86)), List.getElem?_toArray]
        exact hj
      refine wpAnyH_ready (rs := [7]) (by kernel_rfl) (by simp) ?_
      refine AllReadyH.cons rfl (fun K hK => ?_) AllReadyH.nil
      refine step_append_own rfl (.tmp 68) (.tmp 70) 41 rfl base 86 i0 _ 41 224 Tryd.underlying41 hi hz0 hz1 hz2 (by simp [Value.cells, uL_len (u := h00) h0_ok]) (by decide) (.slice ua us.length uc) us.length xs (by simp [Act.eval, Act.put]) (by rw [← HUe.out]; exact owns_gr HR5.out.row HG6.out) ⟨w5.drew.heap.size, 0, none⟩ 1 1 XL (by simp [Act.eval, Act.put]) (by rw [HXl.out]) HXc.out HX1.out (by unfold maxLen; omega) (by omega) (by have := HG6.out.size; have := HR5.out.bw.base_le; omega) ?_
      intro v' w7 hown hgrow
      rw [← HUe.out] at hgrow
      obtain ⟨g', cp, rfl⟩ := own_form hown (by omega)
      obtain ⟨c7, f7, RN, FN⟩ := (HR5.out.of HG6.out).put (HUo5.out.to (Ky.ofGr HG6.out)) HXl.out rfl hown hgrow
      have HRN : Hid _ := RN
      have HFN : Hid (Fk base w5 _) := (Fk.ofGr HG6.out HR5.out.bw.base_le).trans FN
      have HS7 : Hid (w7.heap[ub]? = some (.cells XL.toArray 86 (0, 0))) := by
        have hne : some ub ≠ U.ownBlock := fun e => by have := (HR.out.row.lt ub e.symm).2; omega
        exact (hgrow.block ub (by have := HG6.out.size; have := (gs HU5.out).1; omega) hne).trans (Hr.heap_of_gr HG6.out HU5.out)
      clear RN FN
      refine hK.out _ _ (HSu.out _ HS7.out) (fun hx => ?_)
      clear hK K hx hown hgrow
      have HT7 : Hid (w7.rangeAt ub 0 XL) := HSu.out _ HS7.out
      have HS8 : Hid ((w7.setCell ⟨g, 4, none⟩ (.slice (some ⟨g', 0, none⟩) (us.length + 1) cp)).rangeAt ub 0 XL) := HSu.out _ (by rw [hso (by exact Nat.ne_of_gt hgu)]; exact HS7.out)
      refine wpAnyH_take (i := 8) (v := .pointer (some ⟨g, 0, none⟩)) rfl (by kernel_rfl) (by kernel_rfl) (by kernel_rfl) (fun _ _ _ h => h) (Or.inl ⟨by rfl, fun W hW => by go_simp⟩) HT7.out ?_
      simp only [List.getElem_toArray, List.getElem_cons_succ, List.getElem_cons_zero, Act.put, List.setIfInBounds_toArray, List.set_cons_zero, List.set_cons_succ]
      refine wpAnyH_take (i := 9) (v := .pointer (some ⟨g, 4, none⟩)) rfl (by kernel_rfl) (by kernel_rfl) (by kernel_rfl) (fun _ _ _ h => h) (Or.inl ⟨by rfl, fun W hW => by go_simp⟩) HT7.out ?_
      simp only [List.getElem_toArray, List.getElem_cons_succ, List.getElem_cons_zero, Act.put, List.setIfInBounds_toArray, List.set_cons_zero, List.set_cons_succ]
      refine wpAnyH_ready (rs := [10]) (by kernel_rfl) (by simp) ?_
      refine AllReadyH.cons rfl (fun K hK => ?_) AllReadyH.nil
      go_simp
      refine hK.out _ _ HS8.out (fun hx => ?_)
      clear hK K hx
      refine wpAnyH_done (by kernel_rfl) ?_ _
      go_wp2_with fail
      go_end0
      exact ⟨rfl, HRN.out, HFk.out.trans HFN.out⟩
end Go.Proofs.YtdiofidmlgliiaaDoor.Ud
/-
  What a recorder's turn does: a pick, step by step.
-/
namespace Go.Proofs.YtdiofidmlgliiaaDoor.Ud
open Go.ChangeShapes Go.WideShapes Go.ChangeAt Go.RowKit Mm Hh Hc Mc
set_option linter.unusedVariables false
set_option linter.unusedSimpArgs false

theorem trR_stop {s : Sh} {k : Nat} (h : ¬ (at' s k).state = 0) : ∀ n, trR s k n = []
  | 0 => rfl
  | n + 1 => if_neg h
/-- A pick on its way: j of its n steps were done. -/
structure Tw (s : Sh) (us : List Uv) (k n j : Nat) (c mn : Nat) (s' : Sh) (us' : List Uv) : Prop where
  le : j ≤ n
  runs : runs s k n = runs s' k (n - j)
  uns : us ++ uns s (trR s k n) = us' ++ uns s' (trR s' k (n - j))
  fit : Fit s' c mn
  ul : us'.length ≤ us.length + j
  ol : s'.out.length ≤ s.out.length + j
  sl : s'.steps ≤ s.steps + j
theorem step_outl {s : Sh} {c n k : Nat} (F : Fit s c n) (hk : k < c) (h : (at' s k).state = 0) : (stepS s k).out.length ≤ s.out.length + 1 := by
  have hl : k < s.hs.length := by rw [F.len]; exact hk
  have eh : s.hs[k]? = some (at' s k) := by unfold at'; rw [List.getElem?_eq_getElem hl]; simp [List.getD, hl]
  have g := good_stp (rn_of (F.ok _ (mem_of_get eh)).2 h) s.m
  have := g.2.2.2.1
  simp only [stepS, List.length_append]
  omega
theorem Tw.on {s : Sh} {us : List Uv} {k n j c mn : Nat} {s' : Sh} {us' : List Uv} (t : Tw s us k n j c mn s' us') (hk : k < c) (hj : j < n) (h : (at' s' k).state = 0) : Tw s us k n (j + 1) c mn (stepS s' k) (us' ++ [undoS s' k]) := by
  have e : n - j = (n - (j + 1)) + 1 := by omega
  have o := step_outl t.fit hk h
  refine ⟨by omega, ?_, ?_, step_fit t.fit hk h, ?_, ?_, ?_⟩
  · rw [t.runs, e]
    show (if (at' s' k).state = 0 then Mc.runs (stepS s' k) k (n - (j + 1)) else s') = _
    rw [if_pos h]
  · rw [t.uns, e, List.append_assoc]
    show us' ++ Ud.uns s' (if (at' s' k).state = 0 then k :: trR (stepS s' k) k (n - (j + 1)) else []) = _
    rw [if_pos h]
    rfl
  · have := t.ul; simp; omega
  · have := t.ol; omega
  · have := t.sl; show s'.steps + 1 ≤ _; omega
theorem Tw.stop {s : Sh} {us : List Uv} {k n j c mn : Nat} {s' : Sh} {us' : List Uv} (t : Tw s us k n j c mn s' us') (h : ¬ (at' s' k).state = 0 ∨ j = n) : Mc.runs s k n = s' ∧ us ++ Ud.uns s (trR s k n) = us' := by
  rw [t.runs, t.uns]
  rcases h with h | h
  · rw [runs_stop h, trR_stop h]
    exact ⟨rfl, by simp [Ud.uns]⟩
  · rw [h, Nat.sub_self]
    exact ⟨rfl, by simp [trR, Ud.uns]⟩
set_option maxHeartbeats 2000000 in
set_option maxRecDepth 100000 in
theorem turn_any {w : World} {base g : Nat} {s : Sh} {us : List Uv} (R : Rc w base g s us) (T : TT w base) {c mn : Nat} (F : Fit s c mn) (hmn : mn ≤ 4096) {k n : Nat} (hk : k < c) (hc4 : c ≤ 4) (hn : n ≤ 400) (hus : us.length + 400 ≤ 200000) (hout : s.out.length + 400 ≤ 200000) (hstp : s.steps + 400 ≤ 200000) :
    Calls Tryd.prog 29 #[.pointer (some ⟨g, 0, none⟩), .agg #[.int .i64 k, .int .i64 n]] w fun e w' => e = .returned (.tuple #[]) ∧ Rc w' base g (runs s k n) (us ++ uns s (trR s k n)) ∧ Fk base w w' := by
  have hbb : base ≤ w.heap.size := by obtain ⟨_, _, _, _, _, _, R⟩ := R; exact R.bw.base_le
  have HR : Hid (Rc w base g s us) := R
  have HTT : Hid (TT w base) := T
  have HF : Hid (Fit s c mn) := F
  clear R T F
  go_enter Tryd.func29, Tryd.ntmps29
  go_wp2_with fail
  go_loopw [6] (fun i wr => ∃ (j : Nat) (s' : Sh) (us' : List Uv), i = .int .i64 j ∧ Tw s us k n j c mn s' us' ∧ Rc wr base g s' us' ∧ Fk base w wr ∧ wr.heap[w.heap.size]? = some (.cells #[.int .i64 k, .int .i64 n] 56 (0, 0))) (fun i _ => n - (intOf i).toNat)
  case atStart => exact ⟨0, s, us, rfl, ⟨Nat.zero_le _, rfl, rfl, HF.out, Nat.le_refl _, Nat.le_refl _, Nat.le_refl _⟩, HR.out.of ((Gr.refl _).alloc _), Fk.ofGr ((Gr.refl _).alloc _) hbb, heap_alloc_new w _⟩
  case round =>
    obtain ⟨j, s', us', rfl, t, R, FK, KP⟩ := hrel
    have HT : Hid (Tw s us k n j c mn s' us') := t
    have HRr : Hid (Rc wr base g s' us') := R
    have HFK : Hid (Fk base w wr) := FK
    have HP : Hid (wr.heap[w.heap.size]? = some (.cells #[.int .i64 k, .int .i64 n] 56 (0, 0))) := KP
    have p0 := cr0 KP
    have p1 := cr1 KP
    have hle := t.le
    obtain ⟨M0, gh, hc, O0, U0, xs0, R0⟩ := R
    have hl : k < s'.hs.length := by rw [t.fit.len]; exact hk
    have eh : s'.hs[k]? = some (at' s' k) := by unfold at'; rw [List.getElem?_eq_getElem hl]; simp [List.getD, hl]
    have okh : (at' s' k).Ok := (t.fit.ok _ (mem_of_get eh)).1
    have g1 : wr.cell? ⟨g, 1, none⟩ = some (.slice (some ⟨gh, 0, none⟩) c hc) := by have := R0.bw.c1; rw [t.fit.len] at this; exact this
    have c35 : wr.cell? ⟨gh, k * 37 + 35, none⟩ = some (.int .i64 (at' s' k).state) := (R0.bw.row.cell eh (by omega)).trans (hL_fld okh 3)
    have hbr : base ≤ wr.heap.size := R0.bw.base_le
    clear t R0 FK KP hl eh okh HR
    by_cases hlt : j < n
    · by_cases hst : (at' s' k).state = 0
      · have HSt : Hid (∀ W : World, Gr wr W → Calls Tryd.prog 57 #[.pointer (some ⟨g, 0, none⟩), .int .i64 k] W fun e w' => e = .returned (.tuple #[]) ∧ Rc w' base g (stepS s' k) (us' ++ [undoS s' k]) ∧ Fk base W w') := fun W G => by
          have t := HT.out
          have := t.ul; have := t.ol; have := t.sl
          exact step_any (HRr.out.of G) (tt_below HTT.out (HFK.out.below.trans (Below.mono G hbr))) t.fit hmn hk hc4 hst (by omega) (by omega) (by omega)
        have HTn : Hid (Tw s us k n (j + 1) c mn (stepS s' k) (us' ++ [undoS s' k])) := HT.out.on hk hlt hst
        rw [hst] at c35
        clear hst HT HRr
        go_wp2_with fail
        go_quiet (fail)
        go_wp2_with fail
        refine (HSt.out _ ((Gr.refl _).drewN _)).mono ?_
        rintro e w2 ⟨rfl, R2, F2⟩
        have HR2 : Hid (Rc w2 base g (stepS s' k) (us' ++ [undoS s' k])) := R2
        have HF2 : Hid (Fk base w w2) := HFK.out.trans ((Fk.ofGr ((Gr.refl wr).drewN _) hbr).trans F2)
        have HP2 : Hid (w2.heap[w.heap.size]? = some (.cells #[.int .i64 k, .int .i64 n] 56 (0, 0))) := F2.row HP.out (by decide) (by decide) (by decide) (by decide)
        clear R2 F2 HSt p0 p1 g1 c35
        go_wp2_with fail
        go_roundw
        case rel => exact ⟨j + 1, _, _, by go_num, HTn.out, HR2.out, HF2.out, HP2.out⟩
        case measure => simp [intOf]; omega
      · have HFi : Hid (Rc wr base g (runs s k n) (us ++ uns s (trR s k n))) := by
          obtain ⟨e1, e2⟩ := HT.out.stop (.inl hst)
          rw [e1, e2]
          exact HRr.out
        have hne : ((at' s' k).state == 0) = false := by simpa using hst
        have hne2 : ((at' s' k).state != 0) = true := by simpa using hst
        clear HT HRr hst
        generalize (at' s' k).state = st at *
        go_wp2_with fail
        go_quiet (fail)
        go_wp2_with fail
        refine bodyPost_ret (results_none Tryd.results29 _ _ _) rfl ?_
        exact ⟨rfl, HFi.out.of ((Gr.refl _).drewN _), HFK.out.trans (Fk.ofGr ((Gr.refl wr).drewN _) hbr)⟩
    · have HFi : Hid (Rc wr base g (runs s k n) (us ++ uns s (trR s k n))) := by
        obtain ⟨e1, e2⟩ := HT.out.stop (.inr (by omega))
        rw [e1, e2]
        exact HRr.out
      clear HT HRr
      generalize (at' s' k).state = st at *
      go_wp2_with fail
      go_end0
      exact ⟨rfl, HFi.out, HFK.out⟩
end Go.Proofs.YtdiofidmlgliiaaDoor.Ud
/-
  What package undo's Run answers: what is wrong; else what is shown, and an Undo of each step.
-/
namespace Go.Proofs.YtdiofidmlgliiaaDoor.Ud
open Go.ChangeShapes Go.WideShapes Go.ChangeAt Go.RowKit Mm Hh Hc Mc
set_option linter.unusedVariables false
set_option linter.unusedSimpArgs false

theorem results_ctt {P : Program} {fn : Func} {p t u : Tmp} {ty : TypeId} (h : fn.results = #[.cell p ty, .tmp t, .tmp u]) (tmps : Array Value) (w : World) (g : Nat) (tt : TypeId) (cs : Array Value) (fr : Nat × Nat) (d : TypeDesc)
    (v v2 : Value) (hp : tmps.getD p undef = .pointer (some ⟨g, 0, none⟩)) (hv : tmps.getD t undef = v) (hv2 : tmps.getD u undef = v2) (hg : w.heap[g]? = some (.cells cs tt fr))
    (hu : P.underlying ty = some d) (hd : (match d with | .struct _ | .array _ _ => true | _ => false) = true) (hi : (P.info? ty).map (·.size) = some cs.size) :
    (results fn tmps).run P w = .ok (.tuple #[.agg cs, v, v2]) w := by
  subst hv hv2
  have hp' : tmps[p]?.getD undef = .pointer (some ⟨g, 0, none⟩) := by simpa using hp
  simp [results, h, hp', asAddr, run_loadVar_row w g tt ty cs fr d hg hu hd hi]
theorem uns_play (s : Sh) (a : List (Nat × Nat)) (k n : Nat) : uns s (trP s (a ++ [(k, n)])) = uns s (trP s a) ++ uns (play s a) (trR (play s a) k n) := by
  rw [trP_app, uns_app, ← play_dos]
  congr 2
  show trR (play s a) k n ++ [] = _
  rw [List.append_nil]
theorem uns_steps (s : Sh) (a : List (Nat × Nat)) : s.steps + (uns s (trP s a)).length = (play s a).steps := by rw [uns_len, play_dos, dos_steps]
theorem iRc : (Tryd.prog.info? 76).map (·.size) = some 5 := by kernel_rfl
set_option maxHeartbeats 4000000 in
set_option maxRecDepth 100000 in
/-- Something is wrong: a machine, a script. -/
theorem URun_no {ma ha pa : Option Addr} {hn pn : Nat} (mc hc pc : Nat) {m : List UInt8} {hs : List Hv} {ps : List (Int × Int)} {w : World} (mn : Nat) (hmn : m.length = mn) (H : Hs w ha hn hs) (P : Ps w pa pn ps) (b1 : mn ≤ 140737488351232) (b2 : hn ≤ 140737488351232) (b3 : pn ≤ 140737488351232) (hno : ¬ wrong m hs ps = 0) :
    Calls Tryd.prog 12 #[.agg #[.slice ma mn mc, .slice ha hn hc], .slice pa pn pc] w fun e w' => e = .returned (.tuple #[.agg #[.slice none 0 0, .slice none 0 0, .slice none 0 0, .int .i64 0], .slice none 0 0, .int .i64 (wrong m hs ps)]) ∧ Gr w w' := by
  have HM : Hid (∀ W : World, Gr w W → Calls Tryd.prog 28 #[.agg #[.slice ma mn mc, .slice ha hn hc], .slice pa pn pc] W fun e w' => e = .returned (.tuple #[.agg #[.slice none 0 0, .slice none 0 0, .slice none 0 0, .int .i64 0], .int .i64 (wrong m hs ps)]) ∧ Gr W w') := fun W G => NewBoard_no mc hc pc mn hmn (H.of G) (P.of G) b1 b2 b3 hno
  clear H P hmn
  generalize wrong m hs ps = E at *
  have hE : (E != 0) = true := by simpa using hno
  clear hno
  go_enter Tryd.func12, Tryd.ntmps12
  go_wp2_with fail
  refine (HM.out _ (((Gr.refl _).alloc _).alloc _)).mono ?_
  rintro e w1 ⟨rfl, G1⟩
  have HG1 : Hid (Gr w w1) := (((Gr.refl _).alloc _).alloc _).trans G1
  have HB : Hid (w1.heap[w.heap.size + 1]? = some (.cells #[.slice none 0 0, .slice none 0 0, .slice none 0 0, .int .i64 0] 40 (0, 0))) := (two_of G1).2
  have hlt : w.heap.size + 1 < w1.heap.size := (gs HB.out).1
  clear G1 HM
  have HI : Hid ((Tryd.prog.info? 40).map (·.size) = some 4) := iS
  have HB2 : Hid (∀ Y : Array Value, (w1.alloc (.cells Y 72)).heap[w.heap.size + 1]? = some (.cells #[.slice none 0 0, .slice none 0 0, .slice none 0 0, .int .i64 0] 40 (0, 0))) := fun Y => Hr.heap_of_gr ((Gr.refl _).alloc _) HB.out
  go_wp2_with (refine wpList_store_row rfl 40 _ _ rfl (w.heap.size + 1) #[.slice none 0 0, .slice none 0 0, .slice none 0 0, .int .i64 0] rfl rfl 40 _ ?hb HI.out rfl (by kernel_rfl) ?_; (case hb => exact HB2.out _))
  refine bodyPost_ret (v := .tuple #[.agg _, .slice none 0 0, .int .i64 E]) (results_ctt Tryd.results12 _ _ _ _ _ (0, 0) _ _ _ rfl rfl rfl (setRow_heap _ _ _ _ _ (0, 0) (HB2.out _)) Tryd.underlying40 rfl HI.out) rfl ⟨rfl, ?_⟩
  exact gr_setRow (HG1.out.alloc _) (Nat.le_succ _) _
set_option maxHeartbeats 4000000 in
set_option maxRecDepth 100000 in
theorem URun_yes {ma ha pa : Option Addr} {hn pn : Nat} (mc hc pc : Nat) {m : List UInt8} {hs : List Hv} {ps : List (Int × Int)} {w : World} (mn : Nat) (T : TT w w.heap.size) (M : Mem w ma mn m) (hcap : ma = none → mc = 0) (H : Hs w ha hn hs) (P : Ps w pa pn ps) (hy : wrong m hs ps = 0) :
    Calls Tryd.prog 12 #[.agg #[.slice ma mn mc, .slice ha hn hc], .slice pa pn pc] w fun e w' => ∃ v ua un uc, e = .returned (.tuple #[v, .slice ua un uc, .int .i64 0]) ∧ Shn w' v hn mn (play ⟨hs, m, [], 0⟩ (nums ps)) ∧ Us w' ua un (uns ⟨hs, m, [], 0⟩ (trP ⟨hs, m, [], 0⟩ (nums ps))) ∧ un ≤ uc ∧ Gr w w' := by
  obtain ⟨b1, b2, b4, hmay, b3, hpk⟩ := wrong_ok hy
  have hml := M.len
  have hhl := H.len
  have hpl := P.len
  have HN : Hid (∀ W : World, Gr w W → Calls Tryd.prog 28 #[.agg #[.slice ma mn mc, .slice ha hn hc], .slice pa pn pc] W fun e w' => ∃ a c gh hc, e = .returned (.tuple #[.agg #[.slice a mn c, .slice (some ⟨gh, 0, none⟩) hn hc, .slice none 0 0, .int .i64 0], .int .i64 0]) ∧ Hc.Own w' 0 (.slice a mn c) m ∧ W.heap.size ≤ gh ∧ HRow w' gh hs ∧ Gr W w') := fun W G => NewBoard_yes mc hc pc mn (M.of G) hcap (H.of G) (P.of G) (by omega) hy (by omega) (by omega) (by omega)
  have F0 : Fit ⟨hs, m, [], 0⟩ hn mn := ⟨hhl, hml, fun h hm => ⟨H.ok h hm, hmay h hm⟩⟩
  have HF0 : Hid (Fit ⟨hs, m, [], 0⟩ hn mn) := F0
  have HT : Hid (TT w w.heap.size) := T
  have HP : Hid (Ps w pa pn ps) := P
  have HPL : Hid (ps.length = pn) := hpl
  have HPK : Hid (∀ p ∈ ps, 0 ≤ p.1 ∧ p.1 < hn ∧ 0 ≤ p.2 ∧ p.2 ≤ 400) := by rw [hhl] at hpk; exact hpk
  have HHL : Hid (hs.length = hn) := hhl
  have HLV : Hid (Live ⟨hs, m, [], 0⟩ (trP ⟨hs, m, [], 0⟩ (nums ps))) := trP_live _ _ (fun q hq => by
    obtain ⟨r, hr, rfl⟩ := List.mem_map.1 hq
    have := hpk r hr
    show r.1.toNat < hs.length
    omega)
  have c4 : hn ≤ 4 := by omega
  have m4 : mn ≤ 4096 := by omega
  have p4 : pn ≤ 300 := by omega
  have HFt : Hid (∀ j, Fit (play ⟨hs, m, [], 0⟩ ((nums ps).take j)) hn mn) := fun j => play_fit _ (fun q hq => by
    obtain ⟨r, hr, rfl⟩ := List.mem_map.1 (List.mem_of_mem_take hq)
    have := HPK.out r hr
    show r.1.toNat < hn
    omega) F0
  clear M H P hy hcap T F0 hmay hpk hml hhl hpl b1 b2 b4 b3
  go_enter Tryd.func12, Tryd.ntmps12
  go_wp2_with fail
  refine (HN.out _ (((Gr.refl _).alloc _).alloc _)).mono ?_
  rintro e w1 ⟨a1, c1, gh, hc1, rfl, O1, hgh, R1, G1⟩
  have HG1 : Hid (Gr w w1) := (((Gr.refl _).alloc _).alloc _).trans G1
  have HS1 : Hid (w1.heap[w.heap.size + 1]? = some (.cells #[.slice none 0 0, .slice none 0 0, .slice none 0 0, .int .i64 0] 40 (0, 0))) := (two_of G1).2
  have hlt : w.heap.size + 1 < w1.heap.size := (gs HS1.out).1
  have hgh2 : w.heap.size + 2 ≤ gh := by simpa using hgh
  have HO1 : Hid (Hc.Own w1 0 (.slice a1 mn c1) m) := O1
  have HR1 : Hid (HRow w1 gh hs) := R1
  clear O1 R1 G1 hgh HN
  go_wp2_with fail
  refine atW (fun W => Rw W (w.heap.size + 2) (w1.heap.size + 1) (.slice a1 mn c1) gh hc1 (.slice none 0 0) (.slice none 0 0) [] ⟨hs, m, [], 0⟩ [] ∧ W.heap[w.heap.size + 1]? = some (.cells #[.slice none 0 0, .slice none 0 0, .slice none 0 0, .int .i64 0] 40 (0, 0)) ∧ Gr w W) ?_ ?_
  · have GA : ∀ o1 o2 : Obj, Gr w1 ((w1.alloc o1).alloc o2) := fun o1 o2 => ((Gr.refl _).alloc _).alloc _
    have e1 : ∀ o1 : Obj, (w1.alloc o1).heap.size = w1.heap.size + 1 := fun o1 => by simp
    have hblk := heap_alloc_new (w1.alloc (.cells #[.slice a1 mn c1, .slice (some ⟨gh, 0, none⟩) hn hc1, .slice none 0 0, .int .i64 0] 72)) (.cells #[.slice a1 mn c1, .slice (some ⟨gh, 0, none⟩) hn hc1, .slice none 0 0, .int .i64 0, .slice none 0 0] 76)
    rw [e1] at hblk
    refine ⟨⟨⟨by decide, by decide, by decide, by omega, ?_, own_gr HO1.out (GA _ _), hgh2, HR1.out.of (GA _ _), World.ownsRow_nil _ _ _ _⟩, World.ownsRow_nil _ _ _ _, Ux.nil _⟩, Hr.heap_of_gr (GA _ _) HS1.out, HG1.out.trans (GA _ _)⟩
    show _ = some (Obj.cells #[.slice a1 mn c1, .slice (some ⟨gh, 0, none⟩) hs.length hc1, .slice none 0 0, .int .i64 ((0 : Nat) : Int), .slice none 0 0] 76 (0, 0))
    rw [HHL.out]
    exact hblk
  obtain ⟨g, hg⟩ : ∃ g : Nat, g = w1.heap.size + 1 := ⟨_, rfl⟩
  rw [← hg]
  clear HO1 HR1 hgh2 HG1 HS1
  rintro W3 ⟨R3, u1, G3⟩
  have hwg : w.heap.size + 2 ≤ g := by omega
  clear hg hlt
  have HR3 : Hid (Rc W3 (w.heap.size + 2) g ⟨hs, m, [], 0⟩ []) := ⟨_, _, _, _, _, _, R3⟩
  have HU1 : Hid (W3.heap[w.heap.size + 1]? = some (.cells #[.slice none 0 0, .slice none 0 0, .slice none 0 0, .int .i64 0] 40 (0, 0))) := u1
  have HG3 : Hid (Gr w W3) := G3
  have hb3 : w.heap.size + 2 ≤ W3.heap.size := R3.bw.base_le
  have HT3 : Hid (TT W3 (w.heap.size + 2)) := tt_up (tt_below HT.out G3) (by omega)
  have HGx : Hid (∀ V : World, Below (w.heap.size + 2) W3 V → Gr w V ∧ V.heap[w.heap.size + 1]? = some (.cells #[.slice none 0 0, .slice none 0 0, .slice none 0 0, .int .i64 0] 40 (0, 0))) := fun V B => ⟨gr_trans2 HG3.out B (by omega), (B.block _ (by omega)).trans HU1.out⟩
  clear R3 u1 G3 HU1 HG3 HT
  go_loopw [26] (fun i wr => ∃ j : Nat, j ≤ pn ∧ i = .int .i64 j ∧ Rc wr (w.heap.size + 2) g (play ⟨hs, m, [], 0⟩ ((nums ps).take j)) (uns ⟨hs, m, [], 0⟩ (trP ⟨hs, m, [], 0⟩ ((nums ps).take j))) ∧ Few (play ⟨hs, m, [], 0⟩ ((nums ps).take j)) (400 * j) ∧ Below (w.heap.size + 2) W3 wr) (fun i _ => pn - (intOf i).toNat)
  case atStart => exact ⟨0, Nat.zero_le _, rfl, HR3.out, ⟨Nat.le_refl _, Nat.le_refl _⟩, Below.refl _ _⟩
  case round =>
    obtain ⟨j, hj, rfl, R4, fw, B4⟩ := hrel
    have HR4 : Hid (Rc wr (w.heap.size + 2) g (play ⟨hs, m, [], 0⟩ ((nums ps).take j)) (uns ⟨hs, m, [], 0⟩ (trP ⟨hs, m, [], 0⟩ ((nums ps).take j)))) := R4
    have HFW : Hid (Few (play ⟨hs, m, [], 0⟩ ((nums ps).take j)) (400 * j)) := fw
    have HB4 : Hid (Below (w.heap.size + 2) W3 wr) := B4
    have HG4 : Hid (Gr w wr) := (HGx.out _ B4).1
    have hb4 : w.heap.size + 2 ≤ wr.heap.size := Nat.le_trans hb3 B4.size
    clear R4 fw B4 HR3
    by_cases hlt : j < pn
    · obtain ⟨p, hp⟩ : ∃ p, ps[j]? = some p := ⟨_, List.getElem?_eq_getElem (by rw [HPL.out]; exact hlt)⟩
      obtain ⟨z0, z1, z2, z3⟩ := HPK.out p (List.mem_of_getElem? hp)
      obtain ⟨b', o', rfl, hb', hcell'⟩ := HP.out.spot (by omega)
      have q0 : wr.cell? ⟨b', o' + j * 2, none⟩ = some (.int .i64 p.1) := (HG4.out.cell _ (by exact hb')).trans (hcell' j p hp).1
      have q1 : wr.cell? ⟨b', o' + j * 2 + 1, none⟩ = some (.int .i64 p.2) := (HG4.out.cell _ (by exact hb')).trans (hcell' j p hp).2
      have HTK : Hid ((nums ps).take (j + 1) = (nums ps).take j ++ [(p.1.toNat, p.2.toNat)]) := nums_get hp
      clear hcell' hp
      obtain ⟨p1, p2⟩ := p
      simp only at *
      obtain ⟨k, rfl⟩ := Int.eq_ofNat_of_zero_le z0
      obtain ⟨n, rfl⟩ := Int.eq_ofNat_of_zero_le z2
      simp only [Int.toNat_natCast] at HTK
      have hk : k < hn := by omega
      have hn4 : n ≤ 400 := by omega
      have HTu : Hid (∀ V : World, Gr wr V → Calls Tryd.prog 29 #[.pointer (some ⟨g, 0, none⟩), .agg #[.int .i64 k, .int .i64 n]] V fun e w' => e = .returned (.tuple #[]) ∧ Rc w' (w.heap.size + 2) g (play ⟨hs, m, [], 0⟩ ((nums ps).take (j + 1))) (uns ⟨hs, m, [], 0⟩ (trP ⟨hs, m, [], 0⟩ ((nums ps).take (j + 1)))) ∧ Below (w.heap.size + 2) V w') := fun V G => by
        have f1 := HFW.out.1
        have f2 := HFW.out.2
        have f3 := uns_steps ⟨hs, m, [], 0⟩ ((nums ps).take j)
        simp only [Nat.zero_add] at f3
        have f4 : (uns ⟨hs, m, [], 0⟩ (trP ⟨hs, m, [], 0⟩ ((nums ps).take j))).length = (play ⟨hs, m, [], 0⟩ ((nums ps).take j)).steps := f3
        refine (turn_any (HR4.out.of G) (tt_below HT3.out (HB4.out.trans (Below.mono G hb4))) (HFt.out j) m4 hk c4 hn4 (by omega) (by omega) (by omega)).mono ?_
        rintro e w' ⟨rfl, R', F'⟩
        rw [HTK.out, uns_play, play_app]
        exact ⟨rfl, R', F'.below⟩
      have HFN : Hid (Few (play ⟨hs, m, [], 0⟩ ((nums ps).take (j + 1))) (400 * (j + 1))) := by
        unfold Hid
        rw [HTK.out, play_app, play_cons]
        show Few (runs _ k n) _
        rw [runs_wk (by rw [(HFt.out j).len]; exact hk) n, show 400 * (j + 1) = 400 * j + 400 by omega]
        have := wk_ok n (w0_ok (HFt.out j) hk)
        have e0 : (w0 (play ⟨hs, m, [], 0⟩ ((nums ps).take j)) k).n = 0 := rfl
        exact tk_few HFW.out this.1 (by omega)
      clear z0 z1 z2 z3 HR4 HFW HTK
      go_wp2_with fail
      refine (HTu.out _ ((Gr.refl _).alloc _)).mono ?_
      rintro e w5 ⟨rfl, R5, B5⟩
      have HR5 : Hid (Rc w5 (w.heap.size + 2) g (play ⟨hs, m, [], 0⟩ ((nums ps).take (j + 1))) (uns ⟨hs, m, [], 0⟩ (trP ⟨hs, m, [], 0⟩ ((nums ps).take (j + 1))))) := R5
      have HB5 : Hid (Below (w.heap.size + 2) W3 w5) := HB4.out.trans ((Below.mono ((Gr.refl wr).alloc _) hb4).trans B5)
      clear R5 B5 HTu q0 q1
      go_wp2_with fail
      go_roundw
      case rel => exact ⟨j + 1, by omega, by go_num, HR5.out, HFN.out, HB5.out⟩
      case measure => simp [intOf]; omega
    · have ej : ps.length ≤ j := by rw [HPL.out]; omega
      have HE : Hid ((nums ps).take j = nums ps) := by unfold Hid; rw [List.take_of_length_le (by unfold nums; rw [List.length_map]; exact ej)]
      have HFs : Hid (Fit (play ⟨hs, m, [], 0⟩ (nums ps)) hn mn) := by have := HFt.out j; rw [HE.out] at this; exact this
      obtain ⟨Mv, gh, hc1, Ov, Uv', xs, R5⟩ := HR4.out
      rw [HE.out] at R5
      have HUO : Hid (∀ u ∈ uns ⟨hs, m, [], 0⟩ (trP ⟨hs, m, [], 0⟩ (nums ps)), u.Ok ∧ (-9223372036854775808 ≤ u.k ∧ u.k ≤ 9223372036854775807) ∧ (∀ q ∈ u.lost, -9223372036854775808 ≤ q.1 ∧ q.1 ≤ 9223372036854775807) ∧ u.bs.length ≤ 4096 ∧ u.lost.length ≤ 4096) := fun u hu => by
        obtain ⟨f1, f2, f3, f4⟩ := uns_fit m4 _ _ HF0.out HLV.out u hu
        unfold fitU at f1
        simp only [Bool.and_eq_true, decide_eq_true_eq, List.all_eq_true] at f1
        obtain ⟨⟨a0, a1⟩, a2, a3, a4⟩ := f1
        exact ⟨f2, ⟨by omega, by omega⟩, fun q hq => by have := a4 q hq; omega, f3, by omega⟩
      clear ej HR4 HE HFt HP HPK HPL HFW HF0 HLV
      generalize hS : play ⟨hs, m, [], 0⟩ (nums ps) = s at *
      generalize hUU : uns ⟨hs, m, [], 0⟩ (trP ⟨hs, m, [], 0⟩ (nums ps)) = us at *
      have HSS : Hid (play ⟨hs, m, [], 0⟩ (nums ps) = s) := hS
      have HUU : Hid (uns ⟨hs, m, [], 0⟩ (trP ⟨hs, m, [], 0⟩ (nums ps)) = us) := hUU
      clear hS hUU
      obtain ⟨va, vc, rfl, -⟩ := R5.bw.mem.mem
      obtain ⟨oa, oc, rfl⟩ := (owns_cells R5.bw.out).2.2
      obtain ⟨ua, uc, rfl⟩ := (owns_cells R5.row).2.2
      have HR5 : Hid (Rw wr (w.heap.size + 2) g (.slice va s.m.length vc) gh hc1 (.slice oa s.out.length oc) (.slice ua us.length uc) xs s us) := R5
      have HMs : Hid (s.m.length = mn) := HFs.out.mem
      have HHs : Hid (s.hs.length = hn) := HFs.out.len
      have HUC : Hid (us.length ≤ uc) := by
        rcases R5.row.2 with ⟨e, e2⟩ | ⟨g', cp, cur, e, _, _, e3, _⟩
        · show us.length ≤ uc; rw [e2]; exact Nat.zero_le _
        · injection e with _ _ e; rw [← e] at e3; exact e3
      obtain ⟨ol, hol⟩ : ∃ ol : Nat, ol = s.out.length := ⟨_, rfl⟩
      obtain ⟨st, hst⟩ : ∃ st : Int, st = s.steps := ⟨_, rfl⟩
      obtain ⟨un, hun⟩ : ∃ un : Nat, un = us.length := ⟨_, rfl⟩
      have HOS : Hid (ol = s.out.length ∧ st = s.steps ∧ un = us.length) := ⟨hol, hst, hun⟩
      have HS : Hid ((fun W => W.cell? ⟨g, 0, none⟩ = some (.slice va mn vc) ∧ W.cell? ⟨g, 1, none⟩ = some (.slice (some ⟨gh, 0, none⟩) hn hc1) ∧ W.cell? ⟨g, 2, none⟩ = some (.slice oa ol oc) ∧ W.cell? ⟨g, 3, none⟩ = some (.int .i64 st) ∧ W.cell? ⟨g, 4, none⟩ = some (.slice ua un uc)) wr) := by
        have x0 := R5.bw.c0
        have x1 := R5.bw.c1
        have x2 := R5.bw.c2
        have x3 := R5.bw.c3
        have x4 := R5.bw.rest 0
        rw [HMs.out] at x0
        rw [HHs.out] at x1
        rw [← hol] at x2
        rw [← hst] at x3
        rw [← hun] at x4
        exact ⟨x0, x1, x2, x3, x4⟩
      obtain ⟨GW, U1⟩ := HGx.out _ HB4.out
      have HGW : Hid (Gr w wr) := GW
      have HU1 : Hid (wr.heap[w.heap.size + 1]? = some (.cells #[.slice none 0 0, .slice none 0 0, .slice none 0 0, .int .i64 0] 40 (0, 0))) := U1
      clear R5 hol hst hun GW U1
      have HS1 : Hid (∀ (V : World), (∀ i : Nat, V.cell? ⟨g, i, none⟩ = wr.cell? ⟨g, i, none⟩) → (fun W => W.cell? ⟨g, 0, none⟩ = some (.slice va mn vc) ∧ W.cell? ⟨g, 1, none⟩ = some (.slice (some ⟨gh, 0, none⟩) hn hc1) ∧ W.cell? ⟨g, 2, none⟩ = some (.slice oa ol oc) ∧ W.cell? ⟨g, 3, none⟩ = some (.int .i64 st) ∧ W.cell? ⟨g, 4, none⟩ = some (.slice ua un uc)) V) := fun V h => by
        obtain ⟨y0, y1, y2, y3, y4⟩ := HS.out
        exact ⟨(h 0).trans y0, (h 1).trans y1, (h 2).trans y2, (h 3).trans y3, (h 4).trans y4⟩
      go_wp2_with fail
      refine wp_region_held_drew (S := fun W => W.cell? ⟨g, 0, none⟩ = some (.slice va mn vc) ∧ W.cell? ⟨g, 1, none⟩ = some (.slice (some ⟨gh, 0, none⟩) hn hc1) ∧ W.cell? ⟨g, 2, none⟩ = some (.slice oa ol oc) ∧ W.cell? ⟨g, 3, none⟩ = some (.int .i64 st) ∧ W.cell? ⟨g, 4, none⟩ = some (.slice ua un uc)) (by kernel_rfl) ?_ (fun hHeld => ?_)
      · exact HS1.out _ (fun i => rfl)
      have HS0 : Hid _ := hHeld
      clear hHeld
      refine wpAnyH_take (i := 0) (v := .pointer (some ⟨g, 0, none⟩)) rfl (by kernel_rfl) (by kernel_rfl) (by kernel_rfl) (fun _ _ _ h => h) (Or.inl ⟨by rfl, fun W hW => by obtain ⟨y0, y1, y2, y3, y4⟩ := hW; go_simp⟩) HS0.out ?_
      simp only [List.getElem_toArray, List.getElem_cons_succ, List.getElem_cons_zero, Act.put, List.setIfInBounds_toArray, List.set_cons_zero, List.set_cons_succ]
      refine wpAnyH_take (i := 1) (v := .pointer (some ⟨g, 0, none⟩)) rfl (by kernel_rfl) (by kernel_rfl) (by kernel_rfl) (fun _ _ _ h => h) (Or.inl ⟨by rfl, fun W hW => by obtain ⟨y0, y1, y2, y3, y4⟩ := hW; go_simp⟩) HS0.out ?_
      simp only [List.getElem_toArray, List.getElem_cons_succ, List.getElem_cons_zero, Act.put, List.setIfInBounds_toArray, List.set_cons_zero, List.set_cons_succ]
      refine wpAnyH_take (i := 2) (v := .agg #[.slice va mn vc, .slice (some ⟨gh, 0, none⟩) hn hc1, .slice oa ol oc, .int .i64 st]) rfl (by kernel_rfl) (by kernel_rfl) (by kernel_rfl) (fun _ _ _ h => h) (Or.inl ⟨by rfl, fun W hW => by obtain ⟨y0, y1, y2, y3, y4⟩ := hW; go_simp⟩) HS0.out ?_
      simp only [List.getElem_toArray, List.getElem_cons_succ, List.getElem_cons_zero, Act.put, List.setIfInBounds_toArray, List.set_cons_zero, List.set_cons_succ]
      refine wpAnyH_take (i := 3) (v := .pointer (some ⟨g, 4, none⟩)) rfl (by kernel_rfl) (by kernel_rfl) (by kernel_rfl) (fun _ _ _ h => h) (Or.inl ⟨by rfl, fun W hW => by obtain ⟨y0, y1, y2, y3, y4⟩ := hW; go_simp⟩) HS0.out ?_
      simp only [List.getElem_toArray, List.getElem_cons_succ, List.getElem_cons_zero, Act.put, List.setIfInBounds_toArray, List.set_cons_zero, List.set_cons_succ]
      refine wpAnyH_take (i := 4) (v := .slice ua un uc) rfl (by kernel_rfl) (by kernel_rfl) (by kernel_rfl) (fun _ _ _ h => h) (Or.inl ⟨by rfl, fun W hW => by obtain ⟨y0, y1, y2, y3, y4⟩ := hW; go_simp⟩) HS0.out ?_
      simp only [List.getElem_toArray, List.getElem_cons_succ, List.getElem_cons_zero, Act.put, List.setIfInBounds_toArray, List.set_cons_zero, List.set_cons_succ]
      have HC1 : Hid (∀ i : Nat, (wr.drew.setRow (w.heap.size + 1) #[.slice va mn vc, .slice (some ⟨gh, 0, none⟩) hn hc1, .slice oa ol oc, .int .i64 st]).cell? ⟨g, i, none⟩ = wr.cell? ⟨g, i, none⟩) := fun i => World.cell?_of_block (setRow_other _ _ _ _ (by show g ≠ w.heap.size + 1; omega))
      refine wpAnyH_ready (rs := [5]) (by kernel_rfl) (by simp) ?_
      refine AllReadyH.cons rfl (fun K hK => ?_) AllReadyH.nil
      refine step_store rfl 40 (.tmp 4) (.tmp 35) rfl (w.heap.size + 1) #[.slice va mn vc, .slice (some ⟨gh, 0, none⟩) hn hc1, .slice oa ol oc, .int .i64 st] (by simp [Act.eval]) (by simp [Act.eval]) 40 #[.slice none 0 0, .slice none 0 0, .slice none 0 0, .int .i64 0] HU1.out iS rfl (one_bd _ _ _ _ _ _ _ _ _ _) ?_
      refine hK.out _ _ (HS1.out _ HC1.out) (fun hx => ?_)
      clear hK K hx
      simp only [List.getElem_toArray, List.getElem_cons_succ, List.getElem_cons_zero, Act.put, List.setIfInBounds_toArray, List.set_cons_zero, List.set_cons_succ]
      refine wpAnyH_take (i := 6) (v := .slice ua un uc) rfl (by kernel_rfl) (by kernel_rfl) (by kernel_rfl) (fun _ _ _ h => h) (Or.inl ⟨by rfl, fun W hW => by obtain ⟨y0, y1, y2, y3, y4⟩ := hW; go_simp⟩) (HS1.out _ HC1.out) ?_
      simp only [List.getElem_toArray, List.getElem_cons_succ, List.getElem_cons_zero, Act.put, List.setIfInBounds_toArray, List.set_cons_zero, List.set_cons_succ]
      refine wpAnyH_take (i := 7) (v := .int .i64 0) rfl (by kernel_rfl) (by kernel_rfl) (by kernel_rfl) (fun _ _ _ h => h) (Or.inl ⟨by rfl, fun W hW => by obtain ⟨y0, y1, y2, y3, y4⟩ := hW; go_simp⟩) (HS1.out _ HC1.out) ?_
      simp only [List.getElem_toArray, List.getElem_cons_succ, List.getElem_cons_zero, Act.put, List.setIfInBounds_toArray, List.set_cons_zero, List.set_cons_succ]
      refine wpAnyH_done (by kernel_rfl) ?_ _
      have ne : ∀ (t : Nat) (k : Nat) (q : Array Value) (f : Nat × Nat), t ≠ 40 → wr.heap[k]? = some (.cells q t f) → (wr.drew.setRow (w.heap.size + 1) #[.slice va mn vc, .slice (some ⟨gh, 0, none⟩) hn hc1, .slice oa ol oc, .int .i64 st]).heap[k]? = wr.heap[k]? := fun t k q f ht hk => setRow_other _ _ _ _ (ne_of_types hk HU1.out ht)
      have HFin : Hid (Shn (wr.drew.setRow (w.heap.size + 1) #[.slice va mn vc, .slice (some ⟨gh, 0, none⟩) hn hc1, .slice oa ol oc, .int .i64 st]) (.agg #[.slice va mn vc, .slice (some ⟨gh, 0, none⟩) hn hc1, .slice oa ol oc, .int .i64 st]) hn mn s ∧ Us (wr.drew.setRow (w.heap.size + 1) #[.slice va mn vc, .slice (some ⟨gh, 0, none⟩) hn hc1, .slice oa ol oc, .int .i64 st]) ua un us ∧ un ≤ uc ∧ Gr w (wr.drew.setRow (w.heap.size + 1) #[.slice va mn vc, .slice (some ⟨gh, 0, none⟩) hn hc1, .slice oa ol oc, .int .i64 st])) := by
        obtain ⟨e1, e2, e3⟩ := HOS.out
        have hM := HR5.out.bw.mem.to (w' := wr.drew.setRow (w.heap.size + 1) #[.slice va mn vc, .slice (some ⟨gh, 0, none⟩) hn hc1, .slice oa ol oc, .int .i64 st]) fun k o f hk => ne _ k o f (by decide) hk
        have hO := owns_to (w' := wr.drew.setRow (w.heap.size + 1) #[.slice va mn vc, .slice (some ⟨gh, 0, none⟩) hn hc1, .slice oa ol oc, .int .i64 st]) HR5.out.bw.out fun k o f hk => ne _ k o f (by decide) hk
        have hU := owns_to (w' := wr.drew.setRow (w.heap.size + 1) #[.slice va mn vc, .slice (some ⟨gh, 0, none⟩) hn hc1, .slice oa ol oc, .int .i64 st]) HR5.out.row fun k o f hk => ne _ k o f (by decide) hk
        have hX := HR5.out.ux.to (w' := wr.drew.setRow (w.heap.size + 1) #[.slice va mn vc, .slice (some ⟨gh, 0, none⟩) hn hc1, .slice oa ol oc, .int .i64 st]) fun k o t f ht hk => ne _ k o f (by rcases ht with rfl | rfl <;> decide) hk
        rw [HMs.out] at hM
        refine ⟨?_, ?_, by rw [e3]; exact HUC.out, gr_setRow (Gr.drew HGW.out) (Nat.le_succ _) _⟩
        · have := shn_own (base := w.heap.size + 2) (va := va) (vc := vc) (oa := oa) (oc := oc) (gh := gh) (hc := hc1) (c := hn) (mn := mn) (S := s) (w := wr.drew.setRow (w.heap.size + 1) #[.slice va mn vc, .slice (some ⟨gh, 0, none⟩) hn hc1, .slice oa ol oc, .int .i64 st]) hM HMs.out (HR5.out.bw.row.to fun k o f hk => ne _ k o f (by decide) hk) HHs.out hO
          rw [e1, e2] at this ⊢
          exact this
        · rw [e3]
          exact hX.us hU rfl HUO.out
      have HB9 : Hid ((wr.drew.setRow (w.heap.size + 1) #[.slice va mn vc, .slice (some ⟨gh, 0, none⟩) hn hc1, .slice oa ol oc, .int .i64 st]).heap[w.heap.size + 1]? = some (.cells #[.slice va mn vc, .slice (some ⟨gh, 0, none⟩) hn hc1, .slice oa ol oc, .int .i64 st] 40 (0, 0))) := srh HU1.out
      clear HR5 HS HS1 HS0 HC1 HU1 HOS ne
      generalize wr.drew.setRow (w.heap.size + 1) #[.slice va mn vc, .slice (some ⟨gh, 0, none⟩) hn hc1, .slice oa ol oc, .int .i64 st] = W9 at *
      go_wp2_with fail
      refine bodyPost_ret (v := .tuple #[.agg #[.slice va mn vc, .slice (some ⟨gh, 0, none⟩) hn hc1, .slice oa ol oc, .int .i64 st], .slice ua un uc, .int .i64 0]) (results_ctt Tryd.results12 _ _ _ _ _ (0, 0) _ _ _ rfl rfl rfl HB9.out Tryd.underlying40 rfl iS) rfl ⟨_, _, _, _, rfl, by rw [HSS.out]; exact HFin.out.1, by rw [HUU.out]; exact HFin.out.2.1, HFin.out.2.2.1, HFin.out.2.2.2⟩
end Go.Proofs.YtdiofidmlgliiaaDoor.Ud
/-
  What ferrybridgeref12.Cut answers: the walk.
-/
namespace Go.Proofs.YtdiofidmlgliiaaDoor.Ud
open Go.ChangeShapes Go.WideShapes Go.ChangeAt Go.RowKit Mm Hh Hc Mc
set_option linter.unusedVariables false
set_option linter.unusedSimpArgs false

/-- A Shown that lies in a block of its own. -/
def SB (w : World) (g c mn : Nat) (S : Sh) : Prop := ∃ ma mc ha hc oa oc, w.heap[g]? = some (.cells #[.slice ma mn mc, .slice ha c hc, .slice oa S.out.length oc, .int .i64 S.steps] 40 (0, 0)) ∧ Mem w ma mn S.m ∧ Hs w ha c S.hs ∧ Wm w oa S.out.length S.out
theorem SB.of {w w' : World} {g c mn : Nat} {S : Sh} (h : SB w g c mn S) (G : Gr w w') : SB w' g c mn S := by
  obtain ⟨ma, mc, ha, hc, oa, oc, e, h1, h3, h4⟩ := h
  exact ⟨ma, mc, ha, hc, oa, oc, Hr.heap_of_gr G e, h1.of G, h3.of G, h4.of G⟩
theorem SB.new {w : World} {c mn : Nat} {S : Sh} {a b d : Option Addr} {i j k : Nat} (h : Shw w (.agg #[.slice a mn i, .slice b c j, .slice d S.out.length k, .int .i64 S.steps]) c mn S) : SB (w.alloc (.cells #[.slice a mn i, .slice b c j, .slice d S.out.length k, .int .i64 S.steps] 40)) w.heap.size c mn S := by
  obtain ⟨ma, mc, ha, hc, oa, oc, e, h1, h3, h4⟩ := h
  have G : Gr w (w.alloc (.cells #[.slice a mn i, .slice b c j, .slice d S.out.length k, .int .i64 S.steps] 40)) := (Gr.refl _).alloc _
  refine ⟨ma, mc, ha, hc, oa, oc, ?_, h1.of G, h3.of G, h4.of G⟩
  injection e with e
  rw [← e]
  exact heap_alloc_new w _
/-- No number but a whole one lies in such a row. -/
theorem shown_off {w : World} {g n1 n2 n3 c1 c2 c3 : Nat} {a1 a2 a3 : Option Addr} {z : Int} {t : Nat} {f : Nat × Nat} (hb : w.heap[g]? = some (.cells #[.slice a1 n1 c1, .slice a2 n2 c2, .slice a3 n3 c3, .int .i64 z] t f)) {b o : Nat} {k : IntKind} {x : Int} (h : w.cell? ⟨b, o, none⟩ = some (.int k x)) (hk : k ≠ .i64) : b ≠ g := by
  rintro rfl
  unfold World.cell? at h
  simp only [hb] at h
  match o, h with
  | 0, h => simp at h
  | 1, h => simp at h
  | 2, h => simp at h
  | 3, h => simp at h; exact hk h.1.symm
  | n + 4, h => simp at h
theorem shw_row {w : World} {v : Value} {c mn : Nat} {S : Sh} (h : Shw w v c mn S) {g n1 n2 n3 c1 c2 c3 : Nat} {a1 a2 a3 : Option Addr} {z : Int} {t : Nat} {f : Nat × Nat} (hb : w.heap[g]? = some (.cells #[.slice a1 n1 c1, .slice a2 n2 c2, .slice a3 n3 c3, .int .i64 z] t f)) (cells : Array Value) : Shw (w.setRow g cells) v c mn S := by
  obtain ⟨ma, mc, ha, hc, oa, oc, e, h1, h3, h4⟩ := h
  refine ⟨ma, mc, ha, hc, oa, oc, e, mem_keep h1 fun ad ea h0 _ => ?_, ⟨h3.len, h3.ok, fun h0 => ?_⟩, ⟨h4.len, h4.nil, fun ad ea i hi => ?_⟩⟩
  · obtain ⟨b, o, eb, _, hm⟩ := h1.spot h0
    obtain rfl := Option.some.inj (eb.symm.trans ea)
    exact sro (shown_off hb (hm 0 h0) (by decide))
  · obtain ⟨b, o, eb, hlt, hm⟩ := h3.spot h0
    have hl := h3.len
    have ne : b ≠ g := by
      have hm0 := hm 0 _ (List.getElem?_eq_getElem (by omega))
      have := hm0 32 _ (hL_fld (h3.ok _ (List.getElem_mem (by omega))) 0)
      exact shown_off hb this (by decide)
    refine ⟨b, o, eb, by simpa using hlt, fun i q hq j u hu => ?_⟩
    rw [World.cell?_of_block (by exact sro ne)]
    exact hm i q hq j u hu
  · obtain ⟨b, o, eb, _, hm⟩ := h4.spot (by omega)
    obtain rfl := Option.some.inj (eb.symm.trans ea)
    rw [add_at, World.cell?_of_block (by exact sro (shown_off hb (hm i hi) (by decide)))]
    exact hm i hi
theorem SB.row {w : World} {g c mn : Nat} {S : Sh} {a b d : Option Addr} {i j k : Nat} (h : Shw w (.agg #[.slice a mn i, .slice b c j, .slice d S.out.length k, .int .i64 S.steps]) c mn S) {n1 n2 n3 c1 c2 c3 : Nat} {a1 a2 a3 : Option Addr} {z : Int} (hb : w.heap[g]? = some (.cells #[.slice a1 n1 c1, .slice a2 n2 c2, .slice a3 n3 c3, .int .i64 z] 40 (0, 0))) : SB (w.setRow g #[.slice a mn i, .slice b c j, .slice d S.out.length k, .int .i64 S.steps]) g c mn S := by
  obtain ⟨ma, mc, ha, hc, oa, oc, e, h1, h3, h4⟩ := shw_row h hb #[.slice a mn i, .slice b c j, .slice d S.out.length k, .int .i64 S.steps]
  refine ⟨ma, mc, ha, hc, oa, oc, ?_, h1, h3, h4⟩
  have e2 := setRow_heap _ _ _ #[.slice a mn i, .slice b c j, .slice d S.out.length k, .int .i64 S.steps] _ (0, 0) hb
  injection e with e
  rw [e] at e2 ⊢
  exact e2
theorem src_lit2 (w : World) (o : Obj) (xs : List Value) (t m sz c : Nat) (h : xs.length = m * sz) : Src ((w.alloc o).alloc (.cells xs.toArray t)) (.slice (some ⟨w.heap.size + 1, 0, none⟩) m c) m sz xs := by
  have e := src_lit (w.alloc o) xs t m sz c h
  rwa [show (w.alloc o).heap.size = w.heap.size + 1 by simp] at e
theorem nums_app (a b : List (Int × Int)) : nums (a ++ b) = nums a ++ nums b := by simp [nums]
set_option maxHeartbeats 8000000 in
set_option maxRecDepth 100000 in
theorem Cut_any {ma ha pa : Option Addr} {hn pn : Nat} (mc hc pc : Nat) {m : List UInt8} {hs : List Hv} {ps : List (Int × Int)} {w : World} (mn : Nat) (M : Mem w ma mn m) (hcap : ma = none → mc = 0) (H : Hs w ha hn hs) (P : Ps w pa pn ps) (hy : wrong m hs ps = 0) (st : Nat) (hst : st ≤ (trP ⟨hs, m, [], 0⟩ (nums ps)).length) (hst2 : st ≤ 200000) :
    Calls Tryd.prog 18 #[.agg #[.slice ma mn mc, .slice ha hn hc], .slice pa pn pc, .int .i64 st] w fun e w' => ∃ v, e = .returned v ∧ Shw w' v hn mn (dos ⟨hs, m, [], 0⟩ ((trP ⟨hs, m, [], 0⟩ (nums ps)).take st)) ∧ Gr w w' := by
  obtain ⟨b1, b2, b4, hmay, b3, hpk⟩ := wrong_ok hy
  have hml := M.len
  have hhl := H.len
  have hpl := P.len
  rw [hhl] at hpk
  have HPl : Hid (∀ (W : World) (qa : Option Addr) (qn qc : Nat) (qs : List (Int × Int)), Gr w W → Ps W qa qn qs → qn ≤ 300 → (∀ p ∈ qs, 0 ≤ p.1 ∧ p.1 < hn ∧ 0 ≤ p.2 ∧ p.2 ≤ 400) → Calls Tryd.prog 14 #[.agg #[.slice ma mn mc, .slice ha hn hc], .slice qa qn qc] W fun e w' => ∃ v, e = .returned v ∧ Shw w' v hn mn (play ⟨hs, m, [], 0⟩ (nums qs)) ∧ Gr W w') := fun W qa qn qc qs G Q hq hk =>
    Play_any mc hc qc mn (M.of G) hcap (H.of G) Q (wrong_zero hy (by rw [Q.len]; exact hq) (by rw [hhl]; exact hk))
  have HP : Hid (Ps w pa pn ps) := P
  have HPK : Hid (∀ p ∈ ps, 0 ≤ p.1 ∧ p.1 < hn ∧ 0 ≤ p.2 ∧ p.2 ≤ 400) := hpk
  have HST : Hid (st ≤ (trP ⟨hs, m, [], 0⟩ (nums ps)).length) := hst
  have HP0 : Hid (∀ W : World, Ps W none 0 []) := fun W => ⟨rfl, fun h => absurd h (by omega)⟩
  have p4 : pn ≤ 300 := by omega
  obtain ⟨i0, hi0, hz0, hz1, hz2⟩ := info_parts infoP
  have HJ : Hid ((Tryd.prog.info? 40).map (·.size) = some 4) := iS
  clear M H P hy hcap hmay hpk hml hhl hpl b1 b2 b4 b3 hst
  generalize h0 : (⟨hs, m, [], 0⟩ : Sh) = s0 at *
  have hs0 : s0.steps = 0 := by rw [← h0]
  clear h0
  go_enter Tryd.func18, Tryd.ntmps18
  go_wp2_with fail
  refine (HPl.out _ _ _ _ [] (((Gr.refl _).alloc _).alloc _) (HP0.out _) (by omega) (by simp)).mono ?_
  rintro e w1 ⟨v, rfl, S1, G1⟩
  have HS1 : Hid (Shw w1 v hn mn (play s0 (nums []))) := S1
  obtain ⟨s1, d1, s2, d2, s3, d3, rfl, _⟩ := S1
  have HG1 : Hid (Gr w w1) := (((Gr.refl _).alloc _).alloc _).trans G1
  have HM1 : Hid (w1.heap[w.heap.size]? = some (.cells #[.slice ma mn mc, .slice ha hn hc] 34 (0, 0))) := Hr.heap_of_gr G1 (heap_alloc2_old w _ _)
  have HR1 : Hid (w1.heap[w.heap.size + 1]? = some (.cells #[.slice none 0 0, .slice none 0 0, .slice none 0 0, .int .i64 0] 40 (0, 0))) := Hr.heap_of_gr G1 (heap_alloc2_new w _ _)
  have hl1 : w.heap.size + 1 < w1.heap.size := (gs HR1.out).1
  clear G1
  have HE0 : Hid (∃ S, play s0 (nums []) = S) := ⟨_, rfl⟩
  obtain ⟨S0, hS0⟩ := HE0.out
  have HE : Hid (play s0 (nums []) = S0) := hS0
  rw [hS0] at HS1 ⊢
  clear HE0 hS0
  go_wp2_with fail
  go_loopw [7, 9] (fun l i wr => ∃ (k : Nat) (qs : List (Int × Int)) (t : List Nat) (la : Option Addr) (lc : Nat), k ≤ pn ∧ i = .int .i64 k ∧ l = .slice la k lc ∧ wr.ownsRow (w1.heap.size + 1) 56 2 l k (pC qs) ∧ qs.length = k ∧ (∀ p ∈ qs, 0 ≤ p.1 ∧ p.1 < hn ∧ 0 ≤ p.2 ∧ p.2 ≤ 400) ∧ Cu s0 (nums ps) st k (nums qs) t ∧ SB wr w1.heap.size hn mn (play s0 (nums qs)) ∧ wr.heap[w.heap.size]? = some (.cells #[.slice ma mn mc, .slice ha hn hc] 34 (0, 0)) ∧ wr.heap[w.heap.size + 1]? = some (.cells #[.slice none 0 0, .slice none 0 0, .slice none 0 0, .int .i64 0] 40 (0, 0)) ∧ Gr w wr) (fun _ i _ => pn - (intOf i).toNat)
  case atStart => exact ⟨0, [], [], none, 0, Nat.zero_le _, rfl, rfl, World.ownsRow_nil _ _ _ _, rfl, by simp, Cu.nil _ _ _, by rw [HE.out]; exact SB.new HS1.out, Hr.heap_of_gr ((Gr.refl _).alloc _) HM1.out, Hr.heap_of_gr ((Gr.refl _).alloc _) HR1.out, HG1.out.alloc _⟩
  case round =>
    obtain ⟨k, qs, t, la, lc, hk, rfl, rfl, O, ql, qk, C, B, MB, RB, G⟩ := hrel
    have HO : Hid (wr.ownsRow (w1.heap.size + 1) 56 2 (.slice la k lc) k (pC qs)) := O
    have HQK : Hid (∀ p ∈ qs, 0 ≤ p.1 ∧ p.1 < hn ∧ 0 ≤ p.2 ∧ p.2 ≤ 400) := qk
    have HQL : Hid (qs.length = k) := ql
    have HC : Hid (Cu s0 (nums ps) st k (nums qs) t) := C
    have HMB : Hid (wr.heap[w.heap.size]? = some (.cells #[.slice ma mn mc, .slice ha hn hc] 34 (0, 0))) := MB
    have HRB : Hid (wr.heap[w.heap.size + 1]? = some (.cells #[.slice none 0 0, .slice none 0 0, .slice none 0 0, .int .i64 0] 40 (0, 0))) := RB
    have HG : Hid (Gr w wr) := G
    have HB : Hid (SB wr w1.heap.size hn mn (play s0 (nums qs))) := B
    have hstp : (play s0 (nums qs)).steps = t.length := by rw [C.eq, dos_steps, hs0, Nat.zero_add]
    obtain ⟨e1, f1, e2, f2, e3, f3, eb, E1, E2, E3⟩ := B
    have HEB := eb
    have HBR : Hid (Shw wr (.agg #[.slice e1 mn f1, .slice e2 hn f2, .slice e3 (play s0 (nums qs)).out.length f3, .int .i64 (play s0 (nums qs)).steps]) hn mn (play s0 (nums qs))) := ⟨e1, f1, e2, f2, e3, f3, rfl, E1, E2, E3⟩
    have x0 := cr0 eb
    have x1 := cr1 eb
    have x2 : wr.cell? ⟨w1.heap.size, 2, none⟩ = _ := cell_of_row _ _ _ _ _ _ eb
    have x3 : wr.cell? ⟨w1.heap.size, 3, none⟩ = some (.int .i64 (play s0 (nums qs)).steps) := cell_of_row _ _ _ _ _ _ eb
    have HEBh : Hid (wr.heap[w1.heap.size]? = some (.cells #[.slice e1 mn f1, .slice e2 hn f2, .slice e3 (play s0 (nums qs)).out.length f3, .int .i64 (play s0 (nums qs)).steps] 40 (0, 0))) := eb
    have hlr : w1.heap.size < wr.heap.size := (gs eb).1
    rw [hstp] at x3
    have hts : t.length ≤ st := C.le
    clear O ql qk C MB RB G eb E1 E2 E3 HEB
    by_cases hlt : k < pn
    · obtain ⟨p, hp⟩ : ∃ p, ps[k]? = some p := ⟨_, List.getElem?_eq_getElem (by rw [HP.out.len]; exact hlt)⟩
      obtain ⟨z0, z1, z2, z3⟩ := HPK.out p (List.mem_of_getElem? hp)
      obtain ⟨b', o', rfl, hb', hcell'⟩ := HP.out.spot (by omega)
      have q0 : wr.cell? ⟨b', o' + k * 2, none⟩ = some (.int .i64 p.1) := (HG.out.cell _ (by exact hb')).trans (hcell' k p hp).1
      have q1 : wr.cell? ⟨b', o' + k * 2 + 1, none⟩ = some (.int .i64 p.2) := (HG.out.cell _ (by exact hb')).trans (hcell' k p hp).2
      have hbr : b' < wr.heap.size := Nat.lt_of_lt_of_le hb' HG.out.size
      have HGP : Hid ((nums ps)[k]? = some (p.1.toNat, p.2.toNat)) := by unfold Hid nums; rw [List.getElem?_map, hp]; rfl
      clear hcell' hp
      obtain ⟨p1, p2⟩ := p
      simp only at *
      by_cases hlt2 : t.length < st
      · by_cases hgt : (st : Int) - t.length < p2
        · go_wp2_with (at_builtin; refine wpList_append_src (base := w1.heap.size + 1) (n := k) (m := 1) rfl (.tmp 41) (.tmp 43) rfl Tryd.underlying35 hi0 hz0 hz1 hz2 rfl (by decide) rfl rfl (owns_gr HO.out (((Gr.refl _).alloc _).alloc _)) (src_lit2 wr _ [.int .i64 p1, .int .i64 ((st : Int) - t.length)] 56 1 2 1 rfl) (pC_one [(p1, ((st : Int) - t.length))]) (by unfold maxLen; omega) (by omega) (by simp; omega) ?_; intro v2 w2 hown hgrow; have HO2 : Hid (w2.ownsRow (w1.heap.size + 1) 56 2 v2 (k + 1) (pC (qs ++ [(p1, ((st : Int) - t.length))]))) := (by unfold Hid; rw [pC_app]; exact hown); have HG2 : Hid (Gr w w2) := ((HG.out.alloc _).alloc _).grown hgrow (fun b e => by have := (HO.out.lt b e).1; omega); have kp : ∀ {q : Nat} {o : Array Value} {ty : Nat} {f : Nat × Nat}, ty ≠ 56 → wr.heap[q]? = some (.cells o ty f) → w2.heap[q]? = some (.cells o ty f) := (fun ht hk => (grown_keep (owns_gr HO.out (((Gr.refl _).alloc _).alloc _)) hgrow ht (Hr.heap_of_gr (((Gr.refl _).alloc _).alloc _) hk)).trans (Hr.heap_of_gr (((Gr.refl _).alloc _).alloc _) hk)); have HE2 := (kp (by decide) HEBh.out); have HE2h : Hid (w2.heap[w1.heap.size]? = some (.cells #[.slice e1 mn f1, .slice e2 hn f2, .slice e3 (play s0 (nums qs)).out.length f3, .int .i64 (play s0 (nums qs)).steps] 40 (0, 0))) := HE2; have HM2 : Hid (w2.heap[w.heap.size]? = some (.cells #[.slice ma mn mc, .slice ha hn hc] 34 (0, 0))) := kp (by decide) HMB.out; have HR2 : Hid (w2.heap[w.heap.size + 1]? = some (.cells #[.slice none 0 0, .slice none 0 0, .slice none 0 0, .int .i64 0] 40 (0, 0))) := kp (by decide) HRB.out; obtain ⟨v2a, v2c, rfl, P2⟩ := Ps.own HO2.out (by rw [List.length_append, HQL.out]; rfl); have HP2 : Hid (Ps w2 v2a (k + 1) (qs ++ [(p1, ((st : Int) - t.length))])) := P2; have y0 := cr0 HM2.out; have y1 := cr1 HM2.out; clear hown hgrow P2 HE2 kp x0 x1 x2 x3 q0 q1)
          have HQ2 : Hid (∀ p ∈ qs ++ [(p1, ((st : Int) - t.length))], 0 ≤ p.1 ∧ p.1 < hn ∧ 0 ≤ p.2 ∧ p.2 ≤ 400) := fun p hp => by
            rcases List.mem_append.1 hp with h | h
            · exact HQK.out p h
            · obtain rfl := List.mem_singleton.1 h
              exact ⟨by show 0 ≤ p1; omega, by show p1 < hn; omega, by show 0 ≤ ((st : Int) - t.length); omega, by show ((st : Int) - t.length) ≤ 400; omega⟩
          have HCN : Hid (Cu s0 (nums ps) st (k + 1) (nums (qs ++ [(p1, ((st : Int) - t.length))])) (t ++ trR (play s0 (nums qs)) p1.toNat (((st : Int) - t.length)).toNat)) := by
            unfold Hid
            rw [nums_app]
            exact HC.out.on HGP.out hlt2 (.inr ⟨by omega, by omega⟩)
          refine (HPl.out _ _ _ _ _ HG2.out HP2.out (by omega) HQ2.out).mono ?_
          rintro e w3 ⟨v, rfl, S3, G3⟩
          have HS3 : Hid (Shw w3 v hn mn (play s0 (nums (qs ++ [(p1, ((st : Int) - t.length))])))) := S3
          obtain ⟨s1', d1', s2', d2', s3', d3', rfl, _⟩ := S3
          have HG3 : Hid (Gr w w3) := HG2.out.trans G3
          have HO3 : Hid (w3.ownsRow (w1.heap.size + 1) 56 2 (.slice v2a (k + 1) v2c) (k + 1) (pC (qs ++ [(p1, ((st : Int) - t.length))]))) := owns_gr HO2.out G3
          have HE3 : Hid (w3.heap[w1.heap.size]? = some (.cells #[.slice e1 mn f1, .slice e2 hn f2, .slice e3 (play s0 (nums qs)).out.length f3, .int .i64 (play s0 (nums qs)).steps] 40 (0, 0))) := Hr.heap_of_gr G3 HE2h.out
          have HM3 : Hid (w3.heap[w.heap.size]? = some (.cells #[.slice ma mn mc, .slice ha hn hc] 34 (0, 0))) := Hr.heap_of_gr G3 HM2.out
          have HR3 : Hid (w3.heap[w.heap.size + 1]? = some (.cells #[.slice none 0 0, .slice none 0 0, .slice none 0 0, .int .i64 0] 40 (0, 0))) := Hr.heap_of_gr G3 HR2.out
          clear G3 y0 y1 HG2 HO2 HE2h HM2 HR2
          go_wp2_with (refine wpList_store_row rfl 40 _ _ rfl w1.heap.size _ rfl rfl 40 #[.slice e1 mn f1, .slice e2 hn f2, .slice e3 (play s0 (nums qs)).out.length f3, .int .i64 (play s0 (nums qs)).steps] ?yy2 HJ.out rfl (one_bd _ _ _ _ _ _ _ _ _ _) ?_; (case yy2 => exact HE3.out))
          go_roundw
          case rel => exact ⟨k + 1, _, _, v2a, v2c, by omega, by go_num, rfl, owns_to HO3.out fun q o f hq => sro (ne_of_types hq HE3.out (by decide)), by rw [List.length_append, HQL.out]; rfl, HQ2.out, HCN.out, SB.row HS3.out HE3.out, (sro (by omega)).trans HM3.out, (sro (by omega)).trans HR3.out, gr_setRow HG3.out (by omega) _⟩
          case measure => simp [intOf]; omega
        · go_wp2_with (at_builtin; refine wpList_append_src (base := w1.heap.size + 1) (n := k) (m := 1) rfl (.tmp 41) (.tmp 43) rfl Tryd.underlying35 hi0 hz0 hz1 hz2 rfl (by decide) rfl rfl (owns_gr HO.out (((Gr.refl _).alloc _).alloc _)) (src_lit2 wr _ [.int .i64 p1, .int .i64 p2] 56 1 2 1 rfl) (pC_one [(p1, p2)]) (by unfold maxLen; omega) (by omega) (by simp; omega) ?_; intro v2 w2 hown hgrow; have HO2 : Hid (w2.ownsRow (w1.heap.size + 1) 56 2 v2 (k + 1) (pC (qs ++ [(p1, p2)]))) := (by unfold Hid; rw [pC_app]; exact hown); have HG2 : Hid (Gr w w2) := ((HG.out.alloc _).alloc _).grown hgrow (fun b e => by have := (HO.out.lt b e).1; omega); have kp : ∀ {q : Nat} {o : Array Value} {ty : Nat} {f : Nat × Nat}, ty ≠ 56 → wr.heap[q]? = some (.cells o ty f) → w2.heap[q]? = some (.cells o ty f) := (fun ht hk => (grown_keep (owns_gr HO.out (((Gr.refl _).alloc _).alloc _)) hgrow ht (Hr.heap_of_gr (((Gr.refl _).alloc _).alloc _) hk)).trans (Hr.heap_of_gr (((Gr.refl _).alloc _).alloc _) hk)); have HE2 := (kp (by decide) HEBh.out); have HE2h : Hid (w2.heap[w1.heap.size]? = some (.cells #[.slice e1 mn f1, .slice e2 hn f2, .slice e3 (play s0 (nums qs)).out.length f3, .int .i64 (play s0 (nums qs)).steps] 40 (0, 0))) := HE2; have HM2 : Hid (w2.heap[w.heap.size]? = some (.cells #[.slice ma mn mc, .slice ha hn hc] 34 (0, 0))) := kp (by decide) HMB.out; have HR2 : Hid (w2.heap[w.heap.size + 1]? = some (.cells #[.slice none 0 0, .slice none 0 0, .slice none 0 0, .int .i64 0] 40 (0, 0))) := kp (by decide) HRB.out; obtain ⟨v2a, v2c, rfl, P2⟩ := Ps.own HO2.out (by rw [List.length_append, HQL.out]; rfl); have HP2 : Hid (Ps w2 v2a (k + 1) (qs ++ [(p1, p2)])) := P2; have y0 := cr0 HM2.out; have y1 := cr1 HM2.out; clear hown hgrow P2 HE2 kp x0 x1 x2 x3 q0 q1)
          have HQ2 : Hid (∀ p ∈ qs ++ [(p1, p2)], 0 ≤ p.1 ∧ p.1 < hn ∧ 0 ≤ p.2 ∧ p.2 ≤ 400) := fun p hp => by
            rcases List.mem_append.1 hp with h | h
            · exact HQK.out p h
            · obtain rfl := List.mem_singleton.1 h
              exact ⟨by show 0 ≤ p1; omega, by show p1 < hn; omega, by show 0 ≤ p2; omega, by show p2 ≤ 400; omega⟩
          have HCN : Hid (Cu s0 (nums ps) st (k + 1) (nums (qs ++ [(p1, p2)])) (t ++ trR (play s0 (nums qs)) p1.toNat (p2).toNat)) := by
            unfold Hid
            rw [nums_app]
            exact HC.out.on HGP.out hlt2 (.inl ⟨rfl, by omega⟩)
          refine (HPl.out _ _ _ _ _ HG2.out HP2.out (by omega) HQ2.out).mono ?_
          rintro e w3 ⟨v, rfl, S3, G3⟩
          have HS3 : Hid (Shw w3 v hn mn (play s0 (nums (qs ++ [(p1, p2)])))) := S3
          obtain ⟨s1', d1', s2', d2', s3', d3', rfl, _⟩ := S3
          have HG3 : Hid (Gr w w3) := HG2.out.trans G3
          have HO3 : Hid (w3.ownsRow (w1.heap.size + 1) 56 2 (.slice v2a (k + 1) v2c) (k + 1) (pC (qs ++ [(p1, p2)]))) := owns_gr HO2.out G3
          have HE3 : Hid (w3.heap[w1.heap.size]? = some (.cells #[.slice e1 mn f1, .slice e2 hn f2, .slice e3 (play s0 (nums qs)).out.length f3, .int .i64 (play s0 (nums qs)).steps] 40 (0, 0))) := Hr.heap_of_gr G3 HE2h.out
          have HM3 : Hid (w3.heap[w.heap.size]? = some (.cells #[.slice ma mn mc, .slice ha hn hc] 34 (0, 0))) := Hr.heap_of_gr G3 HM2.out
          have HR3 : Hid (w3.heap[w.heap.size + 1]? = some (.cells #[.slice none 0 0, .slice none 0 0, .slice none 0 0, .int .i64 0] 40 (0, 0))) := Hr.heap_of_gr G3 HR2.out
          clear G3 y0 y1 HG2 HO2 HE2h HM2 HR2
          go_wp2_with (refine wpList_store_row rfl 40 _ _ rfl w1.heap.size _ rfl rfl 40 #[.slice e1 mn f1, .slice e2 hn f2, .slice e3 (play s0 (nums qs)).out.length f3, .int .i64 (play s0 (nums qs)).steps] ?yy2 HJ.out rfl (one_bd _ _ _ _ _ _ _ _ _ _) ?_; (case yy2 => exact HE3.out))
          go_roundw
          case rel => exact ⟨k + 1, _, _, v2a, v2c, by omega, by go_num, rfl, owns_to HO3.out fun q o f hq => sro (ne_of_types hq HE3.out (by decide)), by rw [List.length_append, HQL.out]; rfl, HQ2.out, HCN.out, SB.row HS3.out HE3.out, (sro (by omega)).trans HM3.out, (sro (by omega)).trans HR3.out, gr_setRow HG3.out (by omega) _⟩
          case measure => simp [intOf]; omega
      · go_wp2_with (first
        | (refine wpList_load_row rfl 40 _ rfl w1.heap.size rfl 40 #[.slice e1 mn f1, .slice e2 hn f2, .slice e3 (play s0 (nums qs)).out.length f3, .int .i64 (play s0 (nums qs)).steps] (0, 0) _ ?yy1 Tryd.underlying40 rfl HJ.out ?_; (case yy1 => exact HEBh.out))
        | (refine wpList_store_row rfl 40 _ _ rfl (w.heap.size + 1) #[.slice e1 mn f1, .slice e2 hn f2, .slice e3 (play s0 (nums qs)).out.length f3, .int .i64 (play s0 (nums qs)).steps] rfl rfl 40 #[.slice none 0 0, .slice none 0 0, .slice none 0 0, .int .i64 0] ?yy2 HJ.out rfl (one_bd _ _ _ _ _ _ _ _ _ _) ?_; (case yy2 => exact HRB.out)))
        refine bodyPost_ret (v := .agg #[.slice e1 mn f1, .slice e2 hn f2, .slice e3 (play s0 (nums qs)).out.length f3, .int .i64 (play s0 (nums qs)).steps]) (results_cell_row rfl _ _ _ _ _ (0, 0) _ rfl (setRow_heap _ _ _ _ _ (0, 0) HRB.out) Tryd.underlying40 rfl HJ.out) rfl ⟨_, rfl, ?_, gr_setRow HG.out (by omega) _⟩
        rw [← HC.out.done HST.out (by have := HP.out.len; unfold nums; rw [List.length_map]; omega)]
        exact shw_row HBR.out HRB.out _
    · go_wp2_with (first
        | (refine wpList_load_row rfl 40 _ rfl w1.heap.size rfl 40 #[.slice e1 mn f1, .slice e2 hn f2, .slice e3 (play s0 (nums qs)).out.length f3, .int .i64 (play s0 (nums qs)).steps] (0, 0) _ ?yy1 Tryd.underlying40 rfl HJ.out ?_; (case yy1 => exact HEBh.out))
        | (refine wpList_store_row rfl 40 _ _ rfl (w.heap.size + 1) #[.slice e1 mn f1, .slice e2 hn f2, .slice e3 (play s0 (nums qs)).out.length f3, .int .i64 (play s0 (nums qs)).steps] rfl rfl 40 #[.slice none 0 0, .slice none 0 0, .slice none 0 0, .int .i64 0] ?yy2 HJ.out rfl (one_bd _ _ _ _ _ _ _ _ _ _) ?_; (case yy2 => exact HRB.out)))
      refine bodyPost_ret (v := .agg #[.slice e1 mn f1, .slice e2 hn f2, .slice e3 (play s0 (nums qs)).out.length f3, .int .i64 (play s0 (nums qs)).steps]) (results_cell_row rfl _ _ _ _ _ (0, 0) _ rfl (setRow_heap _ _ _ _ _ (0, 0) HRB.out) Tryd.underlying40 rfl HJ.out) rfl ⟨_, rfl, ?_, gr_setRow HG.out (by omega) _⟩
      rw [← HC.out.done HST.out (by have := HP.out.len; unfold nums; rw [List.length_map]; omega)]
      exact shw_row HBR.out HRB.out _
end Go.Proofs.YtdiofidmlgliiaaDoor.Ud
